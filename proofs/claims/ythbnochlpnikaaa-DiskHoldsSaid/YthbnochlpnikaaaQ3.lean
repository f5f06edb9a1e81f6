/- Rows of writes in memory. -/
import Derived.Test.YthbnochlpnikaaaQ2
namespace Go.Proofs.Ythbnochlpnikaaa
open Go.RowKit Go.Shelf

def wcells : List (Nat × ByteArray) → List Value
  | [] => []
  | x :: l => .int .i64 x.1 :: .string x.2 :: wcells l
theorem wcells_length (l : List (Nat × ByteArray)) : (wcells l).length = l.length * 2 := by
  induction l with
  | nil => rfl
  | cons x l ih => simp only [wcells, List.length_cons, ih]; omega
theorem wcells_append (l m : List (Nat × ByteArray)) : wcells (l ++ m) = wcells l ++ wcells m := by
  induction l with
  | nil => rfl
  | cons x l ih => simp only [wcells, List.cons_append, ih]
theorem wcells_get (l : List (Nat × ByteArray)) : ∀ (i : Nat) (x : Nat × ByteArray), l[i]? = some x → (wcells l)[2 * i]? = some (.int .i64 x.1) ∧ (wcells l)[2 * i + 1]? = some (.string x.2) := by
  induction l with
  | nil => intro i x h; cases h
  | cons y l ih =>
    intro i x h
    cases i with
    | zero => simp at h; subst h; exact ⟨rfl, rfl⟩
    | succ i =>
      have := ih i x (by simpa using h)
      rw [show 2 * (i + 1) = 2 * i + 1 + 1 by omega]
      exact this
theorem wcells_one (l : List (Nat × ByteArray)) : ∀ u ∈ wcells l, u.oneCell' = true := by
  induction l with
  | nil => intro u hu; cases hu
  | cons x l ih =>
    intro u hu
    simp only [wcells, List.mem_cons] at hu
    rcases hu with rfl | rfl | hu
    · rfl
    · rfl
    · exact ih u hu
/-- A slice of writes. -/
def WritesAt (w : World) (p : Option Addr) (l : List (Nat × ByteArray)) : Prop := ∀ i x, l[i]? = some x → ∃ B off, p = some ⟨B, off, none⟩ ∧ w.cell? ⟨B, off + 2 * i, none⟩ = some (.int .i64 x.1) ∧ w.cell? ⟨B, off + (2 * i + 1), none⟩ = some (.string x.2)
theorem WritesAt.nil (w : World) (p : Option Addr) : WritesAt w p [] := fun i x h => by cases h
theorem WritesAt.kept {w w' : World} {p : Option Addr} {l : List (Nat × ByteArray)} (h : WritesAt w p l) (hk : ∀ a v, w.cell? a = some v → w'.cell? a = some v) : WritesAt w' p l := fun i x hx => by
  obtain ⟨B, off, e, c, d⟩ := h i x hx
  exact ⟨B, off, e, hk _ _ c, hk _ _ d⟩
theorem below_kept {w w' : World} (h : Below w.heap.size w w') : ∀ a v, w.cell? a = some v → w'.cell? a = some v := fun a v c => (h.cell (lt_of_cell_some c)).trans c
theorem WritesAt.below {w w' : World} {p : Option Addr} {l : List (Nat × ByteArray)} (h : WritesAt w p l) (hb : Below w.heap.size w w') : WritesAt w' p l := h.kept (below_kept hb)
theorem WritesAt.drew {w : World} {p : Option Addr} {l : List (Nat × ByteArray)} (h : WritesAt w p l) : WritesAt w.drew p l := h.below ((Below.refl _ _).drew)
theorem WritesAt.news {w : World} {ad : Addr} : ∀ {l : List (Nat × ByteArray)}, WritesAt w (some ad) l → ∀ (j : Nat) (u : Value), (wcells l)[j]? = some u → w.cell? (ad.add j) = some u := by
  intro l h j u hu
  have hj : j < l.length * 2 := by
    rw [← wcells_length]
    exact (List.getElem?_eq_some_iff.1 hu).1
  obtain ⟨x, hx⟩ : ∃ x, l[j / 2]? = some x := ⟨_, List.getElem?_eq_getElem (by omega)⟩
  obtain ⟨B, off, e, c, d⟩ := h _ x hx
  obtain ⟨g1, g2⟩ := wcells_get l _ x hx
  injection e with e
  subst e
  rw [addr_plain]
  rcases Nat.mod_two_eq_zero_or_one j with hm | hm
  · rw [show 2 * (j / 2) = j by omega] at c g1
    rw [g1] at hu
    rw [c, hu]
  · rw [show 2 * (j / 2) + 1 = j by omega] at d g2
    rw [g2] at hu
    rw [d, hu]
/-- Writes in a slice of the call's own. -/
def RowW (w0 : World) (l : List (Nat × ByteArray)) (t : Value) (wr : World) : Prop := wr.ownsRow w0.heap.size 80 2 t l.length (wcells l) ∧ Below w0.heap.size w0 wr
theorem RowW.at' {w w' : World} {l : List (Nat × ByteArray)} {t : Value} (h : RowW w l t w') :
    ∃ p cap, t = .slice p l.length cap ∧ l.length ≤ cap ∧ cap ≤ maxLen ∧ WritesAt w' p l ∧ (p = none → cap = 0) ∧ (∀ B off, p = some ⟨B, off, none⟩ → w.heap.size ≤ B) := by
  obtain ⟨⟨h0, h1⟩, hB⟩ := h
  rcases h1 with ⟨rfl, hn⟩ | ⟨g, cap, cur, rfl, hg, hh, h2, h3, h4, h5⟩
  · refine ⟨none, 0, by rw [hn], by omega, by unfold maxLen; omega, ?_, fun _ => rfl, (fun B off e => by cases e)⟩
    have : l = [] := List.eq_nil_of_length_eq_zero hn
    subst this
    exact WritesAt.nil _ _
  · refine ⟨some ⟨g, 0, none⟩, cap, rfl, h2, h3, fun i x hx => ?_, (fun e => by cases e), (fun B off e => by injection e with e; injection e with e1 e2; subst e1; exact hg)⟩
    have hil : i < l.length := (List.getElem?_eq_some_iff.1 hx).1
    obtain ⟨g1, g2⟩ := wcells_get l i x hx
    rw [← h5] at g1 g2
    rw [List.getElem?_take, if_pos (by omega)] at g1 g2
    refine ⟨g, 0, rfl, ?_, ?_⟩
    · simp only [World.cell?, hh, Nat.zero_add]
      simpa using g1
    · simp only [World.cell?, hh, Nat.zero_add]
      simpa using g2
theorem RowW.grow {w w1 w' : World} {l : List (Nat × ByteArray)} {t : Value} (h : RowW w1 l t w') (b : Below w.heap.size w w1) : RowW w l t w' := by
  obtain ⟨⟨h0, h1⟩, hB⟩ := h
  refine ⟨⟨h0, ?_⟩, below_any b hB⟩
  rcases h1 with h1 | ⟨g, cap, cur, e, hg, rest⟩
  · exact .inl h1
  · exact .inr ⟨g, cap, cur, e, Nat.le_trans b.size hg, rest⟩
theorem infoW : (Try.prog.info? 80).map (fun i => (i.zero, i.size, i.bytes)) = some (some (.agg #[.int .i64 0, .string ⟨#[]⟩]), 2, 24) := by kernel_rfl
theorem RowW.empty (w : World) : RowW w [] (.slice (some ⟨w.heap.size, 0, none⟩) 0 0) (w.alloc (.cells #[] 80)) :=
  ⟨⟨rfl, .inr ⟨w.heap.size, 0, #[], rfl, Nat.le_refl _, heap_alloc_new _ _, Nat.le_refl _, by unfold maxLen; omega, rfl, rfl⟩⟩, (Below.refl _ _).alloc (Nat.le_refl _) _⟩
set_option maxRecDepth 100000 in
/-- Writes are appended to the call's own. -/
theorem wpList_append_writes {ops : Array Oper} {rest : List Oper} {o : Oper} {a : Act} {w : World} {Q : Exit → Act → World → Prop} (hgd : o.guard = none) (s x : Operand)
    (ho : o.op = .call { callee := .builtin .append, args := #[s, x], argTypes := #[33, 33] })
    {w0 : World} {l m : List (Nat × ByteArray)} {v : Value} {q : Option Addr} {c : Nat} (hs : a.eval s = v) (hR : RowW w0 l v w) (hx : a.eval x = .slice q m.length c) (hq : q = none → c = 0) (hm : WritesAt w q m) (hb : l.length + m.length ≤ 100000)
    (h : ∀ v' w', RowW w0 (l ++ m) v' w' → wpList Try.prog ops Q rest (a.put o.dst v') w') : wpList Try.prog ops Q (o :: rest) a w := by
  obtain ⟨j0, hj, hz0, hz1, hz2⟩ := info_parts infoW
  have hown := hR.1
  have hbs := hR.2.size
  cases q with
  | none =>
    have hm0 : m = [] := by
      cases m with
      | nil => rfl
      | cons b t => obtain ⟨B, off, e, -⟩ := hm 0 b rfl; cases e
    subst hm0
    have hc := hq rfl
    subst hc
    refine wpList_append_own_none hgd s x _ ho w0.heap.size 80 j0 2 Try.underlying33 hj v _ _ hs hown hx ?_
    refine h v w ?_
    rw [List.append_nil]
    exact hR
  | some ad =>
    refine wpList_append_own w hgd s x _ ho w0.heap.size 80 j0 (.agg #[.int .i64 0, .string ⟨#[]⟩]) 2 24 Try.underlying33 hj hz0 hz1 hz2 rfl (by decide) v _ _ hs hown ad m.length c (wcells m) hx (wcells_length m) hm.news (wcells_one m) (by unfold maxLen; omega) (by omega) hbs ?_
    intro v' w' h1 h2 _
    have hB' := hR.2.grown h2 hbs (fun j hj => (hown.lt j hj).1)
    refine h v' w' ⟨?_, hB'⟩
    rw [List.length_append, wcells_append]
    exact h1
end Go.Proofs.Ythbnochlpnikaaa
