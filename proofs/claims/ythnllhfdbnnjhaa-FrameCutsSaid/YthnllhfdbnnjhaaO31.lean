import Derived.Test.YthnllhfdbnnjhaaO26
import Derived.Laws.AppendOwnNone
namespace Go.Proofs.Ythnllhfdbnnjhaa
open Go.RowKit Go.Shelf

set_option maxRecDepth 100000 in
/-- Bytes are appended to the call's own. -/
theorem wpList_append_bytes {ops : Array Oper} {rest : List Oper} {o : Oper} {a : Act} {w : World} {Q : Exit → Act → World → Prop} (hgd : o.guard = none) (s x : Operand)
    (ho : o.op = .call { callee := .builtin .append, args := #[s, x], argTypes := #[39, 39] })
    {w0 : World} {l m : List Nat} {v : Value} {q : Option Addr} {c : Nat} (hs : a.eval s = v) (hR : RowB w0 l v w) (hx : a.eval x = .slice q m.length c) (hq : q = none → c = 0) (hm : BytesAt w q m) (hb : l.length + m.length ≤ 100000)
    (h : ∀ v' w', RowB w0 (l ++ m) v' w' → wpList Try.prog ops Q rest (a.put o.dst v') w') : wpList Try.prog ops Q (o :: rest) a w := by
  obtain ⟨j0, hj, hz0, hz1, hz2⟩ := info_parts info5
  have hown := hR.1
  have hbs := hR.2.size
  cases q with
  | none =>
    have hm0 : m = [] := by
      cases m with
      | nil => rfl
      | cons b t => obtain ⟨B, off, e, -⟩ := hm 0 (by simp); cases e
    subst hm0
    have hc := hq rfl
    subst hc
    refine wpList_append_own_none hgd s x _ ho w0.heap.size 5 j0 1 Try.underlying39 hj v _ _ hs hown hx ?_
    refine h v w ?_
    rw [List.append_nil]
    exact hR
  | some ad =>
    refine wpList_append_own w hgd s x _ ho w0.heap.size 5 j0 (.int .u8 0) 1 1 Try.underlying39 hj hz0 hz1 hz2 rfl (by decide) v _ _ hs hown ad m.length c (m.map fun (v : Nat) => Value.int .u8 (v : Int)) hx (by simp) ?_ ?_ (by unfold maxLen; omega) (by omega) hbs ?_
    · intro j u hu
      have hjl : j < m.length := by
        have := (List.getElem?_eq_some_iff.1 hu).1
        simpa using this
      obtain ⟨B', off', e, c⟩ := hm j hjl
      injection e with e
      subst e
      rw [addr_plain, c]
      simp [hjl] at hu
      simp [List.getD_eq_getElem?_getD, hjl, hu]
    · simp [Value.oneCell']
    · intro v' w' h1 h2 _
      refine h v' w' ⟨?_, hR.2.grown h2 hbs (fun j hj => (hown.lt j hj).1)⟩
      rw [List.length_append, List.map_append]
      exact h1
/-- An empty slice that the call made. -/
theorem rowB_empty (w : World) : RowB w [] (.slice (some ⟨w.heap.size, 0, none⟩) 0 0) (w.alloc (.cells #[] 5)) :=
  ⟨⟨rfl, .inr ⟨w.heap.size, 0, #[], rfl, Nat.le_refl _, heap_alloc_new _ _, Nat.le_refl _, by unfold maxLen; omega, rfl, rfl⟩⟩, (Below.refl _ _).alloc (Nat.le_refl _) _⟩
end Go.Proofs.Ythnllhfdbnnjhaa
