/- Parts: C5 K1 K2 K3 K4 K5 K6 Q16 Q17 K7 K8 K9 K10 K11 K12 K13 K14 K15 K16 K17 K18 K19 K20 K21. -/
import Derived.Test.YthbnochlpnikaaaMC2
import Derived.Maps.OwnSet
import Derived.Maps.OwnOps
import Derived.Maps.Ext
import Derived.Laws.Rows
import Derived.Laws.Tables
import Derived.Laws.CopyOwn
import Derived.Deep.WholeRow
import Derived.Shelf.SlicesE.Kit
import Derived.Stop.BytesEq
import Derived.WalkSmall
import Derived.Laws.EntriesVeiled
import Derived.ScopeJumps
import Derived.WalkMore
import Derived.Deep.DeepAppendRoom
import Derived.Great.BuildSlice
import Derived.Great.CaseRows
import Derived.Deep.RegionLaw
import Derived.Deep.RegionHeld3
import Derived.Shelf.SlMaps.Clone
import Derived.Laws.Cover3
namespace Go.Proofs.Ythbnochlpnikaaa
open Go.RowKit Go.Shelf

/-- A disk whose writes are so many. -/
structure Fit (s : DS) (n : Nat) : Prop where
  whole : Whole s
  many : s.sync.length + s.loose.length ≤ n
  left : s.left ≤ 9223372036854775807
theorem Fit.few {s : DS} {n : Nat} (h : Fit s n) (hn : n ≤ 20000) : Few s := ⟨by have := h.many; omega, by have := h.many; omega⟩
theorem Fit.new {n : Nat} (h : 1 ≤ n ∧ n ≤ 40000) : Fit (newS n) 0 := ⟨Whole.new h, by simp [newS], by simp [newS]⟩
theorem doneL_le {n : Int} (h : n ≤ 9223372036854775807) : doneL n ≤ 9223372036854775807 := by unfold doneL; split <;> omega
theorem actS_fit {s : DS} {n : Nat} (h : Fit s n) (x : ActS) (hx : x.n ≤ 9223372036854775807) : Fit (actS s x) (n + 1) := by
  have hm := h.many
  have hl := h.left
  unfold actS
  by_cases h1 : x.what = 0 ∨ x.what = 1 ∨ x.what = 2
  · rw [if_pos h1]
    refine ⟨h.whole.write _ _, ?_, ?_⟩
    · unfold writeS; split
      · simp only; omega
      · split
        · simp only; omega
        · split
          · simp only; omega
          · simp only [List.length_append, List.length_singleton]; omega
    · unfold writeS; split
      · exact hl
      · split
        · exact hl
        · split
          · exact hl
          · exact doneL_le hl
  · rw [if_neg h1]
    by_cases h2 : x.what = 3
    · rw [if_pos h2]
      refine ⟨h.whole.sync', ?_, ?_⟩
      · unfold syncS; split
        · simp only; omega
        · simp only [List.length_append, List.length_nil]; omega
      · unfold syncS; split
        · exact hl
        · exact doneL_le hl
    · rw [if_neg h2]
      by_cases h3 : x.what = 4
      · rw [if_pos h3]
        refine ⟨h.whole.stop _, ?_, ?_⟩
        · unfold stopS; split <;> simp only <;> omega
        · unfold stopS; split
          · exact hl
          · exact hx
      · rw [if_neg h3]
        by_cases h4 : x.what = 5
        · rw [if_pos h4]
          refine ⟨h.whole.crash _ _, ?_, ?_⟩
          · have hT := tornS_range s x.keep
            unfold crashS; split
            · simp only; omega
            · simp only [List.length_nil]
              have := crashF_length x.keep s.loose s.sync x.n.toNat (tornS s x.keep) (tornS s x.keep + 1).toNat
              omega
          · unfold crashS; split
            · exact hl
            · simp
        · rw [if_neg h4]
          exact ⟨h.whole, by omega, hl⟩
theorem act_any {Rep : DiskRep} (S : DiskOk Rep) {w : World} {d : Value} {s : DS} {F : Nat → Prop} {p : Option Addr} {c : Nat} {q : Option Addr} {dd : Nat} {x : ActS} (hP : PairOk Rep w d s F p c q dd) {n : Nat} (hn : n ≤ 20000) (hfit : Fit s n) (hx : ActIn w F x) :
    Calls Try.prog 9 #[d, refV s p c q dd, actV x] w (ActPost Rep F p q (actS s x) w) := by
  have hW := hfit.whole
  have hf := hfit.few hn
  have hl := hfit.left
  unfold actS
  by_cases h0 : x.what = 0
  · rw [if_pos (.inl h0)]; exact act_write0 S h0 hP hW hf hl hx
  by_cases h1 : x.what = 1
  · rw [if_pos (.inr (.inl h1))]; exact act_write1 S h1 hP hW hf hl hx
  by_cases h2 : x.what = 2
  · rw [if_pos (.inr (.inr h2))]; exact act_write2 S h2 hP hW hf hl hx
  rw [if_neg (by omega)]
  by_cases h3 : x.what = 3
  · rw [if_pos h3]; exact act_sync S h3 hP hW hf hl hx
  rw [if_neg h3]
  by_cases h4 : x.what = 4
  · rw [if_pos h4]; exact act_stop S h4 hP hW hf hl hx
  rw [if_neg h4]
  by_cases h5 : x.what = 5
  · rw [if_pos h5]; exact act_crash S h5 hP hW hf hl hx
  rw [if_neg h5]
  by_cases h6 : x.what = 6
  · exact act_read S h6 hP hW hf hl hx
  · exact act_copy S (fun k hk1 hk2 => by omega) hP hW hf hl hx
def acells : List ActS → List Value
  | [] => []
  | x :: l => .int .i64 x.what :: .int .i64 x.place :: .int .i64 x.n :: .int .u8 x.byte :: .slice x.kp x.keep.length x.kc :: acells l
theorem acells_length (l : List ActS) : (acells l).length = l.length * 5 := by
  induction l with
  | nil => rfl
  | cons x l ih => simp only [acells, List.length_cons, ih]; omega
theorem acells_append (l m : List ActS) : acells (l ++ m) = acells l ++ acells m := by
  induction l with
  | nil => rfl
  | cons x l ih => simp only [acells, List.cons_append, ih]
theorem acells_get (l : List ActS) : ∀ (i : Nat) (x : ActS), l[i]? = some x → (acells l)[i * 5]? = some (.int .i64 x.what) ∧ (acells l)[i * 5 + 1]? = some (.int .i64 x.place) ∧ (acells l)[i * 5 + 2]? = some (.int .i64 x.n) ∧ (acells l)[i * 5 + 3]? = some (.int .u8 x.byte) ∧ (acells l)[i * 5 + 4]? = some (.slice x.kp x.keep.length x.kc) := by
  induction l with
  | nil => intro i x h; cases h
  | cons y l ih =>
    intro i x h
    cases i with
    | zero => simp at h; subst h; exact ⟨rfl, rfl, rfl, rfl, rfl⟩
    | succ i =>
      have := ih i x (by simpa using h)
      rw [show (i + 1) * 5 = i * 5 + 1 + 1 + 1 + 1 + 1 by omega]
      exact this
theorem acells_one (l : List ActS) : ∀ u ∈ acells l, u.oneCell' = true := by
  induction l with
  | nil => intro u hu; cases hu
  | cons x l ih =>
    intro u hu
    simp only [acells, List.mem_cons] at hu
    rcases hu with rfl | rfl | rfl | rfl | rfl | hu
    · rfl
    · rfl
    · rfl
    · rfl
    · rfl
    · exact ih u hu
theorem ActsAt.news {w : World} {ad : Addr} : ∀ {l : List ActS}, ActsAt w (some ad) l → ∀ (j : Nat) (u : Value), (acells l)[j]? = some u → w.cell? (ad.add j) = some u := by
  intro l h j u hu
  have hj : j < l.length * 5 := by
    rw [← acells_length]
    exact (List.getElem?_eq_some_iff.1 hu).1
  obtain ⟨x, hx⟩ : ∃ x, l[j / 5]? = some x := ⟨_, List.getElem?_eq_getElem (by omega)⟩
  obtain ⟨B, off, e, ⟨c0, c1, c2, c3, c4⟩⟩ := h _ x hx
  obtain ⟨g0, g1, g2, g3, g4⟩ := acells_get l _ x hx
  injection e with e
  subst e
  rw [addr_plain]
  have hm : j = j / 5 * 5 ∨ j = j / 5 * 5 + 1 ∨ j = j / 5 * 5 + 2 ∨ j = j / 5 * 5 + 3 ∨ j = j / 5 * 5 + 4 := by omega
  generalize j / 5 = i at *
  rcases hm with rfl | rfl | rfl | rfl | rfl
  · rw [g0] at hu; rw [c0, hu]
  · rw [g1] at hu; rw [← Nat.add_assoc, c1, hu]
  · rw [g2] at hu; rw [← Nat.add_assoc, c2, hu]
  · rw [g3] at hu; rw [← Nat.add_assoc, c3, hu]
  · rw [g4] at hu; rw [← Nat.add_assoc, c4, hu]
/-- Acts in a slice of the call's own. -/
def RowX (w0 : World) (l : List ActS) (t : Value) (wr : World) : Prop := wr.ownsRow w0.heap.size 25 5 t l.length (acells l) ∧ Below w0.heap.size w0 wr
theorem RowX.at' {w w' : World} {l : List ActS} {t : Value} (h : RowX w l t w') : ∃ p cap, t = .slice p l.length cap ∧ l.length ≤ cap ∧ cap ≤ maxLen ∧ ActsAt w' p l := by
  obtain ⟨⟨h0, h1⟩, hB⟩ := h
  rcases h1 with ⟨rfl, hn⟩ | ⟨g, cap, cur, rfl, hg, hh, h2, h3, h4, h5⟩
  · refine ⟨none, 0, by rw [hn], by omega, by unfold maxLen; omega, ?_⟩
    have : l = [] := List.eq_nil_of_length_eq_zero hn
    subst this
    exact fun i x h => by cases h
  · refine ⟨some ⟨g, 0, none⟩, cap, rfl, h2, h3, fun i x hx => ⟨g, 0, rfl, ?_⟩⟩
    have hil : i < l.length := (List.getElem?_eq_some_iff.1 hx).1
    have g := acells_get l i x hx
    rw [← h5] at g
    simp only [List.getElem?_take] at g
    rw [if_pos (by omega), if_pos (by omega), if_pos (by omega), if_pos (by omega), if_pos (by omega)] at g
    obtain ⟨g0, g1, g2, g3, g4⟩ := g
    constructor
    all_goals (simp only [World.cell?, hh, Nat.zero_add]; first | simpa using g0 | simpa using g1 | simpa using g2 | simpa using g3 | simpa using g4)
theorem rowX_empty (w : World) : RowX w [] (.slice (some ⟨w.heap.size, 0, none⟩) 0 0) (w.alloc (.cells #[] 25)) :=
  ⟨⟨rfl, .inr ⟨w.heap.size, 0, #[], rfl, Nat.le_refl _, heap_alloc_new _ _, Nat.le_refl _, by unfold maxLen; omega, rfl, rfl⟩⟩, (Below.refl _ _).alloc (Nat.le_refl _) _⟩
theorem RowX.later {w0 w w' : World} {l : List ActS} {v : Value} (hr : RowX w0 l v w) (hb : Below w.heap.size w w') : RowX w0 l v w' := by
  refine ⟨⟨hr.1.1, ?_⟩, below_any hr.2 hb⟩
  rcases hr.1.2 with h | ⟨g, cap, cur, e, hg, hh, rest⟩
  · exact .inl h
  · exact .inr ⟨g, cap, cur, e, hg, (hb.block g (Array.getElem?_eq_some_iff.1 hh).1).trans hh, rest⟩
theorem infoX : (Try.prog.info? 25).map (fun i => (i.zero, i.size, i.bytes)) = some (some (.agg #[.int .i64 0, .int .i64 0, .int .i64 0, .int .u8 0, .slice none 0 0]), 5, 56) := by kernel_rfl
theorem step_append_acts {ops : Array Oper} {o : Oper} {a : Act} {w : World} {K : Act → World → Prop} {Q : Exit → Act → World → Prop} {E : Prop} (hw : Region.wanted o (yielded ops a.tmps) = true) (s x : Operand)
    (ho : o.op = .call { callee := .builtin .append, args := #[s, x], argTypes := #[22, 22] })
    {w0 : World} {l m : List ActS} {v : Value} {q : Option Addr} {c : Nat} (hs : a.eval s = v) (hR : RowX w0 l v w) (hx : a.eval x = .slice q m.length c) (hq : q = none → c = 0) (hm : ActsAt w q m) (hb : (l.length + m.length) * 56 ≤ 140737488355328)
    (h : ∀ v' w', RowX w0 (l ++ m) v' w' → w.grownBy w' v.ownBlock → K (a.put o.dst v') w') : if Region.wanted o (yielded ops a.tmps) = true then Oper.wp Try.prog o a w K Q else E := by
  rw [if_pos hw]
  obtain ⟨j0, hj, hz0, hz1, hz2⟩ := info_parts infoX
  have hown := hR.1
  have hbs := hR.2.size
  cases q with
  | none =>
    have hm0 : m = [] := by
      cases m with
      | nil => rfl
      | cons b t => obtain ⟨B, off, e, -⟩ := hm 0 b rfl; cases e
    subst hm0
    have hc := hq rfl
    subst hc
    have hrun := run_append_owned_none (P := Try.prog) (w := w) w0.heap.size 22 o.type 25 j0 5 Try.underlying22 hj v _ _ hown
    unfold Oper.wp
    have hx' : a.eval x = .slice none 0 0 := hx
    simp [execOp, ho, resolve, invoke, builtin, hs, hx', hrun, Result.andThen]
    refine h v w ?_ (World.grownBy.refl _ _)
    rw [List.append_nil]
    exact hR
  | some ad =>
    refine wp_append_own w s x _ ho w0.heap.size 25 j0 (.agg #[.int .i64 0, .int .i64 0, .int .i64 0, .int .u8 0, .slice none 0 0]) 5 56 Try.underlying22 hj hz0 hz1 hz2 rfl (by decide) v _ _ hs hown ad m.length c (acells m) hx (acells_length m) hm.news (acells_one m) (by unfold maxLen; omega) hb hbs ?_
    intro v' w' h1 h2 _
    refine h v' w' ⟨?_, hR.2.grown h2 hbs (fun j hj => (hown.lt j hj).1)⟩ h2
    rw [List.length_append, acells_append]
    exact h1
end Go.Proofs.Ythbnochlpnikaaa
namespace Go.Proofs.Ythbnochlpnikaaa
open Go.RowKit Go.Shelf

/-- The cells of a sector. -/
def bL (b : ByteArray) : List Value := b.data.toList.map fun (c : UInt8) => Value.int .u8 (c.toNat : Int)
def bV (b : ByteArray) : Array Value := (bL b).toArray
theorem bL_length (b : ByteArray) : (bL b).length = b.size := by
  unfold bL
  rw [List.length_map, Array.length_toList]
  rfl
theorem bV_size (b : ByteArray) : (bV b).size = b.size := by
  unfold bV
  rw [List.size_toArray, bL_length]
theorem bL_one (b : ByteArray) : ∀ u ∈ bL b, u.oneCell' = true := fun u hu => by
  obtain ⟨c, _, rfl⟩ := List.mem_map.1 hu
  rfl
theorem bV_one (b : ByteArray) : (bV b).all (·.oneCell') = true := by
  rw [Array.all_eq_true_iff_forall_mem]
  intro u hu
  exact bL_one b u (by simpa [bV] using hu)
theorem bL_inj {a b : ByteArray} (h : bL a = bL b) : a = b := by
  obtain ⟨⟨a⟩⟩ := a
  obtain ⟨⟨b⟩⟩ := b
  simp only [bL] at h
  congr 2
  refine List.map_inj_right (f := fun (c : UInt8) => Value.int .u8 (c.toNat : Int)) ?_ |>.1 h
  intro x y e
  simp only [Value.int.injEq, true_and] at e
  exact UInt8.toNat_inj.1 (by exact_mod_cast e)
theorem bV_inj {a b : ByteArray} (h : bV a = bV b) : a = b := bL_inj (by simpa [bV] using h)
theorem bL_strOf (l : List Nat) (h : ∀ b ∈ l, b < 256) : bL (strOf l) = u8s l := by
  simp only [bL, strOf, u8s, List.map_map]
  refine List.map_congr_left fun x hx => ?_
  have := h x hx
  simp [Nat.mod_eq_of_lt this]
theorem bL_zero : bL (secS 0) = List.replicate 64 (.int .u8 0) := by
  rw [secS, bL_strOf _ (by intro b hb; rw [List.mem_replicate] at hb; omega)]
  simp [u8s]
theorem bytes_of (b : ByteArray) : ∃ l : List Nat, l.length = b.size ∧ (∀ x ∈ l, x < 256) ∧ b = strOf l := by
  refine ⟨b.data.toList.map (·.toNat), ?_, fun x hx => ?_, ?_⟩
  · rw [List.length_map, Array.length_toList]
    rfl
  · obtain ⟨c, _, rfl⟩ := List.mem_map.1 hx
    exact c.toNat_lt
  · obtain ⟨⟨l⟩⟩ := b
    unfold strOf
    congr 1
    rw [List.map_map, show (UInt8.ofNat ∘ fun (x : UInt8) => x.toNat) = id from funext fun c => by simp]
    simp
theorem zero_sec (w : World) : (zeroValue 76).run Try.prog w = .ok (.agg (bV (secS 0))) w := by
  rw [Try.zeroValue76, bV, bL_zero]
  rfl

/-- How a sector reads. -/
def secD (b : ByteArray) : DataW Unit := .lit (.string b.data.toList)
theorem secD_inj {a b : ByteArray} (h : secD a = secD b) : a = b := by
  obtain ⟨⟨a⟩⟩ := a
  obtain ⟨⟨b⟩⟩ := b
  simp [secD] at h
  subst h
  rfl
open Classical in
noncomputable def secR (v : Value) : Option (DataW Unit × List MemPlace) := if h : ∃ b : ByteArray, b.size = 64 ∧ v = .agg (bV b) then some (secD h.choose, []) else none
theorem secR_mk {b : ByteArray} (h : b.size = 64) : secR (.agg (bV b)) = some (secD b, []) := by
  have hx : ∃ c : ByteArray, c.size = 64 ∧ Value.agg (bV b) = .agg (bV c) := ⟨b, h, rfl⟩
  unfold secR
  rw [dif_pos hx]
  have := hx.choose_spec.2
  injection this with this
  rw [← bV_inj this]
theorem secR_inv {v : Value} {z : DataW Unit × List MemPlace} (h : secR v = some z) : ∃ b : ByteArray, b.size = 64 ∧ v = .agg (bV b) ∧ z = (secD b, []) := by
  unfold secR at h
  split at h
  · rename_i hx
    injection h with h
    exact ⟨hx.choose, hx.choose_spec.1, hx.choose_spec.2, h.symm⟩
  · cases h

def kL (k : Nat) : Lit := .int .i64 (k : Int)
theorem kL_inj {i j : Nat} (h : kL i = kL j) : i = j := by
  simp only [kL, Lit.int.injEq, true_and] at h
  exact_mod_cast h
theorem kL_wf {k : Nat} (h : k < 40000) : (kL k).wf = true := by
  simp [kL, Lit.wf, IntKind.min, IntKind.max, IntKind.signed, IntKind.bits]
  omega
def upd (f : Nat → ByteArray) (k : Nat) (b : ByteArray) : Nat → ByteArray := fun j => if j = k then b else f j
/-- A datum that tells what the sectors are: those that are noughts are left out. -/
structure DatIs (D : DataW Unit) (m : Nat) (f : Nat → ByteArray) : Prop where
  at' : ∀ k, k < m → D.atKey (kL k) (secD (secS 0)) = secD (f k)
  has : ∀ k, k < m → Maps.has D (kL k) = decide (f k ≠ secS 0)
  only : ∀ kl, Maps.has D kl = true → ∃ k, k < m ∧ kl = kL k
theorem kL_key (k : Nat) : WideAt.IsKeyLit (kL k) := by unfold kL; exact trivial
theorem DatIs.empty (m : Nat) : DatIs (.map []) m (fun _ => secS 0) := ⟨fun k _ => rfl, fun k _ => by simp [Maps.has], fun kl h => by simp [Maps.has] at h⟩
theorem DatIs.put {D : DataW Unit} {m : Nat} {f : Nat → ByteArray} (h : DatIs D m f) (hm : Maps.IsMap D) {k : Nat} (hk : k < m) {b : ByteArray} (hb : b ≠ secS 0) : DatIs (D.put (kL k) (secD b)) m (upd f k b) := by
  refine ⟨fun j hj => ?_, fun j hj => ?_, fun kl hkl => ?_⟩
  · by_cases e : j = k
    · subst e
      rw [Maps.atKey_put_same hm (kL_key _)]
      simp [upd]
    · rw [Maps.atKey_put_other (fun x => e (kL_inj x))]
      rw [h.at' j hj]
      simp [upd, e]
  · by_cases e : j = k
    · subst e
      rw [Maps.has_put_same hm (kL_key _)]
      simp [upd, hb]
    · rw [Maps.has_put_other (fun x => e (kL_inj x)), h.has j hj]
      simp [upd, e]
  · by_cases e : kl = kL k
    · exact ⟨k, hk, e⟩
    · rw [Maps.has_put_other e] at hkl
      exact h.only kl hkl
theorem DatIs.del {D : DataW Unit} {m : Nat} {f : Nat → ByteArray} (h : DatIs D m f) {k : Nat} : DatIs (D.del (kL k)) m (upd f k (secS 0)) := by
  refine ⟨fun j hj => ?_, fun j hj => ?_, fun kl hkl => ?_⟩
  · by_cases e : j = k
    · subst e
      rw [Maps.atKey_del_same]
      simp [upd]
    · rw [Maps.atKey_del_other (fun x => e (kL_inj x))]
      rw [h.at' j hj]
      simp [upd, e]
  · by_cases e : j = k
    · subst e
      rw [Maps.has_del_same]
      simp [upd]
    · rw [Maps.has_del_other (fun x => e (kL_inj x)), h.has j hj]
      simp [upd, e]
  · by_cases e : kl = kL k
    · subst e; rw [Maps.has_del_same] at hkl; cases hkl
    · rw [Maps.has_del_other e] at hkl
      exact h.only kl hkl
theorem length_le_of_nodup {α : Type} [DecidableEq α] : ∀ (l m : List α), l.Nodup → (∀ x ∈ l, x ∈ m) → l.length ≤ m.length
  | [], _, _, _ => Nat.zero_le _
  | x :: l, m, hn, hs => by
    have hx : x ∈ m := hs x (by simp)
    have ih := length_le_of_nodup l (m.erase x) (List.nodup_cons.1 hn).2 (fun y hy => by
      refine (List.mem_erase_of_ne ?_).2 (hs y (by simp [hy]))
      rintro rfl
      exact (List.nodup_cons.1 hn).1 hy)
    rw [List.length_erase_of_mem hx] at ih
    have := List.length_pos_of_mem hx
    simp only [List.length_cons]
    omega
theorem law3 : Maps.Keyed Try.prog 3 := Maps.int_keyed Try.underlying3
theorem key3 {k : Nat} (h : k < 40000) : keyOf Try.prog 3 (.int .i64 (k : Int)) = some (kL k) := Maps.keyOf_int_mk Try.underlying3 (kL_wf h)
theorem own_small {w : World} {b n m : Nat} {D : DataW Unit} {f : Nat → ByteArray} (h : w.ownsMap Try.prog 3 secR b n D) (hd : DatIs D m f) (hm : m ≤ 40000) : w.ownsMap Try.prog 3 secR b 40000 D := by
  obtain ⟨l, hl, hp, hkey⟩ := h.canon law3
  have hp := Maps.apart_of_rising hp
  obtain ⟨es, clock, hb, F, hs, hD⟩ := h
  refine ⟨es, clock, hb, F, ?_, hD⟩
  have e1 : es.size = Maps.size D := by rw [hD, Maps.size_eq, length_read]
  rw [e1]
  subst hl
  rw [Maps.size_eq]
  letI : DecidableEq Lit := fun a b => Classical.propDecidable _
  have h1 := length_le_of_nodup (l.map (·.1)) ((List.range m).map kL) (by
    unfold List.Nodup
    rw [List.pairwise_map]
    exact hp) (fun x hx => by
      obtain ⟨p, hp1, rfl⟩ := List.mem_map.1 hx
      have : Maps.has (.map l : DataW Unit) p.1 = true := by
        rw [Maps.has_eq, List.any_eq_true]
        exact ⟨p, hp1, WideAt.sameKey_self (hkey p hp1)⟩
      obtain ⟨k, hk, e⟩ := hd.only _ this
      rw [e]
      exact List.mem_map.2 ⟨k, List.mem_range.2 hk, rfl⟩)
  simp at h1
  omega
end Go.Proofs.Ythbnochlpnikaaa
namespace Go.Proofs.Ythbnochlpnikaaa
open Go.RowKit Go.Shelf

/-- Block b holds a map that tells what the sectors are. -/
structure MapIs (w : World) (b m : Nat) (f : Nat → ByteArray) : Prop where
  le : m ≤ 40000
  size : ∀ k, k < m → (f k).size = 64
  own : ∃ D : DataW Unit, w.ownsMap Try.prog 3 secR b 40000 D ∧ DatIs D m f
theorem MapIs.lt {w : World} {b m : Nat} {f : Nat → ByteArray} (h : MapIs w b m f) : b < w.heap.size := by
  obtain ⟨D, h, _⟩ := h.own
  exact h.lt
theorem MapIs.of_block {w w' : World} {b m : Nat} {f : Nat → ByteArray} (h : MapIs w b m f) (e : w'.heap[b]? = w.heap[b]?) : MapIs w' b m f := by
  obtain ⟨D, ⟨es, clock, hb, r⟩, hd⟩ := h.own
  exact ⟨h.le, h.size, D, ⟨es, clock, e.trans hb, r⟩, hd⟩
theorem MapIs.below {w w' : World} {b m : Nat} {f : Nat → ByteArray} (h : MapIs w b m f) (hb : Below w.heap.size w w') : MapIs w' b m f := h.of_block (hb.block b h.lt)
theorem MapIs.congr {w : World} {b m : Nat} {f g : Nat → ByteArray} (h : MapIs w b m f) (e : ∀ k, k < m → f k = g k) : MapIs w b m g := by
  obtain ⟨D, h1, h2⟩ := h.own
  refine ⟨h.le, fun k hk => by rw [← e k hk]; exact h.size k hk, D, h1, ⟨fun k hk => by rw [← e k hk]; exact h2.at' k hk, fun k hk => by rw [← e k hk]; exact h2.has k hk, h2.only⟩⟩
theorem MapIs.made (w : World) {m : Nat} (hm : m ≤ 40000) : MapIs (w.alloc (.map #[] 0)) w.heap.size m (fun _ => secS 0) :=
  ⟨hm, fun _ _ => secS_size 0, .map [], (World.ownsMap_made w Try.prog 3 secR).mono (by omega), DatIs.empty m⟩
/-- A block of cells is no map's. -/
theorem MapIs.cells {w : World} {b m : Nat} {f : Nat → ByteArray} (h : MapIs w b m f) {cs : Array Value} {t : TypeId} {fr : Nat × Nat} {g : Nat} (hg : w.heap[g]? = some (.cells cs t fr)) : b ≠ g := by
  obtain ⟨D, ⟨es, clock, hb, r⟩, hd⟩ := h.own
  rintro rfl
  rw [hg] at hb
  cases hb
theorem secR_zero : secR (.agg (bV (secS 0))) = some (secD (secS 0), []) := secR_mk (secS_size 0)
set_option maxRecDepth 100000 in
theorem MapIs.look {w : World} {b m : Nat} {f : Nat → ByteArray} (h : MapIs w b m f) {k : Nat} (hk : k < m) : (Instr.lookup 57 (.map (some b)) (.int .i64 (k : Int)) false).run Try.prog w = .ok (.agg (bV (f k))) w := by
  obtain ⟨D, h1, h2⟩ := h.own
  obtain ⟨v, ps, hrun, hv⟩ := h1.lookup law3 Try.underlying57 (zero_sec w) secR_zero (key3 (Nat.lt_of_lt_of_le hk h.le))
  rw [h2.at' k hk] at hv
  obtain ⟨b', hb', rfl, hz⟩ := secR_inv hv
  injection hz with hz _
  rw [secD_inj hz]
  exact hrun
theorem MapIs.put {w : World} {b m : Nat} {f : Nat → ByteArray} (h : MapIs w b m f) {k : Nat} (hk : k < m) {c : ByteArray} (hc : c.size = 64) (hne : c ≠ secS 0) :
    ∃ w', (Instr.mapUpdate 57 (.map (some b)) (.int .i64 (k : Int)) (.agg (bV c))).run Try.prog w = .ok () w' ∧ MapIs w' b m (upd f k c) ∧ w.mapTurned w' b := by
  obtain ⟨D, h1, h2⟩ := h.own
  obtain ⟨w', hrun, h3, h4⟩ := h1.store law3 Try.underlying57 (by unfold maxLen; omega) (key3 (Nat.lt_of_lt_of_le hk h.le)) (secR_mk hc)
  have h5 := h2.put h1.isMap hk hne
  refine ⟨w', hrun, ⟨h.le, fun j hj => ?_, _, own_small h3 h5 h.le, h5⟩, h4⟩
  unfold upd
  split
  · exact hc
  · exact h.size j hj
theorem MapIs.drop {w : World} {b m : Nat} {f : Nat → ByteArray} (h : MapIs w b m f) {k : Nat} (hk : k < m) (ty : TypeId) :
    ∃ w', (Builtin.delete_ #[57, 3] ty #[.map (some b), .int .i64 (k : Int)]).run Try.prog w = .ok (.tuple #[]) w' ∧ MapIs w' b m (upd f k (secS 0)) ∧ w.mapTurned w' b := by
  obtain ⟨D, h1, h2⟩ := h.own
  obtain ⟨w', hrun, h3, h4⟩ := h1.drop law3 Try.underlying57 (key3 (Nat.lt_of_lt_of_le hk h.le)) ty
  refine ⟨w', hrun, ⟨h.le, fun j hj => ?_, _, h3, h2.del⟩, h4⟩
  unfold upd
  split
  · exact secS_size 0
  · exact h.size j hj
section
variable {w : World} {ops : Array Oper} {rest : List Oper} {o : Oper} {a : Act} {Q : Exit → Act → World → Prop}
theorem wpList_look (hg : o.guard = none) (x y : Operand) (hop : o.op = Op.lookup 57 x y false) {b m : Nat} {f : Nat → ByteArray} (h : MapIs w b m f) {k : Nat} (hk : k < m) (hx : a.eval x = .map (some b)) (hy : a.eval y = .int .i64 (k : Int))
    (hK : wpList Try.prog ops Q rest (a.put o.dst (.agg (bV (f k)))) w) : wpList Try.prog ops Q (o :: rest) a w := by
  refine wpList_plain hg fun K' hK' => ?_
  unfold Oper.wp
  simp [execOp, hop, hx, hy, h.look hk, Result.andThen]
  exact hK' _ _ hK
theorem wpList_put (hg : o.guard = none) (x y z : Operand) (hop : o.op = Op.mapUpdate 57 x y z) {b m : Nat} {f : Nat → ByteArray} (h : MapIs w b m f) {k : Nat} (hk : k < m) {c : ByteArray} (hc : c.size = 64) (hne : c ≠ secS 0) (hx : a.eval x = .map (some b)) (hy : a.eval y = .int .i64 (k : Int)) (hz : a.eval z = .agg (bV c))
    (hK : ∀ w', MapIs w' b m (upd f k c) → w.mapTurned w' b → wpList Try.prog ops Q rest (a.put o.dst undef) w') : wpList Try.prog ops Q (o :: rest) a w := by
  refine wpList_plain hg fun K' hK' => ?_
  obtain ⟨w', hrun, r1, r2⟩ := h.put hk hc hne
  unfold Oper.wp
  simp [execOp, hop, hx, hy, hz, hrun, Result.andThen]
  exact hK' _ _ (hK w' r1 r2)
theorem wpList_drop (hg : o.guard = none) (x y : Operand) (hop : o.op = Op.call { callee := Callee.builtin Builtin.delete, args := #[x, y], argTypes := #[57, 3] }) {b m : Nat} {f : Nat → ByteArray} (h : MapIs w b m f) {k : Nat} (hk : k < m) (hx : a.eval x = .map (some b)) (hy : a.eval y = .int .i64 (k : Int))
    (hK : ∀ w', MapIs w' b m (upd f k (secS 0)) → w.mapTurned w' b → wpList Try.prog ops Q rest (a.put o.dst (.tuple #[])) w') : wpList Try.prog ops Q (o :: rest) a w := by
  refine wpList_plain hg fun K' hK' => ?_
  obtain ⟨w', hrun, r1, r2⟩ := h.drop hk o.type
  unfold Oper.wp
  simp [execOp, hop, resolve, invoke, builtin, hx, hy, hrun, Result.andThen]
  exact hK' _ _ (hK w' r1 r2)
end
theorem apart_turned {w w' : World} {b : Nat} (h : w.mapTurned w' b) : Apart (fun j => j = b) w w' :=
  ⟨h.grown.os, h.grown.tape, h.grown.output, h.grown.size, fun k hk hF => h.grown.block k hk (fun e => hF (by injection e))⟩
/-- Sectors are held against each other. -/
theorem eqi_sec {a b : ByteArray} (ha : a.size = 64) (hb : b.size = 64) (w : World) : (Op.equalIn 10000 76 (.agg (bV a)) (.agg (bV b))).run Try.prog w = .ok (decide (a = b)) w := by
  have e := run_equalIn_bytes (P := Try.prog) w 9998 76 5 64 Try.underlying76 Try.underlying5 Try.sizeOf5 a.data.toList b.data.toList (by rw [Array.length_toList]; exact ha) (by rw [Array.length_toList]; exact hb)
  have e2 : (a.data.toList == b.data.toList) = decide (a = b) := by
    by_cases h : a = b
    · subst h; simp
    · rw [decide_eq_false h]
      apply Bool.eq_false_iff.2
      intro e
      have e3 := eq_of_beq e
      apply h
      obtain ⟨⟨a⟩⟩ := a
      obtain ⟨⟨b⟩⟩ := b
      simp only at e3
      rw [e3]
  rw [e2] at e
  exact e
theorem eqg_sec (a b : ByteArray) (x y : Operand) (op : BinOp) (w : World) : (eqGuard op 76 x y (.agg (bV a)) (.agg (bV b))).run Try.prog w = .ok () w :=
  GuardAt.agg (P := Try.prog) (T := 76) bV (by kernel_rfl) op x y a b w
end Go.Proofs.Ythbnochlpnikaaa
namespace Go.Proofs.Ythbnochlpnikaaa
open Go.RowKit Go.Shelf

/-- An array's first places, with no room behind. -/
theorem run_cut (B n : Nat) (hn : n ≤ 64) (w : World) :
    (Instr.sliceAt 76 (.pointer (some ⟨B, 0, none⟩)) none (some (.int .i64 n)) (some (.int .i64 n))).run Try.prog w = .ok (.slice (some ⟨B, 0, none⟩) n n) w := by
  have h1 := fun y code w (h : n ≤ y) => run_sliceBound (P := Try.prog) w .i64 (n : Int) y code (by omega) (by omega)
  simp [Instr.sliceAt, Instr.sureAddr, run_underlying Try.underlying76, Instr.sliceBounds, h1 64 _ w hn, h1 n _ w (Nat.le_refl _), Try.sizeOf5, Result.andThen, Addr.add]
set_option maxRecDepth 100000 in
set_option maxHeartbeats 400000 in
theorem cut_any (b : ByteArray) (n : Nat) (hn : n ≤ 64) (w : World) :
    Calls Try.prog 56 #[.agg (bV b), .int .i64 n] w fun r w' => r = .returned (.slice (some ⟨w.heap.size, 0, none⟩) n n) ∧ w' = w.alloc (.cells (bV b) 76) := by
  have hc := run_cut w.heap.size n hn
  go_enter Try.func56, Try.ntmps56
  go_wp2
  go_ret
  exact ⟨rfl, rfl⟩
set_option maxRecDepth 100000 in
set_option maxHeartbeats 400000 in
theorem bytes_any {b m : Nat} {f : Nat → ByteArray} {k : Nat} {w : World} (h : MapIs w b m f) (hk : k < m) :
    Calls Try.prog 50 #[.agg #[.map (some b)], .int .i64 k] w fun r w' => r = .returned (.slice (some ⟨w.heap.size + 1, 0, none⟩) 64 64) ∧ w' = (w.alloc (.cells #[.map (some b)] 59)).alloc (.cells (bV (f k)) 76) := by
  have hl := (h.below (w' := w.alloc (.cells #[.map (some b)] 59)) ((Below.refl _ _).alloc (Nat.le_refl _) _)).look hk
  have C := cut_any (f k) 64 (Nat.le_refl _)
  go_enter Try.func50, Try.ntmps50
  go_wp2_with (first
    | (go_at_call 56; refine (C _).mono ?_; rintro e w' ⟨rfl, rfl⟩)
    | fail)
  go_ret
  exact ⟨by simp, rfl⟩
end Go.Proofs.Ythbnochlpnikaaa
namespace Go.Proofs.Ythbnochlpnikaaa
open Go.RowKit Go.Shelf

/-- The first bytes are written; the others stay. -/
def layB (l : List Nat) (c : ByteArray) : ByteArray := strOf l ++ c.extract l.length 64
theorem bL_append (a b : ByteArray) : bL (a ++ b) = bL a ++ bL b := by
  simp [bL, ByteArray.data_append]
theorem bL_drop {c : ByteArray} (hc : c.size = 64) (i : Nat) : bL (c.extract i 64) = (bL c).drop i := by
  have : c.data.toList.length = 64 := by rw [Array.length_toList]; exact hc
  simp only [bL, ByteArray.data_extract, Array.toList_extract, ← List.map_drop]
  rw [List.extract_eq_take_drop, List.take_of_length_le]
  rw [List.length_drop, this]
  omega
theorem u8s_length (l : List Nat) : (u8s l).length = l.length := by simp [u8s]
theorem layB_size {l : List Nat} {c : ByteArray} (hl : l.length ≤ 64) (hc : c.size = 64) : (layB l c).size = 64 := by
  unfold layB
  rw [ByteArray.size_append, strOf_size, ByteArray.size_extract]
  omega
theorem lay_splice {l : List Nat} {c : ByteArray} (hb : ∀ x ∈ l, x < 256) (hc : c.size = 64) : splice (bL c) 0 (u8s l) = bL (layB l c) := by
  unfold layB splice
  rw [bL_append, bL_strOf l hb, bL_drop hc, u8s_length]
  simp
theorem setRow2 (w : World) (A : Obj) (c c' : Array Value) (t : TypeId) : ((w.alloc A).alloc (.cells c t)).setRow (w.heap.size + 1) c' = (w.alloc A).alloc (.cells c' t) := by
  have := World.setRow_alloc_new (w.alloc A) c c' t
  rwa [World.size_alloc] at this
theorem built_zero : Try.prog.built 76 [] = some (bV (secS 0)) := by
  rw [bV, bL_zero]
  kernel_rfl
theorem wpList_zero {w : World} {ops : Array Oper} {rest : List Oper} {o : Oper} {a : Act} {Q : Exit → Act → World → Prop} (hg : o.guard = none) (ho : o.op = .build 76 #[])
    (h : wpList Try.prog ops Q rest (a.put o.dst (.agg (bV (secS 0)))) w) : wpList Try.prog ops Q (o :: rest) a w := by
  refine wpList_build hg 76 #[] ho ?_ ?_
  · simp [built_zero]
  · simpa [built_zero] using h
theorem news_u8 {w : World} {B off : Nat} {l : List Nat} (h : ∀ i, i < l.length → w.cell? ⟨B, off + i, none⟩ = some (.int .u8 (l.getD i 0 : Nat))) : ∀ (j : Nat) (u : Value), (u8s l)[j]? = some u → w.cell? ((⟨B, off, none⟩ : Addr).add j) = some u := fun j u hu => by
  have hj : j < l.length := by
    rw [← u8s_length]
    exact (List.getElem?_eq_some_iff.1 hu).1
  rw [addr_plain, h j hj]
  simp [u8s, hj] at hu
  rw [← hu]
  simp [List.getD_eq_getElem?_getD, hj]
theorem u8s_one (l : List Nat) : ∀ u ∈ u8s l, u.oneCell' = true := fun u hu => by
  obtain ⟨c, _, rfl⟩ := List.mem_map.1 hu
  rfl
/-- Bytes that come from a slice. -/
def NewsAt (w : World) (p : Option Addr) (l : List Nat) : Prop := 0 < (u8s l).length → ∃ ad, p = some ad ∧ ∀ j v, (u8s l)[j]? = some v → w.cell? (ad.add j) = some v
theorem NewsAt.of {w : World} {p : Option Addr} {l : List Nat} (h : BytesAt w p l) : NewsAt w p l := fun h0 => by
  rw [u8s_length] at h0
  obtain ⟨B, off, rfl, hc⟩ := bytesAt_lt h (List.length_pos_iff.1 h0)
  exact ⟨_, rfl, news_u8 hc⟩
set_option maxRecDepth 100000 in
set_option maxHeartbeats 1000000 in
theorem lay_any {b m : Nat} {f : Nat → ByteArray} {k : Nat} {w : World} (h : MapIs w b m f) (hk : k < m) (p : Option Addr) (l : List Nat) (cap : Nat) (hl : l.length ≤ 64) (hb : ∀ x ∈ l, x < 256) (hB : Hid (BytesAt w p l)) :
    Calls Try.prog 43 #[.agg #[.map (some b)], .int .i64 k, .slice p l.length cap] w fun r w' => r = .returned (.tuple #[]) ∧ MapIs w' b m (upd f k (layB l (f k))) ∧ Apart (fun j => j = b) w w' := by
  have hsz := h.size k hk
  have hblt := h.lt
  obtain ⟨w2, hw2⟩ : ∃ w2, (w.alloc (.cells #[.map (some b)] 59)).alloc (.cells (bV (f k)) 76) = w2 := ⟨_, rfl⟩
  have B1 : Below w.heap.size w (w.alloc (.cells #[.map (some b)] 59)) := (Below.refl _ _).alloc (Nat.le_refl _) _
  have hl1 := (h.below B1).look hk
  have B2 : Below w.heap.size w w2 := by subst hw2; exact B1.alloc (by simp) _
  have hs2 : w2.heap.size = w.heap.size + 1 + 1 := by subst hw2; simp
  have hx2 : w2.cell? ⟨w.heap.size, 0, none⟩ = some (.map (some b)) := by subst hw2; go_cell
  have hg2 : w2.heap[w.heap.size + 1]? = some (.cells (bL (f k)).toArray 76 (0, 0)) := by subst hw2; exact heap_alloc2_new w _ _
  have hcut := run_cut (w.heap.size + 1) l.length hl
  have hp2 : NewsAt w2 p l := NewsAt.of (bytesAt_below hB.out B2)
  have hcs := layB_size hl hsz
  have hsp := Lib.hid (lay_splice hb hsz)
  generalize layB l (f k) = c at *
  have heg := fun x y w => eqg_sec c (secS 0) x y .eql w
  have he0 := Lib.hid fun w => eqi_sec hcs (secS_size 0) w
  have fin : Hid (∀ w3 w4, Below (w.heap.size + 1) w2 w3 → w3.mapTurned w4 b → Apart (fun j => j = b) w w4) := Lib.hid fun w3 w4 hB3 ht => by
    have b3 : Below w.heap.size w w3 := B2.trans (hB3.mono (by omega))
    have a4 := apart_turned ht
    exact ⟨a4.os.trans b3.os, a4.tape.trans b3.tape, a4.output.trans b3.output, Nat.le_trans b3.size a4.size, fun j hj hF => (a4.block j (Nat.lt_of_lt_of_le hj b3.size) hF).trans (b3.block j hj)⟩
  have M2 := h.below B2
  by_cases hz0 : c = secS 0
  · have he : ∀ w, (Op.equalIn 10000 76 (.agg (bV c)) (.agg (bV (secS 0)))).run Try.prog w = .ok true w := fun w => by rw [he0.out, decide_eq_true hz0]
    have hz := Lib.hid hz0
    clear hz0
    go_enter Try.func43, Try.ntmps43
    go_wp2_with (first
      | (refine wpList_store_row rfl 76 _ _ rfl (w.heap.size + 1) (bV (f k)) rfl rfl 76 _ (heap_alloc2_new w _ _) (by rw [bV_size, hsz]; kernel_rfl) (by rw [bV_size, hsz]; kernel_rfl) (bV_one _) ?_; rw [setRow2, hw2])
      | (refine wpList_copy_splice rfl _ _ 47 47 rfl 5 Try.underlying47 (by kernel_rfl) _ _ _ _ _ _ rfl rfl (w.heap.size + 1) 0 (bL (f k)) 76 hg2 (u8s l) (by rw [u8s_length]; exact (Nat.min_self _).symm) (fun h0 => ⟨rfl, hp2 h0⟩) (by rw [u8s_length, bL_length, hsz]; omega) (u8s_one l) (w.heap.size + 1) w2 (Below.refl _ _) (Nat.le_refl _) ?_; intro w3 HG3 hB3; have hx3 := (hB3.cell (p := ⟨w.heap.size, 0, none⟩) (by simp)).trans hx2; have M3 := M2.of_block (hB3.block b (by omega)); have hg3 : w3.heap[w.heap.size + 1]? = some (.cells (bV c) 76 (0, 0)) := by (have := HG3.out; rw [hsp.out] at this; exact this))
      | (refine wpList_zero rfl rfl ?_)
      | (refine wpList_load_row rfl 76 _ rfl (w.heap.size + 1) rfl 76 (bV c) (0, 0) _ hg3 Try.underlying76 rfl (by rw [bV_size, hcs]; kernel_rfl) ?_)
      | (at_delete; refine wpList_drop rfl _ _ rfl M3 hk rfl rfl ?_; intro w4 M4 ht4)
      | fail)
    go_end0
    exact ⟨rfl, by rw [hz.out]; exact M4, fin.out _ _ hB3 ht4⟩
  · have he : ∀ w, (Op.equalIn 10000 76 (.agg (bV c)) (.agg (bV (secS 0)))).run Try.prog w = .ok false w := fun w => by rw [he0.out, decide_eq_false hz0]
    have hz := Lib.hid hz0
    clear hz0
    go_enter Try.func43, Try.ntmps43
    go_wp2_with (first
      | (refine wpList_store_row rfl 76 _ _ rfl (w.heap.size + 1) (bV (f k)) rfl rfl 76 _ (heap_alloc2_new w _ _) (by rw [bV_size, hsz]; kernel_rfl) (by rw [bV_size, hsz]; kernel_rfl) (bV_one _) ?_; rw [setRow2, hw2])
      | (refine wpList_copy_splice rfl _ _ 47 47 rfl 5 Try.underlying47 (by kernel_rfl) _ _ _ _ _ _ rfl rfl (w.heap.size + 1) 0 (bL (f k)) 76 hg2 (u8s l) (by rw [u8s_length]; exact (Nat.min_self _).symm) (fun h0 => ⟨rfl, hp2 h0⟩) (by rw [u8s_length, bL_length, hsz]; omega) (u8s_one l) (w.heap.size + 1) w2 (Below.refl _ _) (Nat.le_refl _) ?_; intro w3 HG3 hB3; have hx3 := (hB3.cell (p := ⟨w.heap.size, 0, none⟩) (by simp)).trans hx2; have M3 := M2.of_block (hB3.block b (by omega)); have hg3 : w3.heap[w.heap.size + 1]? = some (.cells (bV c) 76 (0, 0)) := by (have := HG3.out; rw [hsp.out] at this; exact this))
      | (refine wpList_zero rfl rfl ?_)
      | (refine wpList_load_row rfl 76 _ rfl (w.heap.size + 1) rfl 76 (bV c) (0, 0) _ hg3 Try.underlying76 rfl (by rw [bV_size, hcs]; kernel_rfl) ?_)
      | (at_mapUpdate; refine wpList_put rfl _ _ _ rfl M3 hk hcs hz.out rfl rfl rfl ?_; intro w4 M4 ht4)
      | fail)
    go_end0
    exact ⟨rfl, M4, fin.out _ _ hB3 ht4⟩
end Go.Proofs.Ythbnochlpnikaaa
namespace Go.Proofs.Ythbnochlpnikaaa
open Go.RowKit Go.Shelf

theorem ne_int (a b : Int) : (a != b) = decide (a ≠ b) := by
  by_cases h : a = b <;> simp [h]
set_option maxRecDepth 100000 in
set_option maxHeartbeats 400000 in
theorem none_any {B : Nat} {m : Int} {w : World} (h : w.cell? ⟨B, 2, none⟩ = some (.int .i64 m)) (hm : m ≠ 0) :
    Calls Try.prog 28 #[.pointer (some ⟨B, 0, none⟩)] w fun r w' => r = .returned (.bool false) ∧ w = w' := by
  have hm' : (m == 0) = false := by simpa using hm
  go_enter Try.func28, Try.ntmps28
  go_wp2
  go_ret
  exact ⟨rfl, rfl⟩
set_option maxRecDepth 100000 in
set_option maxHeartbeats 400000 in
theorem stopped_any {B : Nat} {m l : Int} {b : Bool} {w : World} (h : w.cell? ⟨B, 2, none⟩ = some (.int .i64 m)) (hm : m ≠ 0) (h4 : w.cell? ⟨B, 4, none⟩ = some (.bool b)) (h5 : w.cell? ⟨B, 5, none⟩ = some (.int .i64 l)) :
    Calls Try.prog 35 #[.pointer (some ⟨B, 0, none⟩)] w fun r w' => r = .returned (.bool (b && decide (l = 0))) ∧ w = w' := by
  have C := none_any h hm
  go_enter Try.func35, Try.ntmps35
  go_wp2_with (first
    | (go_at_call 28; refine C.mono ?_; rintro e w' ⟨rfl, rfl⟩)
    | fail)
  all_goals (go_ret; refine ⟨?_, rfl⟩; simp_all)
theorem odd1_any {A : Nat} {p : Option Addr} {n c : Nat} {w : World} (h : w.cell? ⟨A, 0, none⟩ = some (.slice p n c)) :
    Calls Try.prog 54 #[.pointer (some ⟨A, 0, none⟩)] w fun r w' => r = .returned (.bool (decide (n ≠ 64))) ∧ Below w.heap.size w w' := by
  go_enter Try.func54, Try.ntmps54
  go_wp2
  go_ret
  refine ⟨?_, Below.refl _ _⟩
  rw [ne_int]
  by_cases e : n = 64
  · subst e; rfl
  · rw [decide_eq_true e, decide_eq_true (show ((n : Int) ≠ 64) by omega)]; rfl
theorem below1_any {A : Nat} {n : Int} {w : World} (h : w.cell? ⟨A, 0, none⟩ = some (.int .i64 n)) :
    Calls Try.prog 57 #[.pointer (some ⟨A, 0, none⟩)] w fun r w' => r = .returned (.bool (decide (n < 0))) ∧ Below w.heap.size w w' := by
  go_enter Try.func57, Try.ntmps57
  go_wp2
  go_ret
  exact ⟨rfl, Below.refl _ _⟩
theorem above1_any {A : Nat} {n : Int} {w : World} (h : w.cell? ⟨A, 0, none⟩ = some (.int .i64 n)) :
    Calls Try.prog 58 #[.pointer (some ⟨A, 0, none⟩)] w fun r w' => r = .returned (.bool (decide (64 ≤ n))) ∧ Below w.heap.size w w' := by
  go_enter Try.func58, Try.ntmps58
  go_wp2
  go_ret
  exact ⟨rfl, Below.refl _ _⟩
set_option maxRecDepth 100000 in
set_option maxHeartbeats 400000 in
theorem beyond1_any {A A' B : Nat} {k m : Int} {w : World} (h : w.cell? ⟨A, 0, none⟩ = some (.int .i64 k)) (h' : w.cell? ⟨A', 0, none⟩ = some (.pointer (some ⟨B, 0, none⟩))) (h2 : w.cell? ⟨B, 2, none⟩ = some (.int .i64 m)) :
    Calls Try.prog 55 #[.pointer (some ⟨A, 0, none⟩), .pointer (some ⟨A', 0, none⟩)] w fun r w' => r = .returned (.bool (decide (k < 0) || decide (m ≤ k))) ∧ Below w.heap.size w w' := by
  by_cases hk : k < 0
  · have hd : decide (k < 0) = true := decide_eq_true hk
    go_enter Try.func55, Try.ntmps55
    go_wp2
    go_quiet (fail)
    go_wp2
    go_ret
    exact ⟨by first | rfl | simp [hd], ((Below.refl _ _).trans (⟨rfl, rfl, rfl, Nat.le_refl _, fun _ _ => rfl⟩))⟩
  · have hd : decide (k < 0) = false := decide_eq_false hk
    go_enter Try.func55, Try.ntmps55
    go_wp2
    go_quiet (fail)
    go_wp2
    go_ret
    exact ⟨by first | rfl | simp [hd], ((Below.refl _ _).trans (⟨rfl, rfl, rfl, Nat.le_refl _, fun _ _ => rfl⟩))⟩
end Go.Proofs.Ythbnochlpnikaaa
namespace Go.Proofs.Ythbnochlpnikaaa
open Go.RowKit Go.Shelf

set_option maxRecDepth 100000 in
set_option maxHeartbeats 400000 in
theorem odd_any (p : Option Addr) (n c : Nat) (w : World) :
    Calls Try.prog 40 #[.slice p n c] w fun r w' => r = .returned (.agg #[.int .i64 2, .func (.func 54) #[] #[.pointer (some ⟨w.heap.size, 0, none⟩)]]) ∧ w'.cell? ⟨w.heap.size, 0, none⟩ = some (.slice p n c) ∧ Below w.heap.size w w' := by
  go_enter Try.func40, Try.ntmps40
  go_wp2
  refine bodyPost_ret (v := .agg #[.int .i64 2, .func (.func 54) #[] #[.pointer (some ⟨w.heap.size, 0, none⟩)]]) ?_ rfl ⟨rfl, by go_cell, (((Below.refl _ _).alloc (Nat.le_refl _) _).alloc (by simp) _)⟩
  simp [results, Try.results40, go_sem]
set_option maxRecDepth 100000 in
set_option maxHeartbeats 400000 in
theorem beyond_any (d : Option Addr) (k : Int) (w : World) :
    Calls Try.prog 41 #[.pointer d, .int .i64 k] w fun r w' => r = .returned (.agg #[.int .i64 4, .func (.func 55) #[] #[.pointer (some ⟨w.heap.size + 1, 0, none⟩), .pointer (some ⟨w.heap.size, 0, none⟩)]]) ∧ w'.cell? ⟨w.heap.size, 0, none⟩ = some (.pointer d) ∧ w'.cell? ⟨w.heap.size + 1, 0, none⟩ = some (.int .i64 k) ∧ Below w.heap.size w w' := by
  go_enter Try.func41, Try.ntmps41
  go_wp2
  refine bodyPost_ret (v := .agg #[.int .i64 4, .func (.func 55) #[] #[.pointer (some ⟨w.heap.size + 1, 0, none⟩), .pointer (some ⟨w.heap.size, 0, none⟩)]]) ?_ rfl ⟨rfl, by go_cell, by go_cell, ((((Below.refl _ _).alloc (Nat.le_refl _) _).alloc (by simp) _).alloc (by simp; omega) _)⟩
  simp [results, Try.results41, go_sem]
set_option maxRecDepth 100000 in
set_option maxHeartbeats 400000 in
theorem halted_any (d : Option Addr) (w : World) :
    Calls Try.prog 42 #[.pointer d] w fun r w' => r = .returned (.agg #[.int .i64 140, .func (.func 35) #[.pointer d] #[]]) ∧ Below w.heap.size w w' := by
  go_enter Try.func42, Try.ntmps42
  go_wp2
  refine bodyPost_ret (v := .agg #[.int .i64 140, .func (.func 35) #[.pointer d] #[]]) ?_ rfl ⟨rfl, ((Below.refl _ _).alloc (Nat.le_refl _) _)⟩
  simp [results, Try.results42, go_sem]
set_option maxRecDepth 100000 in
set_option maxHeartbeats 400000 in
theorem below_any2 (n : Int) (w : World) :
    Calls Try.prog 46 #[.int .i64 n] w fun r w' => r = .returned (.agg #[.int .i64 2, .func (.func 57) #[] #[.pointer (some ⟨w.heap.size, 0, none⟩)]]) ∧ w'.cell? ⟨w.heap.size, 0, none⟩ = some (.int .i64 n) ∧ Below w.heap.size w w' := by
  go_enter Try.func46, Try.ntmps46
  go_wp2
  refine bodyPost_ret (v := .agg #[.int .i64 2, .func (.func 57) #[] #[.pointer (some ⟨w.heap.size, 0, none⟩)]]) ?_ rfl ⟨rfl, by go_cell, (((Below.refl _ _).alloc (Nat.le_refl _) _).alloc (by simp) _)⟩
  simp [results, Try.results46, go_sem]
set_option maxRecDepth 100000 in
set_option maxHeartbeats 400000 in
theorem above_any2 (n : Int) (w : World) :
    Calls Try.prog 47 #[.int .i64 n] w fun r w' => r = .returned (.agg #[.int .i64 2, .func (.func 58) #[] #[.pointer (some ⟨w.heap.size, 0, none⟩)]]) ∧ w'.cell? ⟨w.heap.size, 0, none⟩ = some (.int .i64 n) ∧ Below w.heap.size w w' := by
  go_enter Try.func47, Try.ntmps47
  go_wp2
  refine bodyPost_ret (v := .agg #[.int .i64 2, .func (.func 58) #[] #[.pointer (some ⟨w.heap.size, 0, none⟩)]]) ?_ rfl ⟨rfl, by go_cell, (((Below.refl _ _).alloc (Nat.le_refl _) _).alloc (by simp) _)⟩
  simp [results, Try.results47, go_sem]
/-- A question: its error, the function that answers it, what that is called with, the answer. -/
structure Qn where
  e : Int
  F : Nat
  A : Array Value
  bound : Bool
  ans : Bool
def Qn.fv (q : Qn) : Value := if q.bound then .func (.func q.F) q.A #[] else .func (.func q.F) #[] q.A
structure QnOk (w : World) (q : Qn) : Prop where
  enters : ∀ (args : Array Value) (w : World), (callFunc q.F args).run Try.prog w = .ok (.enter q.F args) w
  tells : ∀ w', Below w.heap.size w w' → Calls Try.prog q.F q.A w' fun r w2 => r = .returned (.bool q.ans) ∧ Below w'.heap.size w' w2
/-- The error of the first question that is answered by yes. -/
def refE : List Qn → Int
  | [] => 0
  | q :: l => if q.ans then q.e else refE l
theorem refE_drop {l : List Qn} {i : Nat} {q : Qn} (h : l[i]? = some q) : refE (l.drop i) = if q.ans then q.e else refE (l.drop (i + 1)) := by
  rw [List.drop_eq_getElem_cons (List.getElem?_eq_some_iff.1 h).1]
  rw [(List.getElem?_eq_some_iff.1 h).2]
  rfl
def QsAt (w : World) (g : Nat) (l : List Qn) : Prop := ∀ (i : Nat) (q : Qn), l[i]? = some q → w.cell? ⟨g, i * 2, none⟩ = some (.int .i64 q.e) ∧ w.cell? ⟨g, i * 2 + 1, none⟩ = some q.fv
theorem QsAt.below {w w' : World} {g : Nat} {l : List Qn} (h : QsAt w g l) (hb : Below w.heap.size w w') : QsAt w' g l := fun i q hq => ⟨below_kept hb _ _ (h i q hq).1, below_kept hb _ _ (h i q hq).2⟩
set_option maxRecDepth 100000 in
set_option maxHeartbeats 1000000 in
theorem refusal_any {B : Nat} {m : Int} {w : World} (h : w.cell? ⟨B, 2, none⟩ = some (.int .i64 m)) (hm : m ≠ 0) (l : List Qn) (g c : Nat) (hl : l.length ≤ 10) (hq : Hid (QsAt w g l)) (ok : Hid (∀ (i : Nat) (q : Qn), l[i]? = some q → QnOk w q)) :
    Calls Try.prog 39 #[.pointer (some ⟨B, 0, none⟩), .slice (some ⟨g, 0, none⟩) l.length c] w fun r w' => r = .returned (.int .i64 (refE l)) ∧ Below w.heap.size w w' := by
  have C := none_any h hm
  go_enter Try.func39, Try.ntmps39
  go_wp2
  refine wp_scope_jumps 0 (fun a' w' => Below w.heap.size w w' ∧ ∃ (u2 u3 u6 u7 u8 u9 u10 u11 u12 u13 u14 u15 u16 u17 u18 u19 u20 u21 u22 : Value), a' = { tmps := #[.pointer (some ⟨B, 0, none⟩), .slice (some ⟨g, 0, none⟩) l.length c, u2, u3, .int .i64 0, .int .i64 (refE l), u6, u7, u8, u9, u10, u11, u12, u13, u14, u15, u16, u17, u18, u19, u20, u21, u22], defers := [] }) (fun _ _ => 0) rfl ?_ ?_
  · go_wp2_with (first
      | (go_at_call 28; refine C.mono ?_; rintro e w' ⟨rfl, rfl⟩)
      | fail)
    go_loopw [12] (fun i wr => ∃ k : Nat, k ≤ l.length ∧ i = .int .i64 k ∧ refE (l.drop k) = refE l ∧ Below w.heap.size w wr) (fun i _ => (l.length - intOf i).toNat)
    case atStart => exact ⟨0, Nat.zero_le _, by first | rfl | go_num, rfl, Below.refl _ _⟩
    case round =>
      obtain ⟨k, hk, rfl, hE, hB⟩ := hrel
      by_cases hlt : k < l.length
      · obtain ⟨q, hqk⟩ : ∃ q, l[k]? = some q := ⟨_, List.getElem?_eq_getElem hlt⟩
        obtain ⟨c0, c1⟩ := (hq.out.below hB) k q hqk
        obtain ⟨e0, F, A, bd, ans⟩ := q
        cases bd
        · have hen := (ok.out k _ hqk).enters
          have T := Lib.hid ((ok.out k _ hqk).tells _ (hB.alloc hB.size (.cells #[.int .i64 e0, .func (.func F) #[] A] 91)))
          simp only [Qn.fv, Bool.false_eq_true, if_false] at c1
          cases ans
          · go_wp2_with (first
              | (with_reducible refine T.out.mono ?_; rintro e w2 ⟨rfl, hb2⟩; have hB2 := Lib.hid ((hB.alloc hB.size (.cells #[.int .i64 e0, .func (.func F) #[] A] 91)).trans (hb2.mono (by have := hB.size; simp; omega))))
              | fail)
            go_roundw
            case rel => exact ⟨k + 1, hlt, by first | rfl | go_num, by rw [← hE, refE_drop hqk]; rfl, hB2.out⟩
            case measure => simp [intOf]; omega
          · go_wp2_with (first
              | (with_reducible refine T.out.mono ?_; rintro e w2 ⟨rfl, hb2⟩; have hB2 := Lib.hid ((hB.alloc hB.size (.cells #[.int .i64 e0, .func (.func F) #[] A] 91)).trans (hb2.mono (by have := hB.size; simp; omega))); have x0 : w2.cell? ⟨wr.heap.size, 0, none⟩ = some (.int .i64 e0) := (hb2.cell (by simp)).trans (by go_cell))
              | fail)
            go_step3
            have e5 : e0 = refE l := by rw [← hE, refE_drop hqk]; rfl
            subst e5
            exact ⟨rfl, hB2.out, _, _, _, _, _, _, _, _, _, _, _, _, _, _, _, _, _, _, _, rfl⟩
        · have hen := (ok.out k _ hqk).enters
          have T := Lib.hid ((ok.out k _ hqk).tells _ (hB.alloc hB.size (.cells #[.int .i64 e0, .func (.func F) A #[]] 91)))
          simp only [Qn.fv, if_true] at c1
          cases ans
          · go_wp2_with (first
              | (with_reducible refine T.out.mono ?_; rintro e w2 ⟨rfl, hb2⟩; have hB2 := Lib.hid ((hB.alloc hB.size (.cells #[.int .i64 e0, .func (.func F) A #[]] 91)).trans (hb2.mono (by have := hB.size; simp; omega))))
              | fail)
            go_roundw
            case rel => exact ⟨k + 1, hlt, by first | rfl | go_num, by rw [← hE, refE_drop hqk]; rfl, hB2.out⟩
            case measure => simp [intOf]; omega
          · go_wp2_with (first
              | (with_reducible refine T.out.mono ?_; rintro e w2 ⟨rfl, hb2⟩; have hB2 := Lib.hid ((hB.alloc hB.size (.cells #[.int .i64 e0, .func (.func F) A #[]] 91)).trans (hb2.mono (by have := hB.size; simp; omega))); have x0 : w2.cell? ⟨wr.heap.size, 0, none⟩ = some (.int .i64 e0) := (hb2.cell (by simp)).trans (by go_cell))
              | fail)
            go_step3
            have e5 : e0 = refE l := by rw [← hE, refE_drop hqk]; rfl
            subst e5
            exact ⟨rfl, hB2.out, _, _, _, _, _, _, _, _, _, _, _, _, _, _, _, _, _, _, _, rfl⟩
      · obtain rfl : k = l.length := by omega
        go_wp2
        simp only [Exit.jump]
        go_ret
        refine ⟨?_, hB⟩
        rw [← hE, List.drop_length]
        rfl
  · rintro a' w' ⟨hB, u2, u3, u6, u7, u8, u9, u10, u11, u12, u13, u14, u15, u16, u17, u18, u19, u20, u21, u22, rfl⟩
    go_wp2
    simp only [Exit.jump]
    go_ret
    exact ⟨rfl, hB⟩
end Go.Proofs.Ythbnochlpnikaaa
namespace Go.Proofs.Ythbnochlpnikaaa
open Go.RowKit Go.Shelf

/-- A slice of pairs of bytes. -/
def PairsAt (w : World) (p : Option Addr) (l : List (Nat × Nat)) : Prop := ∀ i x, l[i]? = some x → ∃ B off, p = some ⟨B, off, none⟩ ∧ w.cell? ⟨B, off + 2 * i, none⟩ = some (.int .u8 x.1) ∧ w.cell? ⟨B, off + (2 * i + 1), none⟩ = some (.int .u8 x.2)
theorem PairsAt.below {w w' : World} {p : Option Addr} {l : List (Nat × Nat)} (h : PairsAt w p l) (hb : Below w.heap.size w w') : PairsAt w' p l := fun i x hx => by
  obtain ⟨B, off, e, c, d⟩ := h i x hx
  exact ⟨B, off, e, below_kept hb _ _ c, below_kept hb _ _ d⟩
def atN (N : Nat) (l : List (Nat × Nat)) : List (Nat × Nat) := l.map fun x => (x.1 % N, x.2)
theorem atN_get {N : Nat} {l : List (Nat × Nat)} {i : Nat} {x : Nat × Nat} (h : l[i]? = some x) : (atN N l)[i]? = some (x.1 % N, x.2) := by unfold atN; rw [List.getElem?_map, h]; rfl
theorem atN_length (N : Nat) (l : List (Nat × Nat)) : (atN N l).length = l.length := by unfold atN; simp
theorem atN_byte {N : Nat} {l : List (Nat × Nat)} (h : ∀ x ∈ l, x.2 < 256) : ∀ x ∈ atN N l, x.2 < 256 := fun x hx => by
  unfold atN at hx
  obtain ⟨y, hy, rfl⟩ := List.mem_map.1 hx
  exact h y hy
theorem whole_run {N : Nat} {A0 A1 : List (Nat × Nat)} (hN : 1 ≤ N ∧ N ≤ 40000) (h0 : ∀ x ∈ A0, x.1 < N) (h1 : ∀ x ∈ A1, x.1 < N) : Whole ⟨N, wrs A0, wrs A1, -1⟩ :=
  ⟨hN, by simp, fun w hw => by
    unfold wrs at hw
    obtain ⟨y, hy, rfl⟩ := List.mem_map.1 hw
    exact ⟨h0 y hy, secS_size _⟩, fun w hw => by
    unfold wrs at hw
    obtain ⟨y, hy, rfl⟩ := List.mem_map.1 hw
    exact ⟨h1 y hy, secS_size _⟩⟩
theorem atN_lt {N : Nat} (hN : 1 ≤ N) (l : List (Nat × Nat)) : ∀ x ∈ atN N l, x.1 < N := fun x hx => by
  unfold atN at hx
  obtain ⟨y, hy, rfl⟩ := List.mem_map.1 hx
  exact Nat.mod_lt _ hN
theorem write_run {N : Nat} {S0 : List (Nat × ByteArray)} {l : List (Nat × Nat)} {k : Nat} {x : Nat × Nat} (hx : l[k]? = some x) (hl : x.1 < N) :
    writeS ⟨N, S0, wrs (l.take k), -1⟩ x.1 (secS x.2) = (⟨N, S0, wrs (l.take (k + 1)), -1⟩, 0) := by
  rw [writeS_ok (secS_size _) (by simp only; omega) (by simp), wrs_next hx]
  rfl
/-- A row of bytes that tells what was written last, and what stands there behind one more. -/
theorem row_next {w : World} {g N k : Nat} {l : List (Nat × Nat)} {x : Nat × Nat} (hx : l[k]? = some x) (h : w.rowIs g 5 N (fun j => .int .u8 (valN (l.take k) j))) :
    (w.setCell ⟨g, x.1, none⟩ (.int .u8 x.2)).rowIs g 5 N (fun j => .int .u8 (valN (l.take (k + 1)) j)) :=
  (h.set x.1 (.int .u8 x.2)).congr fun i hi => by
    rw [valN_next hx]
    by_cases e : i = x.1
    · subst e; rw [if_pos rfl, if_pos rfl]
    · rw [if_neg e, if_neg (fun h => e h.symm)]
/-- The first loop's run. -/
structure Ahead (Rep : DiskRep) (w0 : World) (d : Value) (N gw gn : Nat) (A0 : List (Nat × Nat)) (k : Nat) (wr : World) : Prop where
  held : HeldX Rep w0 (fun j => j = gw ∨ j = gn) wr d ⟨N, [], wrs (A0.take k), -1⟩
  below : Below w0.heap.size w0 wr
  was : wr.rowIs gw 5 N (fun j => .int .u8 (valN (A0.take k) j))
  now : wr.rowIs gn 5 N (fun j => .int .u8 (valN (A0.take k) j))
theorem setCell_size (w : World) (a : Addr) (v : Value) : (w.setCell a v).heap.size = w.heap.size := by simp [World.setCell]
theorem Ahead.next {Rep : DiskRep} (S : DiskOk Rep) {w0 : World} {d : Value} {N gw gn : Nat} {A0 : List (Nat × Nat)} {k : Nat} {wr ws wx : World} {x : Nat × Nat} (h : Ahead Rep w0 d N gw gn A0 k wr) (hx : A0[k]? = some x) (hb : Below wr.heap.size wr ws)
    (hw0 : w0.heap.size ≤ gw) (hw1 : w0.heap.size ≤ gn) (hne : gw ≠ gn) (hB : Behind Rep w0 (fun j => j = gw ∨ j = gn) d ⟨N, [], wrs (A0.take (k + 1)), -1⟩ ws wx) :
    Ahead Rep w0 d N gw gn A0 (k + 1) ((wx.setCell ⟨gw, x.1, none⟩ (.int .u8 x.2)).setCell ⟨gn, x.1, none⟩ (.int .u8 x.2)) := by
  have lw := h.was.lt
  have ln := h.now.lt
  have r1 : wx.rowIs gw 5 N (fun j => .int .u8 (valN (A0.take k) j)) := (h.was.of_block (hb.block gw lw)).of_block (hB.same gw (.inl rfl))
  have r2 : wx.rowIs gn 5 N (fun j => .int .u8 (valN (A0.take k) j)) := (h.now.of_block (hb.block gn ln)).of_block (hB.same gn (.inr rfl))
  refine ⟨hB.held.kept S (by simp [setCell_size]) (fun j hj hX _ => ?_), (hB.below.setCell hw0 _).setCell hw1 _, (row_next hx r1).setOther (by exact hne) _, row_next hx (r2.setOther (by exact fun e => hne e.symm) _)⟩
  rw [Below.heap_setCell _ _ _ _ (fun e => hX (.inr e)), Below.heap_setCell _ _ _ _ (fun e => hX (.inl e))]
theorem Ahead.drew {Rep : DiskRep} (S : DiskOk Rep) {w0 : World} {d : Value} {N gw gn : Nat} {A0 : List (Nat × Nat)} {k : Nat} {wr : World} (h : Ahead Rep w0 d N gw gn A0 k wr) : Ahead Rep w0 d N gw gn A0 k wr.drew :=
  ⟨h.held.below S (Below.refl _ _).drew, h.below.drew, h.was, h.now⟩
theorem two_set {w : World} {p q : Addr} {a b : Option Value} (h : w.cell? p = a ∧ w.cell? q = b) {g i : Nat} {v : Value} (hp : p.block ≠ g) (hq : q.block ≠ g) : (w.setCell ⟨g, i, none⟩ v).cell? p = a ∧ (w.setCell ⟨g, i, none⟩ v).cell? q = b := by
  obtain ⟨pb, po, ps⟩ := p
  obtain ⟨qb, qo, qs⟩ := q
  exact ⟨(World.cell?_of_block (Below.heap_setCell _ _ _ _ hp)).trans h.1, (World.cell?_of_block (Below.heap_setCell _ _ _ _ hq)).trans h.2⟩
end Go.Proofs.Ythbnochlpnikaaa
namespace Go.Proofs.Ythbnochlpnikaaa
open Go.RowKit Go.Shelf

theorem infoB : (Try.prog.info? 4).map (fun i => (i.zero, i.size, i.bytes)) = some (some (.bool false), 1, 1) := by kernel_rfl
theorem ownsRow_base {w : World} {b b' : Nat} {e : TypeId} {size : Nat} {v : Value} {n : Nat} {xs : List Value} (h : w.ownsRow b e size v n xs) (hb : b' ≤ b) : w.ownsRow b' e size v n xs := by
  refine ⟨h.1, ?_⟩
  rcases h.2 with h | ⟨g, cap, cur, e, hg, rest⟩
  · exact .inl h
  · exact .inr ⟨g, cap, cur, e, Nat.le_trans hb hg, rest⟩
theorem ownsRow_kept {w w' : World} {b : Nat} {e : TypeId} {size : Nat} {v : Value} {n : Nat} {xs : List Value} (h : w.ownsRow b e size v n xs) (hk : ∀ j, v.ownBlock = some j → w'.heap[j]? = w.heap[j]?) : w'.ownsRow b e size v n xs := by
  refine ⟨h.1, ?_⟩
  rcases h.2 with h | ⟨g, cap, cur, rfl, hg, hh, rest⟩
  · exact .inl h
  · exact .inr ⟨g, cap, cur, rfl, hg, (hk g rfl).trans hh, rest⟩
theorem grown_any {w w' : World} {row : Option Nat} (h : w.grownBy w' none) : w.grownBy w' row := ⟨h.os, h.tape, h.output, h.size, fun k hk _ => h.block k hk (by simp)⟩
theorem ownsRow_new {w : World} {b : Nat} {e : TypeId} {size : Nat} {v : Value} {n : Nat} {xs : List Value} (h : w.ownsRow b e size v n xs) : ∀ j, v.ownBlock = some j → b ≤ j := fun j hj => (h.lt j hj).1
set_option maxRecDepth 100000 in
theorem wpList_append_true {ops : Array Oper} {rest : List Oper} {o : Oper} {a : Act} {w : World} {Q : Exit → Act → World → Prop} (hgd : o.guard = none) (s x : Operand)
    (ho : o.op = .call { callee := .builtin .append, args := #[s, x], argTypes := #[23, 23] })
    {base n B : Nat} {v : Value} (hs : a.eval s = v) (hown : w.ownsRow base 4 1 v n (List.replicate n (.bool true))) (hx : a.eval x = .slice (some ⟨B, 0, none⟩) 1 1) (hm : w.cell? ⟨B, 0, none⟩ = some (.bool true)) (hn : n ≤ 100000) (hbase : base ≤ w.heap.size)
    (h : ∀ v' w', w'.ownsRow base 4 1 v' (n + 1) (List.replicate (n + 1) (.bool true)) → w.grownBy w' v.ownBlock → (∀ j, v'.ownBlock = some j → v.ownBlock = some j ∨ w.heap.size ≤ j) → wpList Try.prog ops Q rest (a.put o.dst v') w') : wpList Try.prog ops Q (o :: rest) a w := by
  obtain ⟨j0, hj, hz0, hz1, hz2⟩ := info_parts infoB
  have hnews : ∀ (j : Nat) (u : Value), [Value.bool true][j]? = some u → w.cell? ((⟨B, 0, none⟩ : Addr).add j) = some u := fun j u hu => by
    cases j with
    | zero => simp at hu; subst hu; rw [addr_plain]; exact hm
    | succ j => simp at hu
  have h1 : ∀ u ∈ [Value.bool true], u.oneCell' = true := fun u hu => by simp at hu; subst hu; rfl
  have hrep : List.replicate n (Value.bool true) ++ [.bool true] = List.replicate (n + 1) (.bool true) := by rw [List.replicate_succ']
  have hlen := hown.1
  rcases hown.2 with ⟨rfl, rfl⟩ | ⟨g, cap, cur, rfl, hbg, hg, hnc, hcm, hcs, htake⟩
  · refine wpList_append_grows w hgd s x _ ho 4 j0 (.bool false) 1 1 Try.underlying23 hj hz0 hz1 hz2 rfl (by decide) none 0 0 [] hs (fun _ => ⟨rfl, rfl⟩) rfl (fun b hb => by cases hb) ⟨B, 0, none⟩ 1 1 [.bool true] hx rfl hnews h1 (by omega) (by unfold maxLen; omega) (by omega) ?_
    intro v' w' hv hgr
    exact h v' w' (ownsRow_base hv hbase) (grown_any hgr) (fun j hj => .inr (ownsRow_new hv j hj))
  · by_cases hroom : n + 1 ≤ cap
    · refine wpList_append_own_spare w hgd s x _ ho base 4 j0 1 Try.underlying23 hj hz1 g n cap _ hs hown ⟨B, 0, none⟩ 1 1 [.bool true] hx rfl hnews h1 hroom ?_
      intro w' hv hgr
      exact h _ w' (by rw [← hrep]; exact hv) hgr (fun j hj => .inl hj)
    · refine wpList_append_grows w hgd s x _ ho 4 j0 (.bool false) 1 1 Try.underlying23 hj hz0 hz1 hz2 rfl (by decide) (some ⟨g, 0, none⟩) n cap (List.replicate n (.bool true)) hs (fun hb => by cases hb) hlen (fun b hb j u hu => by
        injection hb with hb
        subst hb
        exact hown.cells (g := g) rfl j u hu) ⟨B, 0, none⟩ 1 1 [.bool true] hx rfl hnews h1 (by omega) (by unfold maxLen; omega) (by omega) ?_
      intro v' w' hv hgr
      rw [hrep] at hv
      exact h v' w' (ownsRow_base hv hbase) (grown_any hgr) (fun j hj => .inr (ownsRow_new hv j hj))
end Go.Proofs.Ythbnochlpnikaaa
namespace Go.Proofs.Ythbnochlpnikaaa
open Go.RowKit Go.Shelf

def wcs : List (Nat × ByteArray) → List Value
  | [] => []
  | x :: l => (.int .i64 x.1 :: bL x.2) ++ wcs l
theorem wcs_append (l m : List (Nat × ByteArray)) : wcs (l ++ m) = wcs l ++ wcs m := by
  induction l with
  | nil => rfl
  | cons x l ih => simp only [List.cons_append, wcs, ih, List.append_assoc]
theorem wcs_length (l : List (Nat × ByteArray)) (h : ∀ x ∈ l, x.2.size = 64) : (wcs l).length = l.length * 65 := by
  induction l with
  | nil => rfl
  | cons x l ih =>
    simp only [wcs, List.length_append, List.length_cons, bL_length, h x (by simp), ih (fun y hy => h y (by simp [hy]))]
    omega
theorem wcs_one (l : List (Nat × ByteArray)) : ∀ u ∈ wcs l, u.oneCell' = true := by
  induction l with
  | nil => intro u hu; cases hu
  | cons x l ih =>
    intro u hu
    simp only [wcs, List.mem_append, List.mem_cons] at hu
    rcases hu with (rfl | hu) | hu
    · rfl
    · exact bL_one _ _ hu
    · exact ih u hu
/-- A disk: its block, its two maps, its row of loose writes. -/
structure DiskAt (w : World) (B b1 b2 : Nat) (v : Value) (s : DS) : Prop where
  cells : w.heap[B]? = some (.cells #[.map (some b1), .map (some b2), .int .i64 s.many, v, .bool (decide (0 ≤ s.left)), .int .i64 (s.left.toNat : Int)] 65 (0, 0))
  left : s.left ≤ 9223372036854775807
  ne : b1 ≠ b2
  row : w.ownsRow 0 78 65 v s.loose.length (wcs s.loose)
  off : v.ownBlock ≠ some B
  now : MapIs w b1 s.many (sectorS s)
  sync : MapIs w b2 s.many (lastS s.sync)
def FootOf (B b1 b2 : Nat) (v : Value) : Nat → Prop := fun k => k = B ∨ k = b1 ∨ k = b2 ∨ v.ownBlock = some k
def RepD : DiskRep := fun w d s F => ∃ B b1 b2 v, d = .pointer (some ⟨B, 0, none⟩) ∧ DiskAt w B b1 b2 v s ∧ F = FootOf B b1 b2 v
theorem lt_of_heap {w : World} {k : Nat} {o : Obj} (h : w.heap[k]? = some o) : k < w.heap.size := (Array.getElem?_eq_some_iff.1 h).1
theorem DiskAt.low {w : World} {B b1 b2 : Nat} {v : Value} {s : DS} (h : DiskAt w B b1 b2 v s) : ∀ k, FootOf B b1 b2 v k → k < w.heap.size := by
  rintro k (rfl | rfl | rfl | hk)
  · exact lt_of_heap h.cells
  · exact h.now.lt
  · exact h.sync.lt
  · exact (h.row.lt k hk).2
theorem DiskAt.keep {w w' : World} {B b1 b2 : Nat} {v : Value} {s : DS} (h : DiskAt w B b1 b2 v s) (hk : ∀ k, FootOf B b1 b2 v k → w'.heap[k]? = w.heap[k]?) : DiskAt w' B b1 b2 v s :=
  ⟨(hk B (.inl rfl)).trans h.cells, h.left, h.ne, ownsRow_kept h.row (fun j hj => hk j (.inr (.inr (.inr hj)))), h.off, h.now.of_block (hk b1 (.inr (.inl rfl))), h.sync.of_block (hk b2 (.inr (.inr (.inl rfl))))⟩
theorem DiskAt.below {w w' : World} {B b1 b2 : Nat} {v : Value} {s : DS} (h : DiskAt w B b1 b2 v s) (hb : Below w.heap.size w w') : DiskAt w' B b1 b2 v s := h.keep fun k hk => hb.block k (h.low k hk)
theorem DiskAt.cell {w : World} {B b1 b2 : Nat} {v : Value} {s : DS} (h : DiskAt w B b1 b2 v s) : w.cell? ⟨B, 0, none⟩ = some (.map (some b1)) ∧ w.cell? ⟨B, 1, none⟩ = some (.map (some b2)) ∧ w.cell? ⟨B, 2, none⟩ = some (.int .i64 s.many) ∧ w.cell? ⟨B, 3, none⟩ = some v ∧ w.cell? ⟨B, 4, none⟩ = some (.bool (decide (0 ≤ s.left))) ∧ w.cell? ⟨B, 5, none⟩ = some (.int .i64 (s.left.toNat : Int)) := by
  have hc := fun j => cell_of_row w B j _ 65 (0, 0) h.cells
  exact ⟨hc 0, hc 1, hc 2, hc 3, hc 4, hc 5⟩
theorem DiskAt.frozen {w : World} {B b1 b2 : Nat} {v : Value} {s : DS} (h : DiskAt w B b1 b2 v s) (j : Nat) : w.frozen? ⟨B, j, none⟩ = false := frozen_of_row w B j _ 65 h.cells
theorem repD_low (w : World) (d : Value) (s : DS) (F : Nat → Prop) (h : RepD w d s F) : ∀ k, F k → k < w.heap.size := by
  obtain ⟨B, b1, b2, v, rfl, h, rfl⟩ := h
  exact h.low
theorem repD_keep (w w' : World) (d : Value) (s : DS) (F : Nat → Prop) (h : RepD w d s F) (_ : w.heap.size ≤ w'.heap.size) (hk : ∀ k, F k → w'.heap[k]? = w.heap[k]?) : RepD w' d s F := by
  obtain ⟨B, b1, b2, v, rfl, h, rfl⟩ := h
  exact ⟨B, b1, b2, v, rfl, h.keep hk, rfl⟩
/-- The questions of a disk. -/
theorem left_zero {s : DS} : (decide (0 ≤ s.left) && decide ((s.left.toNat : Int) = 0)) = decide (s.left = 0) := by
  rw [Bool.eq_iff_iff]
  simp
  omega
def qHalted (B : Nat) (s : DS) : Qn := ⟨140, 35, #[.pointer (some ⟨B, 0, none⟩)], true, decide (s.left = 0)⟩
def qBeyond (A A' : Nat) (k : Int) (s : DS) : Qn := ⟨4, 55, #[.pointer (some ⟨A, 0, none⟩), .pointer (some ⟨A', 0, none⟩)], false, decide (k < 0) || decide ((s.many : Int) ≤ k)⟩
def qOdd (A n : Nat) : Qn := ⟨2, 54, #[.pointer (some ⟨A, 0, none⟩)], false, decide (n ≠ 64)⟩
def qBelow (A : Nat) (n : Int) : Qn := ⟨2, 57, #[.pointer (some ⟨A, 0, none⟩)], false, decide (n < 0)⟩
def qAbove (A : Nat) (n : Int) : Qn := ⟨2, 58, #[.pointer (some ⟨A, 0, none⟩)], false, decide (64 ≤ n)⟩
theorem below_same {w w' : World} (h : w = w') : Below w.heap.size w w' := h ▸ Below.refl _ _
theorem qHalted_ok {w : World} {B b1 b2 : Nat} {v : Value} {s : DS} (h : DiskAt w B b1 b2 v s) (hm : 1 ≤ s.many) : QnOk w (qHalted B s) :=
  ⟨enters_of Try.func35 (by kernel_rfl) rfl, fun w' hb => by
    obtain ⟨-, -, c2, -, c4, c5⟩ := (h.below hb).cell
    refine (stopped_any c2 (by omega) c4 c5).mono ?_
    rintro e w2 ⟨rfl, e⟩
    exact ⟨by rw [left_zero]; rfl, below_same e⟩⟩
theorem qBeyond_ok {w : World} {B b1 b2 : Nat} {v : Value} {s : DS} (h : DiskAt w B b1 b2 v s) {A A' : Nat} {k : Int} (h0 : w.cell? ⟨A, 0, none⟩ = some (.int .i64 k)) (h1 : w.cell? ⟨A', 0, none⟩ = some (.pointer (some ⟨B, 0, none⟩))) : QnOk w (qBeyond A A' k s) :=
  ⟨enters_of Try.func55 (by kernel_rfl) rfl, fun w' hb => beyond1_any (below_kept hb _ _ h0) (below_kept hb _ _ h1) (h.below hb).cell.2.2.1⟩
theorem qOdd_ok {w : World} {A : Nat} {p : Option Addr} {n c : Nat} (h0 : w.cell? ⟨A, 0, none⟩ = some (.slice p n c)) : QnOk w (qOdd A n) :=
  ⟨enters_of Try.func54 (by kernel_rfl) rfl, fun w' hb => odd1_any (below_kept hb _ _ h0)⟩
theorem qBelow_ok {w : World} {A : Nat} {n : Int} (h0 : w.cell? ⟨A, 0, none⟩ = some (.int .i64 n)) : QnOk w (qBelow A n) :=
  ⟨enters_of Try.func57 (by kernel_rfl) rfl, fun w' hb => below1_any (below_kept hb _ _ h0)⟩
theorem qAbove_ok {w : World} {A : Nat} {n : Int} (h0 : w.cell? ⟨A, 0, none⟩ = some (.int .i64 n)) : QnOk w (qAbove A n) :=
  ⟨enters_of Try.func58 (by kernel_rfl) rfl, fun w' hb => above1_any (below_kept hb _ _ h0)⟩
end Go.Proofs.Ythbnochlpnikaaa
namespace Go.Proofs.Ythbnochlpnikaaa
open Go.RowKit Go.Shelf

set_option maxRecDepth 100000 in
set_option maxHeartbeats 400000 in
theorem noughts_any (w : World) : Calls Try.prog 21 #[] w fun r w' => ∃ b, r = .returned (.agg #[.map (some b)]) ∧ w.heap.size ≤ b ∧ (∀ m, m ≤ 40000 → MapIs w' b m (fun _ => secS 0)) ∧ Below w.heap.size w w' := by
  have hmm := @run_makeMap Try.prog
  go_enter Try.func21, Try.ntmps21
  go_wp2
  refine bodyPost_ret (v := .agg #[.map (some (w.heap.size + 1))]) ?_ rfl ⟨_, rfl, by omega, fun m hm => ?_, ((Below.refl _ _).alloc (Nat.le_refl _) _).alloc (by simp) _⟩
  · simp [results, Try.results21, go_sem]
  · have := MapIs.made (w.alloc (.cells #[.map (some (w.heap.size + 1))] 59)) hm
    rwa [World.size_alloc] at this
set_option maxRecDepth 100000 in
set_option maxHeartbeats 400000 in
theorem dnew_any (n : Nat) (w : World) (hn : 1 ≤ n ∧ n ≤ 40000) : Calls Try.prog 7 #[.int .i64 n] w fun r w' => ∃ d F, r = .returned (.tuple #[d, .int .i64 0]) ∧ RepD w' d (newS n) F ∧ (∀ k, F k → w.heap.size ≤ k) ∧ Below w.heap.size w w' := by
  have h1 : ¬ ((n : Int) < 1) := by omega
  have h2 : ¬ ((40000 : Int) < n) := by omega
  have h1' : decide ((n : Int) < 1) = false := decide_eq_false h1
  have h2' : decide ((40000 : Int) < n) = false := decide_eq_false h2
  go_enter Try.func7, Try.ntmps7
  go_wp2_with fail
  refine (noughts_any _).mono ?_
  rintro e wa ⟨b1, rfl, hb1, M1, Ba⟩
  go_wp2_with fail
  refine (noughts_any _).mono ?_
  rintro e wb ⟨b2, rfl, hb2, M2, Bb⟩
  go_wp2_with fail
  go_ret2
  have hN : ∀ k, sectorS (newS n) k = secS 0 := fun k => rfl
  refine ⟨.pointer (some ⟨wb.heap.size, 0, none⟩), _, rfl, ⟨wb.heap.size, b1, b2, .slice none 0 0, rfl, ⟨?_, by simp [newS], ?_, ⟨rfl, .inl ⟨rfl, rfl⟩⟩, by simp [Value.ownBlock], ?_, ?_⟩, rfl⟩, ?_, ?_⟩
  · exact heap_alloc_new _ _
  · have := (M1 1 (by omega)).lt
    omega
  · exact ((M1 n hn.2).below Bb).below ((Below.refl _ _).alloc (Nat.le_refl _) _)
  · exact (M2 n hn.2).below ((Below.refl _ _).alloc (Nat.le_refl _) _)
  · rintro k (rfl | rfl | rfl | hk)
    · exact Nat.le_trans Ba.size Bb.size
    · exact hb1
    · exact Nat.le_trans Ba.size hb2
    · cases hk
  · exact (Ba.trans (Bb.mono Ba.size)).alloc (Nat.le_trans Ba.size Bb.size) _
theorem beyond_ans {s : DS} {k : Int} : (decide (k < 0) || decide ((s.many : Int) ≤ k)) = decide (k < 0 ∨ (s.many : Int) ≤ k) := by
  rw [Bool.eq_iff_iff]; simp
theorem refE_if {q : Qn} {l : List Qn} {p : Prop} [Decidable p] (h : q.ans = decide p) : refE (q :: l) = if p then q.e else refE l := by
  have e : refE (q :: l) = if q.ans = true then q.e else refE l := rfl
  rw [e]
  by_cases hp : p
  · rw [if_pos hp, if_pos (by rw [h]; exact decide_eq_true hp)]
  · rw [if_neg hp, if_neg (by rw [h]; simp [hp])]
/-- What Read's questions tell. -/
theorem ref_read (B A A' : Nat) (k : Int) (s : DS) : refE [qBeyond A A' k s, qHalted B s] = (readS s k).2 := by
  rw [refE_if (p := k < 0 ∨ (s.many : Int) ≤ k) beyond_ans, refE_if (p := s.left = 0) rfl]
  unfold readS
  split
  · rfl
  · split <;> rfl
theorem qs2 {w : World} {q1 q2 : Qn} : QsAt (w.alloc (.cells #[.int .i64 q1.e, q1.fv, .int .i64 q2.e, q2.fv] 91)) w.heap.size [q1, q2] := fun i q hq => by
  rcases i with _ | _ | i
  · injection hq with hq; subst hq; exact ⟨by go_cell, by go_cell⟩
  · injection hq with hq; subst hq; exact ⟨by go_cell, by go_cell⟩
  · cases hq
theorem qs1 {w : World} {q1 : Qn} : QsAt (w.alloc (.cells #[.int .i64 q1.e, q1.fv] 91)) w.heap.size [q1] := fun i q hq => by
  rcases i with _ | i
  · injection hq with hq; subst hq; exact ⟨by go_cell, by go_cell⟩
  · cases hq
theorem qs3 {w : World} {q1 q2 q3 : Qn} : QsAt (w.alloc (.cells #[.int .i64 q1.e, q1.fv, .int .i64 q2.e, q2.fv, .int .i64 q3.e, q3.fv] 91)) w.heap.size [q1, q2, q3] := fun i q hq => by
  rcases i with _ | _ | _ | i
  · injection hq with hq; subst hq; exact ⟨by go_cell, by go_cell⟩
  · injection hq with hq; subst hq; exact ⟨by go_cell, by go_cell⟩
  · injection hq with hq; subst hq; exact ⟨by go_cell, by go_cell⟩
  · cases hq
theorem ok1 {w : World} {q1 : Qn} (h1 : QnOk w q1) : ∀ (i : Nat) (q : Qn), [q1][i]? = some q → QnOk w q := fun i q hq => by
  rcases i with _ | i
  · injection hq with hq; subst hq; exact h1
  · cases hq
theorem ok2 {w : World} {q1 q2 : Qn} (h1 : QnOk w q1) (h2 : QnOk w q2) : ∀ (i : Nat) (q : Qn), [q1, q2][i]? = some q → QnOk w q := fun i q hq => by
  rcases i with _ | _ | i
  · injection hq with hq; subst hq; exact h1
  · injection hq with hq; subst hq; exact h2
  · cases hq
theorem ok3 {w : World} {q1 q2 q3 : Qn} (h1 : QnOk w q1) (h2 : QnOk w q2) (h3 : QnOk w q3) : ∀ (i : Nat) (q : Qn), [q1, q2, q3][i]? = some q → QnOk w q := fun i q hq => by
  rcases i with _ | _ | _ | i
  · injection hq with hq; subst hq; exact h1
  · injection hq with hq; subst hq; exact h2
  · injection hq with hq; subst hq; exact h3
  · cases hq
theorem QnOk.below {w w' : World} {q : Qn} (h : QnOk w q) (hb : Below w.heap.size w w') : QnOk w' q := ⟨h.enters, fun w2 h2 => h.tells w2 (kbT hb h2)⟩
theorem refuse1 {w : World} {B b1 b2 : Nat} {v : Value} {s : DS} (h : DiskAt w B b1 b2 v s) (hm : 1 ≤ s.many) {q1 : Qn} (k1 : QnOk w q1) :
    Calls Try.prog 39 #[.pointer (some ⟨B, 0, none⟩), .slice (some ⟨w.heap.size, 0, none⟩) 1 1] (w.alloc (.cells #[.int .i64 q1.e, q1.fv] 91)) fun r w' => r = .returned (.int .i64 (refE [q1])) ∧ Below w.heap.size w w' := by
  have Bw : Below w.heap.size w (w.alloc (.cells #[.int .i64 q1.e, q1.fv] 91)) := (Below.refl _ _).alloc (Nat.le_refl _) _
  refine (refusal_any (h.below Bw).cell.2.2.1 (by omega) [q1] w.heap.size 1 (by simp) (Lib.hid qs1) (Lib.hid (ok1 (k1.below Bw)))).mono ?_
  rintro e w2 ⟨rfl, hb⟩
  exact ⟨rfl, kbT Bw hb⟩
theorem refuse2 {w : World} {B b1 b2 : Nat} {v : Value} {s : DS} (h : DiskAt w B b1 b2 v s) (hm : 1 ≤ s.many) {q1 q2 : Qn} (k1 : QnOk w q1) (k2 : QnOk w q2) :
    Calls Try.prog 39 #[.pointer (some ⟨B, 0, none⟩), .slice (some ⟨w.heap.size, 0, none⟩) 2 2] (w.alloc (.cells #[.int .i64 q1.e, q1.fv, .int .i64 q2.e, q2.fv] 91)) fun r w' => r = .returned (.int .i64 (refE [q1, q2])) ∧ Below w.heap.size w w' := by
  have Bw : Below w.heap.size w (w.alloc (.cells #[.int .i64 q1.e, q1.fv, .int .i64 q2.e, q2.fv] 91)) := (Below.refl _ _).alloc (Nat.le_refl _) _
  refine (refusal_any (h.below Bw).cell.2.2.1 (by omega) [q1, q2] w.heap.size 2 (by simp) (Lib.hid qs2) (Lib.hid (ok2 (k1.below Bw) (k2.below Bw)))).mono ?_
  rintro e w2 ⟨rfl, hb⟩
  exact ⟨rfl, kbT Bw hb⟩
theorem refuse3 {w : World} {B b1 b2 : Nat} {v : Value} {s : DS} (h : DiskAt w B b1 b2 v s) (hm : 1 ≤ s.many) {q1 q2 q3 : Qn} (k1 : QnOk w q1) (k2 : QnOk w q2) (k3 : QnOk w q3) :
    Calls Try.prog 39 #[.pointer (some ⟨B, 0, none⟩), .slice (some ⟨w.heap.size, 0, none⟩) 3 3] (w.alloc (.cells #[.int .i64 q1.e, q1.fv, .int .i64 q2.e, q2.fv, .int .i64 q3.e, q3.fv] 91)) fun r w' => r = .returned (.int .i64 (refE [q1, q2, q3])) ∧ Below w.heap.size w w' := by
  have Bw : Below w.heap.size w (w.alloc (.cells #[.int .i64 q1.e, q1.fv, .int .i64 q2.e, q2.fv, .int .i64 q3.e, q3.fv] 91)) := (Below.refl _ _).alloc (Nat.le_refl _) _
  refine (refusal_any (h.below Bw).cell.2.2.1 (by omega) [q1, q2, q3] w.heap.size 3 (by simp) (Lib.hid qs3) (Lib.hid (ok3 (k1.below Bw) (k2.below Bw) (k3.below Bw)))).mono ?_
  rintro e w2 ⟨rfl, hb⟩
  exact ⟨rfl, kbT Bw hb⟩
theorem kbP {w w1 w2 : World} (h1 : Below w.heap.size w w1) (h2 : Below w1.heap.size w1 w2) : Below w.heap.size w w2 := kbT h1 h2
theorem tellB_nil (w w' : World) (h : Below w.heap.size w w') : TellB w [] (.slice none 0 0) w' := ⟨⟨none, 0, rfl, Nat.le_refl _, by unfold maxLen; omega, fun i hi => absurd hi (Nat.not_lt_zero i), fun a e => by cases e⟩, h⟩
theorem bytesAt_sec (w : World) {l : List Nat} (hb : ∀ x ∈ l, x < 256) (t : TypeId) : BytesAt (w.alloc (.cells (bV (strOf l)) t)) (some ⟨w.heap.size, 0, none⟩) l := by
  have := bytesAt_new w l t
  rw [show bV (strOf l) = (l.map fun (v : Nat) => Value.int .u8 (v : Int)).toArray by simp only [bV, bL_strOf l hb, u8s]]
  exact this
theorem tellB_sec {w w1 : World} {l : List Nat} {X : Obj} (hl : l.length = 64) (hb : ∀ x ∈ l, x < 256) (hB : Below w.heap.size w w1) : TellB w l (.slice (some ⟨w1.heap.size + 1, 0, none⟩) 64 64) ((w1.alloc X).alloc (.cells (bV (strOf l)) 76)) := by
  refine ⟨⟨_, 64, by rw [hl], by omega, by unfold maxLen; omega, ?_, fun a e => by injection e with e; subst e; have := hB.size; simp only; omega⟩, (hB.alloc hB.size _).alloc (by have := hB.size; simp; omega) _⟩
  have := bytesAt_sec (w1.alloc X) hb 76
  rwa [World.size_alloc] at this
set_option maxRecDepth 100000 in
set_option maxHeartbeats 1000000 in
theorem dread_any {w : World} {d : Value} {s : DS} {F : Nat → Prop} (k : Int) (h : RepD w d s F) (hW : Whole s) :
    Calls Try.prog 19 #[d, .int .i64 k] w fun r w' => ∃ t l, r = .returned (.tuple #[t, .int .i64 (readS s k).2]) ∧ TellB w l t w' ∧ (∀ b ∈ l, b < 256) ∧ strOf l = (readS s k).1 := by
  obtain ⟨B, b1, b2, v, rfl, h, -⟩ := h
  have hm := hW.many.1
  go_enter Try.func19, Try.ntmps19
  go_wp2_with fail
  refine (beyond_any _ _ _).mono ?_
  rintro e wa ⟨rfl, a0, a1, Ba⟩
  go_wp2_with fail
  refine (halted_any _ _).mono ?_
  rintro e wb ⟨rfl, Bb⟩
  go_wp2_with fail
  have hB := kbP Ba Bb
  refine (refuse2 (q1 := qBeyond (w.heap.size + 1) w.heap.size k s) (q2 := qHalted B s) (h.below hB) hm (qBeyond_ok (h.below hB) (below_kept Bb _ _ a1) (below_kept Bb _ _ a0)) (qHalted_ok (h.below hB) hm)).mono ?_
  rintro e wc ⟨rfl, Bc⟩
  rw [ref_read]
  have hC := kbP hB Bc
  clear a0 a1
  by_cases h0 : k < 0 ∨ (s.many : Int) ≤ k
  · have e : readS s k = (⟨#[]⟩, 4) := by unfold readS; rw [if_pos h0]
    rw [e]
    go_wp2_with fail
    go_ret2
    rw [e]
    exact ⟨_, [], rfl, tellB_nil _ _ hC, (fun b hb => by cases hb), rfl⟩
  · by_cases h1 : s.left = 0
    · have e : readS s k = (⟨#[]⟩, 140) := by unfold readS; rw [if_neg h0, if_pos h1]
      rw [e]
      go_wp2_with fail
      go_ret2
      rw [e]
      exact ⟨_, [], rfl, tellB_nil _ _ hC, (fun b hb => by cases hb), rfl⟩
    · have e : readS s k = (sectorS s k.toNat, 0) := by unfold readS; rw [if_neg h0, if_neg h1]
      obtain ⟨n, rfl⟩ : ∃ n : Nat, k = n := ⟨k.toNat, by omega⟩
      have hn : n < s.many := by omega
      rw [e, Int.toNat_natCast]
      have hD := h.below hC
      obtain ⟨c0, -, -, -, -, -⟩ := hD.cell
      have hz := hD.now.size n hn
      obtain ⟨l, hl1, hl2, hl3⟩ := bytes_of (sectorS s n)
      go_wp2_with (first
        | (go_at_call 50; refine (bytes_any hD.now hn).mono ?_; rintro e w' ⟨rfl, rfl⟩)
        | fail)
      go_ret2
      rw [e]
      refine ⟨_, l, rfl, ?_, hl2, hl3.symm⟩
      exact tellB_sec (by omega) hl2 hC
end Go.Proofs.Ythbnochlpnikaaa
namespace Go.Proofs.Ythbnochlpnikaaa
open Go.RowKit Go.Shelf

def wV (k : Int) (c : ByteArray) : Array Value := (.int .i64 k :: bL c).toArray
theorem wV_size {k : Int} {c : ByteArray} (hc : c.size = 64) : (wV k c).size = 65 := by
  simp only [wV, List.size_toArray, List.length_cons, bL_length, hc]
theorem wV_one (k : Int) (c : ByteArray) : (wV k c).all (·.oneCell') = true := by
  rw [Array.all_eq_true_iff_forall_mem]
  intro u hu
  simp only [wV, List.mem_toArray, List.mem_cons] at hu
  rcases hu with rfl | hu
  · rfl
  · exact bL_one c u hu
def zW : Array Value := (List.replicate 64 (Value.int .u8 0)).toArray
def z78 : Array Value := (.int .i64 0 :: List.replicate 64 (Value.int .u8 0)).toArray
theorem built78 (l : List (Nat × Value)) : Try.prog.built 78 l = Instr.fill (fun x => (#[(0, 1), (1, 64)] : Array (Nat × Nat))[x]?) z78 l := by kernel_rfl
theorem foldl_arr (off : Nat) (v cs : Array Value) : (v.zipIdx.foldl (fun cs (x : Value × Nat) => cs.setIfInBounds (off + x.2) x.1) cs).size = cs.size ∧ ∀ k, (v.zipIdx.foldl (fun cs (x : Value × Nat) => cs.setIfInBounds (off + x.2) x.1) cs)[k]? = if off ≤ k ∧ k < off + v.size ∧ k < cs.size then v[k - off]? else cs[k]? := by
  have := Great.foldl_set off v.toList 0 cs
  rw [← Array.foldl_toList, Array.toList_zipIdx]
  simpa using this
theorem built_write {k : Int} {c : ByteArray} (hc : c.size = 64) : Try.prog.built 78 [(0, .int .i64 k), (1, .agg (bV c))] = some (wV k c) := by
  rw [built78]
  have h1 : (Value.int .i64 k).cells = #[.int .i64 k] := rfl
  have h2 : (Value.agg (bV c)).cells = bV c := rfl
  have hs : (bV c).size = 64 := by rw [bV_size, hc]
  have hz : z78.size = 65 := by simp [z78]
  simp only [Instr.fill, h1, h2, hs]
  have e1 : (#[(0, 1), (1, 64)] : Array (Nat × Nat))[0]? = some (0, 1) := rfl
  have e2 : (#[(0, 1), (1, 64)] : Array (Nat × Nat))[1]? = some (1, 64) := rfl
  simp only [e1, e2]
  obtain ⟨g1, g2⟩ := foldl_arr 0 #[.int .i64 k] z78
  obtain ⟨g3, g4⟩ := foldl_arr 1 (bV c) ((#[Value.int .i64 k] : Array Value).zipIdx.foldl (fun cs (x : Value × Nat) => cs.setIfInBounds (0 + x.2) x.1) z78)
  rw [if_neg (by simp [hz]), if_neg (by simp [hz])]
  congr 1
  apply Array.ext_getElem?
  intro i
  rw [g4 i, g2 i, g1]
  simp only [hs, hz]
  have hl : (bL c).length = 64 := by rw [bL_length, hc]
  by_cases h0 : i = 0
  · subst h0
    simp [wV]
  · obtain ⟨j, rfl⟩ : ∃ j, i = j + 1 := ⟨i - 1, by omega⟩
    by_cases hi : j < 64
    · rw [if_pos (by omega)]
      simp [wV, bV]
    · rw [if_neg (by omega), if_neg (by simp)]
      have e3 : (wV k c)[j + 1]? = none := by
        rw [Array.getElem?_eq_none_iff, wV_size hc]
        omega
      rw [e3, Array.getElem?_eq_none_iff, hz]
      omega
theorem fold_write {k : Int} {c : ByteArray} (hc : c.size = 64) : Array.foldl (fun cs (x : Value × Nat) => cs.setIfInBounds (1 + x.snd) x.fst) (Try.zeroCells78.setIfInBounds 0 (Value.int .i64 k)) (bV c).zipIdx 0 64 = wV k c := by
  have h := built_write (k := k) hc
  rw [built78] at h
  have h1 : (Value.int .i64 k).cells = #[.int .i64 k] := rfl
  have h2 : (Value.agg (bV c)).cells = bV c := rfl
  have hs : (bV c).size = 64 := by rw [bV_size, hc]
  have hz : z78.size = 65 := by simp [z78]
  have e0 : Try.zeroCells78 = z78 := by kernel_rfl
  simp only [Instr.fill, h1, h2, hs] at h
  have e1 : (#[(0, 1), (1, 64)] : Array (Nat × Nat))[0]? = some (0, 1) := rfl
  have e2 : (#[(0, 1), (1, 64)] : Array (Nat × Nat))[1]? = some (1, 64) := rfl
  simp only [e1, e2] at h
  rw [if_neg (by simp [hz]), if_neg (by simp [hz])] at h
  injection h with h
  rw [← h, e0]
  congr 1
  rw [Array.size_zipIdx]
  exact hs.symm
theorem fold_row {v : Array Value} (n : Nat) (hv : v.size = n) (L : Array Value) (hL : L.size = n) : Array.foldl (fun cs (x : Value × Nat) => cs.setIfInBounds x.snd x.fst) L v.zipIdx 0 n = v := by
  obtain ⟨g1, g2⟩ := foldl_arr 0 v L
  simp only [Nat.zero_add] at g1 g2
  have e : Array.foldl (fun cs (x : Value × Nat) => cs.setIfInBounds x.snd x.fst) L v.zipIdx 0 n = Array.foldl (fun cs (x : Value × Nat) => cs.setIfInBounds x.snd x.fst) L v.zipIdx := by
    congr 1
    rw [Array.size_zipIdx, hv]
  rw [e]
  apply Array.ext_getElem?
  intro i
  rw [g2 i]
  by_cases hi : i < n
  · rw [if_pos (by omega), Nat.sub_zero]
  · rw [if_neg (by omega), Array.getElem?_eq_none (by omega), Array.getElem?_eq_none (by omega)]
theorem run_build_write {k : Int} {c : ByteArray} (hc : c.size = 64) (w : World) : (Instr.build 78 #[(0, .int .i64 k), (1, .agg (bV c))]).run Try.prog w = .ok (.agg (wV k c)) w :=
  run_build w 78 _ _ (built_write hc)
theorem info78 : (Try.prog.info? 78).map (fun i => (i.zero, i.size, i.bytes)) = some (some (.agg z78), 65, 72) := by kernel_rfl
theorem run_row_write {k : Int} {c : ByteArray} (hc : c.size = 64) (w : World) : (Instr.buildSlice 61 1 #[(0, .agg (wV k c))]).run Try.prog w = .ok (.slice (some ⟨w.heap.size, 0, none⟩) 1 1) (w.alloc (.cells (wV k c) 78)) := by
  obtain ⟨j, hj, hz, hs, -⟩ := info_parts info78
  refine run_buildSlice w 61 78 1 _ (wV k c) j (.agg z78) Try.underlying61 hj hz (by rw [hs]; omega) (by rw [hs]; omega) ?_
  rw [hs]
  have := Great.fill_whole (s := 65) (by omega) [Value.agg (wV k c)] ((Array.range (1 * 65)).map ((Value.agg z78).cells[· % (Value.agg z78).cells.size]!)) (fun v hv => by
    simp at hv
    subst hv
    exact wV_size hc) (by simp)
  simpa [Value.cells] using this
end Go.Proofs.Ythbnochlpnikaaa
namespace Go.Proofs.Ythbnochlpnikaaa
open Go.RowKit Go.Shelf

theorem wcs_snoc (l : List (Nat × ByteArray)) (k : Nat) (c : ByteArray) : wcs (l ++ [(k, c)]) = wcs l ++ (.int .i64 (k : Int) :: bL c) := by
  rw [wcs_append]
  simp [wcs]
theorem run_append_write {w : World} {v : Value} {l : List (Nat × ByteArray)} (hown : w.ownsRow 0 78 65 v l.length (wcs l)) (ty : TypeId) {g k : Nat} {c : ByteArray} (hc : c.size = 64) (hg : w.heap[g]? = some (.cells (wV k c) 78 (0, 0))) (hn : l.length ≤ 100000) :
    ∃ v' w', (Builtin.append_ #[61, 61] ty #[v, .slice (some ⟨g, 0, none⟩) 1 1]).run Try.prog w = .ok v' w' ∧ w'.ownsRow 0 78 65 v' (l.length + 1) (wcs (l ++ [(k, c)])) ∧ w.grownBy w' v.ownBlock ∧ ∀ j, v'.ownBlock = some j → v.ownBlock = some j ∨ w.heap.size ≤ j := by
  obtain ⟨i, hi, hz0, hz1, hz2⟩ := info_parts info78
  have hlen : (Value.int .i64 (k : Int) :: bL c).length = 1 * 65 := by rw [List.length_cons, bL_length, hc]
  have hnews : ∀ (j : Nat) (u : Value), (Value.int .i64 (k : Int) :: bL c)[j]? = some u → w.cell? ((⟨g, 0, none⟩ : Addr).add j) = some u := fun j u hu => by
    rw [addr_plain, Nat.zero_add, cell_of_row w g j _ _ _ hg]
    simpa [wV] using hu
  have h1 : ∀ u ∈ (Value.int .i64 (k : Int) :: bL c), u.oneCell' = true := fun u hu => by
    simp only [List.mem_cons] at hu
    rcases hu with rfl | hu
    · rfl
    · exact bL_one c u hu
  have hz : (Value.agg z78).cells.size = 65 := by simp [Value.cells, z78]
  rw [wcs_snoc]
  have hown0 := hown
  obtain ⟨hx, hown⟩ := hown
  rcases hown with ⟨rfl, h0⟩ | ⟨b, cap, cur, rfl, hb, hcur, hncap, hcm, hcs, htake⟩
  · have hl0 : l = [] := List.eq_nil_of_length_eq_zero h0
    subst hl0
    obtain ⟨v', w', hrun, r1, r2, -⟩ := run_append_own (P := Try.prog) w w.heap.size 61 ty 78 i (.agg z78) 65 72 Try.underlying61 hi hz0 hz1 hz2 hz (by omega) (.slice none 0 0) 0 [] (World.ownsRow_nil w _ 78 65) ⟨g, 0, none⟩ 1 1 _ hlen hnews h1 (by unfold maxLen; omega) (by omega) (Nat.le_refl _)
    exact ⟨v', w', hrun, ownsRow_base r1 (Nat.zero_le _), grown_any r2, fun j hj => .inr (ownsRow_new r1 j hj)⟩
  · by_cases hroom : l.length + 1 ≤ cap
    · obtain ⟨w', hrun, r1, r2⟩ := run_append_own_spare (P := Try.prog) w 0 61 ty 78 i 65 Try.underlying61 hi hz1 b l.length cap (wcs l) hown0 ⟨g, 0, none⟩ 1 1 _ hlen hnews h1 hroom
      exact ⟨_, w', hrun, r1, r2, fun j hj => .inl hj⟩
    · obtain ⟨v', w', hrun, r1, r2⟩ := run_append_arg_grows (P := Try.prog) w 61 ty 78 i (.agg z78) 65 72 Try.underlying61 hi hz0 hz1 hz2 hz (by omega) ⟨b, 0, none⟩ l.length cap (wcs l) hx (fun j u hu => hown0.cells (g := b) rfl j u hu) ⟨g, 0, none⟩ 1 1 _ hlen hnews (by omega) (by unfold maxLen; omega) (by omega)
      exact ⟨v', w', hrun, ownsRow_base r1 (Nat.zero_le _), grown_any r2, fun j hj => .inr (ownsRow_new r1 j hj)⟩
theorem step_append_write {ops : Array Oper} {o : Oper} {a : Act} {w : World} {K : Act → World → Prop} {Q : Exit → Act → World → Prop} {E : Prop} (hgd : o.guard = none) (s x : Operand)
    (ho : o.op = .call { callee := .builtin .append, args := #[s, x], argTypes := #[61, 61] })
    {v : Value} {l : List (Nat × ByteArray)} (hs : a.eval s = v) (hown : w.ownsRow 0 78 65 v l.length (wcs l)) {g k : Nat} {c : ByteArray} (hx : a.eval x = .slice (some ⟨g, 0, none⟩) 1 1) (hc : c.size = 64) (hg : w.heap[g]? = some (.cells (wV k c) 78 (0, 0))) (hn : l.length ≤ 100000)
    (h : ∀ v' w', w'.ownsRow 0 78 65 v' (l.length + 1) (wcs (l ++ [(k, c)])) → w.grownBy w' v.ownBlock → (∀ j, v'.ownBlock = some j → v.ownBlock = some j ∨ w.heap.size ≤ j) → K (a.put o.dst v') w') : if Region.wanted o (yielded ops a.tmps) = true then Oper.wp Try.prog o a w K Q else E := by
  rw [if_pos (by simp [Region.wanted, hgd])]
  obtain ⟨v', w', hrun, r1, r2, r3⟩ := run_append_write hown o.type hc hg hn
  unfold Oper.wp
  simp [execOp, ho, resolve, invoke, builtin, hs, hx, hrun, Result.andThen]
  exact h v' w' r1 r2 r3
theorem wpList_append_write {ops : Array Oper} {rest : List Oper} {o : Oper} {a : Act} {w : World} {Q : Exit → Act → World → Prop} (hgd : o.guard = none) (s x : Operand)
    (ho : o.op = .call { callee := .builtin .append, args := #[s, x], argTypes := #[61, 61] })
    {v : Value} {l : List (Nat × ByteArray)} (hs : a.eval s = v) (hown : w.ownsRow 0 78 65 v l.length (wcs l)) {g k : Nat} {c : ByteArray} (hx : a.eval x = .slice (some ⟨g, 0, none⟩) 1 1) (hc : c.size = 64) (hg : w.heap[g]? = some (.cells (wV k c) 78 (0, 0))) (hn : l.length ≤ 100000)
    (h : ∀ v' w', w'.ownsRow 0 78 65 v' (l.length + 1) (wcs (l ++ [(k, c)])) → w.grownBy w' v.ownBlock → (∀ j, v'.ownBlock = some j → v.ownBlock = some j ∨ w.heap.size ≤ j) → wpList Try.prog ops Q rest (a.put o.dst v') w') : wpList Try.prog ops Q (o :: rest) a w := by
  refine wpList_plain hgd fun K' hK' => ?_
  obtain ⟨v', w', hrun, r1, r2, r3⟩ := run_append_write hown o.type hc hg hn
  unfold Oper.wp
  simp [execOp, ho, resolve, invoke, builtin, hs, hx, hrun, Result.andThen]
  exact hK' _ _ (h v' w' r1 r2 r3)

/-- A stop and its count, turned. -/
theorem DiskAt.turn {w w' : World} {B b1 b2 : Nat} {v : Value} {s : DS} (h : DiskAt w B b1 b2 v s) (n : Int) (hn : n ≤ 9223372036854775807) (hc : w'.heap[B]? = some (.cells #[.map (some b1), .map (some b2), .int .i64 s.many, v, .bool (decide (0 ≤ n)), .int .i64 (n.toNat : Int)] 65 (0, 0))) (hk : ∀ k, k ≠ B → w'.heap[k]? = w.heap[k]?) : DiskAt w' B b1 b2 v ⟨s.many, s.sync, s.loose, n⟩ :=
  ⟨hc, hn, h.ne, ownsRow_kept h.row (fun j hj => hk j (fun e => h.off (e ▸ hj))), h.off, h.now.of_block (hk b1 (h.now.cells h.cells)), h.sync.of_block (hk b2 (h.sync.cells h.cells))⟩
theorem apart_set (w : World) (B i : Nat) (v : Value) : Apart (fun j => j = B) w (w.setCell ⟨B, i, none⟩ v) :=
  ⟨rfl, rfl, rfl, by rw [setCell_size]; exact Nat.le_refl _, fun k _ hF => heap_setCell_other w ⟨B, i, none⟩ k v hF⟩
theorem Apart.refl (F : Nat → Prop) (w : World) : Apart F w w := ⟨rfl, rfl, rfl, Nat.le_refl _, fun _ _ _ => rfl⟩
theorem Apart.trans {F G : Nat → Prop} {w w1 w2 : World} (h : Apart F w w1) (k : Apart G w1 w2) (hG : ∀ j, G j → F j ∨ w.heap.size ≤ j) : Apart F w w2 :=
  ⟨k.os.trans h.os, k.tape.trans h.tape, k.output.trans h.output, Nat.le_trans h.size k.size, fun j hj hF => (k.block j (Nat.lt_of_lt_of_le hj h.size) (fun g => by rcases hG j g with e | e; exact hF e; omega)).trans (h.block j hj hF)⟩
theorem Apart.wide {F G : Nat → Prop} {w w1 : World} (h : Apart F w w1) (hG : ∀ j, F j → G j) : Apart G w w1 := ⟨h.os, h.tape, h.output, h.size, fun j hj hF => h.block j hj (fun f => hF (hG j f))⟩
set_option maxRecDepth 100000 in
set_option maxHeartbeats 400000 in
theorem count_any {w : World} {B b1 b2 : Nat} {v : Value} {s : DS} (h : DiskAt w B b1 b2 v s) (h0 : s.left ≠ 0) (h1 : -1 ≤ s.left) :
    Calls Try.prog 44 #[.pointer (some ⟨B, 0, none⟩)] w fun r w' => r = .returned (.tuple #[]) ∧ DiskAt w' B b1 b2 v ⟨s.many, s.sync, s.loose, doneL s.left⟩ ∧ Apart (fun j => j = B) w w' := by
  obtain ⟨-, -, -, -, c4, c5⟩ := h.cell
  have f5 := h.frozen 5
  have hl := h.left
  by_cases hp : 0 < s.left
  · have e4 : decide (0 ≤ s.left) = true := decide_eq_true (by omega)
    rw [e4] at c4
    have hd : doneL s.left = s.left - 1 := by unfold doneL; rw [if_pos hp]
    obtain ⟨n, hn⟩ : ∃ n : Nat, s.left = n := ⟨s.left.toNat, by omega⟩
    have hn' : s.left.toNat = n := by omega
    rw [hn'] at c5
    have hw : IntKind.i64.wrap ((n : Int) - 1) = (n : Int) - 1 := by simp [IntKind.wrap, IntKind.signed, IntKind.bits]; omega
    have hb1 : 0 < n := by omega
    have hb2 : (n : Int) ≤ 9223372036854775807 := by omega
    have fin : Hid (DiskAt (w.setCell ⟨B, 5, none⟩ (.int .i64 ((n : Int) - 1))) B b1 b2 v ⟨s.many, s.sync, s.loose, doneL s.left⟩) := Lib.hid (by
      refine h.turn _ (by omega) ?_ (fun k hk => heap_setCell_other w _ k _ hk)
      rw [heap_setCell_same w B 5 _ 65 _ h.cells, hd, hn]
      have e5 : decide (0 ≤ (n : Int) - 1) = true := decide_eq_true (by omega)
      have e6 : (((n : Int) - 1).toNat : Int) = (n : Int) - 1 := by omega
      have e7 : decide (0 ≤ (n : Int)) = true := decide_eq_true (by omega)
      rw [e5, e6, e7]
      rfl)
    clear hd hn hn' h0 h1 hl hp e4 h
    go_enter Try.func44, Try.ntmps44
    go_wp2
    go_end0
    exact ⟨rfl, fin.out, apart_set _ _ _ _⟩
  · have e1 : s.left = -1 := by omega
    have e4 : decide (0 ≤ s.left) = false := decide_eq_false (by omega)
    rw [e4] at c4
    have hd : (⟨s.many, s.sync, s.loose, doneL s.left⟩ : DS) = s := by
      have : doneL s.left = s.left := by unfold doneL; rw [if_neg hp]
      rw [this]
    rw [hd]
    clear hd e1 e4 h0 h1 hl hp
    go_enter Try.func44, Try.ntmps44
    go_wp2
    go_end0
    exact ⟨rfl, h, Apart.refl _ _⟩
end Go.Proofs.Ythbnochlpnikaaa
namespace Go.Proofs.Ythbnochlpnikaaa
open Go.RowKit Go.Shelf

theorem goes_at {w w' : World} {B b1 b2 : Nat} {v v' : Value} {s : DS} (h : DiskAt w' B b1 b2 v' s) (hv : ∀ j, v'.ownBlock = some j → v.ownBlock = some j ∨ w.heap.size ≤ j) (ha : Apart (FootOf B b1 b2 v) w w') : Goes RepD (.pointer (some ⟨B, 0, none⟩)) s (FootOf B b1 b2 v) w w' :=
  ⟨_, ⟨B, b1, b2, v', rfl, h, rfl⟩, fun k hk => by
    rcases hk with rfl | rfl | rfl | hk
    · exact .inl (.inl rfl)
    · exact .inl (.inr (.inl rfl))
    · exact .inl (.inr (.inr (.inl rfl)))
    · rcases hv k hk with h | h
      · exact .inl (.inr (.inr (.inr h)))
      · exact .inr h, ha⟩
theorem ref_stop (A : Nat) (n : Int) (s : DS) : refE [qBelow A n] = (stopS s n).2 := by
  rw [refE_if (p := n < 0) rfl]
  unfold stopS
  split <;> rfl
set_option maxRecDepth 100000 in
set_option maxHeartbeats 1000000 in
theorem dstop_any {w : World} {d : Value} {s : DS} {F : Nat → Prop} (n : Int) (h : RepD w d s F) (hW : Whole s) (hn : -9223372036854775808 ≤ n ∧ n ≤ 9223372036854775807) :
    Calls Try.prog 20 #[d, .int .i64 n] w fun r w' => r = .returned (.int .i64 (stopS s n).2) ∧ Goes RepD d (stopS s n).1 F w w' := by
  obtain ⟨B, b1, b2, v, rfl, h, rfl⟩ := h
  have hm := hW.many.1
  go_enter Try.func20, Try.ntmps20
  go_wp2_with fail
  refine (below_any2 _ _).mono ?_
  rintro e wa ⟨rfl, a0, Ba⟩
  go_wp2_with fail
  refine (refuse1 (q1 := qBelow w.heap.size n) (h.below Ba) hm (qBelow_ok a0)).mono ?_
  rintro e wb ⟨rfl, Bb⟩
  rw [ref_stop _ _ s]
  have hC := kbP Ba Bb
  have hD := h.below hC
  clear a0
  by_cases h0 : n < 0
  · have e : stopS s n = (s, 2) := by unfold stopS; rw [if_pos h0]
    rw [e]
    go_wp2_with fail
    go_ret
    rw [e]
    exact ⟨rfl, goes_at hD (fun j hj => .inl hj) (Below.apart hC _)⟩
  · have e : stopS s n = (⟨s.many, s.sync, s.loose, n⟩, 0) := by unfold stopS; rw [if_neg h0]
    rw [e]
    have f4 := hD.frozen 4
    have f5 := hD.frozen 5
    obtain ⟨-, -, -, -, c4, c5⟩ := hD.cell
    go_wp2_with fail
    go_ret
    rw [e]
    refine ⟨rfl, goes_at (v := v) (v' := v) ?_ (fun j hj => .inl hj) ?_⟩
    · have e1 := heap_setCell_same wb B 4 _ 65 (.bool true) hD.cells
      refine hD.turn n hn.2 ?_ (fun k hk => by rw [heap_setCell_other _ _ _ _ (by exact hk), heap_setCell_other _ _ _ _ (by exact hk)])
      rw [heap_setCell_same _ B 5 _ 65 _ e1]
      rw [decide_eq_true (show 0 ≤ n by omega), show ((n.toNat : Nat) : Int) = n by omega]
      rfl
    · exact (Below.apart hC _).trans (((apart_set wb B 4 _).trans (apart_set _ B 5 _) (fun j hj => .inl hj)).wide (fun j hj => (.inl hj : FootOf B b1 b2 v j))) (fun j hj => .inl hj)
end Go.Proofs.Ythbnochlpnikaaa
namespace Go.Proofs.Ythbnochlpnikaaa
open Go.RowKit Go.Shelf

theorem ref_write (A A' A'' B : Nat) (k : Int) (l : List Nat) (s : DS) : refE [qOdd A l.length, qBeyond A' A'' k s, qHalted B s] = (writeS s k (strOf l)).2 := by
  rw [refE_if (p := l.length ≠ 64) rfl, refE_if (p := k < 0 ∨ (s.many : Int) ≤ k) beyond_ans, refE_if (p := s.left = 0) rfl]
  unfold writeS
  rw [strOf_size]
  split
  · rfl
  · split
    · rfl
    · split <;> rfl
theorem layB_all {l : List Nat} {c : ByteArray} (hl : l.length = 64) : layB l c = strOf l := by
  unfold layB
  rw [hl]
  have : c.extract 64 64 = ByteArray.empty := by
    apply ByteArray.ext
    simp [ByteArray.data_extract]
  rw [this, ByteArray.append_empty]
theorem row_apart {w : World} {b m : Nat} {f : Nat → ByteArray} {v : Value} {l : List (Nat × ByteArray)} (h : MapIs w b m f) (hr : w.ownsRow 0 78 65 v l.length (wcs l)) : v.ownBlock ≠ some b := by
  intro e
  rcases hr.2 with ⟨rfl, -⟩ | ⟨g, cap, cur, rfl, -, hg, -⟩
  · cases e
  · injection e with e
    exact h.cells hg e.symm
/-- A sector is laid, a write is appended, the row is put in its place. -/
theorem DiskAt.wrote {w wc w1 wx w2 : World} {B b1 b2 : Nat} {v v' : Value} {s : DS} {k : Nat} {c : ByteArray} (h : DiskAt wc B b1 b2 v s) (hc : Below w.heap.size w wc) (M1 : MapIs w1 b1 s.many (upd (sectorS s) k c)) (A1 : Apart (fun j => j = b1) wc w1) (Bx : Below w1.heap.size w1 wx)
    (hr : w2.ownsRow 0 78 65 v' (s.loose.length + 1) (wcs (s.loose ++ [(k, c)]))) (hg : wx.grownBy w2 v.ownBlock) (hj : ∀ j, v'.ownBlock = some j → v.ownBlock = some j ∨ wx.heap.size ≤ j) (hlow : ∀ j, FootOf B b1 b2 v j → j < w.heap.size) :
    DiskAt (w2.setCell ⟨B, 3, none⟩ v') B b1 b2 v' ⟨s.many, s.sync, s.loose ++ [(k, c)], s.left⟩ ∧ Apart (FootOf B b1 b2 v) w (w2.setCell ⟨B, 3, none⟩ v') ∧ (∀ j, v'.ownBlock = some j → v.ownBlock = some j ∨ w.heap.size ≤ j) ∧ w2.cell? ⟨B, 3, none⟩ = some v ∧ w2.frozen? ⟨B, 3, none⟩ = false := by
  have hB1 : b1 ≠ B := h.now.cells h.cells
  have hB2 : b2 ≠ B := h.sync.cells h.cells
  have lB := lt_of_heap h.cells
  have l1 := h.now.lt
  have l2 := h.sync.lt
  have s1 := A1.size
  have sx := Bx.size
  have sc := hc.size
  have hv1 := row_apart h.now h.row
  have hv2 := row_apart h.sync h.row
  have k2 : ∀ j, j < wc.heap.size → j ≠ b1 → v.ownBlock ≠ some j → w2.heap[j]? = wc.heap[j]? := fun j hj h1 h2 =>
    ((hg.block j (by omega) (fun e => h2 e.symm)).trans (Bx.block j (by omega))).trans (A1.block j hj h1)
  have c2 := (k2 B lB (fun e => hB1 e.symm) h.off).trans h.cells
  have hvB : v'.ownBlock ≠ some B := fun e => by
    rcases hj B e with e | e
    · exact h.off e
    · omega
  refine ⟨⟨?_, h.left, h.ne, ?_, hvB, ?_, ?_⟩, ?_, fun j e => ?_, ?_, ?_⟩
  · rw [heap_setCell_same w2 B 3 _ 65 v' c2]
    rfl
  · rw [List.length_append, List.length_singleton]
    exact ownsRow_kept hr (fun j hj' => heap_setCell_other w2 _ j _ (fun e => by
      simp only at e
      subst e
      exact hvB hj'))
  · have m2 : MapIs w2 b1 s.many (upd (sectorS s) k c) := M1.of_block ((hg.block b1 (by omega) (fun e => hv1 e.symm)).trans (Bx.block b1 (by omega)))
    have m3 := m2.of_block (w' := w2.setCell ⟨B, 3, none⟩ v') (heap_setCell_other w2 _ b1 _ hB1)
    refine m3.congr fun j _ => ?_
    simp only [upd, sectorS, ← List.append_assoc, lastS_snoc]
    by_cases e : j = k
    · subst e; simp
    · rw [if_neg e, if_neg (fun x => e x.symm)]
  · exact (h.sync.of_block (k2 b2 l2 (fun e => h.ne e.symm) hv2)).of_block (heap_setCell_other w2 _ b2 _ hB2)
  · refine ⟨?_, ?_, ?_, ?_, fun j hjw hF => ?_⟩
    · exact hg.os.trans (Bx.os.trans (A1.os.trans hc.os))
    · exact hg.tape.trans (Bx.tape.trans (A1.tape.trans hc.tape))
    · exact hg.output.trans (Bx.output.trans (A1.output.trans hc.output))
    · rw [setCell_size]
      exact Nat.le_trans sc (Nat.le_trans s1 (Nat.le_trans sx hg.size))
    · rw [heap_setCell_other w2 _ j _ (fun e => hF (.inl e))]
      rw [k2 j (by omega) (fun e => hF (.inr (.inl e))) (fun e => hF (.inr (.inr (.inr e))))]
      exact hc.block j hjw
  · rcases hj j e with e | e
    · exact .inl e
    · exact .inr (by omega)
  · rw [cell_of_row w2 B 3 _ 65 (0, 0) c2]
    rfl
  · exact frozen_of_row w2 B 3 _ 65 c2
end Go.Proofs.Ythbnochlpnikaaa
namespace Go.Proofs.Ythbnochlpnikaaa
open Go.RowKit Go.Shelf

set_option maxRecDepth 100000 in
set_option maxHeartbeats 2000000 in
theorem dwrite_any {w : World} {d : Value} {s : DS} {F : Nat → Prop} (k : Int) (p : Option Addr) (l : List Nat) (cap : Nat) (h : RepD w d s F) (hW : Whole s) (hF : Few s) (hin : BytesIn w F p l cap) :
    Calls Try.prog 15 #[d, .int .i64 k, .slice p l.length cap] w fun r w' => r = .returned (.int .i64 (writeS s k (strOf l)).2) ∧ Goes RepD d (writeS s k (strOf l)).1 F w w' := by
  obtain ⟨B, b1, b2, v, rfl, h, rfl⟩ := h
  have hm := hW.many.1
  have hbyte := Lib.hid hin.byte
  have hat := Lib.hid hin.at'
  clear hin
  go_enter Try.func15, Try.ntmps15
  go_wp2_with fail
  refine (odd_any _ _ _ _).mono ?_
  rintro e wa ⟨rfl, a0, Ba⟩
  go_wp2_with fail
  refine (beyond_any _ _ _).mono ?_
  rintro e wb ⟨rfl, a1, a2, Bb⟩
  go_wp2_with fail
  refine (halted_any _ _).mono ?_
  rintro e wc ⟨rfl, Bc⟩
  go_wp2_with fail
  have hB := kbP (kbP Ba Bb) Bc
  refine (refuse3 (q1 := qOdd w.heap.size l.length) (q2 := qBeyond (wa.heap.size + 1) wa.heap.size k s) (q3 := qHalted B s) (h.below hB) hm (qOdd_ok (below_kept (kbP Bb Bc) _ _ a0)) (qBeyond_ok (h.below hB) (below_kept Bc _ _ a2) (below_kept Bc _ _ a1)) (qHalted_ok (h.below hB) hm)).mono ?_
  rintro e wd ⟨rfl, Bd⟩
  rw [ref_write]
  have hC := kbP hB Bd
  have hD := h.below hC
  clear a0 a1 a2
  by_cases h0 : l.length ≠ 64
  · have e : writeS s k (strOf l) = (s, 2) := by unfold writeS; rw [strOf_size, if_pos h0]
    rw [e]
    go_wp2_with fail
    go_ret
    rw [e]
    exact ⟨rfl, goes_at hD (fun j hj => .inl hj) (Below.apart hC _)⟩
  by_cases h1 : k < 0 ∨ (s.many : Int) ≤ k
  · have e : writeS s k (strOf l) = (s, 4) := by unfold writeS; rw [strOf_size, if_neg h0, if_pos h1]
    rw [e]
    go_wp2_with fail
    go_ret
    rw [e]
    exact ⟨rfl, goes_at hD (fun j hj => .inl hj) (Below.apart hC _)⟩
  by_cases h2 : s.left = 0
  · have e : writeS s k (strOf l) = (s, 140) := by unfold writeS; rw [strOf_size, if_neg h0, if_neg h1, if_pos h2]
    rw [e]
    go_wp2_with fail
    go_ret
    rw [e]
    exact ⟨rfl, goes_at hD (fun j hj => .inl hj) (Below.apart hC _)⟩
  obtain ⟨n, rfl⟩ : ∃ n : Nat, k = n := ⟨k.toNat, by omega⟩
  have hn : n < s.many := by omega
  have hl : l.length = 64 := by omega
  have e : writeS s n (strOf l) = (⟨s.many, s.sync, s.loose ++ [(n, strOf l)], doneL s.left⟩, 0) := by
    unfold writeS
    rw [strOf_size, if_neg h0, if_neg h1, if_neg h2, Int.toNat_natCast]
  rw [e]
  have HE := Lib.hid e
  have hlow := Lib.hid h.low
  obtain ⟨c0, -, -, -, -, -⟩ := hD.cell
  have HL := Lib.hid hl
  have H2 := Lib.hid h2
  have H3 := Lib.hid hW.left
  clear e h0 h1 h hl h2
  go_wp2_with fail
  refine (lay_any hD.now hn p l cap (by rw [HL.out]; omega) hbyte.out (Lib.hid (bytesAt_below hat.out hC))).mono ?_
  rintro e w1 ⟨rfl, M1, A1⟩
  rw [layB_all HL.out] at M1
  generalize hcc : strOf l = c at *
  have hcs : c.size = 64 := by rw [← hcc, strOf_size, HL.out]
  have HCC := Lib.hid hcc
  clear hcc
  have x0 : w1.cell? ⟨B, 0, none⟩ = some (.map (some b1)) := (World.cell?_of_block (w := wd) (A1.block B (lt_of_heap hD.cells) (fun e => hD.now.cells hD.cells e.symm))).trans c0
  have x3 : w1.cell? ⟨B, 3, none⟩ = some v := (World.cell?_of_block (w := wd) (A1.block B (lt_of_heap hD.cells) (fun e => hD.now.cells hD.cells e.symm))).trans hD.cell.2.2.2.1
  have hl1 := M1.look hn
  have hl2 := (M1.of_block (w' := w1.drew) rfl).look hn
  have hu : upd (sectorS s) n c n = c := by simp [upd]
  rw [hu] at hl1 hl2
  have hbz : (bV c).size = 64 := by rw [bV_size, hcs]
  have hbf := fold_write (k := n) hcs
  have hbw : (wV n c).size = 65 := wV_size hcs
  have hbs := fold_row 65 hbw
  have lB : B < w1.heap.size := Nat.lt_of_lt_of_le (lt_of_heap hD.cells) A1.size
  have B1 : Below w1.heap.size w1 (w1.alloc (.cells (wV n c) 78)).drew := ((Below.refl _ _).alloc (Nat.le_refl _) _).drew
  have RW : Hid (∀ wx, Below w1.heap.size w1 wx → wx.ownsRow 0 78 65 v s.loose.length (wcs s.loose)) := Lib.hid fun wx hx => ownsRow_kept hD.row (fun j hj => (hx.block j (Nat.lt_of_lt_of_le (hD.row.lt j hj).2 A1.size)).trans (A1.block j (hD.row.lt j hj).2 (fun e => row_apart hD.now hD.row (by rw [hj, e]))))
  have W : Hid (∀ wx w2 v', Below w1.heap.size w1 wx → w2.ownsRow 0 78 65 v' (s.loose.length + 1) (wcs (s.loose ++ [(n, c)])) → wx.grownBy w2 v.ownBlock → (∀ j, v'.ownBlock = some j → v.ownBlock = some j ∨ wx.heap.size ≤ j) → DiskAt (w2.setCell ⟨B, 3, none⟩ v') B b1 b2 v' ⟨s.many, s.sync, s.loose ++ [(n, c)], s.left⟩ ∧ Apart (FootOf B b1 b2 v) w (w2.setCell ⟨B, 3, none⟩ v') ∧ (∀ j, v'.ownBlock = some j → v.ownBlock = some j ∨ w.heap.size ≤ j) ∧ w2.cell? ⟨B, 3, none⟩ = some v ∧ w2.frozen? ⟨B, 3, none⟩ = false) := Lib.hid fun wx w2 v' hx hr hg hj => hD.wrote hC M1 A1 hx hr hg hj hlow.out
  have HN : s.loose.length ≤ 100000 := by have := hF.2; omega
  clear hD M1 A1 hC hF
  go_wp2_with fail
  go_region_law (refine step_append_write rfl (.tmp 31) (.tmp 41) rfl rfl (RW.out _ (by first | exact B1 | exact B1)) rfl hcs (heap_alloc_new w1 _) HN ?_; intro v' w2 hr2 hg2 hj2; obtain ⟨g', cap', rfl⟩ := ownsRow_succ hr2; obtain ⟨D3, A3, J3, x5, f5⟩ := W.out _ _ _ (by first | exact B1 | exact B1) hr2 hg2 hj2; have HD3 := Lib.hid D3; have HA3 := Lib.hid A3; have HJ3 := Lib.hid J3; clear D3 A3 J3 hr2 hg2 hj2)
  all_goals (
    go_wp2_with (go_at_call 44; refine (count_any HD3.out H2.out H3.out).mono ?_; rintro e w5 ⟨rfl, D5, A5⟩)
    go_ret
    rw [HCC.out, HE.out]
    exact ⟨rfl, goes_at D5 HJ3.out (HA3.out.trans A5 (fun j hj => .inl (.inl hj)))⟩)
end Go.Proofs.Ythbnochlpnikaaa
namespace Go.Proofs.Ythbnochlpnikaaa
open Go.RowKit Go.Shelf

/-- The sectors behind the first i writes of a list; of the last one just so many bytes are laid. -/
def setF (l : List (Nat × ByteArray)) (last : Nat) (f : Nat → ByteArray) : Nat → Nat → ByteArray
  | 0 => f
  | i + 1 => upd (setF l last f i) (l.getD i (0, secS 0)).1 (tornB (if i + 1 = l.length then last else 64) (l.getD i (0, secS 0)).2 (setF l last f i (l.getD i (0, secS 0)).1))
/-- A sector's bytes as numbers. -/
def natL (b : ByteArray) : List Nat := b.data.toList.map (·.toNat)
theorem natL_length (b : ByteArray) : (natL b).length = b.size := by
  unfold natL
  rw [List.length_map, Array.length_toList]
  rfl
theorem natL_byte (b : ByteArray) : ∀ x ∈ natL b, x < 256 := fun x hx => by
  obtain ⟨c, _, rfl⟩ := List.mem_map.1 hx
  exact c.toNat_lt
theorem strOf_natL (b : ByteArray) : strOf (natL b) = b := by
  obtain ⟨⟨l⟩⟩ := b
  unfold strOf natL
  congr 1
  rw [List.map_map, show (UInt8.ofNat ∘ fun (x : UInt8) => x.toNat) = id from funext fun c => by simp]
  simp
theorem strOf_take {b : ByteArray} {n : Nat} : strOf ((natL b).take n) = b.extract 0 n := by
  apply ByteArray.ext
  rw [ByteArray.data_extract]
  apply Array.toList_inj.1
  rw [Array.toList_extract]
  unfold strOf natL
  simp only [List.map_take, List.map_map]
  rw [show (UInt8.ofNat ∘ fun (x : UInt8) => x.toNat) = id from funext fun c => by simp]
  simp [List.extract_eq_take_drop]
theorem lay_torn {b c : ByteArray} {n : Nat} (hb : b.size = 64) (hn : n ≤ 64) : layB ((natL b).take n) c = tornB n b c := by
  unfold layB tornB
  rw [strOf_take, List.length_take, natL_length, hb, Nat.min_eq_left hn]
theorem tornB_64 {b c : ByteArray} (hb : b.size = 64) (hc : c.size = 64) : tornB 64 b c = b := by
  unfold tornB
  have e1 : b.extract 0 64 = b := by
    have := ByteArray.extract_zero_size (b := b)
    rwa [hb] at this
  have e2 : c.extract 64 64 = ByteArray.empty := by
    apply ByteArray.ext
    simp [ByteArray.data_extract]
  rw [e1, e2, ByteArray.append_empty]
theorem tornB_size' {n : Nat} {b c : ByteArray} (hn : n ≤ 64) (hb : b.size = 64) (hc : c.size = 64) : (tornB n b c).size = 64 := by
  unfold tornB
  rw [ByteArray.size_append, ByteArray.size_extract, ByteArray.size_extract]
  omega
theorem run_load_sec {w : World} {g off : Nat} {b : ByteArray} (hb : b.size = 64) (hc : ∀ j v, (bL b)[j]? = some v → w.cell? ⟨g, off + j, none⟩ = some v) : (loadCellsFrom ⟨g, off, none⟩ 0 64 #[]).run Try.prog w = .ok (bV b) w := by
  have := run_loadCells_list (P := Try.prog) w ⟨g, off, none⟩ (bL b) (fun j v hv => by rw [addr_plain]; exact hc j v hv)
  rw [bL_length, hb] at this
  exact this
theorem run_load_write {w : World} {g off : Nat} {k : Int} {b : ByteArray} (hb : b.size = 64) (hc : ∀ j v, (Value.int .i64 k :: bL b)[j]? = some v → w.cell? ⟨g, off + j, none⟩ = some v) : (loadCellsFrom ⟨g, off, none⟩ 0 65 #[]).run Try.prog w = .ok (wV k b) w := by
  have := run_loadCells_list (P := Try.prog) w ⟨g, off, none⟩ (.int .i64 k :: bL b) (fun j v hv => by rw [addr_plain]; exact hc j v hv)
  rw [List.length_cons, bL_length, hb] at this
  exact this
/-- A write in a row. -/
theorem wcs_get {l : List (Nat × ByteArray)} (hl : ∀ x ∈ l, x.2.size = 64) {i : Nat} {x : Nat × ByteArray} (h : l[i]? = some x) : ∀ j v, (Value.int .i64 (x.1 : Int) :: bL x.2)[j]? = some v → (wcs l)[i * 65 + j]? = some v := by
  induction l generalizing i with
  | nil => cases h
  | cons y l ih =>
    intro j v hv
    cases i with
    | zero =>
      simp at h
      subst h
      simp only [wcs, Nat.zero_mul, Nat.zero_add]
      rw [List.getElem?_append_left (List.getElem?_eq_some_iff.1 hv).1]
      exact hv
    | succ i =>
      have := ih (fun z hz => hl z (by simp [hz])) (i := i) (by simpa using h) j v hv
      simp only [wcs]
      rw [List.getElem?_append_right (by rw [List.length_cons, bL_length, hl y (by simp)]; omega)]
      rw [List.length_cons, bL_length, hl y (by simp), show (i + 1) * 65 + j - (64 + 1) = i * 65 + j by omega]
      exact this
theorem row_cells {w : World} {g cap : Nat} {l : List (Nat × ByteArray)} (hr : w.ownsRow 0 78 65 (.slice (some ⟨g, 0, none⟩) l.length cap) l.length (wcs l)) (hl : ∀ x ∈ l, x.2.size = 64) {i : Nat} {x : Nat × ByteArray} (h : l[i]? = some x) : ∀ j v, (Value.int .i64 (x.1 : Int) :: bL x.2)[j]? = some v → w.cell? ⟨g, i * 65 + j, none⟩ = some v := fun j v hv => by
  have := hr.cells (g := g) rfl (i * 65 + j) v (wcs_get hl h j v hv)
  rw [addr_plain, Nat.zero_add] at this
  exact this
/-- A slot that holds a whole write or a sector is loaded. -/
theorem run_loadVar_at {w : World} {g off n : Nat} {ty : TypeId} {cs : Array Value} (ha : (isAgg ty).run Try.prog w = .ok true w) (hs : (sizeOf ty).run Try.prog w = .ok n w) (h : (loadCellsFrom ⟨g, off, none⟩ 0 n #[]).run Try.prog w = .ok cs w) : (loadVar ty ⟨g, off, none⟩).run Try.prog w = .ok (.agg cs) w := by
  simp [loadVar, Sem.run_bind, ha, hs, loadCells, h]
theorem wpList_load_write {ops : Array Oper} {rest : List Oper} {o : Oper} {a : Act} {w : World} {Q : Exit → Act → World → Prop} (hgd : o.guard = none) (x : Operand) (ho : o.op = .load 78 x)
    {g off : Nat} (hx : a.eval x = .pointer (some ⟨g, off, none⟩)) {k : Int} {b : ByteArray} (hb : b.size = 64) (hc : ∀ j v, (Value.int .i64 k :: bL b)[j]? = some v → w.cell? ⟨g, off + j, none⟩ = some v)
    (h : wpList Try.prog ops Q rest (a.put o.dst (.agg (wV k b))) w) : wpList Try.prog ops Q (o :: rest) a w := by
  refine wpList_plain hgd fun K hK => ?_
  unfold Oper.wp execOp
  simp only [ho, hx, Instr.loadAt, Instr.sureAddr, Sem.run_bind, Sem.run_pure, Result.andThen_ok, run_loadVar_at (Try.isAgg78 w) (Try.sizeOf78 w) (run_load_write hb hc)]
  exact hK _ _ h
theorem wpList_load_sec {ops : Array Oper} {rest : List Oper} {o : Oper} {a : Act} {w : World} {Q : Exit → Act → World → Prop} (hgd : o.guard = none) (x : Operand) (ho : o.op = .load 76 x)
    {g off : Nat} (hx : a.eval x = .pointer (some ⟨g, off, none⟩)) {b : ByteArray} (hb : b.size = 64) (hc : ∀ j v, (bL b)[j]? = some v → w.cell? ⟨g, off + j, none⟩ = some v)
    (h : wpList Try.prog ops Q rest (a.put o.dst (.agg (bV b))) w) : wpList Try.prog ops Q (o :: rest) a w := by
  refine wpList_plain hgd fun K hK => ?_
  unfold Oper.wp execOp
  simp only [ho, hx, Instr.loadAt, Instr.sureAddr, Sem.run_bind, Sem.run_pure, Result.andThen_ok, run_loadVar_at (Try.isAgg76 w) (Try.sizeOf76 w) (run_load_sec hb hc)]
  exact hK _ _ h
theorem box_write (w : World) (k : Int) (b : ByteArray) : ((w.alloc (.cells (wV k b) 78)).cell? ⟨w.heap.size, 0, none⟩ = some (.int .i64 k)) ∧ ∀ j v, (bL b)[j]? = some v → (w.alloc (.cells (wV k b) 78)).cell? ⟨w.heap.size, 1 + j, none⟩ = some v := by
  have hc := fun j => cell_of_row (w.alloc (.cells (wV k b) 78)) w.heap.size j _ 78 (0, 0) (heap_alloc_new w _)
  refine ⟨by rw [hc 0]; simp [wV], fun j v hv => ?_⟩
  rw [hc (1 + j), Nat.add_comm]
  simpa [wV] using hv
/-- A sector's first bytes are laid. -/
theorem lay_torn_any {b2 m : Nat} {f : Nat → ByteArray} {k n : Nat} {w : World} (h : MapIs w b2 m f) (hk : k < m) (hn : n ≤ 64) {b : ByteArray} (hb : b.size = 64) {g cap : Nat} (hB : BytesAt w (some ⟨g, 0, none⟩) ((natL b).take n)) :
    Calls Try.prog 43 #[.agg #[.map (some b2)], .int .i64 k, .slice (some ⟨g, 0, none⟩) n cap] w fun r w' => r = .returned (.tuple #[]) ∧ MapIs w' b2 m (upd f k (tornB n b (f k))) ∧ Apart (fun j => j = b2) w w' := by
  have hl : ((natL b).take n).length = n := by rw [List.length_take, natL_length, hb]; omega
  have := lay_any h hk (some ⟨g, 0, none⟩) ((natL b).take n) cap (by rw [hl]; exact hn) (fun x hx => natL_byte b x (List.mem_of_mem_take hx)) (Lib.hid hB)
  rw [hl, lay_torn hb hn] at this
  exact this
theorem bytesAt_cut (w : World) (b : ByteArray) (n : Nat) : BytesAt (w.alloc (.cells (bV b) 76)) (some ⟨w.heap.size, 0, none⟩) ((natL b).take n) := by
  have := bytesAt_sec w (natL_byte b) 76
  rw [strOf_natL] at this
  exact bytesAt_take this n
theorem setF_next {l : List (Nat × ByteArray)} {last : Nat} {f : Nat → ByteArray} {i : Nat} {x : Nat × ByteArray} (h : l[i]? = some x) : setF l last f (i + 1) = upd (setF l last f i) x.1 (tornB (if i + 1 = l.length then last else 64) x.2 (setF l last f i x.1)) := by
  have : l.getD i (0, secS 0) = x := by rw [List.getD_eq_getElem?_getD, h]; rfl
  rw [setF, this]
end Go.Proofs.Ythbnochlpnikaaa
namespace Go.Proofs.Ythbnochlpnikaaa
open Go.RowKit Go.Shelf

theorem exec_load_sec {o : Oper} {a : Act} {w : World} {x : Operand} (ho : o.op = .load 76 x) {g off : Nat} (hx : a.eval x = .pointer (some ⟨g, off, none⟩)) {b : ByteArray} (hb : b.size = 64) (hc : ∀ j v, (bL b)[j]? = some v → w.cell? ⟨g, off + j, none⟩ = some v) :
    (execOp a.eval o).run Try.prog w = .ok (.value (.agg (bV b))) w := by
  unfold execOp
  simp only [ho, hx, Instr.loadAt, Instr.sureAddr, Sem.run_bind, Sem.run_pure, Result.andThen_ok, run_loadVar_at (Try.isAgg76 w) (Try.sizeOf76 w) (run_load_sec hb hc)]
/-- The sectors behind the first k writes, as they were synced. -/
def setG (l : List (Nat × ByteArray)) (G f : Nat → ByteArray) : Nat → Nat → ByteArray
  | 0 => f
  | k + 1 => upd (setG l G f k) (l.getD k (0, secS 0)).1 (G (l.getD k (0, secS 0)).1)
theorem setG_next {l : List (Nat × ByteArray)} {G f : Nat → ByteArray} {i : Nat} {x : Nat × ByteArray} (h : l[i]? = some x) : setG l G f (i + 1) = upd (setG l G f i) x.1 (G x.1) := by
  have : l.getD i (0, secS 0) = x := by rw [List.getD_eq_getElem?_getD, h]; rfl
  rw [setG, this]
theorem setG_in {l : List (Nat × ByteArray)} {G f : Nat → ByteArray} : ∀ {k i : Nat} {x : Nat × ByteArray}, i < k → k ≤ l.length → l[i]? = some x → setG l G f k x.1 = G x.1
  | k + 1, i, x, hi, hk, hx => by
    have hy := List.getElem?_eq_getElem (show k < l.length by omega)
    rw [setG_next hy]
    unfold upd
    by_cases e : x.1 = l[k].1
    · rw [if_pos e, e]
    · rw [if_neg e]
      rcases Nat.lt_or_ge i k with h | h
      · exact setG_in h (by omega) hx
      · obtain rfl : i = k := by omega
        rw [hx] at hy
        injection hy with hy
        exact absurd (by rw [hy]) e
theorem setG_out {l : List (Nat × ByteArray)} {G f : Nat → ByteArray} {j : Nat} (h : ∀ x ∈ l, x.1 ≠ j) : ∀ {k : Nat}, k ≤ l.length → setG l G f k j = f j
  | 0, _ => rfl
  | k + 1, hk => by
    have hy := List.getElem?_eq_getElem (show k < l.length by omega)
    rw [setG_next hy]
    unfold upd
    rw [if_neg (fun e => h _ (List.getElem_mem (show k < l.length by omega)) e.symm)]
    exact setG_out h (by omega)
theorem setF_out {l : List (Nat × ByteArray)} {last : Nat} {f : Nat → ByteArray} {j : Nat} (h : ∀ x ∈ l, x.1 ≠ j) : ∀ {k : Nat}, k ≤ l.length → setF l last f k j = f j
  | 0, _ => rfl
  | k + 1, hk => by
    have hy := List.getElem?_eq_getElem (show k < l.length by omega)
    rw [setF_next hy]
    unfold upd
    rw [if_neg (fun e => h _ (List.getElem_mem (show k < l.length by omega)) e.symm)]
    exact setF_out h (by omega)
theorem setF_size {l : List (Nat × ByteArray)} {last : Nat} {f : Nat → ByteArray} (hl : ∀ x ∈ l, x.2.size = 64) (hn : last ≤ 64) {m : Nat} (hf : ∀ j, j < m → (f j).size = 64) (hx : ∀ x ∈ l, x.1 < m) : ∀ {k : Nat}, k ≤ l.length → ∀ j, j < m → (setF l last f k j).size = 64
  | 0, _, j, hj => hf j hj
  | k + 1, hk, j, hj => by
    have hm := List.getElem_mem (show k < l.length by omega)
    rw [setF_next (List.getElem?_eq_getElem (show k < l.length by omega))]
    unfold upd
    split
    · exact tornB_size' (by split <;> omega) (hl _ hm) (setF_size hl hn hf hx (by omega) _ (hx _ hm))
    · exact setF_size hl hn hf hx (by omega) j hj
/-- All is as it was synced, when what is loose was gone over. -/
theorem setG_all {s : DS} {l : List (Nat × ByteArray)} {last : Nat} (hsub : ∀ x ∈ l, ∃ y ∈ s.loose, y.1 = x.1) (j : Nat) : setG s.loose (setF l last (lastS s.sync) l.length) (sectorS s) s.loose.length j = setF l last (lastS s.sync) l.length j := by
  by_cases h : ∃ x ∈ s.loose, x.1 = j
  · obtain ⟨x, hx, rfl⟩ := h
    obtain ⟨i, hi, e⟩ := List.getElem_of_mem hx
    exact setG_in hi (Nat.le_refl _) (by rw [List.getElem?_eq_getElem hi, e])
  · have h' : ∀ x ∈ s.loose, x.1 ≠ j := fun x hx e => h ⟨x, hx, e⟩
    rw [setG_out h' (Nat.le_refl _), setF_out (fun x hx e => by
      obtain ⟨y, hy, e2⟩ := hsub x hx
      exact h' y hy (e2.trans e)) (Nat.le_refl _)]
    unfold sectorS
    exact lastS_apart _ _ _ h'
theorem cut_64 (b : ByteArray) (w : World) : Calls Try.prog 56 #[.agg (bV b), .int .i64 64] w fun r w' => r = .returned (.slice (some ⟨w.heap.size, 0, none⟩) 64 64) ∧ w' = w.alloc (.cells (bV b) 76) := cut_any b 64 (Nat.le_refl _) w
set_option maxRecDepth 100000 in
set_option maxHeartbeats 2000000 in
theorem settle_any {w : World} {B b1 b2 : Nat} {v : Value} {s : DS} (h : DiskAt w B b1 b2 v s) (hW : Whole s) (hF : Few s) {q : Option Addr} {cap : Nat} {l : List (Nat × ByteArray)} (hr : w.ownsRow 0 78 65 (.slice q l.length cap) l.length (wcs l)) (hl : ∀ x ∈ l, x.1 < s.many ∧ x.2.size = 64) (hlen : l.length ≤ 100000)
    (last : Nat) (hlast : last ≤ 64) (S' : List (Nat × ByteArray)) (hS : ∀ k, k < s.many → lastS S' k = setF l last (lastS s.sync) l.length k) (hsub : ∀ x ∈ l, ∃ y ∈ s.loose, y.1 = x.1) :
    Calls Try.prog 45 #[.pointer (some ⟨B, 0, none⟩), .slice q l.length cap, .int .i64 last] w fun r w' => r = .returned (.tuple #[]) ∧ DiskAt w' B b1 b2 (.slice none 0 0) ⟨s.many, S', [], s.left⟩ ∧ Apart (fun j => j = B ∨ j = b1 ∨ j = b2) w w' := by
  have hWR : Hid (∀ k : Nat, k < l.length → IntKind.i64.wrap ((l.length : Int) - 1) = (l.length : Int) - 1) := Lib.hid fun k hk => by simp [IntKind.wrap, IntKind.signed, IntKind.bits]; omega
  have hB2 : b2 ≠ B := h.sync.cells h.cells
  have HR := Lib.hid hr
  have HLs := Lib.hid hl
  have HD := Lib.hid h
  have HW := Lib.hid hW
  have HFW := Lib.hid hF
  have HSS := Lib.hid hS
  have HSUB := Lib.hid hsub
  have hne := h.ne
  have hB1 : b1 ≠ B := h.now.cells h.cells
  have hv1 := row_apart h.now h.row
  have hv2 := row_apart h.sync h.row
  obtain ⟨q2, c2, rfl⟩ : ∃ q2 c2, v = .slice q2 s.loose.length c2 := by
    rcases h.row.2 with ⟨e, h0⟩ | ⟨g, cap', cur, e, -⟩
    · exact ⟨none, 0, by rw [e, h0]⟩
    · exact ⟨_, _, e⟩
  clear hr hl hW hF hS hsub h
  go_enter Try.func45, Try.ntmps45
  go_wp2
  go_loopw [13] (fun i wr => ∃ k : Nat, k ≤ l.length ∧ i = .int .i64 k ∧ Hid (MapIs wr b2 s.many (setF l last (lastS s.sync) k)) ∧ Hid (Apart (fun j => j = b2) w wr)) (fun i _ => (l.length - intOf i).toNat)
  case atStart => exact ⟨0, Nat.zero_le _, by first | rfl | go_num, Lib.hid HD.out.sync, Lib.hid (Apart.refl _ _)⟩
  case round =>
    obtain ⟨k, hk, rfl, M, A⟩ := hrel
    by_cases hlt : k < l.length
    · obtain ⟨x, hx⟩ : ∃ x, l[k]? = some x := ⟨_, List.getElem?_eq_getElem hlt⟩
      obtain ⟨hx1, hx2⟩ := HLs.out x (List.mem_of_getElem? hx)
      have hkeep : ∀ j, j < w.heap.size → j ≠ b2 → wr.heap[j]? = w.heap[j]? := A.out.block
      have x1 : wr.cell? ⟨B, 1, none⟩ = some (.map (some b2)) := (World.cell?_of_block (w := w) (hkeep B (lt_of_heap HD.out.cells) (fun e => hB2 e.symm))).trans HD.out.cell.2.1
      have lB : B < wr.heap.size := Nat.lt_of_lt_of_le (lt_of_heap HD.out.cells) A.out.size
      have l2 : b2 < wr.heap.size := Nat.lt_of_lt_of_le HD.out.sync.lt A.out.size
      obtain ⟨g, cap', e1, hrow⟩ : ∃ g cap', Value.slice q l.length cap = .slice (some ⟨g, 0, none⟩) l.length cap' ∧ ∀ j v, (Value.int .i64 (x.1 : Int) :: bL x.2)[j]? = some v → wr.cell? ⟨g, k * 65 + j, none⟩ = some v := by
        rcases HR.out.2 with ⟨e, h0⟩ | ⟨g, cap', cur, e, -, hg, rest⟩
        · omega
        · refine ⟨g, cap', e, fun j u hu => ?_⟩
          have hgb : g ≠ b2 := fun e => HD.out.sync.cells hg e.symm
          have hr2 := HR.out
          rw [e] at hr2
          rw [← row_cells hr2 (fun y hy => (HLs.out y hy).2) hx j u hu]
          exact World.cell?_of_block (w := w) (hkeep g (lt_of_heap hg) hgb)
      injection e1 with e1 _ e3
      subst e1 e3
      have HRW := Lib.hid hrow
      clear hrow
      have HX := Lib.hid hx
      clear hx
      obtain ⟨at', b⟩ := x
      replace hx1 : at' < s.many := hx1
      replace hx2 : b.size = 64 := hx2
      have hw1 := hWR.out k hlt
      have K1 : Hid (∀ w', Apart (fun j => j = b2) (wr.alloc (.cells (wV at' b) 78)) w' → w'.cell? ⟨B, 1, none⟩ = some (.map (some b2)) ∧ w'.cell? ⟨wr.heap.size, 0, none⟩ = some (.int .i64 at') ∧ ∀ j v, (bL b)[j]? = some v → w'.cell? ⟨wr.heap.size, 1 + j, none⟩ = some v) := Lib.hid fun w' h => by
        obtain ⟨L0, L1⟩ := box_write wr at' b
        refine ⟨(World.cell?_of_block (w := wr.alloc (.cells (wV at' b) 78)) (h.block B (by simp; omega) (fun e => hB2 e.symm))).trans (by go_cell), (World.cell?_of_block (w := wr.alloc (.cells (wV at' b) 78)) (h.block wr.heap.size (by simp) (Nat.ne_of_gt l2))).trans L0, fun j v hv => (World.cell?_of_block (w := wr.alloc (.cells (wV at' b) 78)) (h.block wr.heap.size (by simp) (Nat.ne_of_gt l2))).trans (L1 j v hv)⟩
      have M1 := Lib.hid (M.out.below (w' := wr.alloc (.cells (wV at' b) 78)) ((Below.refl _ _).alloc (Nat.le_refl _) _))
      by_cases hend : k + 1 = l.length
      · have hq : ((k : Int) == (l.length : Int) - 1) = true := by simp; omega
        have HEND := Lib.hid hend
        clear hend hkeep
        go_wp2_with (first
          | (refine wpList_load_write rfl _ rfl rfl hx2 HRW.out ?_)
          | (refine wpList_store_row rfl 78 _ _ rfl wr.heap.size (wV at' b) rfl rfl 78 _ (heap_alloc_new wr _) (by rw [wV_size hx2]; kernel_rfl) (by rw [wV_size hx2]; kernel_rfl) (wV_one _ _) ?_; rw [World.setRow_alloc_new])
          | fail)
        have HNM : Hid (last ≤ 64) := Lib.hid hlast
        refine wp_region_held_drew (S := fun w' => Apart (fun j => j = b2) (wr.alloc (.cells (wV at' b) 78)) w') (by kernel_rfl) ⟨rfl, rfl, rfl, Nat.le_refl _, fun _ _ _ => rfl⟩ (fun H0 => ?_)
        refine wpAnyH_take (i := 0) (oi := { dst := some 24, op := Go.Op.move (Go.Operand.tmp 0), type := 29, pos := "disk.go:152", after := #[], guard := none }) (v := ?_) rfl (by kernel_rfl) (by kernel_rfl) (by kernel_rfl) (fun _ _ _ h => h) (Or.inl ⟨by rfl, ?_⟩) H0 ?_
        rotate_left
        focus (intro w' hSw; (try dsimp only at hSw); go_simp; (try with_reducible rfl))
        simp only [Act.put, List.setIfInBounds_toArray, List.set_cons_zero, List.set_cons_succ]
        refine wpAnyH_take (i := 1) (oi := { dst := some 25, op := Go.Op.nilCheck (Go.Operand.tmp 24), type := 0, pos := "disk.go:152", after := #[{ on := 0, ground := Go.Ground.data }], guard := none }) (v := ?_) rfl (by kernel_rfl) (by kernel_rfl) (by kernel_rfl) (fun _ _ _ h => h) (Or.inl ⟨by rfl, ?_⟩) H0 ?_
        rotate_left
        focus (intro w' hSw; (try dsimp only at hSw); go_simp; (try with_reducible rfl))
        simp only [Act.put, List.setIfInBounds_toArray, List.set_cons_zero, List.set_cons_succ]
        refine wpAnyH_take (i := 2) (oi := { dst := some 26, op := Go.Op.fieldAddr 65 (Go.Operand.tmp 25) 1, type := 0, pos := "disk.go:152", after := #[{ on := 1, ground := Go.Ground.data }], guard := none }) (v := ?_) rfl (by kernel_rfl) (by kernel_rfl) (by kernel_rfl) (fun _ _ _ h => h) (Or.inl ⟨by rfl, ?_⟩) H0 ?_
        rotate_left
        focus (intro w' hSw; (try dsimp only at hSw); go_simp; (try with_reducible rfl))
        simp only [Act.put, List.setIfInBounds_toArray, List.set_cons_zero, List.set_cons_succ]
        refine wpAnyH_take (i := 3) (oi := { dst := some 27, op := Go.Op.load 59 (Go.Operand.tmp 26), type := 59, pos := "disk.go:152", after := #[{ on := 2, ground := Go.Ground.data }], guard := none }) (v := ?_) rfl (by kernel_rfl) (by kernel_rfl) (by kernel_rfl) (fun _ _ _ h => h) (Or.inl ⟨by rfl, ?_⟩) H0 ?_
        rotate_left
        focus (intro w' hSw; (try dsimp only at hSw); have c1 := (K1.out _ hSw).1; go_simp; (try with_reducible rfl))
        simp only [Act.put, List.setIfInBounds_toArray, List.set_cons_zero, List.set_cons_succ]
        refine wpAnyH_take (i := 4) (oi := { dst := some 28, op := Go.Op.fieldAddr 78 (Go.Operand.tmp 7) 0, type := 0, pos := "disk.go:152", after := #[], guard := none }) (v := ?_) rfl (by kernel_rfl) (by kernel_rfl) (by kernel_rfl) (fun _ _ _ h => h) (Or.inl ⟨by rfl, ?_⟩) H0 ?_
        rotate_left
        focus (intro w' hSw; (try dsimp only at hSw); go_simp; (try with_reducible rfl))
        simp only [Act.put, List.setIfInBounds_toArray, List.set_cons_zero, List.set_cons_succ]
        refine wpAnyH_take (i := 5) (oi := { dst := some 29, op := Go.Op.load 3 (Go.Operand.tmp 28), type := 3, pos := "disk.go:152", after := #[{ on := 4, ground := Go.Ground.data }], guard := none }) (v := ?_) rfl (by kernel_rfl) (by kernel_rfl) (by kernel_rfl) (fun _ _ _ h => h) (Or.inl ⟨by rfl, ?_⟩) H0 ?_
        rotate_left
        focus (intro w' hSw; (try dsimp only at hSw); have c1 := (K1.out _ hSw).2.1; go_simp; (try with_reducible rfl))
        simp only [Act.put, List.setIfInBounds_toArray, List.set_cons_zero, List.set_cons_succ]
        refine wpAnyH_take (i := 6) (oi := { dst := some 30, op := Go.Op.fieldAddr 78 (Go.Operand.tmp 7) 1, type := 0, pos := "disk.go:152", after := #[], guard := none }) (v := ?_) rfl (by kernel_rfl) (by kernel_rfl) (by kernel_rfl) (fun _ _ _ h => h) (Or.inl ⟨by rfl, ?_⟩) H0 ?_
        rotate_left
        focus (intro w' hSw; (try dsimp only at hSw); go_simp; (try with_reducible rfl))
        simp only [Act.put, List.setIfInBounds_toArray, List.set_cons_zero, List.set_cons_succ]
        refine wpAnyH_take (i := 7) (oi := { dst := some 31, op := Go.Op.load 76 (Go.Operand.tmp 30), type := 76, pos := "disk.go:152", after := #[{ on := 6, ground := Go.Ground.data }], guard := none }) (v := ?_) rfl (by kernel_rfl) (by kernel_rfl) (by kernel_rfl) (fun _ _ _ h => h) (Or.inl ⟨by rfl, ?_⟩) H0 ?_
        rotate_left
        focus (intro w' hSw; (try dsimp only at hSw); refine exec_load_sec (x := .tmp 30) ?_ ?_ hx2 (K1.out _ hSw).2.2 <;> rfl)
        simp only [Act.put, List.setIfInBounds_toArray, List.set_cons_zero, List.set_cons_succ]
        refine wpAnyH_take (i := 8) (oi := { dst := some 32, op := Go.Op.move (Go.Operand.tmp 8), type := 3, pos := "disk.go:152", after := #[], guard := none }) (v := ?_) rfl (by kernel_rfl) (by kernel_rfl) (by kernel_rfl) (fun _ _ _ h => h) (Or.inl ⟨by rfl, ?_⟩) H0 ?_
        rotate_left
        focus (intro w' hSw; (try dsimp only at hSw); go_simp; (try with_reducible rfl))
        simp only [Act.put, List.setIfInBounds_toArray, List.set_cons_zero, List.set_cons_succ]
        refine wpAnyH_ready (rs := [9]) (by kernel_rfl) (by simp) ?_
        refine AllReadyH.cons (o := { dst := some 33, op := Go.Op.call { callee := Go.Callee.value (Go.Operand.func 56), args := #[Go.Operand.tmp 31, Go.Operand.tmp 32], argTypes := #[76, 3] }, type := 47, pos := "disk.go:152", after := #[{ on := 7, ground := Go.Ground.data }, { on := 8, ground := Go.Ground.data }], guard := none }) rfl (fun K hK => ?_) ?_
        rotate_left
        exact AllReadyH.nil
        go_simp
        (go_at_call 56; (with_reducible refine (cut_any b last HNM.out _).mono ?_); rintro e w2 ⟨rfl, hw2⟩)
        have B2 : Below (wr.alloc (.cells (wV at' b) 78)).heap.size (wr.alloc (.cells (wV at' b) 78)) w2 := by rw [hw2]; exact (Below.refl (wr.alloc (.cells (wV at' b) 78)).heap.size (wr.alloc (.cells (wV at' b) 78))).drew.alloc (Nat.le_refl _) _
        have BT : BytesAt w2 (some ⟨wr.heap.size + 1, 0, none⟩) ((natL b).take last) := by rw [hw2]; have := bytesAt_cut (wr.alloc (.cells (wV at' b) 78)).drew b last; rwa [show (wr.alloc (.cells (wV at' b) 78)).drew.heap.size = wr.heap.size + 1 by simp] at this
        clear hw2
        try go_wp2_with fail
        refine hK.out _ _ (Below.apart B2 _) (fun H1 => ?_)
        clear hK K
        try simp only [Act.put, List.setIfInBounds_toArray, List.set_cons_zero, List.set_cons_succ]
        refine wpAnyH_ready (rs := [10]) (by kernel_rfl) (by simp) ?_
        refine AllReadyH.cons (o := { dst := some 34, op := Go.Op.call { callee := Go.Callee.value (Go.Operand.func 43), args := #[Go.Operand.tmp 27, Go.Operand.tmp 29, Go.Operand.tmp 33], argTypes := #[59, 3, 47] }, type := 0, pos := "disk.go:152", after := #[{ on := 3, ground := Go.Ground.data }, { on := 5, ground := Go.Ground.data }, { on := 9, ground := Go.Ground.data }, { on := 9, ground := Go.Ground.chain }], guard := none }) rfl (fun K hK => ?_) ?_
        rotate_left
        exact AllReadyH.nil
        go_simp
        (go_at_call 43; refine (lay_torn_any (M1.out.below B2) hx1 HNM.out hx2 BT).mono ?_; rintro e w3 ⟨rfl, M3, A3⟩)
        try go_wp2_with fail
        have A4 := H1.trans A3 (fun j hj => .inl hj)
        refine hK.out _ _ A4 (fun H2 => ?_)
        clear hK K
        try simp only [Act.put, List.setIfInBounds_toArray, List.set_cons_zero, List.set_cons_succ]
        refine wpAnyH_done (by kernel_rfl) ?_ _
        go_wp2_with fail
        refine ⟨⟨k + 1, hlt, by first | rfl | go_num, Lib.hid ?_, Lib.hid ?_⟩, by simp [intOf]; omega⟩
        focus (rw [setF_next HX.out, if_pos HEND.out]; exact M3)
        focus exact (A.out.trans (Below.apart ((Below.refl wr.heap.size wr).alloc (Nat.le_refl _) _) (fun _ => False)) (fun j hj => hj.elim)).trans A4 (fun j hj => .inl hj)

      · have hq : ((k : Int) == (l.length : Int) - 1) = false := by simp; omega
        have HEND := Lib.hid hend
        clear hend hkeep
        go_wp2_with (first
          | (refine wpList_load_write rfl _ rfl rfl hx2 HRW.out ?_)
          | (refine wpList_store_row rfl 78 _ _ rfl wr.heap.size (wV at' b) rfl rfl 78 _ (heap_alloc_new wr _) (by rw [wV_size hx2]; kernel_rfl) (by rw [wV_size hx2]; kernel_rfl) (wV_one _ _) ?_; rw [World.setRow_alloc_new])
          | fail)
        have HNM : Hid (64 ≤ 64) := Lib.hid (Nat.le_refl _)
        refine wp_region_held_drew (S := fun w' => Apart (fun j => j = b2) (wr.alloc (.cells (wV at' b) 78)) w') (by kernel_rfl) ⟨rfl, rfl, rfl, Nat.le_refl _, fun _ _ _ => rfl⟩ (fun H0 => ?_)
        refine wpAnyH_take (i := 0) (oi := { dst := some 24, op := Go.Op.move (Go.Operand.tmp 0), type := 29, pos := "disk.go:152", after := #[], guard := none }) (v := ?_) rfl (by kernel_rfl) (by kernel_rfl) (by kernel_rfl) (fun _ _ _ h => h) (Or.inl ⟨by rfl, ?_⟩) H0 ?_
        rotate_left
        focus (intro w' hSw; (try dsimp only at hSw); go_simp; (try with_reducible rfl))
        simp only [Act.put, List.setIfInBounds_toArray, List.set_cons_zero, List.set_cons_succ]
        refine wpAnyH_take (i := 1) (oi := { dst := some 25, op := Go.Op.nilCheck (Go.Operand.tmp 24), type := 0, pos := "disk.go:152", after := #[{ on := 0, ground := Go.Ground.data }], guard := none }) (v := ?_) rfl (by kernel_rfl) (by kernel_rfl) (by kernel_rfl) (fun _ _ _ h => h) (Or.inl ⟨by rfl, ?_⟩) H0 ?_
        rotate_left
        focus (intro w' hSw; (try dsimp only at hSw); go_simp; (try with_reducible rfl))
        simp only [Act.put, List.setIfInBounds_toArray, List.set_cons_zero, List.set_cons_succ]
        refine wpAnyH_take (i := 2) (oi := { dst := some 26, op := Go.Op.fieldAddr 65 (Go.Operand.tmp 25) 1, type := 0, pos := "disk.go:152", after := #[{ on := 1, ground := Go.Ground.data }], guard := none }) (v := ?_) rfl (by kernel_rfl) (by kernel_rfl) (by kernel_rfl) (fun _ _ _ h => h) (Or.inl ⟨by rfl, ?_⟩) H0 ?_
        rotate_left
        focus (intro w' hSw; (try dsimp only at hSw); go_simp; (try with_reducible rfl))
        simp only [Act.put, List.setIfInBounds_toArray, List.set_cons_zero, List.set_cons_succ]
        refine wpAnyH_take (i := 3) (oi := { dst := some 27, op := Go.Op.load 59 (Go.Operand.tmp 26), type := 59, pos := "disk.go:152", after := #[{ on := 2, ground := Go.Ground.data }], guard := none }) (v := ?_) rfl (by kernel_rfl) (by kernel_rfl) (by kernel_rfl) (fun _ _ _ h => h) (Or.inl ⟨by rfl, ?_⟩) H0 ?_
        rotate_left
        focus (intro w' hSw; (try dsimp only at hSw); have c1 := (K1.out _ hSw).1; go_simp; (try with_reducible rfl))
        simp only [Act.put, List.setIfInBounds_toArray, List.set_cons_zero, List.set_cons_succ]
        refine wpAnyH_take (i := 4) (oi := { dst := some 28, op := Go.Op.fieldAddr 78 (Go.Operand.tmp 7) 0, type := 0, pos := "disk.go:152", after := #[], guard := none }) (v := ?_) rfl (by kernel_rfl) (by kernel_rfl) (by kernel_rfl) (fun _ _ _ h => h) (Or.inl ⟨by rfl, ?_⟩) H0 ?_
        rotate_left
        focus (intro w' hSw; (try dsimp only at hSw); go_simp; (try with_reducible rfl))
        simp only [Act.put, List.setIfInBounds_toArray, List.set_cons_zero, List.set_cons_succ]
        refine wpAnyH_take (i := 5) (oi := { dst := some 29, op := Go.Op.load 3 (Go.Operand.tmp 28), type := 3, pos := "disk.go:152", after := #[{ on := 4, ground := Go.Ground.data }], guard := none }) (v := ?_) rfl (by kernel_rfl) (by kernel_rfl) (by kernel_rfl) (fun _ _ _ h => h) (Or.inl ⟨by rfl, ?_⟩) H0 ?_
        rotate_left
        focus (intro w' hSw; (try dsimp only at hSw); have c1 := (K1.out _ hSw).2.1; go_simp; (try with_reducible rfl))
        simp only [Act.put, List.setIfInBounds_toArray, List.set_cons_zero, List.set_cons_succ]
        refine wpAnyH_take (i := 6) (oi := { dst := some 30, op := Go.Op.fieldAddr 78 (Go.Operand.tmp 7) 1, type := 0, pos := "disk.go:152", after := #[], guard := none }) (v := ?_) rfl (by kernel_rfl) (by kernel_rfl) (by kernel_rfl) (fun _ _ _ h => h) (Or.inl ⟨by rfl, ?_⟩) H0 ?_
        rotate_left
        focus (intro w' hSw; (try dsimp only at hSw); go_simp; (try with_reducible rfl))
        simp only [Act.put, List.setIfInBounds_toArray, List.set_cons_zero, List.set_cons_succ]
        refine wpAnyH_take (i := 7) (oi := { dst := some 31, op := Go.Op.load 76 (Go.Operand.tmp 30), type := 76, pos := "disk.go:152", after := #[{ on := 6, ground := Go.Ground.data }], guard := none }) (v := ?_) rfl (by kernel_rfl) (by kernel_rfl) (by kernel_rfl) (fun _ _ _ h => h) (Or.inl ⟨by rfl, ?_⟩) H0 ?_
        rotate_left
        focus (intro w' hSw; (try dsimp only at hSw); refine exec_load_sec (x := .tmp 30) ?_ ?_ hx2 (K1.out _ hSw).2.2 <;> rfl)
        simp only [Act.put, List.setIfInBounds_toArray, List.set_cons_zero, List.set_cons_succ]
        refine wpAnyH_take (i := 8) (oi := { dst := some 32, op := Go.Op.move (Go.Operand.tmp 8), type := 3, pos := "disk.go:152", after := #[], guard := none }) (v := ?_) rfl (by kernel_rfl) (by kernel_rfl) (by kernel_rfl) (fun _ _ _ h => h) (Or.inl ⟨by rfl, ?_⟩) H0 ?_
        rotate_left
        focus (intro w' hSw; (try dsimp only at hSw); go_simp; (try with_reducible rfl))
        simp only [Act.put, List.setIfInBounds_toArray, List.set_cons_zero, List.set_cons_succ]
        refine wpAnyH_ready (rs := [9]) (by kernel_rfl) (by simp) ?_
        refine AllReadyH.cons (o := { dst := some 33, op := Go.Op.call { callee := Go.Callee.value (Go.Operand.func 56), args := #[Go.Operand.tmp 31, Go.Operand.tmp 32], argTypes := #[76, 3] }, type := 47, pos := "disk.go:152", after := #[{ on := 7, ground := Go.Ground.data }, { on := 8, ground := Go.Ground.data }], guard := none }) rfl (fun K hK => ?_) ?_
        rotate_left
        exact AllReadyH.nil
        go_simp
        (go_at_call 56; (with_reducible refine (cut_64 b _).mono ?_); rintro e w2 ⟨rfl, hw2⟩)
        have B2 : Below (wr.alloc (.cells (wV at' b) 78)).heap.size (wr.alloc (.cells (wV at' b) 78)) w2 := by rw [hw2]; exact (Below.refl (wr.alloc (.cells (wV at' b) 78)).heap.size (wr.alloc (.cells (wV at' b) 78))).drew.alloc (Nat.le_refl _) _
        have BT : BytesAt w2 (some ⟨wr.heap.size + 1, 0, none⟩) ((natL b).take 64) := by rw [hw2]; have := bytesAt_cut (wr.alloc (.cells (wV at' b) 78)).drew b 64; rwa [show (wr.alloc (.cells (wV at' b) 78)).drew.heap.size = wr.heap.size + 1 by simp] at this
        clear hw2
        try go_wp2_with fail
        refine hK.out _ _ (Below.apart B2 _) (fun H1 => ?_)
        clear hK K
        try simp only [Act.put, List.setIfInBounds_toArray, List.set_cons_zero, List.set_cons_succ]
        refine wpAnyH_ready (rs := [10]) (by kernel_rfl) (by simp) ?_
        refine AllReadyH.cons (o := { dst := some 34, op := Go.Op.call { callee := Go.Callee.value (Go.Operand.func 43), args := #[Go.Operand.tmp 27, Go.Operand.tmp 29, Go.Operand.tmp 33], argTypes := #[59, 3, 47] }, type := 0, pos := "disk.go:152", after := #[{ on := 3, ground := Go.Ground.data }, { on := 5, ground := Go.Ground.data }, { on := 9, ground := Go.Ground.data }, { on := 9, ground := Go.Ground.chain }], guard := none }) rfl (fun K hK => ?_) ?_
        rotate_left
        exact AllReadyH.nil
        go_simp
        (go_at_call 43; refine (lay_torn_any (M1.out.below B2) hx1 HNM.out hx2 BT).mono ?_; rintro e w3 ⟨rfl, M3, A3⟩)
        try go_wp2_with fail
        have A4 := H1.trans A3 (fun j hj => .inl hj)
        refine hK.out _ _ A4 (fun H2 => ?_)
        clear hK K
        try simp only [Act.put, List.setIfInBounds_toArray, List.set_cons_zero, List.set_cons_succ]
        refine wpAnyH_done (by kernel_rfl) ?_ _
        go_wp2_with fail
        refine ⟨⟨k + 1, hlt, by first | rfl | go_num, Lib.hid ?_, Lib.hid ?_⟩, by simp [intOf]; omega⟩
        focus (rw [setF_next HX.out, if_neg HEND.out]; exact M3)
        focus exact (A.out.trans (Below.apart ((Below.refl wr.heap.size wr).alloc (Nat.le_refl _) _) (fun _ => False)) (fun j hj => hj.elim)).trans A4 (fun j hj => .inl hj)

    · obtain rfl : k = l.length := by omega
      have hGs : ∀ j, j < s.many → (setF l last (lastS s.sync) l.length j).size = 64 := setF_size (fun x hx => (HLs.out x hx).2) hlast (fun j _ => lastS_size (fun x hx => (HW.out.sync x hx).2) j) (fun x hx => (HLs.out x hx).1) (Nat.le_refl _)
      have HALL := Lib.hid (fun j => setG_all (s := s) (l := l) (last := last) HSUB.out j)
      have HSL : Hid (∀ k, k < s.many → lastS S' k = setF l last (lastS s.sync) l.length k) := HSS
      generalize hG : setF l last (lastS s.sync) l.length = G at *
      clear hG
      have hkeep : ∀ j, j < w.heap.size → j ≠ b2 → wr.heap[j]? = w.heap[j]? := A.out.block
      have CB := Lib.hid ((hkeep B (lt_of_heap HD.out.cells) (fun e => hB2 e.symm)).trans HD.out.cells)
      have lB : B < wr.heap.size := Nat.lt_of_lt_of_le (lt_of_heap HD.out.cells) A.out.size
      have l1 : b1 < wr.heap.size := Nat.lt_of_lt_of_le HD.out.now.lt A.out.size
      have l2 : b2 < wr.heap.size := Nat.lt_of_lt_of_le HD.out.sync.lt A.out.size
      have x3 : wr.cell? ⟨B, 3, none⟩ = some (.slice q2 s.loose.length c2) := cell_of_row wr B 3 _ 65 (0, 0) CB.out
      have M0 : MapIs wr b1 s.many (sectorS s) := HD.out.now.of_block (hkeep b1 HD.out.now.lt hne)
      have hn2 : s.loose.length ≤ 20000 := HFW.out.2
      go_wp2
      go_loopw [41] (fun i wz => ∃ k : Nat, k ≤ s.loose.length ∧ i = .int .i64 k ∧ Hid (MapIs wz b1 s.many (setG s.loose G (sectorS s) k)) ∧ Hid (Apart (fun j => j = b1) wr wz)) (fun i _ => (s.loose.length - intOf i).toNat)
      case atStart => exact ⟨0, Nat.zero_le _, by first | rfl | go_num, Lib.hid M0, Lib.hid (Apart.refl _ _)⟩
      case round =>
        rename World => wz
        obtain ⟨k, hk2, rfl, MZ, AZ⟩ := hrel
        by_cases hlt : k < s.loose.length
        · obtain ⟨x, hx⟩ : ∃ x, s.loose[k]? = some x := ⟨_, List.getElem?_eq_getElem hlt⟩
          obtain ⟨hx1, hx2⟩ := HW.out.loose x (List.mem_of_getElem? hx)
          have zkeep : ∀ j, j < wr.heap.size → j ≠ b1 → wz.heap[j]? = wr.heap[j]? := AZ.out.block
          have zsz := AZ.out.size
          have x0 : wz.cell? ⟨B, 0, none⟩ = some (.map (some b1)) := (World.cell?_of_block (w := wr) (zkeep B lB (fun e => hB1 e.symm))).trans (cell_of_row wr B 0 _ 65 (0, 0) CB.out)
          have x1 : wz.cell? ⟨B, 1, none⟩ = some (.map (some b2)) := (World.cell?_of_block (w := wr) (zkeep B lB (fun e => hB1 e.symm))).trans (cell_of_row wr B 1 _ 65 (0, 0) CB.out)
          obtain ⟨g, cap', e1, hrow⟩ : ∃ g cap', Value.slice q2 s.loose.length c2 = .slice (some ⟨g, 0, none⟩) s.loose.length cap' ∧ ∀ j v, (Value.int .i64 (x.1 : Int) :: bL x.2)[j]? = some v → wz.cell? ⟨g, k * 65 + j, none⟩ = some v := by
            rcases HD.out.row.2 with ⟨e, h0⟩ | ⟨g, cap', cur, e, -, hg, rest⟩
            · omega
            · refine ⟨g, cap', e, fun j u hu => ?_⟩
              have hg2 : g ≠ b2 := fun e => HD.out.sync.cells hg e.symm
              have hg1 : g ≠ b1 := fun e => HD.out.now.cells hg e.symm
              have hr2 := HD.out.row
              rw [e] at hr2
              rw [← row_cells hr2 (fun y hy => (HW.out.loose y hy).2) hx j u hu]
              have lg := lt_of_heap hg
              exact (World.cell?_of_block (w := wr) (zkeep g (Nat.lt_of_lt_of_le lg A.out.size) hg1)).trans (World.cell?_of_block (w := w) (hkeep g lg hg2))
          injection e1 with e1 _ e3
          subst e1 e3
          have HRW := Lib.hid hrow
          clear hrow
          have HX := Lib.hid hx
          clear hx
          obtain ⟨at', b⟩ := x
          replace hx1 : at' < s.many := hx1
          replace hx2 : b.size = 64 := hx2
          have lBz : B < wz.heap.size := by omega
          have l1z : b1 < wz.heap.size := by omega
          have l2z : b2 < wz.heap.size := by omega
          have K1 : Hid (∀ w', Apart (fun j => j = b1) (wz.alloc (.cells (wV at' b) 78)) w' → w'.cell? ⟨B, 0, none⟩ = some (.map (some b1)) ∧ w'.cell? ⟨B, 1, none⟩ = some (.map (some b2)) ∧ w'.cell? ⟨wz.heap.size, 0, none⟩ = some (.int .i64 at')) := Lib.hid fun w' h => by
            obtain ⟨L0, L1⟩ := box_write wz at' b
            exact ⟨(World.cell?_of_block (w := wz.alloc (.cells (wV at' b) 78)) (h.block B (by simp; omega) (fun e => hB1 e.symm))).trans (by go_cell), (World.cell?_of_block (w := wz.alloc (.cells (wV at' b) 78)) (h.block B (by simp; omega) (fun e => hB1 e.symm))).trans (by go_cell), (World.cell?_of_block (w := wz.alloc (.cells (wV at' b) 78)) (h.block wz.heap.size (by simp) (Nat.ne_of_gt l1z))).trans L0⟩
          have M1 := Lib.hid (MZ.out.below (w' := wz.alloc (.cells (wV at' b) 78)) ((Below.refl _ _).alloc (Nat.le_refl _) _))
          have MG : Hid (∀ w', Apart (fun j => j = b1) (wz.alloc (.cells (wV at' b) 78)) w' → MapIs w' b2 s.many G) := Lib.hid fun w' h => M.out.of_block ((h.block b2 (by simp; omega) (fun e => hne e.symm)).trans ((Below.heap_alloc wz _ b2 l2z).trans (zkeep b2 l2 (fun e => hne e.symm))))
          clear zkeep hkeep
          go_wp2_with (first
            | (refine wpList_load_write rfl _ rfl rfl hx2 HRW.out ?_)
            | (refine wpList_store_row rfl 78 _ _ rfl wz.heap.size (wV at' b) rfl rfl 78 _ (heap_alloc_new wz _) (by rw [wV_size hx2]; kernel_rfl) (by rw [wV_size hx2]; kernel_rfl) (wV_one _ _) ?_; rw [World.setRow_alloc_new])
            | fail)
          refine wp_region_held_drew (S := fun w' => Apart (fun j => j = b1) (wz.alloc (.cells (wV at' b) 78)) w') (by kernel_rfl) ⟨rfl, rfl, rfl, Nat.le_refl _, fun _ _ _ => rfl⟩ (fun H0 => ?_)
          refine wpAnyH_take (i := 0) (oi := { dst := some 45, op := Go.Op.move (Go.Operand.tmp 0), type := 29, pos := "disk.go:155", after := #[], guard := none }) (v := ?_) rfl (by kernel_rfl) (by kernel_rfl) (by kernel_rfl) (fun _ _ _ h => h) (Or.inl ⟨by rfl, ?_⟩) H0 ?_
          rotate_left
          focus (intro w' hSw; (try dsimp only at hSw); go_simp; (try with_reducible rfl))
          simp only [Act.put, List.setIfInBounds_toArray, List.set_cons_zero, List.set_cons_succ]
          refine wpAnyH_take (i := 1) (oi := { dst := some 46, op := Go.Op.nilCheck (Go.Operand.tmp 45), type := 0, pos := "disk.go:155", after := #[{ on := 0, ground := Go.Ground.data }], guard := none }) (v := ?_) rfl (by kernel_rfl) (by kernel_rfl) (by kernel_rfl) (fun _ _ _ h => h) (Or.inl ⟨by rfl, ?_⟩) H0 ?_
          rotate_left
          focus (intro w' hSw; (try dsimp only at hSw); go_simp; (try with_reducible rfl))
          simp only [Act.put, List.setIfInBounds_toArray, List.set_cons_zero, List.set_cons_succ]
          refine wpAnyH_take (i := 2) (oi := { dst := some 47, op := Go.Op.fieldAddr 65 (Go.Operand.tmp 46) 0, type := 0, pos := "disk.go:155", after := #[{ on := 1, ground := Go.Ground.data }], guard := none }) (v := ?_) rfl (by kernel_rfl) (by kernel_rfl) (by kernel_rfl) (fun _ _ _ h => h) (Or.inl ⟨by rfl, ?_⟩) H0 ?_
          rotate_left
          focus (intro w' hSw; (try dsimp only at hSw); go_simp; (try with_reducible rfl))
          simp only [Act.put, List.setIfInBounds_toArray, List.set_cons_zero, List.set_cons_succ]
          refine wpAnyH_take (i := 3) (oi := { dst := some 48, op := Go.Op.load 59 (Go.Operand.tmp 47), type := 59, pos := "disk.go:155", after := #[{ on := 2, ground := Go.Ground.data }], guard := none }) (v := ?_) rfl (by kernel_rfl) (by kernel_rfl) (by kernel_rfl) (fun _ _ _ h => h) (Or.inl ⟨by rfl, ?_⟩) H0 ?_
          rotate_left
          focus (intro w' hSw; (try dsimp only at hSw); have c1 := (K1.out _ hSw).1; go_simp; (try with_reducible rfl))
          simp only [Act.put, List.setIfInBounds_toArray, List.set_cons_zero, List.set_cons_succ]
          refine wpAnyH_take (i := 4) (oi := { dst := some 49, op := Go.Op.fieldAddr 78 (Go.Operand.tmp 10) 0, type := 0, pos := "disk.go:155", after := #[], guard := none }) (v := ?_) rfl (by kernel_rfl) (by kernel_rfl) (by kernel_rfl) (fun _ _ _ h => h) (Or.inl ⟨by rfl, ?_⟩) H0 ?_
          rotate_left
          focus (intro w' hSw; (try dsimp only at hSw); go_simp; (try with_reducible rfl))
          simp only [Act.put, List.setIfInBounds_toArray, List.set_cons_zero, List.set_cons_succ]
          refine wpAnyH_take (i := 5) (oi := { dst := some 50, op := Go.Op.load 3 (Go.Operand.tmp 49), type := 3, pos := "disk.go:155", after := #[{ on := 4, ground := Go.Ground.data }], guard := none }) (v := ?_) rfl (by kernel_rfl) (by kernel_rfl) (by kernel_rfl) (fun _ _ _ h => h) (Or.inl ⟨by rfl, ?_⟩) H0 ?_
          rotate_left
          focus (intro w' hSw; (try dsimp only at hSw); have c1 := (K1.out _ hSw).2.2; go_simp; (try with_reducible rfl))
          simp only [Act.put, List.setIfInBounds_toArray, List.set_cons_zero, List.set_cons_succ]
          refine wpAnyH_take (i := 6) (oi := { dst := some 51, op := Go.Op.move (Go.Operand.tmp 0), type := 29, pos := "disk.go:155", after := #[], guard := none }) (v := ?_) rfl (by kernel_rfl) (by kernel_rfl) (by kernel_rfl) (fun _ _ _ h => h) (Or.inl ⟨by rfl, ?_⟩) H0 ?_
          rotate_left
          focus (intro w' hSw; (try dsimp only at hSw); go_simp; (try with_reducible rfl))
          simp only [Act.put, List.setIfInBounds_toArray, List.set_cons_zero, List.set_cons_succ]
          refine wpAnyH_take (i := 7) (oi := { dst := some 52, op := Go.Op.nilCheck (Go.Operand.tmp 51), type := 0, pos := "disk.go:155", after := #[{ on := 6, ground := Go.Ground.data }], guard := none }) (v := ?_) rfl (by kernel_rfl) (by kernel_rfl) (by kernel_rfl) (fun _ _ _ h => h) (Or.inl ⟨by rfl, ?_⟩) H0 ?_
          rotate_left
          focus (intro w' hSw; (try dsimp only at hSw); go_simp; (try with_reducible rfl))
          simp only [Act.put, List.setIfInBounds_toArray, List.set_cons_zero, List.set_cons_succ]
          refine wpAnyH_take (i := 8) (oi := { dst := some 53, op := Go.Op.fieldAddr 65 (Go.Operand.tmp 52) 1, type := 0, pos := "disk.go:155", after := #[{ on := 7, ground := Go.Ground.data }], guard := none }) (v := ?_) rfl (by kernel_rfl) (by kernel_rfl) (by kernel_rfl) (fun _ _ _ h => h) (Or.inl ⟨by rfl, ?_⟩) H0 ?_
          rotate_left
          focus (intro w' hSw; (try dsimp only at hSw); go_simp; (try with_reducible rfl))
          simp only [Act.put, List.setIfInBounds_toArray, List.set_cons_zero, List.set_cons_succ]
          refine wpAnyH_take (i := 9) (oi := { dst := some 54, op := Go.Op.load 59 (Go.Operand.tmp 53), type := 59, pos := "disk.go:155", after := #[{ on := 8, ground := Go.Ground.data }], guard := none }) (v := ?_) rfl (by kernel_rfl) (by kernel_rfl) (by kernel_rfl) (fun _ _ _ h => h) (Or.inl ⟨by rfl, ?_⟩) H0 ?_
          rotate_left
          focus (intro w' hSw; (try dsimp only at hSw); have c1 := (K1.out _ hSw).2.1; go_simp; (try with_reducible rfl))
          simp only [Act.put, List.setIfInBounds_toArray, List.set_cons_zero, List.set_cons_succ]
          refine wpAnyH_take (i := 10) (oi := { dst := some 55, op := Go.Op.fieldAddr 78 (Go.Operand.tmp 10) 0, type := 0, pos := "disk.go:155", after := #[], guard := none }) (v := ?_) rfl (by kernel_rfl) (by kernel_rfl) (by kernel_rfl) (fun _ _ _ h => h) (Or.inl ⟨by rfl, ?_⟩) H0 ?_
          rotate_left
          focus (intro w' hSw; (try dsimp only at hSw); go_simp; (try with_reducible rfl))
          simp only [Act.put, List.setIfInBounds_toArray, List.set_cons_zero, List.set_cons_succ]
          refine wpAnyH_take (i := 11) (oi := { dst := some 56, op := Go.Op.load 3 (Go.Operand.tmp 55), type := 3, pos := "disk.go:155", after := #[{ on := 10, ground := Go.Ground.data }], guard := none }) (v := ?_) rfl (by kernel_rfl) (by kernel_rfl) (by kernel_rfl) (fun _ _ _ h => h) (Or.inl ⟨by rfl, ?_⟩) H0 ?_
          rotate_left
          focus (intro w' hSw; (try dsimp only at hSw); have c1 := (K1.out _ hSw).2.2; go_simp; (try with_reducible rfl))
          simp only [Act.put, List.setIfInBounds_toArray, List.set_cons_zero, List.set_cons_succ]
          refine wpAnyH_ready (rs := [12]) (by kernel_rfl) (by simp) ?_
          refine AllReadyH.cons (o := { dst := some 57, op := Go.Op.call { callee := Go.Callee.value (Go.Operand.func 50), args := #[Go.Operand.tmp 54, Go.Operand.tmp 56], argTypes := #[59, 3] }, type := 47, pos := "disk.go:155", after := #[{ on := 9, ground := Go.Ground.data }, { on := 11, ground := Go.Ground.data }], guard := none }) rfl (fun K hK => ?_) ?_
          rotate_left
          exact AllReadyH.nil
          go_simp
          (go_at_call 50; (with_reducible refine (bytes_any (MG.out _ H0) hx1).mono ?_); rintro e w2 ⟨rfl, hw2⟩)
          have B2 : Below (wz.alloc (.cells (wV at' b) 78)).heap.size (wz.alloc (.cells (wV at' b) 78)) w2 := by rw [hw2]; exact ((Below.refl (wz.alloc (.cells (wV at' b) 78)).heap.size (wz.alloc (.cells (wV at' b) 78))).drew.alloc (Nat.le_refl _) _).alloc (by simp) _
          have BT : BytesAt w2 (some ⟨wz.heap.size + 2, 0, none⟩) ((natL (G at')).take 64) := by rw [hw2]; have := bytesAt_cut ((wz.alloc (.cells (wV at' b) 78)).drew.alloc (.cells #[.map (some b2)] 59)) (G at') 64; rwa [show ((wz.alloc (.cells (wV at' b) 78)).drew.alloc (.cells #[.map (some b2)] 59)).heap.size = wz.heap.size + 2 by simp] at this
          clear hw2
          try go_wp2_with fail
          refine hK.out _ _ (Below.apart B2 _) (fun H1 => ?_)
          clear hK K
          try simp only [Act.put, List.setIfInBounds_toArray, List.set_cons_zero, List.set_cons_succ]
          refine wpAnyH_ready (rs := [13]) (by kernel_rfl) (by simp) ?_
          refine AllReadyH.cons (o := { dst := some 58, op := Go.Op.call { callee := Go.Callee.value (Go.Operand.func 43), args := #[Go.Operand.tmp 48, Go.Operand.tmp 50, Go.Operand.tmp 57], argTypes := #[59, 3, 47] }, type := 0, pos := "disk.go:155", after := #[{ on := 3, ground := Go.Ground.data }, { on := 5, ground := Go.Ground.data }, { on := 12, ground := Go.Ground.data }, { on := 12, ground := Go.Ground.chain }], guard := none }) rfl (fun K hK => ?_) ?_
          rotate_left
          exact AllReadyH.nil
          go_simp
          (go_at_call 43; refine (lay_torn_any (M1.out.below B2) hx1 (Nat.le_refl 64) (hGs _ hx1) BT).mono ?_; rintro e w3 ⟨rfl, M3, A3⟩)
          try go_wp2_with fail
          have A4 := H1.trans A3 (fun j hj => .inl hj)
          refine hK.out _ _ A4 (fun H2 => ?_)
          clear hK K
          try simp only [Act.put, List.setIfInBounds_toArray, List.set_cons_zero, List.set_cons_succ]
          refine wpAnyH_done (by kernel_rfl) ?_ _
          go_wp2_with fail
          refine ⟨⟨k + 1, hlt, by first | rfl | go_num, Lib.hid ?_, Lib.hid ?_⟩, by simp [intOf]; omega⟩
          focus (rw [setG_next HX.out]; rw [tornB_64 (hGs _ hx1) (MZ.out.size _ hx1)] at M3; exact M3)
          focus exact (AZ.out.trans (Below.apart ((Below.refl wz.heap.size wz).alloc (Nat.le_refl _) _) (fun _ => False)) (fun j hj => hj.elim)).trans A4 (fun j hj => .inl hj)
        · obtain rfl : k = s.loose.length := by omega
          have zB := (AZ.out.block B lB (fun e => hB1 e.symm)).trans CB.out
          have f3 := frozen_of_row wz B 3 _ 65 zB
          have y3 : wz.cell? ⟨B, 3, none⟩ = some (.slice q2 s.loose.length c2) := cell_of_row wz B 3 _ 65 (0, 0) zB
          go_wp2
          go_end0
          refine ⟨rfl, ⟨?_, HD.out.left, hne, ⟨rfl, .inl ⟨rfl, rfl⟩⟩, by simp [Value.ownBlock], ?_, ?_⟩, ?_⟩
          · rw [heap_setCell_same wz B 3 _ 65 _ zB]
            rfl
          · refine ((MZ.out.of_block (heap_setCell_other wz ⟨B, 3, none⟩ b1 _ hB1))).congr fun j hj => ?_
            rw [HALL.out]
            unfold sectorS
            rw [List.append_nil, HSL.out j hj]
          · refine (M.out.of_block ((heap_setCell_other wz ⟨B, 3, none⟩ b2 _ hB2).trans (AZ.out.block b2 l2 (fun e => hne e.symm)))).congr fun j hj => ?_
            rw [HSL.out j hj]
          · exact ((A.out.wide (fun j hj => .inr (.inr hj))).trans AZ.out (fun j hj => .inl (.inr (.inl hj)))).trans (apart_set wz B 3 _) (fun j hj => .inl (.inl hj))
end Go.Proofs.Ythbnochlpnikaaa
namespace Go.Proofs.Ythbnochlpnikaaa
open Go.RowKit Go.Shelf

theorem ref_sync (B : Nat) (s : DS) : refE [qHalted B s] = (syncS s).2 := by
  rw [refE_if (p := s.left = 0) rfl]
  unfold syncS
  split <;> rfl
theorem lastS_upd (l : List (Nat × ByteArray)) (w : Nat × ByteArray) : lastS (l ++ [w]) = upd (lastS l) w.1 w.2 := by
  funext k
  rw [lastS_snoc]
  unfold upd
  by_cases e : w.1 = k
  · rw [if_pos e, if_pos e.symm]
  · rw [if_neg e, if_neg (fun x => e x.symm)]
/-- Where nothing is torn, each sector is as it was written last. -/
theorem setF_whole {m : Nat} {sync l : List (Nat × ByteArray)} (hs : ∀ x ∈ sync, x.2.size = 64) (hl : ∀ x ∈ l, x.2.size = 64) : ∀ k, k ≤ l.length → setF l 64 (lastS sync) k = lastS (sync ++ l.take k)
  | 0, _ => by simp [setF]
  | k + 1, hk => by
    have hx := List.getElem?_eq_getElem (show k < l.length by omega)
    rw [setF_next hx, setF_whole (m := m) hs hl k (by omega), List.take_add_one, hx, Option.toList_some, ← List.append_assoc, lastS_upd]
    congr 1
    rw [ite_self, tornB_64 (hl _ (List.getElem_mem (show k < l.length by omega)))]
    exact lastS_size (fun w hw => by
      rcases List.mem_append.1 hw with hw | hw
      · exact hs w hw
      · exact hl w (List.mem_of_mem_take hw)) _
theorem apart_foot {w w' : World} {B b1 b2 : Nat} {v : Value} (h : Apart (fun j => j = B ∨ j = b1 ∨ j = b2) w w') : Apart (FootOf B b1 b2 v) w w' := h.wide (fun j hj => by
  rcases hj with e | e | e
  · exact .inl e
  · exact .inr (.inl e)
  · exact .inr (.inr (.inl e)))
set_option maxRecDepth 100000 in
set_option maxHeartbeats 1000000 in
theorem dsync_any {w : World} {d : Value} {s : DS} {F : Nat → Prop} (h : RepD w d s F) (hW : Whole s) (hF : Few s) :
    Calls Try.prog 17 #[d] w fun r w' => r = .returned (.int .i64 (syncS s).2) ∧ Goes RepD d (syncS s).1 F w w' := by
  obtain ⟨B, b1, b2, v, rfl, h, rfl⟩ := h
  have hm := hW.many.1
  go_enter Try.func17, Try.ntmps17
  go_wp2_with fail
  refine (halted_any _ _).mono ?_
  rintro e wa ⟨rfl, Ba⟩
  go_wp2_with fail
  refine (refuse1 (q1 := qHalted B s) (h.below Ba) hm (qHalted_ok (h.below Ba) hm)).mono ?_
  rintro e wb ⟨rfl, Bb⟩
  rw [ref_sync]
  have hC := kbP Ba Bb
  have hD := h.below hC
  by_cases h0 : s.left = 0
  · have e : syncS s = (s, 140) := by unfold syncS; rw [if_pos h0]
    rw [e]
    go_wp2_with fail
    go_ret
    rw [e]
    exact ⟨rfl, goes_at hD (fun j hj => .inl hj) (Below.apart hC _)⟩
  · have e : syncS s = (⟨s.many, s.sync ++ s.loose, [], doneL s.left⟩, 0) := by unfold syncS; rw [if_neg h0]
    rw [e]
    have HE := Lib.hid e
    clear e
    obtain ⟨q, c, rfl⟩ : ∃ q c, v = .slice q s.loose.length c := by
      rcases h.row.2 with ⟨e, h0⟩ | ⟨g, cap', cur, e, -⟩
      · exact ⟨none, 0, by rw [e, h0]⟩
      · exact ⟨_, _, e⟩
    obtain ⟨-, -, -, c3, -, -⟩ := hD.cell
    have ST : Hid (Calls Try.prog 45 #[.pointer (some ⟨B, 0, none⟩), .slice q s.loose.length c, .int .i64 64] wb fun r w' => r = .returned (.tuple #[]) ∧ DiskAt w' B b1 b2 (.slice none 0 0) ⟨s.many, s.sync ++ s.loose, [], s.left⟩ ∧ Apart (fun j => j = B ∨ j = b1 ∨ j = b2) wb w') := Lib.hid (settle_any hD hW hF hD.row hW.loose (by have := hF.2; omega) 64 (Nat.le_refl _) (s.sync ++ s.loose) (fun k hk => by
      rw [setF_whole (m := s.many) (fun x hx => (hW.sync x hx).2) (fun x hx => (hW.loose x hx).2) _ (Nat.le_refl _), List.take_length]) (fun x hx => ⟨x, hx, rfl⟩))
    have HL := Lib.hid hW.left
    clear hW hF
    go_wp2_with (first
      | (go_at_call 45; (with_reducible refine ST.out.mono ?_); rintro e wc ⟨rfl, Dc, Ac⟩)
      | (go_at_call 44; refine (count_any Dc h0 HL.out).mono ?_; rintro e wd ⟨rfl, Dd, Ad⟩))
    go_ret
    rw [HE.out]
    exact ⟨rfl, goes_at Dd (fun j hj => by cases hj) (apart_foot (((Below.apart hC _).trans Ac (fun j hj => .inl hj)).trans Ad (fun j hj => .inl (.inl hj))))⟩
end Go.Proofs.Ythbnochlpnikaaa
namespace Go.Proofs.Ythbnochlpnikaaa
open Go.RowKit Go.Shelf

/-- Of the first k writes those that are kept. -/
def keptL (l : List (Nat × ByteArray)) (keep : List Bool) : Nat → List (Nat × ByteArray)
  | 0 => []
  | k + 1 => if keep.getD k false then keptL l keep k ++ [l.getD k (0, secS 0)] else keptL l keep k
theorem keptL_mem {l : List (Nat × ByteArray)} {keep : List Bool} : ∀ {k : Nat}, k ≤ l.length → ∀ x ∈ keptL l keep k, x ∈ l
  | 0, _, x, hx => by cases hx
  | k + 1, hk, x, hx => by
    unfold keptL at hx
    split at hx
    · rcases List.mem_append.1 hx with hx | hx
      · exact keptL_mem (by omega) x hx
      · rw [List.mem_singleton] at hx
        subst hx
        exact getD_mem (by omega)
    · exact keptL_mem (by omega) x hx
theorem keptL_length {l : List (Nat × ByteArray)} {keep : List Bool} : ∀ (k : Nat), (keptL l keep k).length ≤ k
  | 0 => Nat.le_refl _
  | k + 1 => by
    have := keptL_length (l := l) (keep := keep) k
    unfold keptL
    split
    · simp; omega
    · omega
theorem keptL_more {l : List (Nat × ByteArray)} {keep : List Bool} (i : Nat) : ∀ j, ∃ r, keptL l keep (i + j) = keptL l keep i ++ r
  | 0 => ⟨[], by simp⟩
  | j + 1 => by
    obtain ⟨r, hr⟩ := keptL_more (l := l) (keep := keep) i j
    rw [← Nat.add_assoc]
    have e : keptL l keep (i + j + 1) = if keep.getD (i + j) false then keptL l keep (i + j) ++ [l.getD (i + j) (0, secS 0)] else keptL l keep (i + j) := rfl
    rw [e]
    split
    · rw [hr]
      exact ⟨r ++ [_], by rw [List.append_assoc]⟩
    · exact ⟨r, hr⟩
theorem keptL_rest {l : List (Nat × ByteArray)} {keep : List Bool} {i : Nat} : ∀ j, (∀ t, i ≤ t → t < i + j → keep.getD t false = false) → keptL l keep (i + j) = keptL l keep i
  | 0, _ => rfl
  | j + 1, h => by
    rw [← Nat.add_assoc]
    rw [keptL, if_neg (fun e => Bool.false_ne_true ((h (i + j) (by omega) (by omega)).symm.trans e))]
    exact keptL_rest j (fun t h1 h2 => h t h1 (by omega))
theorem tornF_last (keep : List Bool) : ∀ n, (∀ j : Nat, j < n → tornF keep n < j → keep.getD j false = false) ∧ (∀ t : Nat, tornF keep n = t → keep.getD t false = true)
  | 0 => ⟨fun j hj => absurd hj (Nat.not_lt_zero j), fun t h => by simp [tornF] at h⟩
  | n + 1 => by
    obtain ⟨h1, h2⟩ := tornF_last keep n
    unfold tornF
    by_cases hk : keep.getD n false = true
    · rw [if_pos hk]
      refine ⟨fun j hj hlt => by omega, fun t ht => ?_⟩
      obtain rfl : n = t := by omega
      exact hk
    · rw [if_neg hk]
      refine ⟨fun j hj hlt => ?_, h2⟩
      rcases Nat.lt_or_ge j n with h | h
      · exact h1 j h hlt
      · obtain rfl : j = n := by omega
        simpa using hk
theorem torn_rest {s : DS} {keep : List Bool} {j : Nat} (hj : tornS s keep < j) (hl : j < s.loose.length) : keep.getD j false = false := by
  rcases Nat.lt_or_ge j keep.length with h | h
  · exact (tornF_last keep (min s.loose.length keep.length)).1 j (by omega) hj
  · rw [List.getD_eq_getElem?_getD, List.getElem?_eq_none h]; rfl
theorem keptL_torn (s : DS) (keep : List Bool) : keptL s.loose keep s.loose.length = keptL s.loose keep (tornS s keep + 1).toNat := by
  have h1 := tornS_range s keep
  obtain ⟨j, hj⟩ : ∃ j, s.loose.length = (tornS s keep + 1).toNat + j := ⟨s.loose.length - (tornS s keep + 1).toNat, by omega⟩
  rw [hj]
  exact keptL_rest j (fun t h2 h3 => torn_rest (s := s) (by omega) (by omega))
def lastN (tear : Nat) : Nat := if tear = 0 then 64 else tear
/-- What the document keeps, sector by sector. -/
theorem crash_set {s : DS} {keep : List Bool} {tear : Nat} (hW : Whole s) (ht : tear ≤ 63) : ∀ i, i ≤ (tornS s keep + 1).toNat →
    lastS (crashF keep s.loose tear (tornS s keep) s.sync i) = setF (keptL s.loose keep s.loose.length) (lastN tear) (lastS s.sync) (keptL s.loose keep i).length
  | 0, _ => rfl
  | i + 1, hi => by
    have ih := crash_set (keep := keep) (tear := tear) hW ht i (by omega)
    have hr := tornS_range s keep
    have hil : i < s.loose.length := by omega
    have hxm : s.loose.getD i (0, secS 0) ∈ s.loose := getD_mem hil
    have hx := hW.loose _ hxm
    by_cases hk : keep.getD i false = true
    · have e1 : keptL s.loose keep (i + 1) = keptL s.loose keep i ++ [s.loose.getD i (0, secS 0)] := by rw [keptL, if_pos hk]
      have hKi : (keptL s.loose keep s.loose.length)[(keptL s.loose keep i).length]? = some (s.loose.getD i (0, secS 0)) := by
        obtain ⟨r, hr2⟩ := keptL_more (l := s.loose) (keep := keep) (i + 1) (s.loose.length - (i + 1))
        rw [show i + 1 + (s.loose.length - (i + 1)) = s.loose.length by omega, e1] at hr2
        rw [hr2, List.append_assoc, List.getElem?_append_right (Nat.le_refl _)]
        simp
      have e2 : (keptL s.loose keep (i + 1)).length = (keptL s.loose keep i).length + 1 := by rw [e1]; simp
      have hend : (keptL s.loose keep i).length + 1 = (keptL s.loose keep s.loose.length).length ↔ (i : Int) = tornS s keep := by
        rw [keptL_torn]
        constructor
        · intro h
          rcases Int.lt_trichotomy (i : Int) (tornS s keep) with hlt | heq | hgt
          · obtain ⟨t, ht2⟩ : ∃ t : Nat, tornS s keep = t := ⟨(tornS s keep).toNat, by omega⟩
            have hkt := (tornF_last keep (min s.loose.length keep.length)).2 t (by rw [← ht2]; rfl)
            obtain ⟨r, hr2⟩ := keptL_more (l := s.loose) (keep := keep) (i + 1) (t - (i + 1))
            rw [show i + 1 + (t - (i + 1)) = t by omega] at hr2
            have e3 : keptL s.loose keep (t + 1) = keptL s.loose keep t ++ [s.loose.getD t (0, secS 0)] := by rw [keptL, if_pos hkt]
            rw [show (tornS s keep + 1).toNat = t + 1 by omega, e3, hr2] at h
            simp [e2] at h
          · exact heq
          · omega
        · intro h
          rw [show (tornS s keep + 1).toNat = i + 1 by omega, e2]
      rw [crashF, if_pos hk, lastS_upd, e2, setF_next hKi, ih]
      congr 1
      have hsz : (setF (keptL s.loose keep s.loose.length) (lastN tear) (lastS s.sync) (keptL s.loose keep i).length (s.loose.getD i (0, secS 0)).1).size = 64 := by
        rw [← ih]
        exact lastS_size (fun w hw => (crashF_whole (m := s.many) ht (fun w hw => hW.sync w hw) (fun w hw => hW.loose w hw) i (by omega) w hw).2) _
      by_cases he : (i : Int) = tornS s keep
      · rw [if_pos (hend.2 he)]
        by_cases h0 : 0 < tear
        · rw [if_pos ⟨he, h0⟩]
          unfold lastN
          rw [if_neg (by omega)]
        · rw [if_neg (fun h => h0 h.2)]
          have el : lastN tear = 64 := by unfold lastN; rw [if_pos (by omega)]
          rw [el] at hsz ⊢
          rw [tornB_64 hx.2 hsz]
      · rw [if_neg (fun h => he h.1), if_neg (fun h => he (hend.1 h)), tornB_64 hx.2 hsz]
    · rw [crashF, if_neg hk, ih, keptL, if_neg hk]
theorem crash_last {s : DS} {keep : List Bool} {tear : Nat} (hW : Whole s) (ht : tear ≤ 63) : lastS (crashF keep s.loose tear (tornS s keep) s.sync (tornS s keep + 1).toNat) = setF (keptL s.loose keep s.loose.length) (lastN tear) (lastS s.sync) (keptL s.loose keep s.loose.length).length := by
  rw [crash_set hW ht _ (Nat.le_refl _), ← keptL_torn]
end Go.Proofs.Ythbnochlpnikaaa
namespace Go.Proofs.Ythbnochlpnikaaa
open Go.RowKit Go.Shelf

set_option maxRecDepth 100000 in
set_option maxHeartbeats 400000 in
theorem crash1_any {A k : Nat} {p : Option Addr} {keep : List Bool} {c : Nat} {w : World} (h : w.cell? ⟨A, 0, none⟩ = some (.slice p keep.length c)) (hk : Hid (BoolsAt w p keep)) (hkl : keep.length ≤ 9223372036854775807) :
    Calls Try.prog 49 #[.int .i64 k, .pointer (some ⟨A, 0, none⟩)] w fun r w' => r = .returned (.bool (keep.getD k false)) ∧ w = w' := by
  by_cases hlt : k < keep.length
  · have hd : decide ((k : Int) < keep.length) = true := decide_eq_true (by omega)
    obtain ⟨b, hb⟩ : ∃ b, keep[k]? = some b := ⟨_, List.getElem?_eq_getElem hlt⟩
    obtain ⟨B, off, rfl, hc⟩ := hk.out k b hb
    have e : keep.getD k false = b := by rw [List.getD_eq_getElem?_getD, hb]; rfl
    rw [e]
    clear e hb
    go_enter Try.func49, Try.ntmps49
    go_wp2
    all_goals first
      | (go_ret; exact ⟨rfl, rfl⟩)
      | skip
  · have hd : decide ((k : Int) < keep.length) = false := decide_eq_false (by omega)
    have e : keep.getD k false = false := by rw [List.getD_eq_getElem?_getD, List.getElem?_eq_none (by omega)]; rfl
    rw [e]
    clear e
    go_enter Try.func49, Try.ntmps49
    go_wp2
    all_goals first
      | (go_ret; exact ⟨rfl, rfl⟩)
      | skip
end Go.Proofs.Ythbnochlpnikaaa
namespace Go.Proofs.Ythbnochlpnikaaa
open Go.RowKit Go.Shelf

theorem wpList_row_write {ops : Array Oper} {rest : List Oper} {o : Oper} {a : Act} {w : World} {Q : Exit → Act → World → Prop} (hg : o.guard = none) (x : Operand) (ho : o.op = .buildSlice 61 1 #[(0, x)]) {k : Int} {c : ByteArray} (hc : c.size = 64) (hx : a.eval x = .agg (wV k c))
    (h : wpList Try.prog ops Q rest (a.put o.dst (.slice (some ⟨w.heap.size, 0, none⟩) 1 1)) (w.alloc (.cells (wV k c) 78))) : wpList Try.prog ops Q (o :: rest) a w := by
  refine wpList_plain hg fun K hK => ?_
  unfold Oper.wp execOp
  have e : (#[(0, x)] : Array (Nat × Operand)).map (fun (i, x) => (i, a.eval x)) = #[(0, .agg (wV k c))] := by simp [hx]
  simp only [ho, Sem.run_bind, e, run_row_write hc, Result.andThen_ok]
  exact hK _ _ h
theorem ownsRow_raise {w : World} {b b' : Nat} {e : TypeId} {size : Nat} {v : Value} {n : Nat} {xs : List Value} (h : w.ownsRow b e size v n xs) (hb : ∀ j, v.ownBlock = some j → b' ≤ j) : w.ownsRow b' e size v n xs := by
  refine ⟨h.1, ?_⟩
  rcases h.2 with h | ⟨g, cap, cur, rfl, hg, rest⟩
  · exact .inl h
  · exact .inr ⟨g, cap, cur, rfl, hb g rfl, rest⟩
set_option maxRecDepth 100000 in
set_option maxHeartbeats 2000000 in
theorem asked_any {A : Nat} {p : Option Addr} {keep : List Bool} {c : Nat} {w : World} (hbox : w.cell? ⟨A, 0, none⟩ = some (.slice p keep.length c)) (hk : Hid (BoolsAt w p keep)) (hkl : keep.length ≤ 9223372036854775807) {q : Option Addr} {cap : Nat} {l : List (Nat × ByteArray)} (hr : w.ownsRow 0 78 65 (.slice q l.length cap) l.length (wcs l)) (hl : ∀ x ∈ l, x.2.size = 64) (hlen : l.length ≤ 20000) :
    Calls Try.prog 48 #[.slice q l.length cap, .func (.func 49) #[] #[.pointer (some ⟨A, 0, none⟩)]] w fun r w' => ∃ u, r = .returned u ∧ w'.ownsRow w.heap.size 78 65 u (keptL l keep l.length).length (wcs (keptL l keep l.length)) ∧ Below w.heap.size w w' := by
  have HR := Lib.hid hr
  have HLs := Lib.hid hl
  have HBX := Lib.hid hbox
  clear hr hl hbox
  go_enter Try.func48, Try.ntmps48
  go_wp2
  go_loopw [5, 10] (fun y i wr => ∃ k : Nat, k ≤ l.length ∧ i = .int .i64 k ∧ Hid (wr.ownsRow w.heap.size 78 65 y (keptL l keep k).length (wcs (keptL l keep k))) ∧ Hid (Below w.heap.size w wr)) (fun y i _ => (l.length - intOf i).toNat)
  case atStart => exact ⟨0, Nat.zero_le _, by first | rfl | go_num, Lib.hid ⟨rfl, .inl ⟨rfl, rfl⟩⟩, Lib.hid (Below.refl _ _)⟩
  case round =>
    obtain ⟨k, hk2, rfl, RY, B⟩ := hrel
    by_cases hlt : k < l.length
    · obtain ⟨x, hx⟩ : ∃ x, l[k]? = some x := ⟨_, List.getElem?_eq_getElem hlt⟩
      have hx2 := HLs.out x (List.mem_of_getElem? hx)
      obtain ⟨g, cap', e1, hrow⟩ : ∃ g cap', Value.slice q l.length cap = .slice (some ⟨g, 0, none⟩) l.length cap' ∧ ∀ j v, (Value.int .i64 (x.1 : Int) :: bL x.2)[j]? = some v → wr.cell? ⟨g, k * 65 + j, none⟩ = some v := by
        rcases HR.out.2 with ⟨e, h0⟩ | ⟨g, cap', cur, e, -, hg, rest⟩
        · omega
        · refine ⟨g, cap', e, fun j u hu => ?_⟩
          have hr2 := HR.out
          rw [e] at hr2
          exact below_kept B.out _ _ (row_cells hr2 HLs.out hx j u hu)
      injection e1 with e1 _ e3
      subst e1 e3
      have HRW := Lib.hid hrow
      clear hrow
      have hgd : l.getD k (0, secS 0) = x := by rw [List.getD_eq_getElem?_getD, hx]; rfl
      have HG := Lib.hid hgd
      clear hx hgd
      obtain ⟨at', b⟩ := x
      replace hx2 : b.size = 64 := hx2
      have B1 : Below w.heap.size w (wr.alloc (.cells (wV at' b) 78)) := B.out.alloc B.out.size _
      have C := Lib.hid (crash1_any (k := k) (below_kept B1 _ _ HBX.out) (Lib.hid (hk.out.below B1)) hkl)
      have HB1 := Lib.hid B1
      clear B1
      cases hkk : keep.getD k false
      · rw [hkk] at C
        have e : keptL l keep (k + 1) = keptL l keep k := by rw [keptL, hkk]; rfl
        have HE := Lib.hid e
        clear e hkk
        go_wp2_with (first
          | (refine wpList_load_write rfl _ rfl rfl hx2 HRW.out ?_)
          | (refine wpList_store_row rfl 78 _ _ rfl wr.heap.size (wV at' b) rfl rfl 78 _ (heap_alloc_new wr _) (by rw [wV_size hx2]; kernel_rfl) (by rw [wV_size hx2]; kernel_rfl) (wV_one _ _) ?_; rw [World.setRow_alloc_new])
          | (go_at_call 49; (with_reducible refine C.out.mono ?_); rintro e w2 ⟨rfl, rfl⟩)
          | fail)
        refine ⟨⟨k + 1, hlt, by first | rfl | go_num, Lib.hid ?_, Lib.hid HB1.out⟩, by simp [intOf]; omega⟩
        rw [HE.out]
        exact ownsRow_kept RY.out (fun j hj => Below.heap_alloc wr _ j (RY.out.lt j hj).2)
      · rw [hkk] at C
        have e : keptL l keep (k + 1) = keptL l keep k ++ [(at', b)] := by rw [keptL, hkk, HG.out]; rfl
        have HE := Lib.hid e
        clear e hkk
        have L0 : ∀ j v, (Value.int .i64 (at' : Int) :: bL b)[j]? = some v → (wr.alloc (.cells (wV at' b) 78)).cell? ⟨wr.heap.size, 0 + j, none⟩ = some v := fun j v hv => by
          rw [Nat.zero_add, cell_of_row (wr.alloc (.cells (wV at' b) 78)) wr.heap.size j _ 78 (0, 0) (heap_alloc_new wr _)]
          simpa [wV] using hv
        have HL0 := Lib.hid L0
        clear L0
        have RZ : Hid (((wr.alloc (.cells (wV at' b) 78)).alloc (.cells (wV at' b) 78)).ownsRow 0 78 65 _ (keptL l keep k).length (wcs (keptL l keep k))) := Lib.hid (ownsRow_base (ownsRow_kept RY.out (fun j hj => (Below.heap_alloc _ _ j (by have := (RY.out.lt j hj).2; simp; omega)).trans (Below.heap_alloc wr _ j (RY.out.lt j hj).2))) (Nat.zero_le _))
        have HN : (keptL l keep k).length ≤ 100000 := by have := keptL_length (l := l) (keep := keep) k; omega
        go_wp2_with (first
          | (refine wpList_load_write rfl _ rfl rfl hx2 HRW.out ?_)
          | (refine wpList_store_row rfl 78 _ _ rfl wr.heap.size (wV at' b) rfl rfl 78 _ (heap_alloc_new wr _) (by rw [wV_size hx2]; kernel_rfl) (by rw [wV_size hx2]; kernel_rfl) (wV_one _ _) ?_; rw [World.setRow_alloc_new])
          | (go_at_call 49; (with_reducible refine C.out.mono ?_); rintro e w2 ⟨rfl, rfl⟩)
          | (refine wpList_load_write rfl _ rfl rfl hx2 HL0.out ?_)
          | (refine wpList_row_write rfl _ rfl hx2 rfl ?_)
          | (at_builtin; go_frame; refine wpList_append_write rfl _ _ rfl rfl RZ.out rfl hx2 (heap_alloc_new _ _) HN ?_; intro v' w2 hr2 hg2 hj2)
          | fail)
        refine ⟨⟨k + 1, hlt, by first | rfl | go_num, Lib.hid ?_, Lib.hid ?_⟩, by simp [intOf]; omega⟩
        · rw [HE.out, List.length_append, List.length_singleton]
          refine ownsRow_raise hr2 (fun j hj => ?_)
          rcases hj2 j hj with h | h
          · exact ownsRow_new RY.out j h
          · have := B.out.size
            simp at h
            omega
        · exact (HB1.out.alloc HB1.out.size _).grown hg2 (by have := HB1.out.size; simp at this ⊢; omega) (fun j hj => ownsRow_new RY.out j hj)
    · obtain rfl : k = l.length := by omega
      go_wp2
      go_ret
      exact ⟨_, rfl, RY.out, B.out⟩
end Go.Proofs.Ythbnochlpnikaaa
namespace Go.Proofs.Ythbnochlpnikaaa
open Go.RowKit Go.Shelf

theorem ref_crash (A A' : Nat) (tear : Int) (s : DS) (keep : List Bool) : refE [qBelow A tear, qAbove A' tear] = (crashS s tear keep).2 := by
  rw [refE_if (p := tear < 0) rfl, refE_if (p := 64 ≤ tear) rfl]
  unfold crashS
  by_cases h1 : tear < 0
  · rw [if_pos h1, if_pos (.inl h1)]; rfl
  · rw [if_neg h1]
    by_cases h2 : 64 ≤ tear
    · rw [if_pos h2, if_pos (.inr (by omega))]; rfl
    · rw [if_neg h2, if_neg (by omega)]; rfl
theorem crash_end {w : World} {B b1 b2 : Nat} {v : Value} {m : Nat} {S' L : List (Nat × ByteArray)} {n : Int} (h : DiskAt w B b1 b2 v ⟨m, S', L, n⟩) : DiskAt ((w.setCell ⟨B, 4, none⟩ (.bool false)).setCell ⟨B, 5, none⟩ (.int .i64 0)) B b1 b2 v ⟨m, S', L, -1⟩ ∧ Apart (fun j => j = B) w ((w.setCell ⟨B, 4, none⟩ (.bool false)).setCell ⟨B, 5, none⟩ (.int .i64 0)) := by
  have e1 := heap_setCell_same w B 4 _ 65 (.bool false) h.cells
  refine ⟨h.turn (-1) (by omega) ?_ (fun k hk => by rw [heap_setCell_other _ _ _ _ (by exact hk), heap_setCell_other _ _ _ _ (by exact hk)]), (apart_set w B 4 _).trans (apart_set _ B 5 _) (fun j hj => .inl hj)⟩
  rw [heap_setCell_same _ B 5 _ 65 _ e1]
  rfl
set_option maxRecDepth 100000 in
set_option maxHeartbeats 2000000 in
theorem dcrash_any {w : World} {d : Value} {s : DS} {F : Nat → Prop} (tear : Int) (p : Option Addr) (keep : List Bool) (cap : Nat) (h : RepD w d s F) (hW : Whole s) (hF : Few s) (hkl : keep.length ≤ 9223372036854775807) (hin : BoolsAt w p keep) :
    Calls Try.prog 18 #[d, .int .i64 tear, .slice p keep.length cap] w fun r w' => r = .returned (.int .i64 (crashS s tear keep).2) ∧ Goes RepD d (crashS s tear keep).1 F w w' := by
  obtain ⟨B, b1, b2, v, rfl, h, rfl⟩ := h
  have hm := hW.many.1
  have B0 : Below w.heap.size w (w.alloc (.cells #[.slice p keep.length cap] 23)) := (Below.refl _ _).alloc (Nat.le_refl _) _
  have x0 : (w.alloc (.cells #[.slice p keep.length cap] 23)).cell? ⟨w.heap.size, 0, none⟩ = some (.slice p keep.length cap) := by go_cell
  have HIN := Lib.hid hin
  clear hin
  go_enter Try.func18, Try.ntmps18
  go_wp2_with fail
  generalize hw0 : w.alloc (.cells #[.slice p keep.length cap] 23) = w0 at *
  clear hw0
  refine (below_any2 _ _).mono ?_
  rintro e wa ⟨rfl, a0, Ba⟩
  go_wp2_with fail
  refine (above_any2 _ _).mono ?_
  rintro e wb ⟨rfl, a1, Bb⟩
  go_wp2_with fail
  have hB := kbP (kbP B0 Ba) Bb
  refine (refuse2 (q1 := qBelow w0.heap.size tear) (q2 := qAbove wa.heap.size tear) (h.below hB) hm (qBelow_ok (below_kept Bb _ _ a0)) (qAbove_ok a1)).mono ?_
  rintro e wc ⟨rfl, Bc⟩
  rw [ref_crash _ _ _ s keep]
  have hC := kbP hB Bc
  have hD := h.below hC
  have X0 : wc.cell? ⟨w.heap.size, 0, none⟩ = some (.slice p keep.length cap) := below_kept (kbP (kbP Ba Bb) Bc) _ _ x0
  clear a0 a1
  by_cases h0 : tear < 0 ∨ 63 < tear
  · have e : crashS s tear keep = (s, 2) := by unfold crashS; rw [if_pos h0]
    rw [e]
    go_wp2_with fail
    go_ret
    rw [e]
    exact ⟨rfl, goes_at hD (fun j hj => .inl hj) (Below.apart hC _)⟩
  · obtain ⟨t, rfl⟩ : ∃ t : Nat, tear = t := ⟨tear.toNat, by omega⟩
    have ht : t ≤ 63 := by omega
    have e : crashS s t keep = (⟨s.many, crashF keep s.loose t (tornS s keep) s.sync (tornS s keep + 1).toNat, [], -1⟩, 0) := by
      unfold crashS
      rw [if_neg h0, Int.toNat_natCast]
    rw [e]
    have HE := Lib.hid e
    clear e h0
    obtain ⟨q, c, rfl⟩ : ∃ q c, v = .slice q s.loose.length c := by
      rcases h.row.2 with ⟨e, h0⟩ | ⟨g, cap', cur, e, -⟩
      · exact ⟨none, 0, by rw [e, h0]⟩
      · exact ⟨_, _, e⟩
    obtain ⟨-, -, -, c3, -, -⟩ := hD.cell
    have AS := Lib.hid (asked_any (A := w.heap.size) X0 (Lib.hid (HIN.out.below hC)) hkl hD.row (fun x hx => (hW.loose x hx).2) hF.2)
    have ST : Hid (∀ (wd : World) (n : Nat) (q' : Option Addr) (c' : Nat), n = lastN t → Below wc.heap.size wc wd → wd.ownsRow wc.heap.size 78 65 (.slice q' (keptL s.loose keep s.loose.length).length c') (keptL s.loose keep s.loose.length).length (wcs (keptL s.loose keep s.loose.length)) →
        Calls Try.prog 45 #[.pointer (some ⟨B, 0, none⟩), .slice q' (keptL s.loose keep s.loose.length).length c', .int .i64 n] wd fun r w' => r = .returned (.tuple #[]) ∧ DiskAt w' B b1 b2 (.slice none 0 0) ⟨s.many, crashF keep s.loose t (tornS s keep) s.sync (tornS s keep + 1).toNat, [], s.left⟩ ∧ Apart (fun j => j = B ∨ j = b1 ∨ j = b2) wd w') := Lib.hid fun wd n q' c' hn hb hr => by
      subst hn
      refine settle_any (hD.below hb) hW hF (ownsRow_base hr (Nat.zero_le _)) (fun x hx => hW.loose x (keptL_mem (Nat.le_refl _) x hx)) (by have := keptL_length (l := s.loose) (keep := keep) s.loose.length; have := hF.2; omega) (lastN t) (by unfold lastN; split <;> omega) _ (fun k _ => by rw [crash_last hW ht]) (fun x hx => ⟨x, keptL_mem (Nat.le_refl _) x hx, rfl⟩)
    clear hF hW
    by_cases hz : t = 0
    · have hq : ((t : Int) == 0) = true := by simp [hz]
      have hn : (64 : Nat) = lastN t := by unfold lastN; rw [if_pos hz]
      have HN := Lib.hid hn
      clear hn hz
      go_wp2_with (first
        | (go_at_call 48; (with_reducible refine AS.out.mono ?_); rintro e wd ⟨u, rfl, hru, Bd⟩; obtain ⟨q', c', rfl⟩ : ∃ q' c', u = .slice q' (keptL s.loose keep s.loose.length).length c' := by (rcases hru.2 with ⟨e, h0⟩ | ⟨g, cap', cur, e, -⟩; exact ⟨none, 0, by rw [e, h0]⟩; exact ⟨_, _, e⟩))
        | (go_at_call 45; refine (ST.out wd 64 q' c' HN.out Bd hru).mono ?_; rintro e we ⟨rfl, De, Ae⟩; have f4 := De.frozen 4; have f5 := De.frozen 5; obtain ⟨-, -, -, -, y4, y5⟩ := De.cell)
        | fail)
      go_ret
      rw [HE.out]
      obtain ⟨D5, A5⟩ := crash_end De
      exact ⟨rfl, goes_at D5 (fun j hj => by cases hj) (apart_foot ((((Below.apart (kbP hC Bd) _).trans Ae (fun j hj => .inl hj)).trans A5 (fun j hj => .inl (.inl hj)))))⟩
    · have hq : ((t : Int) == 0) = false := by simp [hz]
      have hn : t = lastN t := by unfold lastN; rw [if_neg hz]
      have HN := Lib.hid hn
      clear hn hz
      go_wp2_with (first
        | (go_at_call 48; (with_reducible refine AS.out.mono ?_); rintro e wd ⟨u, rfl, hru, Bd⟩; obtain ⟨q', c', rfl⟩ : ∃ q' c', u = .slice q' (keptL s.loose keep s.loose.length).length c' := by (rcases hru.2 with ⟨e, h0⟩ | ⟨g, cap', cur, e, -⟩; exact ⟨none, 0, by rw [e, h0]⟩; exact ⟨_, _, e⟩))
        | (go_at_call 45; refine (ST.out wd t q' c' HN.out Bd hru).mono ?_; rintro e we ⟨rfl, De, Ae⟩; have f4 := De.frozen 4; have f5 := De.frozen 5; obtain ⟨-, -, -, -, y4, y5⟩ := De.cell)
        | fail)
      go_ret
      rw [HE.out]
      obtain ⟨D5, A5⟩ := crash_end De
      exact ⟨rfl, goes_at D5 (fun j hj => by cases hj) (apart_foot ((((Below.apart (kbP hC Bd) _).trans Ae (fun j hj => .inl hj)).trans A5 (fun j hj => .inl (.inl hj)))))⟩
end Go.Proofs.Ythbnochlpnikaaa
namespace Go.Proofs.Ythbnochlpnikaaa
open Go.RowKit Go.Shelf

set_option maxRecDepth 100000 in
set_option maxHeartbeats 1000000 in
theorem mclone_run (b : Nat) (es : Array MapEntry) (clock : Nat) (w : World) (hb : w.heap[b]? = some (.map es clock)) :
    Calls Try.prog 52 #[.map (some b)] w fun e w' => e = .returned (.map (some w.heap.size)) ∧ w' = w.alloc (.map es clock) := by
  have hq := fun w => run_eql_map_nil_sl (P := Try.prog) w 57 _ _ (some b) Try.underlying57
  go_enter Try.func52, Try.ntmps52
  go_wp2
  rw [run_callFunc_extern Try.func59 (by kernel_rfl) (by kernel_rfl) (by kernel_rfl) (e := Extern.MapsClone.clone) (by kernel_rfl), run_maps_clone_sl w 57 hb]
  simp only [Result.andThen]
  rw [Oper.upon_value]
  go_wp2
  rw [run_typeAssert_map_sl _ 57 20 _ _ _ Try.underlying57]
  simp only [Result.andThen]
  rw [Oper.upon_value]
  go_wp2
  go_ret
  exact ⟨rfl, rfl⟩
theorem mclone_any {b m : Nat} {f : Nat → ByteArray} {w : World} (h : MapIs w b m f) :
    Calls Try.prog 52 #[.map (some b)] w fun e w' => e = .returned (.map (some w.heap.size)) ∧ MapIs w' w.heap.size m f ∧ Below w.heap.size w w' ∧ w'.heap.size = w.heap.size + 1 := by
  obtain ⟨D, ⟨es, clock, hb, F, hs, hD⟩, hd⟩ := h.own
  refine (mclone_run b es clock w hb).mono ?_
  rintro e w' ⟨rfl, rfl⟩
  exact ⟨rfl, ⟨h.le, h.size, D, ⟨es, clock, heap_alloc_new w _, F, hs, hD⟩, hd⟩, (Below.refl _ _).alloc (Nat.le_refl _) _, by simp⟩
set_option maxRecDepth 100000 in
set_option maxHeartbeats 1000000 in
theorem clone_any {b m : Nat} {f : Nat → ByteArray} {w : World} (h : MapIs w b m f) :
    Calls Try.prog 29 #[.agg #[.map (some b)]] w fun e w' => ∃ b', e = .returned (.agg #[.map (some b')]) ∧ w.heap.size ≤ b' ∧ MapIs w' b' m f ∧ Below w.heap.size w w' := by
  have B2 : Below w.heap.size w ((w.alloc (.cells #[.map (some b)] 59)).alloc (.cells #[.map none] 59)) := ((Below.refl _ _).alloc (Nat.le_refl _) _).alloc (by simp) _
  have C := Lib.hid (mclone_any (h.below B2))
  go_enter Try.func29, Try.ntmps29
  go_wp2_with fail
  refine C.out.mono ?_
  rintro e w2 ⟨rfl, M2, Bx, hs2⟩
  have l1 : w.heap.size + 1 < w2.heap.size := by simp at hs2; omega
  have f1 : w2.frozen? ⟨w.heap.size + 1, 0, none⟩ = false := (Bx.frozen (p := ⟨w.heap.size + 1, 0, none⟩) (by simp)).trans (by go_cell)
  have c1 : w2.cell? ⟨w.heap.size + 1, 0, none⟩ = some (.map none) := (Bx.cell (p := ⟨w.heap.size + 1, 0, none⟩) (by simp)).trans (by go_cell)
  have HM := Lib.hid M2
  have HB := Lib.hid (kbP B2 Bx)
  have e3 : ((w.alloc (.cells #[.map (some b)] 59)).alloc (.cells #[.map none] 59)).heap.size = w.heap.size + 2 := by simp
  rw [e3] at HM
  clear M2 Bx hs2 C B2 e3
  go_wp2_with fail
  refine bodyPost_ret (v := .agg #[.map (some (w.heap.size + 2))]) ?_ rfl ⟨_, rfl, by omega, HM.out.of_block (heap_setCell_other w2 _ _ _ (by simp)), HB.out.setCell (by simp) _⟩
  simp [results, Try.results29, go_sem, c1]
/-- A row of writes, copied. -/
theorem nil_slice (w : World) (a : Option Addr) (n c : Nat) : (binOp .eql 61 (.slice a n c) (.slice none 0 0)).run Try.prog w = .ok (.bool a.isNone) w := by
  simp only [binOp]
  rw [Sem.run_bind, run_equal_slice_nil w 61 78 a n c Try.underlying61]
  rfl
theorem row_empty (w : World) : (w.alloc (.cells #[] 78)).ownsRow w.heap.size 78 65 (.slice (some ⟨w.heap.size, 0, none⟩) 0 0) 0 [] :=
  ⟨rfl, .inr ⟨w.heap.size, 0, #[], rfl, Nat.le_refl _, heap_alloc_new _ _, Nat.le_refl _, by unfold maxLen; omega, rfl, rfl⟩⟩
set_option maxRecDepth 100000 in
set_option maxHeartbeats 1000000 in
theorem sclone_any {w : World} {v : Value} {l : List (Nat × ByteArray)} (h : w.ownsRow 0 78 65 v l.length (wcs l)) (hl : l.length ≤ 100000) :
    Calls Try.prog 30 #[v] w fun e w' => ∃ u, e = .returned u ∧ w'.ownsRow w.heap.size 78 65 u l.length (wcs l) ∧ Below w.heap.size w w' := by
  have qn := nil_slice
  rcases h.2 with ⟨rfl, h0⟩ | ⟨g, cap, cur, rfl, -, hg, hn, hcm, hcs, htake⟩
  · have : l = [] := List.eq_nil_of_length_eq_zero h0
    subst this
    go_enter Try.func30, Try.ntmps30
    go_wp2
    go_ret
    exact ⟨_, rfl, ⟨rfl, .inl ⟨rfl, rfl⟩⟩, Below.refl _ _⟩
  · have B1 : Below w.heap.size w (w.alloc (.cells #[] 78)) := (Below.refl _ _).alloc (Nat.le_refl _) _
    have hr : (w.alloc (.cells #[] 78)).ownsRow 0 78 65 (.slice (some ⟨g, 0, none⟩) l.length cap) l.length (wcs l) := ownsRow_kept h (fun j hj => Below.heap_alloc w _ j (h.lt j hj).2)
    have hnews := Lib.hid (fun j u hu => hr.cells (g := g) rfl j u hu)
    have hlen := Lib.hid h.1
    have RE := Lib.hid (row_empty w)
    obtain ⟨i, hi, hz0, hz1, hz2⟩ := info_parts info78
    have hz : (Value.agg z78).cells.size = 65 := by simp [Value.cells, z78]
    clear hr h hg hcs htake
    go_enter Try.func30, Try.ntmps30
    go_wp2_with (first
      | (at_builtin; (try go_frame); refine wpList_append_own _ rfl _ _ 61 rfl w.heap.size 78 i (.agg z78) 65 72 Try.underlying61 hi hz0 hz1 hz2 hz (by omega) _ _ _ rfl RE.out ⟨g, 0, none⟩ l.length cap (wcs l) rfl hlen.out hnews.out (wcs_one l) (by unfold maxLen; omega) (by omega) (by simp) ?_; intro v' w2 hr2 hg2 _)
      | fail)
    go_ret
    refine ⟨_, rfl, ?_, B1.grown hg2 (by simp) (fun j hj => by cases hj; exact Nat.le_refl _)⟩
    simpa using hr2
end Go.Proofs.Ythbnochlpnikaaa
