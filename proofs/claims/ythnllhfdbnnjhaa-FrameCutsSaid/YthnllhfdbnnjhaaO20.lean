import Derived.Test.YthnllhfdbnnjhaaO19
namespace Go.Proofs.Ythnllhfdbnnjhaa
open Go.RowKit Go.Shelf
attribute [local go_sem] Oper.semAt_some

/-- What is read is told again in as many bytes. -/
theorem readAt_canon : ∀ (l : List Nat) (i m u : Nat), (∀ b ∈ l, b < 256) → i ≤ 9 → (readAt l i m u).2.2 = 0 →
    ∃ d, (readAt l i m u).1 = m + d * u ∧ (readAt l i m u).2.1 = i + (numF (9 - i) d).length ∧ (0 < i → 0 < d) := by
  intro l
  induction l with
  | nil => intro i m u _ _ h; simp [readAt] at h
  | cons b t ih =>
    intro i m u hb hi h
    unfold readAt at h ⊢
    rw [if_neg (by omega)] at h ⊢
    by_cases h9 : i = 9 ∧ 1 < b
    · rw [if_pos h9] at h; simp at h
    rw [if_neg h9] at h ⊢
    by_cases hl : b < 128
    · rw [if_pos hl] at h ⊢
      by_cases h0 : b % 128 = 0 ∧ 0 < i
      · rw [if_pos h0] at h; simp at h
      rw [if_neg h0]
      refine ⟨b, ?_, ?_, fun h => by omega⟩
      · show m + b % 128 * u = _
        rw [Nat.mod_eq_of_lt hl]
      · rw [numF_small _ _ hl]
        rfl
    · rw [if_neg hl] at h ⊢
      have hi9 : i < 9 := by omega
      rw [if_pos hi9] at h ⊢
      obtain ⟨d, e1, e2, e3⟩ := ih (i + 1) _ _ (fun x hx => hb x (by simp [hx])) (by omega) h
      have hb' := hb b (by simp)
      have hd := e3 (by omega)
      refine ⟨b % 128 + 128 * d, ?_, ?_, fun _ => by omega⟩
      · rw [e1, Nat.add_mul, Nat.mul_comm u 128, ← Nat.mul_assoc, Nat.mul_comm d 128]
        omega
      · rw [e2, show 9 - i = (9 - (i + 1)) + 1 by omega, numF_more, if_neg (by omega)]
        rw [show (b % 128 + 128 * d) / 128 = d by omega]
        simp only [List.length_cons]
        omega
theorem readE_canon {l : List Nat} (hb : ∀ b ∈ l, b < 256) (h : (readE l).2.2 = 0) : (numE (readE l).1).length = (readE l).2.1 := by
  obtain ⟨d, e1, e2, -⟩ := readAt_canon l 0 0 1 hb (by omega) h
  have e3 : (readE l).1 = d := by unfold readE; rw [e1]; omega
  rw [e3]
  unfold readE
  rw [e2]
  simp [numE]
theorem numsE_nil {l : List Nat} (h : numsE l = []) : (readE l).2.2 ≠ 0 := fun he => by
  unfold numsE at h
  cases l with
  | nil => simp [readE, readAt] at he
  | cons b t => rw [List.length_cons, numsA_some he] at h; cases h
theorem numsE_head {l : List Nat} {x : Nat × Nat} (h : [x] <+: numsE l) : (readE l).2.2 = 0 ∧ x.2 = (readE l).1 := by
  by_cases he : (readE l).2.2 = 0
  · refine ⟨he, ?_⟩
    unfold numsE at h
    cases l with
    | nil => simp [readE, readAt] at he
    | cons b t =>
      rw [List.length_cons, numsA_some he] at h
      obtain ⟨r, hr⟩ := h
      simp only [List.cons_append, List.nil_append, List.cons.injEq] at hr
      rw [hr.1]
  · unfold numsE at h
    rw [numsA_none he] at h
    obtain ⟨r, hr⟩ := h
    cases hr
/-- What ReadNumber's three variables hold. -/
structure RnAt (W : World) (b : Nat) (x y z : Int) : Prop where
  ca : W.cell? ⟨b, 0, none⟩ = some (.int .u64 x)
  cb : W.cell? ⟨b + 1, 0, none⟩ = some (.int .i64 y)
  cc : W.cell? ⟨b + 1 + 1, 0, none⟩ = some (.int .i64 z)
  fa : W.frozen? ⟨b, 0, none⟩ = false
  fb : W.frozen? ⟨b + 1, 0, none⟩ = false
  fc : W.frozen? ⟨b + 1 + 1, 0, none⟩ = false
theorem RnAt.own {β : Type} {b : Nat} {x y z : Int} : Own (fun (_ : β) W => RnAt W b x y z) :=
  fun _ A B row hs hg hr => ⟨cell_kept hs.ca hg hr, cell_kept hs.cb hg hr, cell_kept hs.cc hg hr, (frozen_kept hs.ca hg hr).trans hs.fa, (frozen_kept hs.cb hg hr).trans hs.fb, (frozen_kept hs.cc hg hr).trans hs.fc⟩
theorem RnAt.cell {W : World} {b : Nat} {x y z : Int} (h : RnAt W b x y z) (q : Nat) (hq : b + 1 + 1 < q) (v : Value) : RnAt (W.setCell ⟨q, 0, none⟩ v) b x y z :=
  ⟨(World.cell?_setCell_other _ _ _ _ (by simp <;> omega)).trans h.ca, (World.cell?_setCell_other _ _ _ _ (by simp <;> omega)).trans h.cb, (World.cell?_setCell_other _ _ _ _ (by simp <;> omega)).trans h.cc, (World.frozen?_setCell _ _ _ _).trans h.fa, (World.frozen?_setCell _ _ _ _).trans h.fb, (World.frozen?_setCell _ _ _ _).trans h.fc⟩
end Go.Proofs.Ythnllhfdbnnjhaa
