/- How two values are compared by '==', and what ValueHolds and ValueTexts want of it. No condition. -/
import Derived.Test.YtcngoffmkbobhaaGreatDoorQ2
import Derived.Test.YtcngoffmkbobhaaGreatDoorT22
namespace Go.Proofs.YtcngoffmkbobhaaGreatDoor
open Go.RowKit

set_option maxHeartbeats 400000 in
theorem eq24 (k1 n1 k2 n2 : Int) (s1 s2 : ByteArray) (w : World) : (binOp .eql 24 (.agg #[.int .i64 k1, .int .i64 n1, .string s1]) (.agg #[.int .i64 k2, .int .i64 n2, .string s2])).run Tryz.prog w = .ok (.bool (k1 == k2 && (n1 == n2 && s1.toList == s2.toList))) w := by
  go_simp
  by_cases h1 : k1 = k2
  · by_cases h2 : n1 = n2
    · by_cases h3 : s1.toList = s2.toList
      · simp [h1, h2, h3]
      · simp [h1, h2, h3]
    · simp [h1, h2]
  · simp [h1]
set_option maxHeartbeats 400000 in
theorem eqg24 (x y : Operand) (k1 n1 k2 n2 : Int) (s1 s2 : ByteArray) (w : World) : (eqGuard .eql 24 x y (.agg #[.int .i64 k1, .int .i64 n1, .string s1]) (.agg #[.int .i64 k2, .int .i64 n2, .string s2])).run Tryz.prog w = .ok () w := by
  go_simp

theorem same_iff (k1 n1 k2 n2 : Int) (s1 s2 : ByteArray) : (k1 == k2 && (n1 == n2 && s1.toList == s2.toList)) = decide (ordV k1 n1 k2 n2 s1 s2 = 0) := by
  rw [Bool.eq_iff_iff, decide_eq_true_iff, ordV_zero]
  simp only [Bool.and_eq_true, beq_iff_eq]
  exact ⟨fun ⟨h1, h2, h3⟩ => ⟨h1, h2, toList_inj h3⟩, fun ⟨h1, h2, h3⟩ => ⟨h1, h2, by rw [h3]⟩⟩

theorem and1 (a : Int) (B : Nat) (w : World) (ha : w.cell? ⟨B, 0, none⟩ = some (.int .i64 a)) :
    Calls Tryz.prog 21 #[.slice (some ⟨B, 0, none⟩) 1 1] w fun r w' => r = .returned (.int .i64 (bothI 1 a)) ∧ w = w' := and_some B 0 1 [a] w (by simp) (fun i hi => by
      match i, hi with
      | 0, _ => exact ha)
theorem litE_range (k n : Int) (s : ByteArray) : 0 ≤ (litE k n s).2 ∧ (litE k n s).2 ≤ 3 := by
  unfold litE
  split
  · simp
  · unfold checkV
    split
    · simp
    · split <;> simp
theorem litE_ok (k n : Int) (s : ByteArray) (h : (litE k n s).2 = 0) : checkV k n s = 0 ∧ (litE k n s).1 = litL k n s.data.toList := by
  unfold litE at h ⊢
  by_cases hc : checkV k n s = 0
  · rw [if_pos hc]; exact ⟨hc, rfl⟩
  · rw [if_neg hc] at h; exact absurd h hc
theorem lits_same (k1 n1 k2 n2 : Int) (s1 s2 : ByteArray) (l1 : -9223372036854775808 ≤ n1) (u1 : n1 ≤ 9223372036854775807) (l2 : -9223372036854775808 ≤ n2) (u2 : n2 ≤ 9223372036854775807) (h : (litE k1 n1 s1).2 + (litE k2 n2 s2).2 = 0) :
    ((⟨(litE k1 n1 s1).1.toArray⟩ : ByteArray).toList == (⟨(litE k2 n2 s2).1.toArray⟩ : ByteArray).toList) = decide (ordV k1 n1 k2 n2 s1 s2 = 0) := by
  have r1 := litE_range k1 n1 s1
  have r2 := litE_range k2 n2 s2
  obtain ⟨c1, e1⟩ := litE_ok k1 n1 s1 (by omega)
  obtain ⟨c2, e2⟩ := litE_ok k2 n2 s2 (by omega)
  rw [toL, toL, e1, e2, Bool.eq_iff_iff, decide_eq_true_iff, ordV_zero]
  simp only [beq_iff_eq]
  constructor
  · intro h
    exact lit_apart k1 n1 k2 n2 s1 s2 c1 c2 l1 u1 l2 u2 (by simpa using h)
  · rintro ⟨rfl, rfl, rfl⟩
    rfl
end Go.Proofs.YtcngoffmkbobhaaGreatDoor
