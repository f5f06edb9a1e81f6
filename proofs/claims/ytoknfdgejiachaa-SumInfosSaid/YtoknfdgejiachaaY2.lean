import Derived.Test.YtoknfdgejiachaaY1
namespace Go.Proofs.Ytoknfdgejiachaa
open Go.RowKit Go.Shelf

theorem mul_pp (M a b : Int) (hb : 0 < b) : (a ≤ M / b ↔ a * b ≤ M) := Int.le_ediv_iff_mul_le hb
theorem tdiv_neg_right (M b : Int) (hM : 0 ≤ M) (hb : b < 0) : M.tdiv b = -(M / (-b)) := by
  obtain ⟨m, rfl⟩ : ∃ m : Nat, M = m := ⟨M.toNat, by omega⟩
  obtain ⟨n, rfl⟩ : ∃ n : Nat, b = -(n : Int) := ⟨(-b).toNat, by omega⟩
  rw [Int.tdiv_neg, Int.neg_neg, Int.tdiv_eq_ediv_of_nonneg (by omega)]
theorem div_bd (M b : Int) (hM : 0 ≤ M) (hb : 0 < b) : 0 ≤ M / b ∧ M / b ≤ M := ⟨Int.ediv_nonneg hM (by omega), Int.ediv_le_self b hM⟩
theorem mul_nn (M a b : Int) (hM : 0 ≤ M) (hb : b < 0) : (M.tdiv b ≤ a ↔ a * b ≤ M) ∧ -M ≤ M.tdiv b ∧ M.tdiv b ≤ 0 := by
  rw [tdiv_neg_right M b hM hb]
  have h := mul_pp M (-a) (-b) (by omega)
  have e : -a * -b = a * b := Int.neg_mul_neg a b
  rw [e] at h
  obtain ⟨h1, h2⟩ := div_bd M (-b) hM (by omega)
  exact ⟨by rw [← h]; omega, by omega, by omega⟩
theorem mul_ln (M a b : Int) (hM : 0 ≤ M) (ha : 0 < a) : (-(M.tdiv a) ≤ b ↔ -M ≤ a * b) ∧ -M ≤ -(M.tdiv a) ∧ -(M.tdiv a) ≤ 0 := by
  rw [Int.tdiv_eq_ediv_of_nonneg hM]
  have h := mul_pp M (-b) a ha
  have e : -b * a = -(a * b) := by rw [Int.neg_mul, Int.mul_comm]
  rw [e] at h
  obtain ⟨h1, h2⟩ := div_bd M a hM ha
  constructor
  · constructor
    · intro g; have := h.1 (by omega); omega
    · intro g; have := h.2 (by omega); omega
  · omega
theorem pos_pp {a b : Int} (ha : 0 < a) (hb : 0 < b) : 0 < a * b := Int.mul_pos ha hb
theorem pos_nn {a b : Int} (ha : a < 0) (hb : b < 0) : 0 < a * b := Int.mul_pos_of_neg_of_neg ha hb
theorem neg_pn {a b : Int} (ha : 0 < a) (hb : b < 0) : a * b < 0 := Int.mul_neg_of_pos_of_neg ha hb

set_option maxRecDepth 100000 in
set_option maxHeartbeats 2000000 in
theorem refMul_nil (a b : Int) (h : a = 0 ∨ b = 0) (w : World) :
    Calls Try.prog 55 #[.int .i64 a, .int .i64 b] w fun r w' => r = .returned (.tuple #[.int .i64 (fitE (a * b)).1, .int .i64 (fitE (a * b)).2]) ∧ w = w' := by
  have e : a * b = 0 := by rcases h with rfl | rfl <;> simp
  rw [e, fitE_ok (by unfold In64; omega)]
  clear e
  rcases h with rfl | rfl
  · go_enter Try.func55, Try.ntmps55
    go_wp2
    all_goals go_ret2
    all_goals exact ⟨rfl, rfl⟩
  · by_cases ha : (a == 0) = true
    all_goals
      go_enter Try.func55, Try.ntmps55
      go_wp2
      all_goals go_ret2
      all_goals exact ⟨rfl, rfl⟩
set_option maxRecDepth 100000 in
set_option maxHeartbeats 2000000 in
theorem refMul_a1 (b : Int) (hb : In64 b) (hz : (b == 0) = false) (w : World) :
    Calls Try.prog 55 #[.int .i64 (-1), .int .i64 b] w fun r w' => r = .returned (.tuple #[.int .i64 (fitE (-b)).1, .int .i64 (fitE (-b)).2]) ∧ w = w' := by
  go_enter Try.func55, Try.ntmps55
  go_wp2_with (go_at_call 54; refine (refSub_any _ _ (by unfold In64; omega) hb _).mono ?_; rintro e w' ⟨rfl, rfl⟩)
  all_goals go_ret2
  all_goals exact ⟨rfl, rfl⟩
set_option maxRecDepth 100000 in
set_option maxHeartbeats 2000000 in
theorem refMul_b1 (a : Int) (ha : In64 a) (hz : (a == 0) = false) (h1 : (a == -1) = false) (w : World) :
    Calls Try.prog 55 #[.int .i64 a, .int .i64 (-1)] w fun r w' => r = .returned (.tuple #[.int .i64 (fitE (-a)).1, .int .i64 (fitE (-a)).2]) ∧ w = w' := by
  go_enter Try.func55, Try.ntmps55
  go_wp2_with (go_at_call 54; refine (refSub_any _ _ (by unfold In64; omega) ha _).mono ?_; rintro e w' ⟨rfl, rfl⟩)
  all_goals go_ret2
  all_goals exact ⟨rfl, rfl⟩
set_option maxRecDepth 100000 in
set_option maxHeartbeats 2000000 in
theorem refMul_pp (a b : Int) (ha : In64 a) (hb : In64 b) (ha0 : 0 < a) (hb0 : 0 < b) (w : World) :
    Calls Try.prog 55 #[.int .i64 a, .int .i64 b] w fun r w' => r = .returned (.tuple #[.int .i64 (fitE (a * b)).1, .int .i64 (fitE (a * b)).2]) ∧ w = w' := by
  have hq := mul_pp 9223372036854775807 a b hb0
  have hp := pos_pp ha0 hb0
  have hd := div_bd 9223372036854775807 b (by omega) hb0
  unfold In64 at ha hb
  obtain ⟨ha1, ha2⟩ := ha
  obtain ⟨hb1, hb2⟩ := hb
  obtain ⟨hd1, hd2⟩ := hd
  have z1 : (a == 0) = false := by simp; omega
  have z2 : (b == 0) = false := by simp; omega
  have z3 : (a == -1) = false := by simp; omega
  have z4 : (b == -1) = false := by simp; omega
  by_cases hf : a * b ≤ 9223372036854775807
  · have hle := hq.2 hf
    clear hq
    rw [fitE_ok (by unfold In64; omega)]
    go_enter Try.func55, Try.ntmps55
    go_wp2
    all_goals go_ret2
    all_goals exact ⟨rfl, rfl⟩
  · have hle : 9223372036854775807 / b < a := by have := mt hq.1 hf; omega
    clear hq
    rw [fitE_no (by unfold In64; omega)]
    go_enter Try.func55, Try.ntmps55
    go_wp2
    all_goals go_ret2
    all_goals exact ⟨rfl, rfl⟩
theorem mul_lm (M a b : Int) (hM : 0 ≤ M) (hb : 0 < b) : (-(M.tdiv b) ≤ a ↔ -M ≤ a * b) ∧ -M ≤ -(M.tdiv b) ∧ -(M.tdiv b) ≤ 0 := by
  have h := mul_ln M b a hM hb
  rw [Int.mul_comm b a] at h
  exact h
theorem neg_np {a b : Int} (ha : a < 0) (hb : 0 < b) : a * b < 0 := Int.mul_neg_of_neg_of_pos ha hb
set_option maxRecDepth 100000 in
set_option maxHeartbeats 2000000 in
theorem refMul_nn (a b : Int) (ha : In64 a) (hb : In64 b) (ha0 : a < -1) (hb0 : b < -1) (w : World) :
    Calls Try.prog 55 #[.int .i64 a, .int .i64 b] w fun r w' => r = .returned (.tuple #[.int .i64 (fitE (a * b)).1, .int .i64 (fitE (a * b)).2]) ∧ w = w' := by
  obtain ⟨hq, hd1, hd2⟩ := mul_nn 9223372036854775807 a b (by omega) (by omega)
  have hp := pos_nn (a := a) (b := b) (by omega) (by omega)
  unfold In64 at ha hb
  obtain ⟨ha1, ha2⟩ := ha
  obtain ⟨hb1, hb2⟩ := hb
  have z1 : (a == 0) = false := by simp; omega
  have z2 : (b == 0) = false := by simp; omega
  have z3 : (a == -1) = false := by simp; omega
  have z4 : (b == -1) = false := by simp; omega
  by_cases hf : a * b ≤ 9223372036854775807
  · have hle := hq.2 hf
    clear hq
    rw [fitE_ok (by unfold In64; omega)]
    go_enter Try.func55, Try.ntmps55
    go_wp2
    all_goals go_ret2
    all_goals exact ⟨rfl, rfl⟩
  · have hle : a < (9223372036854775807 : Int).tdiv b := by have := mt hq.1 hf; omega
    clear hq
    rw [fitE_no (by unfold In64; omega)]
    go_enter Try.func55, Try.ntmps55
    go_wp2
    all_goals go_ret2
    all_goals exact ⟨rfl, rfl⟩
set_option maxRecDepth 100000 in
set_option maxHeartbeats 2000000 in
theorem refMul_pn (a b : Int) (ha : In64 a) (hb : In64 b) (ha0 : 0 < a) (hb0 : b < -1) (w : World) :
    Calls Try.prog 55 #[.int .i64 a, .int .i64 b] w fun r w' => r = .returned (.tuple #[.int .i64 (fitE (a * b)).1, .int .i64 (fitE (a * b)).2]) ∧ w = w' := by
  obtain ⟨hq, hd1, hd2⟩ := mul_ln 9223372036854775808 a b (by omega) (by omega)
  have hp := neg_pn (a := a) (b := b) (by omega) (by omega)
  unfold In64 at ha hb
  obtain ⟨ha1, ha2⟩ := ha
  obtain ⟨hb1, hb2⟩ := hb
  have z1 : (a == 0) = false := by simp; omega
  have z2 : (b == 0) = false := by simp; omega
  have z3 : (a == -1) = false := by simp; omega
  have z4 : (b == -1) = false := by simp; omega
  by_cases hf : -9223372036854775808 ≤ a * b
  · have hle := hq.2 hf
    clear hq
    rw [fitE_ok (by unfold In64; omega)]
    go_enter Try.func55, Try.ntmps55
    go_wp2
    all_goals go_ret2
    all_goals exact ⟨rfl, rfl⟩
  · have hle : b < -((9223372036854775808 : Int).tdiv a) := by have := mt hq.1 hf; omega
    clear hq
    rw [fitE_no (by unfold In64; omega)]
    go_enter Try.func55, Try.ntmps55
    go_wp2
    all_goals go_ret2
    all_goals exact ⟨rfl, rfl⟩
set_option maxRecDepth 100000 in
set_option maxHeartbeats 2000000 in
theorem refMul_np (a b : Int) (ha : In64 a) (hb : In64 b) (ha0 : a < -1) (hb0 : 0 < b) (w : World) :
    Calls Try.prog 55 #[.int .i64 a, .int .i64 b] w fun r w' => r = .returned (.tuple #[.int .i64 (fitE (a * b)).1, .int .i64 (fitE (a * b)).2]) ∧ w = w' := by
  obtain ⟨hq, hd1, hd2⟩ := mul_lm 9223372036854775808 a b (by omega) (by omega)
  have hp := neg_np (a := a) (b := b) (by omega) (by omega)
  unfold In64 at ha hb
  obtain ⟨ha1, ha2⟩ := ha
  obtain ⟨hb1, hb2⟩ := hb
  have z1 : (a == 0) = false := by simp; omega
  have z2 : (b == 0) = false := by simp; omega
  have z3 : (a == -1) = false := by simp; omega
  have z4 : (b == -1) = false := by simp; omega
  by_cases hf : -9223372036854775808 ≤ a * b
  · have hle := hq.2 hf
    clear hq
    rw [fitE_ok (by unfold In64; omega)]
    go_enter Try.func55, Try.ntmps55
    go_wp2
    all_goals go_ret2
    all_goals exact ⟨rfl, rfl⟩
  · have hle : a < -((9223372036854775808 : Int).tdiv b) := by have := mt hq.1 hf; omega
    clear hq
    rw [fitE_no (by unfold In64; omega)]
    go_enter Try.func55, Try.ntmps55
    go_wp2
    all_goals go_ret2
    all_goals exact ⟨rfl, rfl⟩
end Go.Proofs.Ytoknfdgejiachaa

