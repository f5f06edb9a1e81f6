import Derived.Test.YtoknfdgejiachaaKA
namespace Go.Proofs.Ytoknfdgejiachaa
open Go.RowKit Go.Shelf

theorem times_yes {a b : Int} (ha : a ≠ 0) (hb : b ≠ 0) (h2 : In64 b) : (a * b).tdiv a = b ∧ IntKind.i64.wrap ((a * b).tdiv a) = b ∧ (a * b < 0 ↔ ¬ (a < 0 ↔ b < 0)) := by
  have e : (a * b).tdiv a = b := Int.mul_tdiv_cancel_left b ha
  refine ⟨e, by rw [e]; exact IntWalk.i64_in _ h2, ?_⟩
  rcases Int.lt_or_gt_of_ne ha with g | g <;> rcases Int.lt_or_gt_of_ne hb with k | k
  · have := Int.mul_pos_of_neg_of_neg g k; omega
  · have := Int.mul_neg_of_neg_of_pos g k; omega
  · have := Int.mul_neg_of_pos_of_neg g k; omega
  · have := Int.mul_pos g k; omega
theorem times_no {a b s : Int} (ha : In64 a) (hb : In64 b) (h0 : a ≠ 0) (h : ¬ In64 (a * b)) (hs : IntKind.i64.wrap (a * b) = s) (hq : IntKind.i64.wrap (s.tdiv a) = b) : ¬ (s < 0 ↔ ¬ (a < 0 ↔ b < 0)) := by
  have hs64 : In64 s := by
    rw [← hs, IntWalk.i64_left]
    unfold wrap64 In64
    omega
  have hm : ∃ k : Int, s - a * b = 18446744073709551616 * k := by
    refine ⟨-((a * b + 9223372036854775808) / 18446744073709551616), ?_⟩
    rw [← hs, IntWalk.i64_left]
    unfold wrap64
    omega
  by_cases g : s = -9223372036854775808 ∧ a = -1
  · obtain ⟨rfl, rfl⟩ := g
    have : IntKind.i64.wrap ((-9223372036854775808 : Int).tdiv (-1)) = -9223372036854775808 := by decide
    rw [this] at hq
    omega
  · have k := quo_fits s a h0 hs64 g
    rw [IntWalk.i64_in _ k] at hq
    have h1 := quo_rest s a
    rw [hq] at h1
    have h2 := rest_bound s a h0
    have h3 : (s.tmod a).natAbs < a.natAbs := by
      rw [Int.natAbs_tmod]
      exact Nat.mod_lt _ (by omega)
    obtain ⟨k, hk⟩ := hm
    rw [Int.mul_comm] at h1
    unfold In64 at *
    exfalso
    have : k = 0 := by omega
    subst this
    omega
set_option maxHeartbeats 400000 in
theorem times_nil (a b : Int) (h : a = 0 ∨ b = 0) (w : World) :
    Calls Try.prog 65 #[.int .i64 a, .int .i64 b] w fun r w' => r = .returned (.int .i64 0) ∧ w = w' := by
  by_cases g : a = 0
  · subst g
    clear h
    go_enter Try.func65, Try.ntmps65
    go_wp2
    go_ret
    exact ⟨rfl, rfl⟩
  · have g' : (a == 0) = false := by simpa using g
    obtain rfl : b = 0 := by omega
    clear h
    go_enter Try.func65, Try.ntmps65
    go_wp2
    go_ret
    exact ⟨rfl, rfl⟩
set_option maxHeartbeats 400000 in
theorem times_nn (a b s q : Int) (ha : ¬ a = 0) (hb : ¬ b = 0) (hx : a < 0) (hy : b < 0) (hs : IntKind.i64.wrap (a * b) = s) (hq : IntKind.i64.wrap (s.tdiv a) = q) (w : World) :
    (q = b → ¬ s < 0 → Calls Try.prog 65 #[.int .i64 a, .int .i64 b] w fun r w' => r = .returned (.int .i64 s) ∧ w = w') ∧
    (q = b → s < 0 → Calls Try.prog 65 #[.int .i64 a, .int .i64 b] w fun r w' => r = .panicked (gaveUp 122) ∧ w = w') ∧
    (¬ q = b → Calls Try.prog 65 #[.int .i64 a, .int .i64 b] w fun r w' => r = .panicked (gaveUp 122) ∧ w = w') := by
  have ha1 : (a == 0) = false := by simpa using ha
  have hb1 : (b == 0) = false := by simpa using hb
  refine ⟨fun h g => ?_, fun h g => ?_, fun h => ?_⟩
  · have h1 : (q == b) = true := by simpa using h
    clear h
    go_enter Try.func65, Try.ntmps65
    go_wp2_with (go_at_call 25; refine (need_ok _ _).mono ?_; rintro e w' ⟨rfl, rfl⟩)
    go_ret
    exact ⟨rfl, rfl⟩
  · have h1 : (q == b) = true := by simpa using h
    clear h
    go_enter Try.func65, Try.ntmps65
    go_wp2_with (go_at_call 25; refine (need_no _ _).mono ?_; rintro e w' ⟨rfl, rfl⟩)
    exact ⟨rfl, rfl, rfl⟩
  · have h1 : (q == b) = false := by simpa using h
    clear h
    go_enter Try.func65, Try.ntmps65
    go_wp2_with (go_at_call 25; refine (need_no _ _).mono ?_; rintro e w' ⟨rfl, rfl⟩)
    exact ⟨rfl, rfl, rfl⟩
set_option maxHeartbeats 400000 in
theorem times_np (a b s q : Int) (ha : ¬ a = 0) (hb : ¬ b = 0) (hx : a < 0) (hy : ¬ b < 0) (hs : IntKind.i64.wrap (a * b) = s) (hq : IntKind.i64.wrap (s.tdiv a) = q) (w : World) :
    (q = b → s < 0 → Calls Try.prog 65 #[.int .i64 a, .int .i64 b] w fun r w' => r = .returned (.int .i64 s) ∧ w = w') ∧
    (q = b → ¬ s < 0 → Calls Try.prog 65 #[.int .i64 a, .int .i64 b] w fun r w' => r = .panicked (gaveUp 122) ∧ w = w') ∧
    (¬ q = b → Calls Try.prog 65 #[.int .i64 a, .int .i64 b] w fun r w' => r = .panicked (gaveUp 122) ∧ w = w') := by
  have ha1 : (a == 0) = false := by simpa using ha
  have hb1 : (b == 0) = false := by simpa using hb
  refine ⟨fun h g => ?_, fun h g => ?_, fun h => ?_⟩
  · have h1 : (q == b) = true := by simpa using h
    clear h
    go_enter Try.func65, Try.ntmps65
    go_wp2_with (go_at_call 25; refine (need_ok _ _).mono ?_; rintro e w' ⟨rfl, rfl⟩)
    go_ret
    exact ⟨rfl, rfl⟩
  · have h1 : (q == b) = true := by simpa using h
    clear h
    go_enter Try.func65, Try.ntmps65
    go_wp2_with (go_at_call 25; refine (need_no _ _).mono ?_; rintro e w' ⟨rfl, rfl⟩)
    exact ⟨rfl, rfl, rfl⟩
  · have h1 : (q == b) = false := by simpa using h
    clear h
    go_enter Try.func65, Try.ntmps65
    go_wp2_with (go_at_call 25; refine (need_no _ _).mono ?_; rintro e w' ⟨rfl, rfl⟩)
    exact ⟨rfl, rfl, rfl⟩
set_option maxHeartbeats 400000 in
theorem times_pn (a b s q : Int) (ha : ¬ a = 0) (hb : ¬ b = 0) (hx : ¬ a < 0) (hy : b < 0) (hs : IntKind.i64.wrap (a * b) = s) (hq : IntKind.i64.wrap (s.tdiv a) = q) (w : World) :
    (q = b → s < 0 → Calls Try.prog 65 #[.int .i64 a, .int .i64 b] w fun r w' => r = .returned (.int .i64 s) ∧ w = w') ∧
    (q = b → ¬ s < 0 → Calls Try.prog 65 #[.int .i64 a, .int .i64 b] w fun r w' => r = .panicked (gaveUp 122) ∧ w = w') ∧
    (¬ q = b → Calls Try.prog 65 #[.int .i64 a, .int .i64 b] w fun r w' => r = .panicked (gaveUp 122) ∧ w = w') := by
  have ha1 : (a == 0) = false := by simpa using ha
  have hb1 : (b == 0) = false := by simpa using hb
  refine ⟨fun h g => ?_, fun h g => ?_, fun h => ?_⟩
  · have h1 : (q == b) = true := by simpa using h
    clear h
    go_enter Try.func65, Try.ntmps65
    go_wp2_with (go_at_call 25; refine (need_ok _ _).mono ?_; rintro e w' ⟨rfl, rfl⟩)
    go_ret
    exact ⟨rfl, rfl⟩
  · have h1 : (q == b) = true := by simpa using h
    clear h
    go_enter Try.func65, Try.ntmps65
    go_wp2_with (go_at_call 25; refine (need_no _ _).mono ?_; rintro e w' ⟨rfl, rfl⟩)
    exact ⟨rfl, rfl, rfl⟩
  · have h1 : (q == b) = false := by simpa using h
    clear h
    go_enter Try.func65, Try.ntmps65
    go_wp2_with (go_at_call 25; refine (need_no _ _).mono ?_; rintro e w' ⟨rfl, rfl⟩)
    exact ⟨rfl, rfl, rfl⟩
set_option maxHeartbeats 400000 in
theorem times_pp (a b s q : Int) (ha : ¬ a = 0) (hb : ¬ b = 0) (hx : ¬ a < 0) (hy : ¬ b < 0) (hs : IntKind.i64.wrap (a * b) = s) (hq : IntKind.i64.wrap (s.tdiv a) = q) (w : World) :
    (q = b → ¬ s < 0 → Calls Try.prog 65 #[.int .i64 a, .int .i64 b] w fun r w' => r = .returned (.int .i64 s) ∧ w = w') ∧
    (q = b → s < 0 → Calls Try.prog 65 #[.int .i64 a, .int .i64 b] w fun r w' => r = .panicked (gaveUp 122) ∧ w = w') ∧
    (¬ q = b → Calls Try.prog 65 #[.int .i64 a, .int .i64 b] w fun r w' => r = .panicked (gaveUp 122) ∧ w = w') := by
  have ha1 : (a == 0) = false := by simpa using ha
  have hb1 : (b == 0) = false := by simpa using hb
  refine ⟨fun h g => ?_, fun h g => ?_, fun h => ?_⟩
  · have h1 : (q == b) = true := by simpa using h
    clear h
    go_enter Try.func65, Try.ntmps65
    go_wp2_with (go_at_call 25; refine (need_ok _ _).mono ?_; rintro e w' ⟨rfl, rfl⟩)
    go_ret
    exact ⟨rfl, rfl⟩
  · have h1 : (q == b) = true := by simpa using h
    clear h
    go_enter Try.func65, Try.ntmps65
    go_wp2_with (go_at_call 25; refine (need_no _ _).mono ?_; rintro e w' ⟨rfl, rfl⟩)
    exact ⟨rfl, rfl, rfl⟩
  · have h1 : (q == b) = false := by simpa using h
    clear h
    go_enter Try.func65, Try.ntmps65
    go_wp2_with (go_at_call 25; refine (need_no _ _).mono ?_; rintro e w' ⟨rfl, rfl⟩)
    exact ⟨rfl, rfl, rfl⟩
theorem times_any (a b : Int) (ha : In64 a) (hb : In64 b) (w : World) :
    Calls Try.prog 65 #[.int .i64 a, .int .i64 b] w fun r w' => r = endN (fitE (a * b)) ∧ w = w' := by
  by_cases h0 : a = 0 ∨ b = 0
  · rw [show a * b = 0 by rcases h0 with rfl | rfl <;> simp, endN_fit (by decide)]
    exact times_nil a b h0 w
  have a0 : ¬ a = 0 := fun e => h0 (.inl e)
  have b0 : ¬ b = 0 := fun e => h0 (.inr e)
  have C : ∀ s q, IntKind.i64.wrap (a * b) = s → IntKind.i64.wrap (s.tdiv a) = q →
      (q = b → (s < 0 ↔ ¬ (a < 0 ↔ b < 0)) → Calls Try.prog 65 #[.int .i64 a, .int .i64 b] w fun r w' => r = .returned (.int .i64 s) ∧ w = w') ∧
      (q = b → ¬ (s < 0 ↔ ¬ (a < 0 ↔ b < 0)) → Calls Try.prog 65 #[.int .i64 a, .int .i64 b] w fun r w' => r = .panicked (gaveUp 122) ∧ w = w') ∧
      (¬ q = b → Calls Try.prog 65 #[.int .i64 a, .int .i64 b] w fun r w' => r = .panicked (gaveUp 122) ∧ w = w') := by
    intro s q hs hq
    by_cases x : a < 0 <;> by_cases y : b < 0
    · obtain ⟨c1, c2, c3⟩ := times_nn a b s q a0 b0 x y hs hq w
      exact ⟨fun h g => c1 h (by omega), fun h g => c2 h (by omega), c3⟩
    · obtain ⟨c1, c2, c3⟩ := times_np a b s q a0 b0 x y hs hq w
      exact ⟨fun h g => c1 h (by omega), fun h g => c2 h (by omega), c3⟩
    · obtain ⟨c1, c2, c3⟩ := times_pn a b s q a0 b0 x y hs hq w
      exact ⟨fun h g => c1 h (by omega), fun h g => c2 h (by omega), c3⟩
    · obtain ⟨c1, c2, c3⟩ := times_pp a b s q a0 b0 x y hs hq w
      exact ⟨fun h g => c1 h (by omega), fun h g => c2 h (by omega), c3⟩
  by_cases h : In64 (a * b)
  · rw [endN_fit h]
    obtain ⟨_, k2, k3⟩ := times_yes a0 b0 hb
    exact (C (a * b) b (IntWalk.i64_in _ h) k2).1 rfl k3
  · rw [endN_over h]
    obtain ⟨c1, c2, c3⟩ := C _ _ rfl rfl
    by_cases k : IntKind.i64.wrap ((IntKind.i64.wrap (a * b)).tdiv a) = b
    · exact c2 k (times_no ha hb a0 h rfl k)
    · exact c3 k
/-- What a number operator makes, or gives up with. -/
theorem endN_ok {p : Int × Int} (h : p.2 = 0) : endN p = .returned (.int .i64 p.1) := by unfold endN; rw [if_pos h]
theorem endN_no {p : Int × Int} (h : p.2 ≠ 0) : endN p = .panicked (gaveUp p.2) := by unfold endN; rw [if_neg h]
end Go.Proofs.Ytoknfdgejiachaa
