import Derived.Test.YtoknfdgejiachaaY2
namespace Go.Proofs.Ytoknfdgejiachaa
open Go.RowKit Go.Shelf

theorem refMul_any (a b : Int) (ha : In64 a) (hb : In64 b) (w : World) :
    Calls Try.prog 55 #[.int .i64 a, .int .i64 b] w fun r w' => r = .returned (.tuple #[.int .i64 (fitE (a * b)).1, .int .i64 (fitE (a * b)).2]) ∧ w = w' := by
  by_cases h0 : a = 0 ∨ b = 0
  · exact refMul_nil a b h0 w
  have e1 : ∀ x : Int, -1 * x = -x := fun x => by rw [Int.neg_mul, Int.one_mul]
  by_cases h1 : a = -1
  · subst h1
    rw [e1]
    exact refMul_a1 b hb (by simp; omega) w
  by_cases h2 : b = -1
  · subst h2
    rw [Int.mul_comm, e1]
    exact refMul_b1 a ha (by simp; omega) (by simp; omega) w
  rcases Int.lt_or_gt_of_ne (show a ≠ 0 by omega) with h | h <;> rcases Int.lt_or_gt_of_ne (show b ≠ 0 by omega) with g | g
  · exact refMul_nn a b ha hb (by omega) (by omega) w
  · exact refMul_np a b ha hb (by omega) (by omega) w
  · exact refMul_pn a b ha hb (by omega) (by omega) w
  · exact refMul_pp a b ha hb (by omega) (by omega) w

abbrev two (p : Int × Int) : Value := .tuple #[.int .i64 p.1, .int .i64 p.2]
set_option maxRecDepth 100000 in
set_option maxHeartbeats 1000000 in
theorem refWhole_1 (a b : Int) (ha : In64 a) (hb : In64 b) (w : World) :
    Calls Try.prog 37 #[.int .i64 1, .int .i64 a, .int .i64 b] w fun r w' => r = .returned (two (fitE (a + b))) ∧ w = w' := by
  have HA := Lib.hid ha
  have HB := Lib.hid hb
  have HZ : In64 0 := by unfold In64; omega
  unfold In64 at ha hb
  obtain ⟨ha1, ha2⟩ := ha
  obtain ⟨hb1, hb2⟩ := hb
  go_enter Try.func37, Try.ntmps37
  go_wp2_with (go_at_call 53; ((with_reducible refine (refAdd_any a b HA.out HB.out _).mono ?_); rintro e w' ⟨rfl, rfl⟩))
  all_goals go_ret2
  all_goals exact ⟨rfl, rfl⟩
set_option maxRecDepth 100000 in
set_option maxHeartbeats 1000000 in
theorem refWhole_2 (a b : Int) (ha : In64 a) (hb : In64 b) (w : World) :
    Calls Try.prog 37 #[.int .i64 2, .int .i64 a, .int .i64 b] w fun r w' => r = .returned (two (fitE (a - b))) ∧ w = w' := by
  have HA := Lib.hid ha
  have HB := Lib.hid hb
  have HZ : In64 0 := by unfold In64; omega
  unfold In64 at ha hb
  obtain ⟨ha1, ha2⟩ := ha
  obtain ⟨hb1, hb2⟩ := hb
  go_enter Try.func37, Try.ntmps37
  go_wp2_with (go_at_call 54; ((with_reducible refine (refSub_any a b HA.out HB.out _).mono ?_); rintro e w' ⟨rfl, rfl⟩))
  all_goals go_ret2
  all_goals exact ⟨rfl, rfl⟩
set_option maxRecDepth 100000 in
set_option maxHeartbeats 1000000 in
theorem refWhole_3 (a b : Int) (ha : In64 a) (hb : In64 b) (w : World) :
    Calls Try.prog 37 #[.int .i64 3, .int .i64 a, .int .i64 b] w fun r w' => r = .returned (two (fitE (a * b))) ∧ w = w' := by
  have HA := Lib.hid ha
  have HB := Lib.hid hb
  have HZ : In64 0 := by unfold In64; omega
  unfold In64 at ha hb
  obtain ⟨ha1, ha2⟩ := ha
  obtain ⟨hb1, hb2⟩ := hb
  go_enter Try.func37, Try.ntmps37
  go_wp2_with (go_at_call 55; ((with_reducible refine (refMul_any a b HA.out HB.out _).mono ?_); rintro e w' ⟨rfl, rfl⟩))
  all_goals go_ret2
  all_goals exact ⟨rfl, rfl⟩
set_option maxRecDepth 100000 in
set_option maxHeartbeats 1000000 in
theorem refWhole_20p (a b : Int) (ha : In64 a) (hb : In64 b) (h0 : 0 ≤ a) (w : World) :
    Calls Try.prog 37 #[.int .i64 20, .int .i64 a, .int .i64 b] w fun r w' => r = .returned (two (a, 0)) ∧ w = w' := by
  have HA := Lib.hid ha
  have HB := Lib.hid hb
  have HZ : In64 0 := by unfold In64; omega
  unfold In64 at ha hb
  obtain ⟨ha1, ha2⟩ := ha
  obtain ⟨hb1, hb2⟩ := hb
  go_enter Try.func37, Try.ntmps37
  go_wp2_with fail
  all_goals go_ret2
  all_goals exact ⟨rfl, rfl⟩
set_option maxRecDepth 100000 in
set_option maxHeartbeats 1000000 in
theorem refWhole_20n (a b : Int) (ha : In64 a) (hb : In64 b) (h0 : a < 0) (w : World) :
    Calls Try.prog 37 #[.int .i64 20, .int .i64 a, .int .i64 b] w fun r w' => r = .returned (two (fitE (-a))) ∧ w = w' := by
  have HA := Lib.hid ha
  have HB := Lib.hid hb
  have HZ : In64 0 := by unfold In64; omega
  unfold In64 at ha hb
  obtain ⟨ha1, ha2⟩ := ha
  obtain ⟨hb1, hb2⟩ := hb
  go_enter Try.func37, Try.ntmps37
  go_wp2_with (go_at_call 54; ((with_reducible refine (refSub_any 0 a HZ HA.out _).mono ?_); rintro e w' ⟨rfl, rfl⟩))
  all_goals go_ret2
  all_goals exact ⟨rfl, rfl⟩
set_option maxRecDepth 100000 in
set_option maxHeartbeats 1000000 in
theorem refWhole_o (o a b : Int) (ha : In64 a) (hb : In64 b) (h1 : (o == 1) = false) (h2 : (o == 2) = false) (h3 : (o == 3) = false) (h4 : (o == 4) = false) (h5 : (o == 5) = false) (h20 : (o == 20) = false) (w : World) :
    Calls Try.prog 37 #[.int .i64 o, .int .i64 a, .int .i64 b] w fun r w' => r = .returned (two (fitE (-a))) ∧ w = w' := by
  have HA := Lib.hid ha
  have HB := Lib.hid hb
  have HZ : In64 0 := by unfold In64; omega
  unfold In64 at ha hb
  obtain ⟨ha1, ha2⟩ := ha
  obtain ⟨hb1, hb2⟩ := hb
  go_enter Try.func37, Try.ntmps37
  go_wp2_with (go_at_call 54; ((with_reducible refine (refSub_any 0 a HZ HA.out _).mono ?_); rintro e w' ⟨rfl, rfl⟩))
  all_goals go_ret2
  all_goals exact ⟨rfl, rfl⟩
set_option maxRecDepth 100000 in
set_option maxHeartbeats 1000000 in
theorem refWhole_4z (a : Int) (ha : In64 a) (w : World) :
    Calls Try.prog 37 #[.int .i64 4, .int .i64 a, .int .i64 0] w fun r w' => r = .returned (two (0, 121)) ∧ w = w' := by
  have HA := Lib.hid ha
  have HZ : In64 0 := by unfold In64; omega
  unfold In64 at ha
  obtain ⟨ha1, ha2⟩ := ha
  go_enter Try.func37, Try.ntmps37
  go_wp2_with fail
  all_goals go_ret2
  all_goals exact ⟨rfl, rfl⟩
set_option maxRecDepth 100000 in
set_option maxHeartbeats 1000000 in
theorem refWhole_5z (a : Int) (ha : In64 a) (w : World) :
    Calls Try.prog 37 #[.int .i64 5, .int .i64 a, .int .i64 0] w fun r w' => r = .returned (two (0, 121)) ∧ w = w' := by
  have HA := Lib.hid ha
  have HZ : In64 0 := by unfold In64; omega
  unfold In64 at ha
  obtain ⟨ha1, ha2⟩ := ha
  go_enter Try.func37, Try.ntmps37
  go_wp2_with fail
  all_goals go_ret2
  all_goals exact ⟨rfl, rfl⟩
set_option maxRecDepth 100000 in
set_option maxHeartbeats 1000000 in
theorem refWhole_5m (a : Int) (ha : In64 a) (w : World) :
    Calls Try.prog 37 #[.int .i64 5, .int .i64 a, .int .i64 (-1)] w fun r w' => r = .returned (two (0, 0)) ∧ w = w' := by
  have HA := Lib.hid ha
  have HZ : In64 0 := by unfold In64; omega
  unfold In64 at ha
  obtain ⟨ha1, ha2⟩ := ha
  go_enter Try.func37, Try.ntmps37
  go_wp2_with fail
  all_goals go_ret2
  all_goals exact ⟨rfl, rfl⟩
set_option maxRecDepth 100000 in
set_option maxHeartbeats 1000000 in
theorem refWhole_4m (a : Int) (ha : In64 a) (w : World) :
    Calls Try.prog 37 #[.int .i64 4, .int .i64 a, .int .i64 (-1)] w fun r w' => r = .returned (two (fitE (-a))) ∧ w = w' := by
  have HA := Lib.hid ha
  have HZ : In64 0 := by unfold In64; omega
  unfold In64 at ha
  obtain ⟨ha1, ha2⟩ := ha
  go_enter Try.func37, Try.ntmps37
  go_wp2_with (go_at_call 54; ((with_reducible refine (refSub_any 0 a HZ HA.out _).mono ?_); rintro e w' ⟨rfl, rfl⟩))
  all_goals go_ret2
  all_goals exact ⟨rfl, rfl⟩
set_option maxRecDepth 100000 in
set_option maxHeartbeats 1000000 in
theorem refWhole_4 (a b : Int) (ha : In64 a) (hb : In64 b) (hz : (b == 0) = false) (hz2 : ¬ b = 0) (hm : (b == -1) = false) (hq : -9223372036854775808 ≤ a.tdiv b) (hq2 : a.tdiv b ≤ 9223372036854775807) (w : World) :
    Calls Try.prog 37 #[.int .i64 4, .int .i64 a, .int .i64 b] w fun r w' => r = .returned (two (a.tdiv b, 0)) ∧ w = w' := by
  have HA := Lib.hid ha
  have HB := Lib.hid hb
  have HZ : In64 0 := by unfold In64; omega
  unfold In64 at ha hb
  obtain ⟨ha1, ha2⟩ := ha
  obtain ⟨hb1, hb2⟩ := hb
  go_enter Try.func37, Try.ntmps37
  go_wp2_with fail
  all_goals go_ret2
  all_goals exact ⟨rfl, rfl⟩
set_option maxRecDepth 100000 in
set_option maxHeartbeats 1000000 in
theorem refWhole_5 (a b : Int) (ha : In64 a) (hb : In64 b) (hz : (b == 0) = false) (hz2 : ¬ b = 0) (hm : (b == -1) = false) (hq : -9223372036854775808 ≤ a.tmod b) (hq2 : a.tmod b ≤ 9223372036854775807) (w : World) :
    Calls Try.prog 37 #[.int .i64 5, .int .i64 a, .int .i64 b] w fun r w' => r = .returned (two (a.tmod b, 0)) ∧ w = w' := by
  have HA := Lib.hid ha
  have HB := Lib.hid hb
  have HZ : In64 0 := by unfold In64; omega
  unfold In64 at ha hb
  obtain ⟨ha1, ha2⟩ := ha
  obtain ⟨hb1, hb2⟩ := hb
  go_enter Try.func37, Try.ntmps37
  go_wp2_with fail
  all_goals go_ret2
  all_goals exact ⟨rfl, rfl⟩
theorem refWhole_any (o a b : Int) (ha : In64 a) (hb : In64 b) (w : World) :
    Calls Try.prog 37 #[.int .i64 o, .int .i64 a, .int .i64 b] w fun r w' => r = .returned (two (wholeE o a b)) ∧ w = w' := by
  have z0 : (0 : Int) - a = -a := by omega
  unfold wholeE
  by_cases h1 : o = 1
  · subst h1; rw [if_pos rfl]; exact refWhole_1 a b ha hb w
  rw [if_neg h1]
  by_cases h2 : o = 2
  · subst h2; rw [if_pos rfl]; exact refWhole_2 a b ha hb w
  rw [if_neg h2]
  by_cases h3 : o = 3
  · subst h3; rw [if_pos rfl]; exact refWhole_3 a b ha hb w
  rw [if_neg h3]
  by_cases h4 : o = 4
  · subst h4; rw [if_pos rfl]
    by_cases hz : b = 0
    · subst hz; rw [if_pos rfl]; exact refWhole_4z a ha w
    rw [if_neg hz]
    by_cases hm : b = -1
    · subst hm
      rw [show a.tdiv (-1) = -a by rw [Int.tdiv_neg, Int.tdiv_one]]
      exact refWhole_4m a ha w
    have hq := quo_fits a b hz ha (fun e => hm e.2)
    rw [fitE_ok hq]
    exact refWhole_4 a b ha hb (by simpa using hz) hz (by simpa using hm) hq.1 hq.2 w
  rw [if_neg h4]
  by_cases h5 : o = 5
  · subst h5; rw [if_pos rfl]
    by_cases hz : b = 0
    · subst hz; rw [if_pos rfl]; exact refWhole_5z a ha w
    rw [if_neg hz]
    by_cases hm : b = -1
    · subst hm
      rw [show a.tmod (-1) = 0 by rw [Int.tmod_neg, Int.tmod_one]]
      exact refWhole_5m a ha w
    have hq := (quo_back a b hz ha).2
    exact refWhole_5 a b ha hb (by simpa using hz) hz (by simpa using hm) hq.1 hq.2 w
  rw [if_neg h5]
  by_cases h20 : o = 20
  · subst h20; rw [if_pos rfl]
    by_cases hp : 0 ≤ a
    · rw [show ((a.natAbs : Nat) : Int) = a by omega, fitE_ok ha]
      exact refWhole_20p a b ha hb hp w
    · rw [show ((a.natAbs : Nat) : Int) = -a by omega]
      exact refWhole_20n a b ha hb (by omega) w
  rw [if_neg h20, z0]
  exact refWhole_o o a b ha hb (by simpa using h1) (by simpa using h2) (by simpa using h3) (by simpa using h4) (by simpa using h5) (by simpa using h20) w

set_option maxHeartbeats 1000000 in
theorem refTruth_any (o n : Int) (w : World) :
    Calls Try.prog 35 #[.int .i64 o, .int .i64 n] w fun r w' => r = .returned (.bool (truthE o n)) ∧ w = w' := by
  go_enter Try.func35, Try.ntmps35
  go_wp2
  all_goals go_ret
  all_goals exact ⟨by simp_all [truthE], rfl⟩
abbrev val (v : V3) : Value := .agg #[.int .i64 v.1, .int .i64 v.2.1, .string v.2.2]
theorem refOf_V (a : Int) (w : World) : Calls Try.prog 17 #[.int .i64 a] w fun r w' => r = .returned (val (ofV a)) ∧ Below w.heap.size w w' := refOf_any a w
/-- What stands in a result's own cell behind a call. -/
theorem res_facts {W w3 : World} (hb : Below (W.alloc (vObj 0 0 ⟨#[]⟩)).heap.size (W.alloc (vObj 0 0 ⟨#[]⟩)) w3) :
    w3.cell? ⟨W.heap.size, 0, none⟩ = some (.int .i64 0) ∧ w3.cell? ⟨W.heap.size, 1, none⟩ = some (.int .i64 0) ∧ w3.cell? ⟨W.heap.size, 2, none⟩ = some (.string ⟨#[]⟩) ∧ w3.frozen? ⟨W.heap.size, 0, none⟩ = false ∧ w3.frozen? ⟨W.heap.size, 1, none⟩ = false ∧ w3.frozen? ⟨W.heap.size, 2, none⟩ = false := by
  refine ⟨(hb.cell (by simp)).trans ?_, (hb.cell (by simp)).trans ?_, (hb.cell (by simp)).trans ?_, (hb.frozen (by simp)).trans ?_, (hb.frozen (by simp)).trans ?_, (hb.frozen (by simp)).trans ?_⟩ <;> go_cell
set_option maxHeartbeats 1000000 in
theorem refBool_any (b : Bool) (w : World) :
    Calls Try.prog 33 #[.bool b] w fun r w' => r = .returned (val (boolV b)) ∧ Below w.heap.size w w' := by
  cases b
  all_goals
    go_enter Try.func33, Try.ntmps33
    go_wp2_with (go_at_call 17; refine (refOf_V _ _).mono ?_; rintro e w' ⟨rfl, hb⟩; obtain ⟨k0, k1, k2, f0, f1, f2⟩ := res_facts hb)
  · refine bodyPost_ret (v := val (ofV 0)) ?_ rfl ⟨rfl, ?_⟩
    · simp [results, Try.results33, go_sem, k0, k1, k2]
    · exact ((((Below.refl _ _).alloc (Nat.le_refl _) _).trans (hb.mono (by simp))).setCell (Nat.le_refl _) _).setCell (Nat.le_refl _) _ |>.setCell (Nat.le_refl _) _
  · refine bodyPost_ret (v := val (ofV 1)) ?_ rfl ⟨rfl, ?_⟩
    · simp [results, Try.results33, go_sem, k0, k1, k2]
    · exact ((((Below.refl _ _).alloc (Nat.le_refl _) _).trans (hb.mono (by simp))).setCell (Nat.le_refl _) _).setCell (Nat.le_refl _) _ |>.setCell (Nat.le_refl _) _
end Go.Proofs.Ytoknfdgejiachaa

