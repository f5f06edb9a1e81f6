/- Package frame: Sectors, FrameAt, PageAt. -/
import Derived.Test.YthnllhfdbnnjhaaP3
namespace Go.Proofs.Ythnllhfdbnnjhaa
open Go.RowKit Go.Shelf

theorem refuse_at (n m : Int) : refuseE 4 [(n, 0, m - 1)] = if 0 ≤ n ∧ n < m then 0 else 4 := by
  unfold refuseE spanOk
  by_cases h1 : 0 ≤ n <;> by_cases h2 : n < m
  · simp [h1, h2]; omega
  · simp [h1, h2]; omega
  · simp [h1, h2]
  · simp [h1, h2]
set_option maxRecDepth 100000 in
theorem at_any (a b m n : Int) (w : World) (hm : IntKind.i64.wrap (m - 1) = m - 1) (h : 0 ≤ n → n < m → IntKind.i64.wrap (b * n) = b * n ∧ IntKind.i64.wrap (a + b * n) = a + b * n) :
    Calls Try.prog 34 #[.agg #[.int .i64 a, .int .i64 b, .int .i64 m], .int .i64 n] w fun r w' => r = .returned (.tuple #[.int .i64 (if 0 ≤ n ∧ n < m then a + b * n else 0), .int .i64 (if 0 ≤ n ∧ n < m then 0 else 4)]) ∧ Below w.heap.size w w' := by
  have C := Lib.hid fun (q : Nat) (w : World) h => refusal_any 4 [(n, 0, m - 1)] q 1 w (by simp) h
  rw [refuse_at] at C
  have HH := Lib.hid h
  clear h
  by_cases hin : 0 ≤ n ∧ n < m
  · obtain ⟨h1, h2⟩ := HH.out hin.1 hin.2
    rw [if_pos hin] at C
    rw [if_pos hin, if_pos hin]
    go_enter Try.func34, Try.ntmps34
    go_wp2_with (go_at_call 35; refine (C.out _ _ (Lib.hid (spans_one (by go_cell) (by go_cell) (by go_cell)))).mono ?_; rintro e w' ⟨rfl, hb⟩; have c0 : w'.cell? ⟨w.heap.size, 0, none⟩ = some (.int .i64 a) := (hb.cell (by simp; omega)).trans (by go_cell); have c1 : w'.cell? ⟨w.heap.size, 1, none⟩ = some (.int .i64 b) := (hb.cell (by simp; omega)).trans (by go_cell))
    go_ret2
    exact ⟨rfl, (((Below.refl _ _).alloc (Nat.le_refl _) _).alloc (by simp) _).trans (hb.mono (by simp; omega))⟩
  · rw [if_neg hin] at C
    rw [if_neg hin, if_neg hin]
    go_enter Try.func34, Try.ntmps34
    go_wp2_with (go_at_call 35; refine (C.out _ _ (Lib.hid (spans_one (by go_cell) (by go_cell) (by go_cell)))).mono ?_; rintro e w' ⟨rfl, hb⟩)
    go_ret2
    exact ⟨rfl, (((Below.refl _ _).alloc (Nat.le_refl _) _).alloc (by simp) _).trans (hb.mono (by simp; omega))⟩
def secsE (F P : Int) : Int := if planOk F P then 2 + 9 * F + 8 * P else 0
def planE (F P : Int) : Int := if planOk F P then 0 else 2
set_option maxRecDepth 100000 in
theorem sectors_any (F P : Int) (w : World) : Calls Try.prog 9 #[.agg #[.int .i64 F, .int .i64 P]] w fun r w' => r = .returned (.tuple #[.int .i64 (secsE F P), .int .i64 (planE F P)]) ∧ Below w.heap.size w w' := by
  have CC := Lib.hid fun (w : World) => check_any F P w
  unfold secsE planE
  by_cases hp : planOk F P = true
  · have CP := Lib.hid fun (w : World) => pages_any F P hp w
    obtain ⟨p1, p2, p3, p4⟩ := plan_bounds hp
    have CE := Lib.hid fun (w : World) => end_any (2 + 9 * F) 8 P w (wrap_small (by omega) (by omega)) (wrap_small (by omega) (by omega))
    rw [if_pos hp] at CC
    rw [if_pos hp, if_pos hp]
    go_enter Try.func9, Try.ntmps9
    go_wp2_with (first
      | (go_at_call 14; refine (CC.out _).mono ?_; rintro e wa ⟨rfl, hb⟩; have HB := Lib.hid hb; have c0 : wa.cell? ⟨w.heap.size, 0, none⟩ = some (.int .i64 F) := (hb.cell (by simp)).trans (by go_cell); have c1 : wa.cell? ⟨w.heap.size, 1, none⟩ = some (.int .i64 P) := (hb.cell (by simp)).trans (by go_cell); clear hb)
      | (go_at_call 31; refine (CP.out _).mono ?_; rintro e wb ⟨rfl, hb⟩; have HB2 := Lib.hid hb; clear hb)
      | (go_at_call 32; refine (CE.out _).mono ?_; rintro e wz ⟨rfl, hb⟩; have HB3 := Lib.hid hb; clear hb))
    go_ret2
    exact ⟨rfl, kbT (kbT (kbA HB.out) HB2.out) HB3.out⟩
  · rw [if_neg hp] at CC
    rw [if_neg hp, if_neg hp]
    go_enter Try.func9, Try.ntmps9
    go_wp2_with (go_at_call 14; refine (CC.out _).mono ?_; rintro e wa ⟨rfl, hb⟩; have HB := Lib.hid hb; clear hb)
    go_ret2
    exact ⟨rfl, kbA HB.out⟩
def frameAtE (F P n : Int) : Int := if planOk F P then (if 0 ≤ n ∧ n < F then 2 + 9 * n else 0) else 0
def frameAtX (F P n : Int) : Int := if planOk F P then (if 0 ≤ n ∧ n < F then 0 else 4) else 2
def pageAtE (F P n : Int) : Int := if planOk F P then (if 0 ≤ n ∧ n < P then 2 + 9 * F + 8 * n else 0) else 0
def pageAtX (F P n : Int) : Int := if planOk F P then (if 0 ≤ n ∧ n < P then 0 else 4) else 2
set_option maxRecDepth 100000 in
theorem frameAt_any (F P n : Int) (w : World) : Calls Try.prog 10 #[.agg #[.int .i64 F, .int .i64 P], .int .i64 n] w fun r w' => r = .returned (.tuple #[.int .i64 (frameAtE F P n), .int .i64 (frameAtX F P n)]) ∧ Below w.heap.size w w' := by
  have CC := Lib.hid fun (w : World) => check_any F P w
  unfold frameAtE frameAtX
  by_cases hp : planOk F P = true
  · have CP := Lib.hid fun (w : World) => frames_any F P w
    obtain ⟨p1, p2, p3, p4⟩ := plan_bounds hp
    have CE := Lib.hid fun (w : World) => at_any 2 9 F n w (wrap_small (by omega) (by omega)) (fun h1 h2 => ⟨wrap_small (by omega) (by omega), wrap_small (by omega) (by omega)⟩)
    rw [if_pos hp] at CC
    rw [if_pos hp, if_pos hp]
    generalize (if 0 ≤ n ∧ n < F then 2 + 9 * n else 0) = R at *
    generalize (if 0 ≤ n ∧ n < F then (0 : Int) else 4) = X at *
    go_enter Try.func10, Try.ntmps10
    go_wp2_with (first
      | (go_at_call 14; refine (CC.out _).mono ?_; rintro e wa ⟨rfl, hb⟩; have HB := Lib.hid hb; have c0 : wa.cell? ⟨w.heap.size, 0, none⟩ = some (.int .i64 F) := (hb.cell (by simp)).trans (by go_cell); have c1 : wa.cell? ⟨w.heap.size, 1, none⟩ = some (.int .i64 P) := (hb.cell (by simp)).trans (by go_cell); clear hb)
      | (go_at_call 33; refine (CP.out _).mono ?_; rintro e wb ⟨rfl, hb⟩; have HB2 := Lib.hid hb; clear hb)
      | (go_at_call 34; refine (CE.out _).mono ?_; rintro e wz ⟨rfl, hb⟩; have HB3 := Lib.hid hb; clear hb))
    go_ret2
    exact ⟨rfl, kbT (kbT (kbA HB.out) HB2.out) HB3.out⟩
  · rw [if_neg hp] at CC
    rw [if_neg hp, if_neg hp]
    go_enter Try.func10, Try.ntmps10
    go_wp2_with (go_at_call 14; refine (CC.out _).mono ?_; rintro e wa ⟨rfl, hb⟩; have HB := Lib.hid hb; clear hb)
    go_ret2
    exact ⟨rfl, kbA HB.out⟩
set_option maxRecDepth 100000 in
theorem pageAt_any (F P n : Int) (w : World) : Calls Try.prog 11 #[.agg #[.int .i64 F, .int .i64 P], .int .i64 n] w fun r w' => r = .returned (.tuple #[.int .i64 (pageAtE F P n), .int .i64 (pageAtX F P n)]) ∧ Below w.heap.size w w' := by
  have CC := Lib.hid fun (w : World) => check_any F P w
  unfold pageAtE pageAtX
  by_cases hp : planOk F P = true
  · have CP := Lib.hid fun (w : World) => pages_any F P hp w
    obtain ⟨p1, p2, p3, p4⟩ := plan_bounds hp
    have CE := Lib.hid fun (w : World) => at_any (2 + 9 * F) 8 P n w (wrap_small (by omega) (by omega)) (fun h1 h2 => ⟨wrap_small (by omega) (by omega), wrap_small (by omega) (by omega)⟩)
    rw [if_pos hp] at CC
    rw [if_pos hp, if_pos hp]
    generalize (if 0 ≤ n ∧ n < P then 2 + 9 * F + 8 * n else 0) = R at *
    generalize (if 0 ≤ n ∧ n < P then (0 : Int) else 4) = X at *
    go_enter Try.func11, Try.ntmps11
    go_wp2_with (first
      | (go_at_call 14; refine (CC.out _).mono ?_; rintro e wa ⟨rfl, hb⟩; have HB := Lib.hid hb; have c0 : wa.cell? ⟨w.heap.size, 0, none⟩ = some (.int .i64 F) := (hb.cell (by simp)).trans (by go_cell); have c1 : wa.cell? ⟨w.heap.size, 1, none⟩ = some (.int .i64 P) := (hb.cell (by simp)).trans (by go_cell); clear hb)
      | (go_at_call 31; refine (CP.out _).mono ?_; rintro e wb ⟨rfl, hb⟩; have HB2 := Lib.hid hb; clear hb)
      | (go_at_call 34; refine (CE.out _).mono ?_; rintro e wz ⟨rfl, hb⟩; have HB3 := Lib.hid hb; clear hb))
    go_ret2
    exact ⟨rfl, kbT (kbT (kbA HB.out) HB2.out) HB3.out⟩
  · rw [if_neg hp] at CC
    rw [if_neg hp, if_neg hp]
    go_enter Try.func11, Try.ntmps11
    go_wp2_with (go_at_call 14; refine (CC.out _).mono ?_; rintro e wa ⟨rfl, hb⟩; have HB := Lib.hid hb; clear hb)
    go_ret2
    exact ⟨rfl, kbA HB.out⟩
end Go.Proofs.Ythnllhfdbnnjhaa
