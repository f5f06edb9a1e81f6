/- FramePlaces, walked. -/
import Derived.Test.YthnllhfdbnnjhaaPC
namespace Go.Proofs.Ythnllhfdbnnjhaa
open Go.RowKit Go.Shelf

set_option maxRecDepth 100000 in
set_option maxHeartbeats 2000000 in
theorem places_no (F P n : Int) (w : World) (hp : planOk F P = false) : Calls Try.prog 3 #[.agg #[.int .i64 F, .int .i64 P], .int .i64 n] w fun r w' => r = .returned (.bool true) ∧ Below w.heap.size w w' := by
  have NM := Lib.hid num_any
  have WK := Lib.hid works_any
  have CS := Lib.hid (sectors_any F P)
  have CF := Lib.hid (frameAt_any F P n)
  have CP := Lib.hid (pageAt_any F P n)
  have CR := Lib.hid (right_any F P)
  have CC := Lib.hid (check_any F P)
  have hw0 : IntKind.i64.wrap 0 = 0 := wrap_small (by omega) (by omega)
  unfold secsE planE at CS
  unfold frameAtE frameAtX at CF
  unfold pageAtE pageAtX at CP
  simp only [hp, Bool.false_eq_true, if_false] at CS CF CP CR CC
  clear hp
  go_enter Try.func3, Try.ntmps3
  go_wp2_with (first
      | (go_at_call 9; refine (CS.out _).mono ?_; rintro e wa ⟨rfl, hb⟩; have B1 := Lib.hid (kbA hb); have c0 : wa.cell? ⟨w.heap.size, 0, none⟩ = some (.int .i64 F) := (hb.cell (by simp)).trans (by go_cell); have c1 : wa.cell? ⟨w.heap.size, 1, none⟩ = some (.int .i64 P) := (hb.cell (by simp)).trans (by go_cell); clear hb)
      | (go_at_call 10; refine (CF.out _).mono ?_; rintro e wb ⟨rfl, hb⟩; have c0 := (hb.cell (lt_of_cell_some c0)).trans c0; have c1 := (hb.cell (lt_of_cell_some c1)).trans c1; have B1 := Lib.hid (kbT B1.out hb); clear hb)
      | (go_at_call 11; refine (CP.out _).mono ?_; rintro e wb ⟨rfl, hb⟩; have c0 := (hb.cell (lt_of_cell_some c0)).trans c0; have c1 := (hb.cell (lt_of_cell_some c1)).trans c1; have B1 := Lib.hid (kbT B1.out hb); clear hb)
      | (go_at_call 12; refine (CR.out _).mono ?_; rintro e wb ⟨rfl, hb⟩; have c0 := (hb.cell (lt_of_cell_some c0)).trans c0; have c1 := (hb.cell (lt_of_cell_some c1)).trans c1; have B1 := Lib.hid (kbT B1.out hb); clear hb)
      | (go_at_call 14; refine (CC.out _).mono ?_; rintro e wb ⟨rfl, hb⟩; have c0 := (hb.cell (lt_of_cell_some c0)).trans c0; have c1 := (hb.cell (lt_of_cell_some c1)).trans c1; have B1 := Lib.hid (kbT B1.out hb); clear hb)
      | (go_at_call 13; refine (NM.out _ _).mono ?_; rintro e wn ⟨rfl, rfl⟩)
      | (go_at_call 15; refine (WK.out _).mono ?_; rintro e wz ⟨rfl, hb⟩; have c0 := (hb.cell (lt_of_cell_some c0)).trans c0; have c1 := (hb.cell (lt_of_cell_some c1)).trans c1; have B1 := Lib.hid (kbT B1.out hb); clear hb))
  go_ret
  exact ⟨rfl, B1.out⟩
set_option maxRecDepth 100000 in
set_option maxHeartbeats 2000000 in
theorem places_11 (F P n : Int) (w : World) (hp : planOk F P = true) (hf : 0 ≤ n ∧ n < F) (hq : 0 ≤ n ∧ n < P) : Calls Try.prog 3 #[.agg #[.int .i64 F, .int .i64 P], .int .i64 n] w fun r w' => r = .returned (.bool true) ∧ Below w.heap.size w w' := by
  have NM := Lib.hid num_any
  have WK := Lib.hid works_any
  have CS := Lib.hid (sectors_any F P)
  have CF := Lib.hid (frameAt_any F P n)
  have CP := Lib.hid (pageAt_any F P n)
  have CR := Lib.hid (right_any F P)
  have CC := Lib.hid (check_any F P)
  have hw0 : IntKind.i64.wrap 0 = 0 := wrap_small (by omega) (by omega)
  obtain ⟨p1, p2, p3, p4⟩ := plan_bounds hp
  have RS := Lib.hid fun w => refSectors_any F P w hp
  have RF := Lib.hid fun w => refFrameAt_any n w hf.1 (by omega)
  have RP := Lib.hid fun w => refPageAt_any F P n w hp hq.1 hq.2
  unfold secsE planE at CS
  unfold frameAtE frameAtX at CF
  unfold pageAtE pageAtX at CP
  rw [if_pos hp, if_pos hp] at CS
  rw [if_pos hp, if_pos hp, if_pos hf, if_pos hf] at CF
  rw [if_pos hp, if_pos hp, if_pos hq, if_pos hq] at CP
  rw [hp] at CR
  rw [if_pos hp] at CC
  clear hp
  obtain ⟨f1, f2⟩ := hf
  obtain ⟨-, q2⟩ := hq
  go_enter Try.func3, Try.ntmps3
  go_wp2_with (first
      | (go_at_call 9; refine (CS.out _).mono ?_; rintro e wa ⟨rfl, hb⟩; have B1 := Lib.hid (kbA hb); have c0 : wa.cell? ⟨w.heap.size, 0, none⟩ = some (.int .i64 F) := (hb.cell (by simp)).trans (by go_cell); have c1 : wa.cell? ⟨w.heap.size, 1, none⟩ = some (.int .i64 P) := (hb.cell (by simp)).trans (by go_cell); clear hb)
      | (go_at_call 10; refine (CF.out _).mono ?_; rintro e wb ⟨rfl, hb⟩; have c0 := (hb.cell (lt_of_cell_some c0)).trans c0; have c1 := (hb.cell (lt_of_cell_some c1)).trans c1; have B1 := Lib.hid (kbT B1.out hb); clear hb)
      | (go_at_call 11; refine (CP.out _).mono ?_; rintro e wb ⟨rfl, hb⟩; have c0 := (hb.cell (lt_of_cell_some c0)).trans c0; have c1 := (hb.cell (lt_of_cell_some c1)).trans c1; have B1 := Lib.hid (kbT B1.out hb); clear hb)
      | (go_at_call 12; refine (CR.out _).mono ?_; rintro e wb ⟨rfl, hb⟩; have c0 := (hb.cell (lt_of_cell_some c0)).trans c0; have c1 := (hb.cell (lt_of_cell_some c1)).trans c1; have B1 := Lib.hid (kbT B1.out hb); clear hb)
      | (go_at_call 14; refine (CC.out _).mono ?_; rintro e wb ⟨rfl, hb⟩; have c0 := (hb.cell (lt_of_cell_some c0)).trans c0; have c1 := (hb.cell (lt_of_cell_some c1)).trans c1; have B1 := Lib.hid (kbT B1.out hb); clear hb)
      | (go_at_call 13; refine (NM.out _ _).mono ?_; rintro e wn ⟨rfl, rfl⟩)
      | (go_at_call 15; refine (WK.out _).mono ?_; rintro e wz ⟨rfl, hb⟩; have c0 := (hb.cell (lt_of_cell_some c0)).trans c0; have c1 := (hb.cell (lt_of_cell_some c1)).trans c1; have B1 := Lib.hid (kbT B1.out hb); clear hb)
      | (go_at_call 16; refine (RF.out _).mono ?_; rintro e wn ⟨rfl, rfl⟩)
      | (go_at_call 17; refine (RS.out _).mono ?_; rintro e wy ⟨rfl, hb⟩; have c0 := (hb.cell (lt_of_cell_some c0)).trans c0; have c1 := (hb.cell (lt_of_cell_some c1)).trans c1; have B1 := Lib.hid (kbT B1.out hb); clear hb)
      | (go_at_call 18; refine (RP.out _).mono ?_; rintro e wy ⟨rfl, hb⟩; have c0 := (hb.cell (lt_of_cell_some c0)).trans c0; have c1 := (hb.cell (lt_of_cell_some c1)).trans c1; have B1 := Lib.hid (kbT B1.out hb); clear hb))
  go_ret
  exact ⟨rfl, B1.out⟩
set_option maxRecDepth 100000 in
set_option maxHeartbeats 2000000 in
theorem places_10 (F P n : Int) (w : World) (hp : planOk F P = true) (hf : 0 ≤ n ∧ n < F) (hq : ¬ (0 ≤ n ∧ n < P)) : Calls Try.prog 3 #[.agg #[.int .i64 F, .int .i64 P], .int .i64 n] w fun r w' => r = .returned (.bool true) ∧ Below w.heap.size w w' := by
  have NM := Lib.hid num_any
  have WK := Lib.hid works_any
  have CS := Lib.hid (sectors_any F P)
  have CF := Lib.hid (frameAt_any F P n)
  have CP := Lib.hid (pageAt_any F P n)
  have CR := Lib.hid (right_any F P)
  have CC := Lib.hid (check_any F P)
  have hw0 : IntKind.i64.wrap 0 = 0 := wrap_small (by omega) (by omega)
  obtain ⟨p1, p2, p3, p4⟩ := plan_bounds hp
  have RS := Lib.hid fun w => refSectors_any F P w hp
  have RF := Lib.hid fun w => refFrameAt_any n w hf.1 (by omega)
  unfold secsE planE at CS
  unfold frameAtE frameAtX at CF
  unfold pageAtE pageAtX at CP
  rw [if_pos hp, if_pos hp] at CS
  rw [if_pos hp, if_pos hp, if_pos hf, if_pos hf] at CF
  rw [if_pos hp, if_pos hp, if_neg hq, if_neg hq] at CP
  rw [hp] at CR
  rw [if_pos hp] at CC
  clear hp
  obtain ⟨f1, f2⟩ := hf
  have q2 : n ≥ P := by omega
  clear hq
  go_enter Try.func3, Try.ntmps3
  go_wp2_with (first
      | (go_at_call 9; refine (CS.out _).mono ?_; rintro e wa ⟨rfl, hb⟩; have B1 := Lib.hid (kbA hb); have c0 : wa.cell? ⟨w.heap.size, 0, none⟩ = some (.int .i64 F) := (hb.cell (by simp)).trans (by go_cell); have c1 : wa.cell? ⟨w.heap.size, 1, none⟩ = some (.int .i64 P) := (hb.cell (by simp)).trans (by go_cell); clear hb)
      | (go_at_call 10; refine (CF.out _).mono ?_; rintro e wb ⟨rfl, hb⟩; have c0 := (hb.cell (lt_of_cell_some c0)).trans c0; have c1 := (hb.cell (lt_of_cell_some c1)).trans c1; have B1 := Lib.hid (kbT B1.out hb); clear hb)
      | (go_at_call 11; refine (CP.out _).mono ?_; rintro e wb ⟨rfl, hb⟩; have c0 := (hb.cell (lt_of_cell_some c0)).trans c0; have c1 := (hb.cell (lt_of_cell_some c1)).trans c1; have B1 := Lib.hid (kbT B1.out hb); clear hb)
      | (go_at_call 12; refine (CR.out _).mono ?_; rintro e wb ⟨rfl, hb⟩; have c0 := (hb.cell (lt_of_cell_some c0)).trans c0; have c1 := (hb.cell (lt_of_cell_some c1)).trans c1; have B1 := Lib.hid (kbT B1.out hb); clear hb)
      | (go_at_call 14; refine (CC.out _).mono ?_; rintro e wb ⟨rfl, hb⟩; have c0 := (hb.cell (lt_of_cell_some c0)).trans c0; have c1 := (hb.cell (lt_of_cell_some c1)).trans c1; have B1 := Lib.hid (kbT B1.out hb); clear hb)
      | (go_at_call 13; refine (NM.out _ _).mono ?_; rintro e wn ⟨rfl, rfl⟩)
      | (go_at_call 15; refine (WK.out _).mono ?_; rintro e wz ⟨rfl, hb⟩; have c0 := (hb.cell (lt_of_cell_some c0)).trans c0; have c1 := (hb.cell (lt_of_cell_some c1)).trans c1; have B1 := Lib.hid (kbT B1.out hb); clear hb)
      | (go_at_call 16; refine (RF.out _).mono ?_; rintro e wn ⟨rfl, rfl⟩)
      | (go_at_call 17; refine (RS.out _).mono ?_; rintro e wy ⟨rfl, hb⟩; have c0 := (hb.cell (lt_of_cell_some c0)).trans c0; have c1 := (hb.cell (lt_of_cell_some c1)).trans c1; have B1 := Lib.hid (kbT B1.out hb); clear hb))
  go_ret
  exact ⟨rfl, B1.out⟩
set_option maxRecDepth 100000 in
set_option maxHeartbeats 2000000 in
theorem places_01 (F P n : Int) (w : World) (hp : planOk F P = true) (hf : ¬ (0 ≤ n ∧ n < F)) (hq : 0 ≤ n ∧ n < P) : Calls Try.prog 3 #[.agg #[.int .i64 F, .int .i64 P], .int .i64 n] w fun r w' => r = .returned (.bool true) ∧ Below w.heap.size w w' := by
  have NM := Lib.hid num_any
  have WK := Lib.hid works_any
  have CS := Lib.hid (sectors_any F P)
  have CF := Lib.hid (frameAt_any F P n)
  have CP := Lib.hid (pageAt_any F P n)
  have CR := Lib.hid (right_any F P)
  have CC := Lib.hid (check_any F P)
  have hw0 : IntKind.i64.wrap 0 = 0 := wrap_small (by omega) (by omega)
  obtain ⟨p1, p2, p3, p4⟩ := plan_bounds hp
  have RS := Lib.hid fun w => refSectors_any F P w hp
  have RP := Lib.hid fun w => refPageAt_any F P n w hp hq.1 hq.2
  unfold secsE planE at CS
  unfold frameAtE frameAtX at CF
  unfold pageAtE pageAtX at CP
  rw [if_pos hp, if_pos hp] at CS
  rw [if_pos hp, if_pos hp, if_neg hf, if_neg hf] at CF
  rw [if_pos hp, if_pos hp, if_pos hq, if_pos hq] at CP
  rw [hp] at CR
  rw [if_pos hp] at CC
  clear hp
  obtain ⟨q1, q2⟩ := hq
  have f2 : n ≥ F := by omega
  clear hf
  go_enter Try.func3, Try.ntmps3
  go_wp2_with (first
      | (go_at_call 9; refine (CS.out _).mono ?_; rintro e wa ⟨rfl, hb⟩; have B1 := Lib.hid (kbA hb); have c0 : wa.cell? ⟨w.heap.size, 0, none⟩ = some (.int .i64 F) := (hb.cell (by simp)).trans (by go_cell); have c1 : wa.cell? ⟨w.heap.size, 1, none⟩ = some (.int .i64 P) := (hb.cell (by simp)).trans (by go_cell); clear hb)
      | (go_at_call 10; refine (CF.out _).mono ?_; rintro e wb ⟨rfl, hb⟩; have c0 := (hb.cell (lt_of_cell_some c0)).trans c0; have c1 := (hb.cell (lt_of_cell_some c1)).trans c1; have B1 := Lib.hid (kbT B1.out hb); clear hb)
      | (go_at_call 11; refine (CP.out _).mono ?_; rintro e wb ⟨rfl, hb⟩; have c0 := (hb.cell (lt_of_cell_some c0)).trans c0; have c1 := (hb.cell (lt_of_cell_some c1)).trans c1; have B1 := Lib.hid (kbT B1.out hb); clear hb)
      | (go_at_call 12; refine (CR.out _).mono ?_; rintro e wb ⟨rfl, hb⟩; have c0 := (hb.cell (lt_of_cell_some c0)).trans c0; have c1 := (hb.cell (lt_of_cell_some c1)).trans c1; have B1 := Lib.hid (kbT B1.out hb); clear hb)
      | (go_at_call 14; refine (CC.out _).mono ?_; rintro e wb ⟨rfl, hb⟩; have c0 := (hb.cell (lt_of_cell_some c0)).trans c0; have c1 := (hb.cell (lt_of_cell_some c1)).trans c1; have B1 := Lib.hid (kbT B1.out hb); clear hb)
      | (go_at_call 13; refine (NM.out _ _).mono ?_; rintro e wn ⟨rfl, rfl⟩)
      | (go_at_call 15; refine (WK.out _).mono ?_; rintro e wz ⟨rfl, hb⟩; have c0 := (hb.cell (lt_of_cell_some c0)).trans c0; have c1 := (hb.cell (lt_of_cell_some c1)).trans c1; have B1 := Lib.hid (kbT B1.out hb); clear hb)
      | (go_at_call 17; refine (RS.out _).mono ?_; rintro e wy ⟨rfl, hb⟩; have c0 := (hb.cell (lt_of_cell_some c0)).trans c0; have c1 := (hb.cell (lt_of_cell_some c1)).trans c1; have B1 := Lib.hid (kbT B1.out hb); clear hb)
      | (go_at_call 18; refine (RP.out _).mono ?_; rintro e wy ⟨rfl, hb⟩; have c0 := (hb.cell (lt_of_cell_some c0)).trans c0; have c1 := (hb.cell (lt_of_cell_some c1)).trans c1; have B1 := Lib.hid (kbT B1.out hb); clear hb))
  go_ret
  exact ⟨rfl, B1.out⟩
set_option maxRecDepth 100000 in
set_option maxHeartbeats 2000000 in
theorem places_00l (F P n : Int) (w : World) (hp : planOk F P = true) (hf : ¬ (0 ≤ n ∧ n < F)) (hq : ¬ (0 ≤ n ∧ n < P)) (hn : n < 0) : Calls Try.prog 3 #[.agg #[.int .i64 F, .int .i64 P], .int .i64 n] w fun r w' => r = .returned (.bool true) ∧ Below w.heap.size w w' := by
  have NM := Lib.hid num_any
  have WK := Lib.hid works_any
  have CS := Lib.hid (sectors_any F P)
  have CF := Lib.hid (frameAt_any F P n)
  have CP := Lib.hid (pageAt_any F P n)
  have CR := Lib.hid (right_any F P)
  have CC := Lib.hid (check_any F P)
  have hw0 : IntKind.i64.wrap 0 = 0 := wrap_small (by omega) (by omega)
  obtain ⟨p1, p2, p3, p4⟩ := plan_bounds hp
  have RS := Lib.hid fun w => refSectors_any F P w hp
  unfold secsE planE at CS
  unfold frameAtE frameAtX at CF
  unfold pageAtE pageAtX at CP
  rw [if_pos hp, if_pos hp] at CS
  rw [if_pos hp, if_pos hp, if_neg hf, if_neg hf] at CF
  rw [if_pos hp, if_pos hp, if_neg hq, if_neg hq] at CP
  rw [hp] at CR
  rw [if_pos hp] at CC
  clear hp
  clear hf hq
  go_enter Try.func3, Try.ntmps3
  go_wp2_with (first
      | (go_at_call 9; refine (CS.out _).mono ?_; rintro e wa ⟨rfl, hb⟩; have B1 := Lib.hid (kbA hb); have c0 : wa.cell? ⟨w.heap.size, 0, none⟩ = some (.int .i64 F) := (hb.cell (by simp)).trans (by go_cell); have c1 : wa.cell? ⟨w.heap.size, 1, none⟩ = some (.int .i64 P) := (hb.cell (by simp)).trans (by go_cell); clear hb)
      | (go_at_call 10; refine (CF.out _).mono ?_; rintro e wb ⟨rfl, hb⟩; have c0 := (hb.cell (lt_of_cell_some c0)).trans c0; have c1 := (hb.cell (lt_of_cell_some c1)).trans c1; have B1 := Lib.hid (kbT B1.out hb); clear hb)
      | (go_at_call 11; refine (CP.out _).mono ?_; rintro e wb ⟨rfl, hb⟩; have c0 := (hb.cell (lt_of_cell_some c0)).trans c0; have c1 := (hb.cell (lt_of_cell_some c1)).trans c1; have B1 := Lib.hid (kbT B1.out hb); clear hb)
      | (go_at_call 12; refine (CR.out _).mono ?_; rintro e wb ⟨rfl, hb⟩; have c0 := (hb.cell (lt_of_cell_some c0)).trans c0; have c1 := (hb.cell (lt_of_cell_some c1)).trans c1; have B1 := Lib.hid (kbT B1.out hb); clear hb)
      | (go_at_call 14; refine (CC.out _).mono ?_; rintro e wb ⟨rfl, hb⟩; have c0 := (hb.cell (lt_of_cell_some c0)).trans c0; have c1 := (hb.cell (lt_of_cell_some c1)).trans c1; have B1 := Lib.hid (kbT B1.out hb); clear hb)
      | (go_at_call 13; refine (NM.out _ _).mono ?_; rintro e wn ⟨rfl, rfl⟩)
      | (go_at_call 15; refine (WK.out _).mono ?_; rintro e wz ⟨rfl, hb⟩; have c0 := (hb.cell (lt_of_cell_some c0)).trans c0; have c1 := (hb.cell (lt_of_cell_some c1)).trans c1; have B1 := Lib.hid (kbT B1.out hb); clear hb)
      | (go_at_call 17; refine (RS.out _).mono ?_; rintro e wy ⟨rfl, hb⟩; have c0 := (hb.cell (lt_of_cell_some c0)).trans c0; have c1 := (hb.cell (lt_of_cell_some c1)).trans c1; have B1 := Lib.hid (kbT B1.out hb); clear hb))
  go_ret
  exact ⟨rfl, B1.out⟩
set_option maxRecDepth 100000 in
set_option maxHeartbeats 2000000 in
theorem places_00r (F P n : Int) (w : World) (hp : planOk F P = true) (hf : ¬ (0 ≤ n ∧ n < F)) (hq : ¬ (0 ≤ n ∧ n < P)) (hn : 0 ≤ n) : Calls Try.prog 3 #[.agg #[.int .i64 F, .int .i64 P], .int .i64 n] w fun r w' => r = .returned (.bool true) ∧ Below w.heap.size w w' := by
  have NM := Lib.hid num_any
  have WK := Lib.hid works_any
  have CS := Lib.hid (sectors_any F P)
  have CF := Lib.hid (frameAt_any F P n)
  have CP := Lib.hid (pageAt_any F P n)
  have CR := Lib.hid (right_any F P)
  have CC := Lib.hid (check_any F P)
  have hw0 : IntKind.i64.wrap 0 = 0 := wrap_small (by omega) (by omega)
  obtain ⟨p1, p2, p3, p4⟩ := plan_bounds hp
  have RS := Lib.hid fun w => refSectors_any F P w hp
  unfold secsE planE at CS
  unfold frameAtE frameAtX at CF
  unfold pageAtE pageAtX at CP
  rw [if_pos hp, if_pos hp] at CS
  rw [if_pos hp, if_pos hp, if_neg hf, if_neg hf] at CF
  rw [if_pos hp, if_pos hp, if_neg hq, if_neg hq] at CP
  rw [hp] at CR
  rw [if_pos hp] at CC
  clear hp
  have f2 : n ≥ F := by omega
  have q2 : n ≥ P := by omega
  clear hf hq
  go_enter Try.func3, Try.ntmps3
  go_wp2_with (first
      | (go_at_call 9; refine (CS.out _).mono ?_; rintro e wa ⟨rfl, hb⟩; have B1 := Lib.hid (kbA hb); have c0 : wa.cell? ⟨w.heap.size, 0, none⟩ = some (.int .i64 F) := (hb.cell (by simp)).trans (by go_cell); have c1 : wa.cell? ⟨w.heap.size, 1, none⟩ = some (.int .i64 P) := (hb.cell (by simp)).trans (by go_cell); clear hb)
      | (go_at_call 10; refine (CF.out _).mono ?_; rintro e wb ⟨rfl, hb⟩; have c0 := (hb.cell (lt_of_cell_some c0)).trans c0; have c1 := (hb.cell (lt_of_cell_some c1)).trans c1; have B1 := Lib.hid (kbT B1.out hb); clear hb)
      | (go_at_call 11; refine (CP.out _).mono ?_; rintro e wb ⟨rfl, hb⟩; have c0 := (hb.cell (lt_of_cell_some c0)).trans c0; have c1 := (hb.cell (lt_of_cell_some c1)).trans c1; have B1 := Lib.hid (kbT B1.out hb); clear hb)
      | (go_at_call 12; refine (CR.out _).mono ?_; rintro e wb ⟨rfl, hb⟩; have c0 := (hb.cell (lt_of_cell_some c0)).trans c0; have c1 := (hb.cell (lt_of_cell_some c1)).trans c1; have B1 := Lib.hid (kbT B1.out hb); clear hb)
      | (go_at_call 14; refine (CC.out _).mono ?_; rintro e wb ⟨rfl, hb⟩; have c0 := (hb.cell (lt_of_cell_some c0)).trans c0; have c1 := (hb.cell (lt_of_cell_some c1)).trans c1; have B1 := Lib.hid (kbT B1.out hb); clear hb)
      | (go_at_call 13; refine (NM.out _ _).mono ?_; rintro e wn ⟨rfl, rfl⟩)
      | (go_at_call 15; refine (WK.out _).mono ?_; rintro e wz ⟨rfl, hb⟩; have c0 := (hb.cell (lt_of_cell_some c0)).trans c0; have c1 := (hb.cell (lt_of_cell_some c1)).trans c1; have B1 := Lib.hid (kbT B1.out hb); clear hb)
      | (go_at_call 17; refine (RS.out _).mono ?_; rintro e wy ⟨rfl, hb⟩; have c0 := (hb.cell (lt_of_cell_some c0)).trans c0; have c1 := (hb.cell (lt_of_cell_some c1)).trans c1; have B1 := Lib.hid (kbT B1.out hb); clear hb))
  go_ret
  exact ⟨rfl, B1.out⟩
/-- FramePlaces answers true. -/
theorem places_any (F P n : Int) (w : World) : Calls Try.prog 3 #[.agg #[.int .i64 F, .int .i64 P], .int .i64 n] w fun r w' => r = .returned (.bool true) ∧ Below w.heap.size w w' := by
  cases hp : planOk F P with
  | false => exact places_no F P n w hp
  | true =>
    by_cases hf : 0 ≤ n ∧ n < F
    · by_cases hq : 0 ≤ n ∧ n < P
      · exact places_11 F P n w hp hf hq
      · exact places_10 F P n w hp hf hq
    · by_cases hq : 0 ≤ n ∧ n < P
      · exact places_01 F P n w hp hf hq
      · by_cases hn : n < 0
        · exact places_00l F P n w hp hf hq hn
        · exact places_00r F P n w hp hf hq (by omega)
end Go.Proofs.Ythnllhfdbnnjhaa
