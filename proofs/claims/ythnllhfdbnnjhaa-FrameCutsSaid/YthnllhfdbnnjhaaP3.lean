/- Package frame: where frames and pages lie. -/
import Derived.Test.YthnllhfdbnnjhaaP2
namespace Go.Proofs.Ythnllhfdbnnjhaa
open Go.RowKit Go.Shelf

theorem plan_bounds {F P : Int} (h : planOk F P = true) : 1 ≤ F ∧ F ≤ 2000 ∧ 1 ≤ P ∧ P ≤ 2000 := by
  simp only [planOk, Bool.and_eq_true, decide_eq_true_eq] at h
  omega
theorem wrap_small {x : Int} (h : -9223372036854775808 ≤ x) (h2 : x ≤ 9223372036854775807) : IntKind.i64.wrap x = x := by
  simp only [IntKind.wrap, IntKind.signed, IntKind.bits]
  simp
  omega
theorem kbD {w w1 : World} (h : Below w.drew.heap.size w.drew w1) : Below w.heap.size w w1 := ((Below.refl _ _).drew).trans h
/-- The cells of two blocks that a call made: a plan, and what is to be told of an area. -/
structure Pg (w : World) (b : Nat) (F P x y z : Value) : Prop where
  c0 : w.cell? ⟨b, 0, none⟩ = some F
  c1 : w.cell? ⟨b, 1, none⟩ = some P
  d0 : w.cell? ⟨b + 1, 0, none⟩ = some x
  d1 : w.cell? ⟨b + 1, 1, none⟩ = some y
  d2 : w.cell? ⟨b + 1, 2, none⟩ = some z
  e0 : w.frozen? ⟨b + 1, 0, none⟩ = false
  e1 : w.frozen? ⟨b + 1, 1, none⟩ = false
  e2 : w.frozen? ⟨b + 1, 2, none⟩ = false
theorem Pg.below {w w' : World} {b : Nat} {F P x y z : Value} (h : Pg w b F P x y z) (hb : Below w.heap.size w w') : Pg w' b F P x y z :=
  ⟨(hb.cell (lt_of_cell_some h.c0)).trans h.c0, (hb.cell (lt_of_cell_some h.c1)).trans h.c1, (hb.cell (lt_of_cell_some h.d0)).trans h.d0, (hb.cell (lt_of_cell_some h.d1)).trans h.d1, (hb.cell (lt_of_cell_some h.d2)).trans h.d2,
    (hb.frozen (lt_of_cell_some h.d0)).trans h.e0, (hb.frozen (lt_of_cell_some h.d1)).trans h.e1, (hb.frozen (lt_of_cell_some h.d2)).trans h.e2⟩
set_option maxRecDepth 100000 in
set_option maxHeartbeats 1000000 in
theorem pages_any (F P : Int) (hp : planOk F P = true) (w : World) : Calls Try.prog 31 #[.agg #[.int .i64 F, .int .i64 P]] w fun r w' => r = .returned (.agg #[.int .i64 (2 + 9 * F), .int .i64 8, .int .i64 P]) ∧ Below w.heap.size w w' := by
  obtain ⟨p1, p2, p3, p4⟩ := plan_bounds hp
  have CE := Lib.hid fun (w : World) => end_any 2 9 F w (wrap_small (by omega) (by omega)) (wrap_small (by omega) (by omega))
  have CF := Lib.hid fun (w : World) => frames_any F P w
  go_enter Try.func31, Try.ntmps31
  go_wp2_with fail
  have B0 : Below w.heap.size w ((w.alloc (.cells #[.int .i64 F, .int .i64 P] 23)).alloc (.cells #[.int .i64 0, .int .i64 0, .int .i64 0] 73)) := ((Below.refl _ _).alloc (Nat.le_refl _) _).alloc (by simp) _
  have G0 : Pg ((w.alloc (.cells #[.int .i64 F, .int .i64 P] 23)).alloc (.cells #[.int .i64 0, .int .i64 0, .int .i64 0] 73)) w.heap.size (.int .i64 F) (.int .i64 P) (.int .i64 0) (.int .i64 0) (.int .i64 0) := by constructor <;> go_cell
  generalize (w.alloc (.cells #[.int .i64 F, .int .i64 P] 23)).alloc (.cells #[.int .i64 0, .int .i64 0, .int .i64 0] 73) = w0 at *
  obtain ⟨c0, c1, d0, d1, d2, e0, e1, e2⟩ := id G0
  have HG := Lib.hid G0
  have HB := Lib.hid B0
  clear G0 B0
  go_region_with (first
    | (go_at_call 33; refine (CF.out _).mono ?_; rintro e wa ⟨rfl, hb⟩; have hb := kbD hb; have HG := Lib.hid (HG.out.below hb); have HB := Lib.hid (HB.out.trans (hb.mono HB.out.size)); obtain ⟨c0, c1, d0, d1, d2, e0, e1, e2⟩ := id HG.out)
    | (go_at_call 32; refine (CE.out _).mono ?_; rintro e wa ⟨rfl, hb⟩; have HG := Lib.hid (HG.out.below hb); have HB := Lib.hid (HB.out.trans (hb.mono HB.out.size)); obtain ⟨c0, c1, d0, d1, d2, e0, e1, e2⟩ := id HG.out))
  all_goals go_wp2_with fail
  all_goals (refine bodyPost_ret (v := .agg #[.int .i64 (2 + 9 * F), .int .i64 8, .int .i64 P]) ?_ rfl ⟨rfl, ((HB.out.setCell (Nat.le_succ _) _).setCell (Nat.le_succ _) _).setCell (Nat.le_succ _) _⟩; simp [results, Try.results31, go_sem, d0, d1, d2])
end Go.Proofs.Ythnllhfdbnnjhaa
