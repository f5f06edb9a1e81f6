/- Package frame: plans; where frames and pages lie. -/
import Derived.Test.YthnllhfdbnnjhaaP1
namespace Go.Proofs.Ythnllhfdbnnjhaa
open Go.RowKit Go.Shelf

theorem spans_one {w : World} {q : Nat} {a b c : Int} (c0 : w.cell? ⟨q, 0, none⟩ = some (.int .i64 a)) (c1 : w.cell? ⟨q, 1, none⟩ = some (.int .i64 b)) (c2 : w.cell? ⟨q, 2, none⟩ = some (.int .i64 c)) : SpansAt w q [(a, b, c)] := by
  intro k s h
  match k with
  | 0 => injection h with h; subst h; exact ⟨c0, c1, c2⟩
  | k + 1 => cases h
theorem spans_two {w : World} {q : Nat} {a b c d e f : Int} (c0 : w.cell? ⟨q, 0, none⟩ = some (.int .i64 a)) (c1 : w.cell? ⟨q, 1, none⟩ = some (.int .i64 b)) (c2 : w.cell? ⟨q, 2, none⟩ = some (.int .i64 c)) (d0 : w.cell? ⟨q, 3, none⟩ = some (.int .i64 d)) (d1 : w.cell? ⟨q, 4, none⟩ = some (.int .i64 e)) (d2 : w.cell? ⟨q, 5, none⟩ = some (.int .i64 f)) : SpansAt w q [(a, b, c), (d, e, f)] := by
  intro k s h
  match k with
  | 0 => injection h with h; subst h; exact ⟨c0, c1, c2⟩
  | 1 => injection h with h; subst h; exact ⟨d0, d1, d2⟩
  | k + 2 => cases h
/-- A plan that may be. -/
def planOk (F P : Int) : Bool := decide (1 ≤ F) && decide (F ≤ 2000) && decide (1 ≤ P) && decide (P ≤ 2000)
theorem refuse_plan (F P : Int) : refuseE 2 [(F, 1, 2000), (P, 1, 2000)] = if planOk F P then 0 else 2 := by
  unfold refuseE planOk spanOk
  simp only [List.all_cons, List.all_nil, Bool.and_true, Bool.and_assoc]
set_option maxRecDepth 100000 in
theorem check_any (F P : Int) (w : World) : Calls Try.prog 14 #[.agg #[.int .i64 F, .int .i64 P]] w fun r w' => r = .returned (.int .i64 (if planOk F P then 0 else 2)) ∧ Below w.heap.size w w' := by
  have C := Lib.hid fun (q : Nat) (w : World) h => refusal_any 2 [(F, 1, 2000), (P, 1, 2000)] q 2 w (by simp) h
  rw [refuse_plan] at C
  generalize (if planOk F P then (0 : Int) else 2) = R at *
  go_enter Try.func14, Try.ntmps14
  go_wp2_with (go_at_call 35; refine (C.out _ _ (Lib.hid (spans_two (by go_cell) (by go_cell) (by go_cell) (by go_cell) (by go_cell) (by go_cell)))).mono ?_; rintro e w' ⟨rfl, hb⟩)
  go_ret
  exact ⟨rfl, (((Below.refl _ _).alloc (Nat.le_refl _) _).alloc (by simp) _).trans (hb.mono (by simp; omega))⟩
set_option maxRecDepth 100000 in
theorem frames_any (F P : Int) (w : World) : Calls Try.prog 33 #[.agg #[.int .i64 F, .int .i64 P]] w fun r w' => r = .returned (.agg #[.int .i64 2, .int .i64 9, .int .i64 F]) ∧ Below w.heap.size w w' := by
  go_enter Try.func33, Try.ntmps33
  go_wp2
  refine bodyPost_ret (v := .agg #[.int .i64 2, .int .i64 9, .int .i64 F]) ?_ rfl ⟨rfl, ?_⟩
  · simp [results, Try.results33, go_sem]
  · exact ((Below.refl _ _).alloc (Nat.le_refl _) _).alloc (by simp) _
set_option maxRecDepth 100000 in
theorem end_any (a b c : Int) (w : World) (h : IntKind.i64.wrap (b * c) = b * c) (h2 : IntKind.i64.wrap (a + b * c) = a + b * c) : Calls Try.prog 32 #[.agg #[.int .i64 a, .int .i64 b, .int .i64 c]] w fun r w' => r = .returned (.int .i64 (a + b * c)) ∧ Below w.heap.size w w' := by
  go_enter Try.func32, Try.ntmps32
  go_wp2
  go_ret
  exact ⟨rfl, (Below.refl _ _).alloc (Nat.le_refl _) _⟩
end Go.Proofs.Ythnllhfdbnnjhaa
