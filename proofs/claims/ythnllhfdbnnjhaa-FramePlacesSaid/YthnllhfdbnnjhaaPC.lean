/- FramePlaces, walked. -/
import Derived.Test.YthnllhfdbnnjhaaPB
namespace Go.Proofs.Ythnllhfdbnnjhaa
open Go.RowKit Go.Shelf

theorem plan_no {F P : Int} (h : ¬ (1 ≤ F ∧ F ≤ 2000 ∧ 1 ≤ P ∧ P ≤ 2000)) : planOk F P = false := by
  cases hp : planOk F P
  · rfl
  · exact absurd (plan_bounds hp) h
theorem plan_yes {F P : Int} (h : 1 ≤ F ∧ F ≤ 2000 ∧ 1 ≤ P ∧ P ≤ 2000) : planOk F P = true := by
  simp [planOk, h]
set_option maxRecDepth 100000 in
theorem right_any (F P : Int) (w : World) : Calls Try.prog 12 #[.agg #[.int .i64 F, .int .i64 P]] w fun r w' => r = .returned (.bool (planOk F P)) ∧ Below w.heap.size w w' := by
  by_cases h1 : F ≥ 1
  · by_cases h2 : F ≤ 2000
    · by_cases h3 : P ≥ 1
      · by_cases h4 : P ≤ 2000
        · rw [plan_yes ⟨h1, h2, h3, h4⟩]
          go_enter Try.func12, Try.ntmps12
          go_wp2
          go_ret
          exact ⟨by first | rfl | simp, (Below.refl _ _).alloc (Nat.le_refl _) _⟩
        · rw [plan_no (fun h => h4 h.2.2.2)]
          go_enter Try.func12, Try.ntmps12
          go_wp2
          go_ret
          exact ⟨by first | rfl | simp, (Below.refl _ _).alloc (Nat.le_refl _) _⟩
      · rw [plan_no (fun h => h3 h.2.2.1)]
        go_enter Try.func12, Try.ntmps12
        go_wp2
        go_ret
        exact ⟨by first | rfl | simp, (Below.refl _ _).alloc (Nat.le_refl _) _⟩
    · rw [plan_no (fun h => h2 h.2.1)]
      go_enter Try.func12, Try.ntmps12
      go_wp2
      go_ret
      exact ⟨by first | rfl | simp, (Below.refl _ _).alloc (Nat.le_refl _) _⟩
  · rw [plan_no (fun h => h1 h.1)]
    go_enter Try.func12, Try.ntmps12
    go_wp2
    go_ret
    exact ⟨by first | rfl | simp, (Below.refl _ _).alloc (Nat.le_refl _) _⟩
theorem refFrameAt_any (n : Int) (w : World) (h : 0 ≤ n) (h2 : n < 2000) : Calls Try.prog 16 #[.int .i64 n] w fun r w' => r = .returned (.int .i64 (2 + 9 * n)) ∧ w = w' := by
  go_enter Try.func16, Try.ntmps16
  go_wp2
  go_ret
  exact ⟨rfl, rfl⟩
theorem refSectors_any (F P : Int) (w : World) (h : planOk F P = true) : Calls Try.prog 17 #[.agg #[.int .i64 F, .int .i64 P]] w fun r w' => r = .returned (.int .i64 (2 + 9 * F + 8 * P)) ∧ Below w.heap.size w w' := by
  obtain ⟨p1, p2, p3, p4⟩ := plan_bounds h
  go_enter Try.func17, Try.ntmps17
  go_wp2
  go_ret
  exact ⟨rfl, (Below.refl _ _).alloc (Nat.le_refl _) _⟩
theorem refPageAt_any (F P n : Int) (w : World) (h : planOk F P = true) (h1 : 0 ≤ n) (h2 : n < P) : Calls Try.prog 18 #[.agg #[.int .i64 F, .int .i64 P], .int .i64 n] w fun r w' => r = .returned (.int .i64 (2 + 9 * F + 8 * n)) ∧ Below w.heap.size w w' := by
  obtain ⟨p1, p2, p3, p4⟩ := plan_bounds h
  go_enter Try.func18, Try.ntmps18
  go_wp2
  go_ret
  exact ⟨rfl, (Below.refl _ _).alloc (Nat.le_refl _) _⟩
end Go.Proofs.Ythnllhfdbnnjhaa
