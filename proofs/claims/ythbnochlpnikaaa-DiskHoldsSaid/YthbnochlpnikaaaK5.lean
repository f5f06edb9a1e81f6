/- Whether there is no disk, whether it has stopped; questions, and the first that is answered by yes. -/
import Derived.Test.YthbnochlpnikaaaK4
import Derived.WalkSmall
namespace Go.Proofs.Ythbnochlpnikaaa
open Go.RowKit Go.Shelf

theorem ne_int (a b : Int) : (a != b) = decide (a ≠ b) := by
  by_cases h : a = b <;> simp [h]
set_option maxRecDepth 100000 in
set_option maxHeartbeats 400000 in
theorem none_any {B : Nat} {m : Int} {w : World} (h : w.cell? ⟨B, 2, none⟩ = some (.int .i64 m)) (hm : m ≠ 0) :
    Calls Try.prog 28 #[.pointer (some ⟨B, 0, none⟩)] w fun r w' => r = .returned (.bool false) ∧ w = w' := by
  have hm' : (m == 0) = false := by simpa using hm
  go_enter Try.func28, Try.ntmps28
  go_wp2
  go_ret
  exact ⟨rfl, rfl⟩
set_option maxRecDepth 100000 in
set_option maxHeartbeats 400000 in
theorem stopped_any {B : Nat} {m l : Int} {b : Bool} {w : World} (h : w.cell? ⟨B, 2, none⟩ = some (.int .i64 m)) (hm : m ≠ 0) (h4 : w.cell? ⟨B, 4, none⟩ = some (.bool b)) (h5 : w.cell? ⟨B, 5, none⟩ = some (.int .i64 l)) :
    Calls Try.prog 35 #[.pointer (some ⟨B, 0, none⟩)] w fun r w' => r = .returned (.bool (b && decide (l = 0))) ∧ w = w' := by
  have C := none_any h hm
  go_enter Try.func35, Try.ntmps35
  go_wp2_with (first
    | (go_at_call 28; refine C.mono ?_; rintro e w' ⟨rfl, rfl⟩)
    | fail)
  all_goals (go_ret; refine ⟨?_, rfl⟩; simp_all)
theorem odd1_any {A : Nat} {p : Option Addr} {n c : Nat} {w : World} (h : w.cell? ⟨A, 0, none⟩ = some (.slice p n c)) :
    Calls Try.prog 54 #[.pointer (some ⟨A, 0, none⟩)] w fun r w' => r = .returned (.bool (decide (n ≠ 64))) ∧ Below w.heap.size w w' := by
  go_enter Try.func54, Try.ntmps54
  go_wp2
  go_ret
  refine ⟨?_, Below.refl _ _⟩
  rw [ne_int]
  by_cases e : n = 64
  · subst e; rfl
  · rw [decide_eq_true e, decide_eq_true (show ((n : Int) ≠ 64) by omega)]; rfl
theorem below1_any {A : Nat} {n : Int} {w : World} (h : w.cell? ⟨A, 0, none⟩ = some (.int .i64 n)) :
    Calls Try.prog 57 #[.pointer (some ⟨A, 0, none⟩)] w fun r w' => r = .returned (.bool (decide (n < 0))) ∧ Below w.heap.size w w' := by
  go_enter Try.func57, Try.ntmps57
  go_wp2
  go_ret
  exact ⟨rfl, Below.refl _ _⟩
theorem above1_any {A : Nat} {n : Int} {w : World} (h : w.cell? ⟨A, 0, none⟩ = some (.int .i64 n)) :
    Calls Try.prog 58 #[.pointer (some ⟨A, 0, none⟩)] w fun r w' => r = .returned (.bool (decide (64 ≤ n))) ∧ Below w.heap.size w w' := by
  go_enter Try.func58, Try.ntmps58
  go_wp2
  go_ret
  exact ⟨rfl, Below.refl _ _⟩
set_option maxRecDepth 100000 in
set_option maxHeartbeats 400000 in
theorem beyond1_any {A A' B : Nat} {k m : Int} {w : World} (h : w.cell? ⟨A, 0, none⟩ = some (.int .i64 k)) (h' : w.cell? ⟨A', 0, none⟩ = some (.pointer (some ⟨B, 0, none⟩))) (h2 : w.cell? ⟨B, 2, none⟩ = some (.int .i64 m)) :
    Calls Try.prog 55 #[.pointer (some ⟨A, 0, none⟩), .pointer (some ⟨A', 0, none⟩)] w fun r w' => r = .returned (.bool (decide (k < 0) || decide (m ≤ k))) ∧ Below w.heap.size w w' := by
  by_cases hk : k < 0
  · have hd : decide (k < 0) = true := decide_eq_true hk
    go_enter Try.func55, Try.ntmps55
    go_wp2
    go_quiet (fail)
    go_wp2
    go_ret
    exact ⟨by first | rfl | simp [hd], below_drewN (Below.refl _ _) _⟩
  · have hd : decide (k < 0) = false := decide_eq_false hk
    go_enter Try.func55, Try.ntmps55
    go_wp2
    go_quiet (fail)
    go_wp2
    go_ret
    exact ⟨by first | rfl | simp [hd], below_drewN (Below.refl _ _) _⟩
end Go.Proofs.Ythbnochlpnikaaa
