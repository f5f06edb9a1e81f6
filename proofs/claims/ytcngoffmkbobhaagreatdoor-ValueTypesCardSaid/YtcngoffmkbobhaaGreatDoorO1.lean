import Derived.Test.YtcngoffmkbobhaaGreatDoorQ2
import Derived.Test.YtcngoffmkbobhaaGreatDoorT21
namespace Go.Proofs.YtcngoffmkbobhaaGreatDoor
open Go.RowKit

set_option maxHeartbeats 400000 in
theorem refNumber_any (a b : Int) (w : World) :
    Calls Tryz.prog 39 #[.int .i64 a, .int .i64 b] w fun r w' => r = .returned (.int .i64 (cmpI a b)) ∧ w = w' := by
  go_enter Tryz.func39, Tryz.ntmps39
  go_wp2
  all_goals go_ret
  all_goals exact ⟨ret_int (by unfold cmpI; (repeat split) <;> omega), rfl⟩

set_option maxRecDepth 100000 in
set_option maxHeartbeats 1000000 in
theorem refOrder_any (k1 n1 k2 n2 : Int) (s1 s2 : ByteArray) (w : World) :
    Calls Tryz.prog 14 #[.agg #[.int .i64 k1, .int .i64 n1, .string s1], .agg #[.int .i64 k2, .int .i64 n2, .string s2]] w fun r w' => r = .returned (.int .i64 (ordV k1 n1 k2 n2 s1 s2)) ∧ Below w.heap.size w w' := by
  rw [ordV_eq]
  go_enter Tryz.func14, Tryz.ntmps14
  go_wp2_with (go_at_call 39; refine (refNumber_any _ _ _).mono ?_; rintro e w' ⟨rfl, rfl⟩)
  all_goals go_ret
  all_goals refine ⟨ret_int ?_, by go_grown⟩
  all_goals simp_all [cmpS]

/-- The name of a type: of none the empty one. -/
def tname (m : Nat) : ByteArray := (#[⟨#[]⟩, ⟨#[98, 111, 111, 108]⟩, ⟨#[105, 110, 116]⟩, ⟨#[116, 101, 120, 116]⟩, ⟨#[98, 108, 111, 98]⟩] : Array ByteArray)[m]!

set_option maxRecDepth 100000 in
set_option maxHeartbeats 1000000 in
theorem typeName_any (m : Nat) (hm : m < 5) (w : World) :
    Calls Tryz.prog 32 #[.int .i64 m] w fun r w' => r = .returned (.string (tname m)) ∧ Below w.heap.size w w' := by
  match m, hm with
  | 0, _ =>
    go_enter Tryz.func32, Tryz.ntmps32
    go_wp2
    all_goals go_ret
    all_goals exact ⟨rfl, by go_grown⟩
  | 1, _ =>
    go_enter Tryz.func32, Tryz.ntmps32
    go_wp2
    all_goals go_ret
    all_goals exact ⟨rfl, by go_grown⟩
  | 2, _ =>
    go_enter Tryz.func32, Tryz.ntmps32
    go_wp2
    all_goals go_ret
    all_goals exact ⟨rfl, by go_grown⟩
  | 3, _ =>
    go_enter Tryz.func32, Tryz.ntmps32
    go_wp2
    all_goals go_ret
    all_goals exact ⟨rfl, by go_grown⟩
  | 4, _ =>
    go_enter Tryz.func32, Tryz.ntmps32
    go_wp2
    all_goals go_ret
    all_goals exact ⟨rfl, by go_grown⟩

/-- Which values are of which types. -/
def isV (k n : Int) (s : ByteArray) (t : Int) : Bool := decide (checkV k n s = 0) && (decide (1 ≤ t) && (decide (t ≤ 4) && (decide (k = t) || decide (k = 0))))
set_option maxRecDepth 100000 in
set_option maxHeartbeats 1000000 in
theorem refIs_any (k n t : Int) (s : ByteArray) (w : World) :
    Calls Tryz.prog 16 #[.agg #[.int .i64 k, .int .i64 n, .string s], .int .i64 t] w fun r w' => r = .returned (.bool (isV k n s t)) ∧ Below w.heap.size w w' := by
  go_enter Tryz.func16, Tryz.ntmps16
  go_wp2_with (go_at_call 12; refine (refCheck_any _ _ _ _).mono ?_; rintro e w1 ⟨rfl, b1⟩; obtain ⟨kk0, kk1, kk2⟩ := box_facts b1)
  all_goals go_ret
  all_goals refine ⟨?_, kb1 b1⟩
  all_goals first
    | (simp_all [isV]; done)
    | (simp_all [isV]; omega)
    | (simp_all [isV]; intros; omega)
    | (simp_all [isV]; by_cases hk : k = 0 <;> simp_all)
end Go.Proofs.YtcngoffmkbobhaaGreatDoor
