import Derived.Test.YtcngoffmkbobhaaGreatDoorT17
import Derived.Laws.StructEq
namespace Go.Proofs.YtcngoffmkbobhaaGreatDoor
open Go.RowKit

set_option maxHeartbeats 400000 in
theorem refAnd_any (a b : Int) (w : World) :
    Calls Tryz.prog 17 #[.int .i64 a, .int .i64 b] w fun r w' => r = .returned (.int .i64 (bothI a b)) ∧ w = w' := by
  go_enter Tryz.func17, Tryz.ntmps17
  go_wp2
  all_goals go_ret
  all_goals exact ⟨ret_int (by simp_all [bothI]), rfl⟩
set_option maxHeartbeats 400000 in
theorem refNot_any (a : Int) (w : World) :
    Calls Tryz.prog 24 #[.int .i64 a] w fun r w' => r = .returned (.int .i64 (notI a)) ∧ w = w' := by
  go_enter Tryz.func24, Tryz.ntmps24
  go_wp2
  all_goals go_ret
  all_goals exact ⟨ret_int (by first | (simp_all [notI]; done) | (simp_all [notI]; exact IntWalk.wrap64_in 0 ⟨by omega, by omega⟩)), rfl⟩
set_option maxHeartbeats 400000 in
theorem refOr_any (a b : Int) (w : World) :
    Calls Tryz.prog 18 #[.int .i64 a, .int .i64 b] w fun r w' => r = .returned (.int .i64 (eitherI a b)) ∧ w = w' := by
  go_enter Tryz.func18, Tryz.ntmps18
  go_wp2_with (first | (go_at_call 24; refine (refNot_any _ _).mono ?_; rintro e w' ⟨rfl, rfl⟩) | (go_at_call 17; refine (refAnd_any _ _ _).mono ?_; rintro e w' ⟨rfl, rfl⟩))
  go_ret
  exact ⟨rfl, rfl⟩
set_option maxHeartbeats 400000 in
theorem refOf_any (a : Int) (w : World) :
    Calls Tryz.prog 26 #[.int .i64 a] w fun r w' => r = .returned (ofI a) ∧ Below w.heap.size w w' := by
  go_enter Tryz.func26, Tryz.ntmps26
  go_wp2
  all_goals go_returns
  all_goals refine ⟨?_, by go_grown⟩
  all_goals simp_all [ofI]
set_option maxHeartbeats 400000 in
theorem refCheck_any (k n : Int) (s : ByteArray) (w : World) :
    Calls Tryz.prog 12 #[.agg #[.int .i64 k, .int .i64 n, .string s]] w fun r w' => r = .returned (.int .i64 (checkV k n s)) ∧ Below w.heap.size w w' := by
  go_enter Tryz.func12, Tryz.ntmps12
  go_wp2
  all_goals go_ret
  all_goals exact ⟨ret_int (by unfold checkV mayB; (repeat' split) <;> simp_all <;> omega), by go_grown⟩

/-- Which truth a value is: false, true, unknown; -1: none. -/
def knownI (k n : Int) (s : ByteArray) : Int := if checkV k n s = 0 then (if k = 0 then 2 else if k = 1 then n else -1) else -1
theorem knownI_eq (k n : Int) (s : ByteArray) : knownI k n s = if k = 1 ∧ s.toList = [] ∧ n = 0 then 0 else if k = 1 ∧ s.toList = [] ∧ n = 1 then 1 else if k = 0 ∧ n = 0 ∧ s.toList = [] then 2 else -1 := by
  have hz : s.toList = [] → s.size = 0 := by
    intro h
    rw [toL] at h
    rw [Lib.size_eq, h]; rfl
  unfold knownI checkV mayB
  by_cases h : s.toList = []
  · have h2 := hz h
    (repeat' split) <;> simp_all <;> omega
  · (repeat' split) <;> simp_all <;> omega

theorem ret_known {a b : Int} {x y : Bool} (h : a = b) (g : x = y) : Ending.returned (.tuple #[.int .i64 a, .bool x]) = .returned (.tuple #[.int .i64 b, .bool y]) := by rw [h, g]

theorem kb1 {w w1 : World} {o : Obj} (h1 : Below (w.alloc o).heap.size (w.alloc o) w1) : Below w.heap.size w w1 := ((Below.refl _ _).alloc (Nat.le_refl _) o).trans (h1.mono (by simp))
theorem kb2 {w w1 w2 : World} {o : Obj} (h1 : Below (w.alloc o).heap.size (w.alloc o) w1) (h2 : Below w1.heap.size w1 w2) : Below w.heap.size w w2 := (kb1 h1).trans (h2.mono (kb1 h1).size)
theorem kb3 {w w1 w2 w3 : World} {o : Obj} (h1 : Below (w.alloc o).heap.size (w.alloc o) w1) (h2 : Below w1.heap.size w1 w2) (h3 : Below w2.heap.size w2 w3) : Below w.heap.size w w3 := (kb2 h1 h2).trans (h3.mono (kb2 h1 h2).size)

set_option maxHeartbeats 400000 in
theorem known_any (k n : Int) (s : ByteArray) (w : World) :
    Calls Tryz.prog 19 #[.agg #[.int .i64 k, .int .i64 n, .string s]] w fun r w' => r = .returned (.tuple #[.int .i64 (max 0 (knownI k n s)), .bool (decide (0 ≤ knownI k n s))]) ∧ Below w.heap.size w w' := by
  go_enter Tryz.func19, Tryz.ntmps19
  go_wp2_with (first | (go_at_call 25; with_reducible refine (of0 _).mono ?_; rintro e w' ⟨rfl, b0⟩) | (go_at_call 25; with_reducible refine (of1 _).mono ?_; rintro e w' ⟨rfl, b1⟩) | (go_at_call 25; with_reducible refine (of2 _).mono ?_; rintro e w' ⟨rfl, b2⟩))
  all_goals go_ret2
  all_goals refine ⟨ret_known ?_ ?_, ?_⟩
  all_goals first | exact kb1 b0 | exact kb2 b0 b1 | exact kb3 b0 b1 b2 | (clear b0; rw [knownI_eq]; simp_all; done) | (clear b0; rw [knownI_eq]; simp_all; omega)
set_option maxHeartbeats 400000 in
theorem refKnown_any (k n : Int) (s : ByteArray) (w : World) :
    Calls Tryz.prog 20 #[.agg #[.int .i64 k, .int .i64 n, .string s]] w fun r w' => r = .returned (.int .i64 (knownI k n s)) ∧ Below w.heap.size w w' := by
  have hc : ∀ c, checkV k n s = c → Calls Tryz.prog 12 #[.agg #[.int .i64 k, .int .i64 n, .string s]] (w.alloc (vObj k n s)) fun r w' => r = .returned (.int .i64 c) ∧ Below (w.alloc (vObj k n s)).heap.size (w.alloc (vObj k n s)) w' := fun c h => by rw [← h]; exact refCheck_any k n s _
  obtain ⟨c, hcc⟩ : ∃ c, checkV k n s = c := ⟨_, rfl⟩
  have HC := Lib.hid hcc
  have HD := Lib.hid (hc c hcc)
  clear hc hcc
  go_enter Tryz.func20, Tryz.ntmps20
  go_wp2_with (go_at_call 12; refine HD.out.mono ?_; rintro e w' ⟨rfl, hb⟩; have k0 : w'.cell? ⟨w.heap.size, 0, none⟩ = some (.int .i64 k) := (hb.cell (by simp)).trans (by go_cell); have k1 : w'.cell? ⟨w.heap.size, 1, none⟩ = some (.int .i64 n) := (hb.cell (by simp)).trans (by go_cell))
  all_goals go_ret
  all_goals refine ⟨ret_int ?_, kb1 hb⟩
  all_goals unfold knownI; rw [HC.out]; simp_all
end Go.Proofs.YtcngoffmkbobhaaGreatDoor
