import Derived.Test.YtcngoffmkbobhaaGreatDoorRows
import Derived.WalkKit
import Derived.WalkSpells
import Derived.WalkLawsBesides
import Derived.Handy
import Derived.Outline
import Derived.Deep.RegionHeld3
namespace Go.Proofs.YtcngoffmkbobhaaGreatDoor
open Go.RowKit

set_option maxHeartbeats 400000 in
theorem num_any (e : Int) (w : World) :
    Calls Tryz.prog 10 #[.int .i64 e] w fun r w' => r = .returned (.int .i64 e) ∧ w = w' := by
  go_enter Tryz.func10, Tryz.ntmps10
  go_wp2
  go_ret
  exact ⟨rfl, rfl⟩

def mayB (k n : Int) (e : Bool) : Bool := if k = 0 then n == 0 && e else if k = 1 then (n == 0 || n == 1) && e else if k = 2 then e else if k = 3 ∨ k = 4 then n == 0 else false

set_option maxHeartbeats 400000 in
theorem mayBe_any (k n : Int) (s : ByteArray) (w : World) :
    Calls Tryz.prog 34 #[.agg #[.int .i64 k, .int .i64 n, .string s]] w fun r w' => r = .returned (.bool (mayB k n s.toList.isEmpty)) ∧ Below w.heap.size w w' := by
  go_enter Tryz.func34, Tryz.ntmps34
  go_wp2
  all_goals go_ret
  all_goals exact ⟨by simp_all [mayB], by go_grown⟩

def checkV (k n : Int) (s : ByteArray) : Int := if 1000 < s.size then 3 else if mayB k n s.toList.isEmpty then 0 else 2

theorem ret_int {k : IntKind} {a b : Int} (h : a = b) : Ending.returned (.int k a) = .returned (.int k b) := by rw [h]

set_option maxHeartbeats 400000 in
theorem check_any (k n : Int) (s : ByteArray) (w : World) :
    Calls Tryz.prog 11 #[.agg #[.int .i64 k, .int .i64 n, .string s]] w fun r w' => r = .returned (.int .i64 (checkV k n s)) ∧ Below w.heap.size w w' := by
  go_enter Tryz.func11, Tryz.ntmps11
  go_wp2_with (go_at_call 34; refine (mayBe_any _ _ _ _).mono ?_; rintro e w' ⟨rfl, hb⟩)
  all_goals go_ret
  · exact ⟨ret_int (by unfold checkV; rw [if_pos (by omega)]), by go_grown⟩
  all_goals 
    refine ⟨ret_int ?_, ?_⟩
    · unfold checkV; rw [if_neg (by omega)]; simp_all
    · have h2 := hb.mono (B' := w.heap.size) (by simp)
      exact ((Below.refl _ _).alloc (Nat.le_refl _) _).trans h2

def cmpI (a b : Int) : Int := if a < b then -1 else if b < a then 1 else 0

set_option maxHeartbeats 400000 in
theorem compareK_any (a b : Int) (w : World) :
    Calls Tryz.prog 36 #[.int .i64 a, .int .i64 b] w fun r w' => r = .returned (.int .i64 (cmpI a b)) ∧ w = w' := by
  go_enter Tryz.func36, Tryz.ntmps36
  go_wp2
  all_goals go_ret
  all_goals exact ⟨ret_int (by unfold cmpI; (repeat split) <;> omega), rfl⟩

set_option maxHeartbeats 400000 in
theorem compareI_any (a b : Int) (w : World) :
    Calls Tryz.prog 37 #[.int .i64 a, .int .i64 b] w fun r w' => r = .returned (.int .i64 (cmpI a b)) ∧ w = w' := by
  go_enter Tryz.func37, Tryz.ntmps37
  go_wp2
  all_goals go_ret
  all_goals exact ⟨ret_int (by unfold cmpI; (repeat split) <;> omega), rfl⟩

def cmpS (a b : ByteArray) : Int := if Op.bytesLess a.toList b.toList then -1 else if !(a.toList == b.toList) then 1 else 0

set_option maxHeartbeats 400000 in
theorem compareS_any (a b : ByteArray) (w : World) :
    Calls Tryz.prog 38 #[.string a, .string b] w fun r w' => r = .returned (.int .i64 (cmpS a b)) ∧ w = w' := by
  go_enter Tryz.func38, Tryz.ntmps38
  go_wp2
  all_goals go_ret
  all_goals exact ⟨ret_int (by simp_all [cmpS]), rfl⟩

def notI (a : Int) : Int := if a = 0 then 1 else if a = 1 then 0 else 2
def bothI (a b : Int) : Int := if a = 0 ∨ b = 0 then 0 else if a = 1 ∧ b = 1 then 1 else 2
def eitherI (a b : Int) : Int := notI (bothI (notI a) (notI b))

set_option maxHeartbeats 400000 in
theorem not_any (a : Int) (w : World) :
    Calls Tryz.prog 23 #[.int .i64 a] w fun r w' => r = .returned (.int .i64 (notI a)) ∧ w = w' := by
  go_enter Tryz.func23, Tryz.ntmps23
  go_wp2
  all_goals go_ret
  all_goals exact ⟨ret_int (by simp_all [notI]), rfl⟩
set_option maxHeartbeats 400000 in
theorem both_any (a b : Int) (w : World) :
    Calls Tryz.prog 41 #[.int .i64 a, .int .i64 b] w fun r w' => r = .returned (.int .i64 (bothI a b)) ∧ w = w' := by
  go_enter Tryz.func41, Tryz.ntmps41
  go_wp2
  all_goals go_ret
  all_goals exact ⟨ret_int (by simp_all [bothI]), rfl⟩
set_option maxHeartbeats 400000 in
theorem either_any (a b : Int) (w : World) :
    Calls Tryz.prog 42 #[.int .i64 a, .int .i64 b] w fun r w' => r = .returned (.int .i64 (eitherI a b)) ∧ w = w' := by
  go_enter Tryz.func42, Tryz.ntmps42
  go_wp2_with (first | (go_at_call 23; refine (not_any _ _).mono ?_; rintro e w' ⟨rfl, rfl⟩) | (go_at_call 41; refine (both_any _ _ _).mono ?_; rintro e w' ⟨rfl, rfl⟩))
  go_ret
  exact ⟨rfl, rfl⟩

/-- A value as the program holds it. -/
def ofI (a : Int) : Value := .agg #[.int .i64 (if a = 0 ∨ a = 1 then 1 else 0), .int .i64 (if a = 1 then 1 else 0), .string (ByteArray.mk #[])]

set_option maxHeartbeats 400000 in
theorem of_any (a : Int) (w : World) :
    Calls Tryz.prog 25 #[.int .i64 a] w fun r w' => r = .returned (ofI a) ∧ Below w.heap.size w w' := by
  go_enter Tryz.func25, Tryz.ntmps25
  go_wp2
  all_goals go_returns
  all_goals refine ⟨?_, by go_grown⟩
  all_goals simp_all [ofI]

def orL : List Int → Int
  | [] => 0
  | a :: l => if a ≠ 0 then a else orL l

set_option maxHeartbeats 400000 in
theorem or3_any (a b c : Int) (B : Nat) (w : World) (ha : w.cell? ⟨B, 0, none⟩ = some (.int .i64 a)) (hb : w.cell? ⟨B, 1, none⟩ = some (.int .i64 b)) (hc : w.cell? ⟨B, 2, none⟩ = some (.int .i64 c)) :
    Calls Tryz.prog 35 #[.slice (some ⟨B, 0, none⟩) 3 3] w fun r w' => r = .returned (.int .i64 (orL [a, b, c])) ∧ w = w' := by
  go_enter Tryz.func35, Tryz.ntmps35
  go_wp2
  go_rounds 4
  all_goals go_ret
  all_goals exact ⟨ret_int (by simp_all [orL]), rfl⟩

def ordV (k1 n1 k2 n2 : Int) (s1 s2 : ByteArray) : Int := orL [cmpI k1 k2, cmpI n1 n2, cmpS s1 s2]

set_option maxHeartbeats 400000 in
theorem order_any (k1 n1 k2 n2 : Int) (s1 s2 : ByteArray) (w : World) :
    Calls Tryz.prog 13 #[.agg #[.int .i64 k1, .int .i64 n1, .string s1], .agg #[.int .i64 k2, .int .i64 n2, .string s2]] w fun r w' => r = .returned (.int .i64 (ordV k1 n1 k2 n2 s1 s2)) ∧ Below w.heap.size w w' := by
  go_enter Tryz.func13, Tryz.ntmps13
  go_wp2_with fail
  go_region_held3 (fun w' => w'.cell? ⟨w.heap.size, 0, none⟩ = some (.int .i64 k1) ∧ w'.cell? ⟨w.heap.size, 1, none⟩ = some (.int .i64 n1) ∧ w'.cell? ⟨w.heap.size, 2, none⟩ = some (.string s1) ∧ w'.cell? ⟨w.heap.size + 1, 0, none⟩ = some (.int .i64 k2) ∧ w'.cell? ⟨w.heap.size + 1, 1, none⟩ = some (.int .i64 n2) ∧ w'.cell? ⟨w.heap.size + 1, 2, none⟩ = some (.string s2)) (go_keep)
    (first | (go_at_call 36; refine (compareK_any _ _ _).mono ?_; rintro e w' ⟨rfl, rfl⟩) | (go_at_call 37; refine (compareI_any _ _ _).mono ?_; rintro e w' ⟨rfl, rfl⟩) | (go_at_call 38; refine (compareS_any _ _ _).mono ?_; rintro e w' ⟨rfl, rfl⟩) | (go_at_call 35; refine (or3_any (cmpI k1 k2) (cmpI n1 n2) (cmpS s1 s2) _ _ (by go_cell) (by go_cell) (by go_cell)).mono ?_; rintro e w2 ⟨rfl, rfl⟩))
  all_goals go_wp2
  all_goals go_ret
  all_goals exact ⟨rfl, by go_grown⟩
end Go.Proofs.YtcngoffmkbobhaaGreatDoor
