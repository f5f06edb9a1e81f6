/- What the functions of package value that order, check and know of truths do, and those of the document's own answers; how a range over a function is left. No condition. -/
import Derived.Test.YtoknfdgejiachaaRows
import Derived.WalkKit
import Derived.WalkSpells
import Derived.WalkLawsBesides
import Derived.Handy
import Derived.Outline
import Derived.Deep.RegionHeld3
import Derived.Sort.Walk0
import Derived.Laws.StructEq
import Derived.RangeFuncNested
import Derived.RangeFuncBound
import Derived.RangeFuncCalls
import Derived.RangeFuncLeaves
import Derived.Shelf.Abstract
import Derived.OwnWalkIn
import Derived.TacticsInMore
import Derived.LoopNIn
import Derived.LoopIn
import Derived.WalkMore
import Derived.Lib.Hide
namespace Go.Proofs.Ytoknfdgejiachaa
open Go.RowKit Go.Shelf

set_option maxHeartbeats 400000 in
theorem num_any (e : Int) (w : World) :
    Calls Try.prog 13 #[.int .i64 e] w fun r w' => r = .returned (.int .i64 e) ∧ w = w' := by
  go_enter Try.func13, Try.ntmps13
  go_wp2
  go_ret
  exact ⟨rfl, rfl⟩

def mayB (k n : Int) (e : Bool) : Bool := if k = 0 then n == 0 && e else if k = 1 then (n == 0 || n == 1) && e else if k = 2 then e else if k = 3 ∨ k = 4 then n == 0 else false

set_option maxHeartbeats 400000 in
theorem mayBe_any (k n : Int) (s : ByteArray) (w : World) :
    Calls Try.prog 88 #[.agg #[.int .i64 k, .int .i64 n, .string s]] w fun r w' => r = .returned (.bool (mayB k n s.toList.isEmpty)) ∧ Below w.heap.size w w' := by
  go_enter Try.func88, Try.ntmps88
  go_wp2
  all_goals go_ret
  all_goals exact ⟨by simp_all [mayB], by go_grown⟩

def checkV (k n : Int) (s : ByteArray) : Int := if 1000 < s.size then 3 else if mayB k n s.toList.isEmpty then 0 else 2

theorem ret_int {k : IntKind} {a b : Int} (h : a = b) : Ending.returned (.int k a) = .returned (.int k b) := by rw [h]

set_option maxHeartbeats 400000 in
theorem check_any (k n : Int) (s : ByteArray) (w : World) :
    Calls Try.prog 50 #[.agg #[.int .i64 k, .int .i64 n, .string s]] w fun r w' => r = .returned (.int .i64 (checkV k n s)) ∧ Below w.heap.size w w' := by
  go_enter Try.func50, Try.ntmps50
  go_wp2_with (go_at_call 88; refine (mayBe_any _ _ _ _).mono ?_; rintro e w' ⟨rfl, hb⟩)
  all_goals go_ret
  · exact ⟨ret_int (by unfold checkV; rw [if_pos (by omega)]), by go_grown⟩
  all_goals 
    refine ⟨ret_int ?_, ?_⟩
    · unfold checkV; rw [if_neg (by omega)]; simp_all
    · have h2 := hb.mono (B' := w.heap.size) (by simp)
      exact ((Below.refl _ _).alloc (Nat.le_refl _) _).trans h2

def cmpI (a b : Int) : Int := if a < b then -1 else if b < a then 1 else 0

set_option maxHeartbeats 400000 in
theorem compareK_any (a b : Int) (w : World) :
    Calls Try.prog 91 #[.int .i64 a, .int .i64 b] w fun r w' => r = .returned (.int .i64 (cmpI a b)) ∧ w = w' := by
  go_enter Try.func91, Try.ntmps91
  go_wp2
  all_goals go_ret
  all_goals exact ⟨ret_int (by unfold cmpI; (repeat split) <;> omega), rfl⟩

set_option maxHeartbeats 400000 in
theorem compareI_any (a b : Int) (w : World) :
    Calls Try.prog 92 #[.int .i64 a, .int .i64 b] w fun r w' => r = .returned (.int .i64 (cmpI a b)) ∧ w = w' := by
  go_enter Try.func92, Try.ntmps92
  go_wp2
  all_goals go_ret
  all_goals exact ⟨ret_int (by unfold cmpI; (repeat split) <;> omega), rfl⟩

def cmpS (a b : ByteArray) : Int := if Op.bytesLess a.toList b.toList then -1 else if !(a.toList == b.toList) then 1 else 0

set_option maxHeartbeats 400000 in
theorem compareS_any (a b : ByteArray) (w : World) :
    Calls Try.prog 93 #[.string a, .string b] w fun r w' => r = .returned (.int .i64 (cmpS a b)) ∧ w = w' := by
  go_enter Try.func93, Try.ntmps93
  go_wp2
  all_goals go_ret
  all_goals exact ⟨ret_int (by simp_all [cmpS]), rfl⟩

def notI (a : Int) : Int := if a = 0 then 1 else if a = 1 then 0 else 2
def bothI (a b : Int) : Int := if a = 0 ∨ b = 0 then 0 else if a = 1 ∧ b = 1 then 1 else 2
def eitherI (a b : Int) : Int := notI (bothI (notI a) (notI b))

set_option maxHeartbeats 400000 in
theorem not_any (a : Int) (w : World) :
    Calls Try.prog 87 #[.int .i64 a] w fun r w' => r = .returned (.int .i64 (notI a)) ∧ w = w' := by
  go_enter Try.func87, Try.ntmps87
  go_wp2
  all_goals go_ret
  all_goals exact ⟨ret_int (by simp_all [notI]), rfl⟩
set_option maxHeartbeats 400000 in
theorem both_any (a b : Int) (w : World) :
    Calls Try.prog 96 #[.int .i64 a, .int .i64 b] w fun r w' => r = .returned (.int .i64 (bothI a b)) ∧ w = w' := by
  go_enter Try.func96, Try.ntmps96
  go_wp2
  all_goals go_ret
  all_goals exact ⟨ret_int (by simp_all [bothI]), rfl⟩
set_option maxHeartbeats 400000 in
theorem either_any (a b : Int) (w : World) :
    Calls Try.prog 97 #[.int .i64 a, .int .i64 b] w fun r w' => r = .returned (.int .i64 (eitherI a b)) ∧ w = w' := by
  go_enter Try.func97, Try.ntmps97
  go_wp2_with (first | (go_at_call 87; refine (not_any _ _).mono ?_; rintro e w' ⟨rfl, rfl⟩) | (go_at_call 96; refine (both_any _ _ _).mono ?_; rintro e w' ⟨rfl, rfl⟩))
  go_ret
  exact ⟨rfl, rfl⟩

/-- A value as the program holds it. -/
def ofI (a : Int) : Value := .agg #[.int .i64 (if a = 0 ∨ a = 1 then 1 else 0), .int .i64 (if a = 1 then 1 else 0), .string (ByteArray.mk #[])]

set_option maxHeartbeats 400000 in
theorem of_any (a : Int) (w : World) :
    Calls Try.prog 57 #[.int .i64 a] w fun r w' => r = .returned (ofI a) ∧ Below w.heap.size w w' := by
  go_enter Try.func57, Try.ntmps57
  go_wp2
  all_goals go_returns
  all_goals refine ⟨?_, by go_grown⟩
  all_goals simp_all [ofI]

def orL : List Int → Int
  | [] => 0
  | a :: l => if a ≠ 0 then a else orL l

set_option maxHeartbeats 400000 in
theorem or3_any (a b c : Int) (B : Nat) (w : World) (ha : w.cell? ⟨B, 0, none⟩ = some (.int .i64 a)) (hb : w.cell? ⟨B, 1, none⟩ = some (.int .i64 b)) (hc : w.cell? ⟨B, 2, none⟩ = some (.int .i64 c)) :
    Calls Try.prog 90 #[.slice (some ⟨B, 0, none⟩) 3 3] w fun r w' => r = .returned (.int .i64 (orL [a, b, c])) ∧ w = w' := by
  go_enter Try.func90, Try.ntmps90
  go_wp2
  go_rounds 4
  all_goals go_ret
  all_goals exact ⟨ret_int (by simp_all [orL]), rfl⟩

def ordV (k1 n1 k2 n2 : Int) (s1 s2 : ByteArray) : Int := orL [cmpI k1 k2, cmpI n1 n2, cmpS s1 s2]

set_option maxHeartbeats 400000 in
theorem order_any (k1 n1 k2 n2 : Int) (s1 s2 : ByteArray) (w : World) :
    Calls Try.prog 73 #[.agg #[.int .i64 k1, .int .i64 n1, .string s1], .agg #[.int .i64 k2, .int .i64 n2, .string s2]] w fun r w' => r = .returned (.int .i64 (ordV k1 n1 k2 n2 s1 s2)) ∧ Below w.heap.size w w' := by
  go_enter Try.func73, Try.ntmps73
  go_wp2_with fail
  go_region_held3 (fun w' => w'.cell? ⟨w.heap.size, 0, none⟩ = some (.int .i64 k1) ∧ w'.cell? ⟨w.heap.size, 1, none⟩ = some (.int .i64 n1) ∧ w'.cell? ⟨w.heap.size, 2, none⟩ = some (.string s1) ∧ w'.cell? ⟨w.heap.size + 1, 0, none⟩ = some (.int .i64 k2) ∧ w'.cell? ⟨w.heap.size + 1, 1, none⟩ = some (.int .i64 n2) ∧ w'.cell? ⟨w.heap.size + 1, 2, none⟩ = some (.string s2)) (go_keep)
    (first | (go_at_call 91; refine (compareK_any _ _ _).mono ?_; rintro e w' ⟨rfl, rfl⟩) | (go_at_call 92; refine (compareI_any _ _ _).mono ?_; rintro e w' ⟨rfl, rfl⟩) | (go_at_call 93; refine (compareS_any _ _ _).mono ?_; rintro e w' ⟨rfl, rfl⟩) | (go_at_call 90; refine (or3_any (cmpI k1 k2) (cmpI n1 n2) (cmpS s1 s2) _ _ (by go_cell) (by go_cell) (by go_cell)).mono ?_; rintro e w2 ⟨rfl, rfl⟩))
  all_goals go_wp2
  all_goals go_ret
  all_goals exact ⟨rfl, by go_grown⟩
theorem foldl_take {α β : Type} (f : β → α → β) (z : α) (x : β) (zs : List α) (k : Nat) (h : k < zs.length) : (zs.take (k + 1)).foldl f x = f ((zs.take k).foldl f x) (zs.getD k z) := by
  rw [List.take_succ_eq_append_getElem h, List.foldl_append]
  simp [List.getD_eq_getElem?_getD, h]

set_option maxHeartbeats 400000 in
theorem foldB_nil (x : Int) (w : World) :
    Calls Try.prog 95 #[.int .i64 x, .func (Fn.func 96) #[] #[], .slice none 0 0] w fun r w' => r = .returned (.int .i64 x) ∧ w = w' := by
  go_enter Try.func95, Try.ntmps95
  go_wp2
  go_rounds 1
  go_ret
  exact ⟨rfl, rfl⟩
set_option maxHeartbeats 400000 in
theorem foldB_some (x : Int) (b off cap : Nat) (zs : List Int) (w : World) (hm : zs.length ≤ 100000) (hc : ∀ i, i < zs.length → w.cell? ⟨b, off + i, none⟩ = some (.int .i64 (zs.getD i 0))) :
    Calls Try.prog 95 #[.int .i64 x, .func (Fn.func 96) #[] #[], .slice (some ⟨b, off, none⟩) zs.length cap] w fun r w' => r = .returned (.int .i64 (zs.foldl bothI x)) ∧ w = w' := by
  have HC : Hid (∀ i, i < zs.length → w.cell? ⟨b, off + i, none⟩ = some (.int .i64 (zs.getD i 0))) := hc
  clear hc
  go_enter Try.func95, Try.ntmps95
  go_wp2
  go_loop [0, 11] (fun t i => ∃ k : Nat, k ≤ zs.length ∧ i = .int .i64 k ∧ t = .int .i64 ((zs.take k).foldl bothI x)) (fun _ i => zs.length - (intOf i).toNat)
  case atStart => exact ⟨0, Nat.zero_le _, rfl, rfl⟩
  case round =>
    obtain ⟨k, hk, rfl, rfl⟩ := hrel
    by_cases hlt : k < zs.length
    · have hcell := HC.out k hlt
      have HS : Hid ((zs.take (k + 1)).foldl bothI x = bothI ((zs.take k).foldl bothI x) (zs.getD k 0)) := foldl_take bothI 0 x zs k hlt
      generalize zs.getD k 0 = z at hcell HS
      go_wp2_with (go_at_call 96; refine (both_any _ _ _).mono ?_; rintro e w' ⟨rfl, rfl⟩)
      go_round
      case rel => exact ⟨k + 1, by omega, by go_num, by rw [HS.out]⟩
      case measure => simp [intOf]; omega
    · go_wp2
      go_ret
      exact ⟨ret_int (by rw [List.take_of_length_le (by omega)]), rfl⟩

set_option maxHeartbeats 400000 in
theorem foldE_nil (x : Int) (w : World) :
    Calls Try.prog 95 #[.int .i64 x, .func (Fn.func 97) #[] #[], .slice none 0 0] w fun r w' => r = .returned (.int .i64 x) ∧ w = w' := by
  go_enter Try.func95, Try.ntmps95
  go_wp2
  go_rounds 1
  go_ret
  exact ⟨rfl, rfl⟩
set_option maxHeartbeats 400000 in
theorem foldE_some (x : Int) (b off cap : Nat) (zs : List Int) (w : World) (hm : zs.length ≤ 100000) (hc : ∀ i, i < zs.length → w.cell? ⟨b, off + i, none⟩ = some (.int .i64 (zs.getD i 0))) :
    Calls Try.prog 95 #[.int .i64 x, .func (Fn.func 97) #[] #[], .slice (some ⟨b, off, none⟩) zs.length cap] w fun r w' => r = .returned (.int .i64 (zs.foldl eitherI x)) ∧ w = w' := by
  have HC : Hid (∀ i, i < zs.length → w.cell? ⟨b, off + i, none⟩ = some (.int .i64 (zs.getD i 0))) := hc
  clear hc
  go_enter Try.func95, Try.ntmps95
  go_wp2
  go_loop [0, 11] (fun t i => ∃ k : Nat, k ≤ zs.length ∧ i = .int .i64 k ∧ t = .int .i64 ((zs.take k).foldl eitherI x)) (fun _ i => zs.length - (intOf i).toNat)
  case atStart => exact ⟨0, Nat.zero_le _, rfl, rfl⟩
  case round =>
    obtain ⟨k, hk, rfl, rfl⟩ := hrel
    by_cases hlt : k < zs.length
    · have hcell := HC.out k hlt
      have HS : Hid ((zs.take (k + 1)).foldl eitherI x = eitherI ((zs.take k).foldl eitherI x) (zs.getD k 0)) := foldl_take eitherI 0 x zs k hlt
      generalize zs.getD k 0 = z at hcell HS
      go_wp2_with (go_at_call 97; refine (either_any _ _ _).mono ?_; rintro e w' ⟨rfl, rfl⟩)
      go_round
      case rel => exact ⟨k + 1, by omega, by go_num, by rw [HS.out]⟩
      case measure => simp [intOf]; omega
    · go_wp2
      go_ret
      exact ⟨ret_int (by rw [List.take_of_length_le (by omega)]), rfl⟩

set_option maxHeartbeats 400000 in
theorem and_nil (w : World) :
    Calls Try.prog 83 #[.slice none 0 0] w fun r w' => r = .returned (.int .i64 1) ∧ w = w' := by
  go_enter Try.func83, Try.ntmps83
  go_wp2_with (go_at_call 95; refine (foldB_nil _ _).mono ?_; rintro e w' ⟨rfl, rfl⟩)
  go_ret
  exact ⟨rfl, rfl⟩
set_option maxHeartbeats 400000 in
theorem and_some (b off cap : Nat) (zs : List Int) (w : World) (hm : zs.length ≤ 100000) (hc : ∀ i, i < zs.length → w.cell? ⟨b, off + i, none⟩ = some (.int .i64 (zs.getD i 0))) :
    Calls Try.prog 83 #[.slice (some ⟨b, off, none⟩) zs.length cap] w fun r w' => r = .returned (.int .i64 (zs.foldl bothI 1)) ∧ w = w' := by
  have HC : Hid (∀ i, i < zs.length → w.cell? ⟨b, off + i, none⟩ = some (.int .i64 (zs.getD i 0))) := hc
  clear hc
  go_enter Try.func83, Try.ntmps83
  go_wp2_with (go_at_call 95; refine (foldB_some _ _ _ _ _ _ hm HC.out).mono ?_; rintro e w' ⟨rfl, rfl⟩)
  go_ret
  exact ⟨rfl, rfl⟩

set_option maxHeartbeats 400000 in
theorem or_nil (w : World) :
    Calls Try.prog 85 #[.slice none 0 0] w fun r w' => r = .returned (.int .i64 0) ∧ w = w' := by
  go_enter Try.func85, Try.ntmps85
  go_wp2_with (go_at_call 95; refine (foldE_nil _ _).mono ?_; rintro e w' ⟨rfl, rfl⟩)
  go_ret
  exact ⟨rfl, rfl⟩
set_option maxHeartbeats 400000 in
theorem or_some (b off cap : Nat) (zs : List Int) (w : World) (hm : zs.length ≤ 100000) (hc : ∀ i, i < zs.length → w.cell? ⟨b, off + i, none⟩ = some (.int .i64 (zs.getD i 0))) :
    Calls Try.prog 85 #[.slice (some ⟨b, off, none⟩) zs.length cap] w fun r w' => r = .returned (.int .i64 (zs.foldl eitherI 0)) ∧ w = w' := by
  have HC : Hid (∀ i, i < zs.length → w.cell? ⟨b, off + i, none⟩ = some (.int .i64 (zs.getD i 0))) := hc
  clear hc
  go_enter Try.func85, Try.ntmps85
  go_wp2_with (go_at_call 95; refine (foldE_some _ _ _ _ _ _ hm HC.out).mono ?_; rintro e w' ⟨rfl, rfl⟩)
  go_ret
  exact ⟨rfl, rfl⟩
abbrev vObj (k n : Int) (s : ByteArray) : Obj := .cells #[.int .i64 k, .int .i64 n, .string s] 45
theorem toL (s : ByteArray) : s.toList = s.data.toList := ByteArray.toList_eq s
abbrev vNull : Value := .agg #[.int .i64 0, .int .i64 0, .string ⟨#[]⟩]
abbrev vBool (n : Int) : Value := .agg #[.int .i64 1, .int .i64 n, .string ⟨#[]⟩]
theorem of2 (w : World) : Calls Try.prog 57 #[.int .i64 2] w fun r w' => r = .returned vNull ∧ Below w.heap.size w w' := of_any 2 w
theorem of0 (w : World) : Calls Try.prog 57 #[.int .i64 0] w fun r w' => r = .returned (vBool 0) ∧ Below w.heap.size w w' := of_any 0 w
theorem of1 (w : World) : Calls Try.prog 57 #[.int .i64 1] w fun r w' => r = .returned (vBool 1) ∧ Below w.heap.size w w' := of_any 1 w
set_option maxHeartbeats 400000 in
theorem refAnd_any (a b : Int) (w : World) :
    Calls Try.prog 30 #[.int .i64 a, .int .i64 b] w fun r w' => r = .returned (.int .i64 (bothI a b)) ∧ w = w' := by
  go_enter Try.func30, Try.ntmps30
  go_wp2
  all_goals go_ret
  all_goals exact ⟨ret_int (by simp_all [bothI]), rfl⟩
set_option maxHeartbeats 400000 in
theorem refNot_any (a : Int) (w : World) :
    Calls Try.prog 34 #[.int .i64 a] w fun r w' => r = .returned (.int .i64 (notI a)) ∧ w = w' := by
  go_enter Try.func34, Try.ntmps34
  go_wp2
  all_goals go_ret
  all_goals exact ⟨ret_int (by first | (simp_all [notI]; done) | (simp_all [notI]; exact IntWalk.wrap64_in 0 ⟨by omega, by omega⟩)), rfl⟩
set_option maxHeartbeats 400000 in
theorem refOr_any (a b : Int) (w : World) :
    Calls Try.prog 32 #[.int .i64 a, .int .i64 b] w fun r w' => r = .returned (.int .i64 (eitherI a b)) ∧ w = w' := by
  go_enter Try.func32, Try.ntmps32
  go_wp2_with (first | (go_at_call 34; refine (refNot_any _ _).mono ?_; rintro e w' ⟨rfl, rfl⟩) | (go_at_call 30; refine (refAnd_any _ _ _).mono ?_; rintro e w' ⟨rfl, rfl⟩))
  go_ret
  exact ⟨rfl, rfl⟩
set_option maxHeartbeats 400000 in
theorem refOf_any (a : Int) (w : World) :
    Calls Try.prog 17 #[.int .i64 a] w fun r w' => r = .returned (ofI a) ∧ Below w.heap.size w w' := by
  go_enter Try.func17, Try.ntmps17
  go_wp2
  all_goals go_returns
  all_goals refine ⟨?_, by go_grown⟩
  all_goals simp_all [ofI]
set_option maxHeartbeats 400000 in
theorem refCheck_any (k n : Int) (s : ByteArray) (w : World) :
    Calls Try.prog 29 #[.agg #[.int .i64 k, .int .i64 n, .string s]] w fun r w' => r = .returned (.int .i64 (checkV k n s)) ∧ Below w.heap.size w w' := by
  go_enter Try.func29, Try.ntmps29
  go_wp2
  all_goals go_ret
  all_goals exact ⟨ret_int (by unfold checkV mayB; (repeat' split) <;> simp_all <;> omega), by go_grown⟩

/-- Which truth a value is: false, true, unknown; -1: none. -/
def knownI (k n : Int) (s : ByteArray) : Int := if checkV k n s = 0 then (if k = 0 then 2 else if k = 1 then n else -1) else -1
theorem knownI_eq (k n : Int) (s : ByteArray) : knownI k n s = if k = 1 ∧ s.toList = [] ∧ n = 0 then 0 else if k = 1 ∧ s.toList = [] ∧ n = 1 then 1 else if k = 0 ∧ n = 0 ∧ s.toList = [] then 2 else -1 := by
  have hz : s.toList = [] → s.size = 0 := by
    intro h
    rw [toL] at h
    rw [Lib.size_eq, h]; rfl
  unfold knownI checkV mayB
  by_cases h : s.toList = []
  · have h2 := hz h
    (repeat' split) <;> simp_all <;> omega
  · (repeat' split) <;> simp_all <;> omega

theorem ret_known {a b : Int} {x y : Bool} (h : a = b) (g : x = y) : Ending.returned (.tuple #[.int .i64 a, .bool x]) = .returned (.tuple #[.int .i64 b, .bool y]) := by rw [h, g]

theorem kb1 {w w1 : World} {o : Obj} (h1 : Below (w.alloc o).heap.size (w.alloc o) w1) : Below w.heap.size w w1 := ((Below.refl _ _).alloc (Nat.le_refl _) o).trans (h1.mono (by simp))
theorem kb2 {w w1 w2 : World} {o : Obj} (h1 : Below (w.alloc o).heap.size (w.alloc o) w1) (h2 : Below w1.heap.size w1 w2) : Below w.heap.size w w2 := (kb1 h1).trans (h2.mono (kb1 h1).size)
theorem kb3 {w w1 w2 w3 : World} {o : Obj} (h1 : Below (w.alloc o).heap.size (w.alloc o) w1) (h2 : Below w1.heap.size w1 w2) (h3 : Below w2.heap.size w2 w3) : Below w.heap.size w w3 := (kb2 h1 h2).trans (h3.mono (kb2 h1 h2).size)

set_option maxHeartbeats 400000 in
theorem known_any (k n : Int) (s : ByteArray) (w : World) :
    Calls Try.prog 94 #[.agg #[.int .i64 k, .int .i64 n, .string s]] w fun r w' => r = .returned (.tuple #[.int .i64 (max 0 (knownI k n s)), .bool (decide (0 ≤ knownI k n s))]) ∧ Below w.heap.size w w' := by
  go_enter Try.func94, Try.ntmps94
  go_wp2_with (first | (go_at_call 57; with_reducible refine (of0 _).mono ?_; rintro e w' ⟨rfl, b0⟩) | (go_at_call 57; with_reducible refine (of1 _).mono ?_; rintro e w' ⟨rfl, b1⟩) | (go_at_call 57; with_reducible refine (of2 _).mono ?_; rintro e w' ⟨rfl, b2⟩))
  all_goals go_ret2
  all_goals refine ⟨ret_known ?_ ?_, ?_⟩
  all_goals first | exact kb1 b0 | exact kb2 b0 b1 | exact kb3 b0 b1 b2 | (clear b0; rw [knownI_eq]; simp_all; done) | (clear b0; rw [knownI_eq]; simp_all; omega)
set_option maxHeartbeats 400000 in
theorem refKnown_any (k n : Int) (s : ByteArray) (w : World) :
    Calls Try.prog 31 #[.agg #[.int .i64 k, .int .i64 n, .string s]] w fun r w' => r = .returned (.int .i64 (knownI k n s)) ∧ Below w.heap.size w w' := by
  have hc : ∀ c, checkV k n s = c → Calls Try.prog 29 #[.agg #[.int .i64 k, .int .i64 n, .string s]] (w.alloc (vObj k n s)) fun r w' => r = .returned (.int .i64 c) ∧ Below (w.alloc (vObj k n s)).heap.size (w.alloc (vObj k n s)) w' := fun c h => by rw [← h]; exact refCheck_any k n s _
  obtain ⟨c, hcc⟩ : ∃ c, checkV k n s = c := ⟨_, rfl⟩
  have HC := Lib.hid hcc
  have HD := Lib.hid (hc c hcc)
  clear hc hcc
  go_enter Try.func31, Try.ntmps31
  go_wp2_with (go_at_call 29; refine HD.out.mono ?_; rintro e w' ⟨rfl, hb⟩; have k0 : w'.cell? ⟨w.heap.size, 0, none⟩ = some (.int .i64 k) := (hb.cell (by simp)).trans (by go_cell); have k1 : w'.cell? ⟨w.heap.size, 1, none⟩ = some (.int .i64 n) := (hb.cell (by simp)).trans (by go_cell))
  all_goals go_ret
  all_goals refine ⟨ret_int ?_, kb1 hb⟩
  all_goals unfold knownI; rw [HC.out]; simp_all
theorem box_facts {w w1 : World} {k n : Int} {s : ByteArray} (b1 : Below (w.alloc (vObj k n s)).heap.size (w.alloc (vObj k n s)) w1) : w1.cell? ⟨w.heap.size, 0, none⟩ = some (.int .i64 k) ∧ w1.cell? ⟨w.heap.size, 1, none⟩ = some (.int .i64 n) ∧ w1.cell? ⟨w.heap.size, 2, none⟩ = some (.string s) :=
  ⟨(b1.cell (by simp)).trans (by go_cell), (b1.cell (by simp)).trans (by go_cell), (b1.cell (by simp)).trans (by go_cell)⟩
theorem lt_of_cell_some {w : World} {p : Addr} {v : Value} (h : w.cell? p = some v) : p.block < w.heap.size := by
  rcases Nat.lt_or_ge p.block w.heap.size with h1 | h1
  · exact h1
  · simp [World.cell?, Array.getElem?_eq_none h1] at h
theorem cmpI_flip (a b : Int) : cmpI b a = -cmpI a b := by unfold cmpI; (repeat split) <;> omega
theorem cmpI_range (a b : Int) : cmpI a b = -1 ∨ cmpI a b = 0 ∨ cmpI a b = 1 := by
  unfold cmpI
  split
  · simp
  · split <;> simp
theorem cmpI_zero (a b : Int) : cmpI a b = 0 ↔ a = b := by unfold cmpI; (repeat split) <;> omega
theorem cmpI_less (a b : Int) : cmpI a b = -1 ↔ a < b := by unfold cmpI; (repeat split) <;> omega

theorem lt_total (x y : List UInt8) : x < y ∨ x = y ∨ y < x := by
  rcases Classical.em (x < y) with h | h
  · exact .inl h
  rcases Classical.em (y < x) with h' | h'
  · exact .inr (.inr h')
  exact .inr (.inl (List.le_antisymm (List.not_lt.1 h') (List.not_lt.1 h)))
theorem cmpS_eq (a b : ByteArray) : cmpS a b = if a.toList < b.toList then -1 else if a.toList = b.toList then 0 else 1 := by
  unfold cmpS
  rw [bytesLess_eq]
  by_cases h : a.toList < b.toList
  · simp [h]
  · by_cases h' : a.toList = b.toList
    · simp [h', h]
    · simp [h', h]
theorem cmpS_flip (a b : ByteArray) : cmpS b a = -cmpS a b := by
  rw [cmpS_eq, cmpS_eq]
  rcases lt_total a.toList b.toList with h | h | h
  · have h1 : ¬ b.toList < a.toList := List.lt_asymm h
    have h2 : ¬ b.toList = a.toList := fun e => by rw [e] at h; exact List.lt_irrefl _ h
    simp [h, h1, h2]
  · simp [h, List.lt_irrefl]
  · have h1 : ¬ a.toList < b.toList := List.lt_asymm h
    have h2 : ¬ a.toList = b.toList := fun e => by rw [e] at h; exact List.lt_irrefl _ h
    simp [h, h1, h2]
theorem cmpS_range (a b : ByteArray) : cmpS a b = -1 ∨ cmpS a b = 0 ∨ cmpS a b = 1 := by
  rw [cmpS_eq]
  split
  · simp
  · split <;> simp
theorem toList_inj {a b : ByteArray} (h : a.toList = b.toList) : a = b := by
  rw [ByteArray.toList_eq, ByteArray.toList_eq] at h
  exact Go.WideShapes.bytes_inj h
theorem cmpS_zero (a b : ByteArray) : cmpS a b = 0 ↔ a = b := by
  rw [cmpS_eq]
  constructor
  · intro h
    by_cases h1 : a.toList < b.toList
    · simp [h1] at h
    · by_cases h2 : a.toList = b.toList
      · exact toList_inj h2
      · simp [h1, h2] at h
  · rintro rfl
    simp [List.lt_irrefl]
theorem cmpS_less (a b : ByteArray) : cmpS a b = -1 ↔ a.toList < b.toList := by
  rw [cmpS_eq]
  by_cases h1 : a.toList < b.toList
  · simp [h1]
  · by_cases h2 : a.toList = b.toList <;> simp [h1, h2]

theorem ordV_eq (k1 n1 k2 n2 : Int) (s1 s2 : ByteArray) : ordV k1 n1 k2 n2 s1 s2 = if cmpI k1 k2 ≠ 0 then cmpI k1 k2 else if cmpI n1 n2 ≠ 0 then cmpI n1 n2 else cmpS s1 s2 := by
  unfold ordV orL
  split
  · rfl
  · unfold orL
    split
    · rfl
    · unfold orL
      split
      · rfl
      · unfold orL; omega
theorem ordV_flip (k1 n1 k2 n2 : Int) (s1 s2 : ByteArray) : ordV k2 n2 k1 n1 s2 s1 = -ordV k1 n1 k2 n2 s1 s2 := by
  rw [ordV_eq, ordV_eq, cmpI_flip k1 k2, cmpI_flip n1 n2, cmpS_flip s1 s2]
  (repeat split) <;> omega
theorem ordV_range (k1 n1 k2 n2 : Int) (s1 s2 : ByteArray) : ordV k1 n1 k2 n2 s1 s2 = -1 ∨ ordV k1 n1 k2 n2 s1 s2 = 0 ∨ ordV k1 n1 k2 n2 s1 s2 = 1 := by
  rw [ordV_eq]
  split
  · exact cmpI_range _ _
  · split
    · exact cmpI_range _ _
    · exact cmpS_range _ _
theorem ordV_zero (k1 n1 k2 n2 : Int) (s1 s2 : ByteArray) : ordV k1 n1 k2 n2 s1 s2 = 0 ↔ k1 = k2 ∧ n1 = n2 ∧ s1 = s2 := by
  rw [ordV_eq]
  have hk := cmpI_zero k1 k2
  have hn := cmpI_zero n1 n2
  have hs := cmpS_zero s1 s2
  split
  · exact ⟨fun h => absurd h ‹_›, fun h => hk.2 h.1⟩
  · split
    · exact ⟨fun h => absurd h ‹_›, fun h => hn.2 h.2.1⟩
    · exact ⟨fun h => ⟨hk.1 (by omega), hn.1 (by omega), hs.1 h⟩, fun h => hs.2 h.2.2⟩
theorem ordV_less (k1 n1 k2 n2 : Int) (s1 s2 : ByteArray) : ordV k1 n1 k2 n2 s1 s2 = -1 ↔ k1 < k2 ∨ (k1 = k2 ∧ (n1 < n2 ∨ (n1 = n2 ∧ s1.toList < s2.toList))) := by
  rw [ordV_eq]
  have hk := cmpI_zero k1 k2
  have hn := cmpI_zero n1 n2
  have hk' := cmpI_less k1 k2
  have hn' := cmpI_less n1 n2
  have hs := cmpS_less s1 s2
  split
  · rw [hk']
    omega
  · have ek := hk.1 (by omega)
    split
    · rw [hn']
      omega
    · have en := hn.1 (by omega)
      rw [hs]
      exact ⟨fun h => .inr ⟨ek, .inr ⟨en, h⟩⟩, fun h => by rcases h with h | ⟨_, h | ⟨_, h⟩⟩ <;> first | exact h | omega⟩
/-- Of values that rise, or are the same, the last is no less than the first. -/
theorem ordV_trans (k1 n1 k2 n2 k3 n3 : Int) (s1 s2 s3 : ByteArray) : ¬ (ordV k1 n1 k2 n2 s1 s2 ≤ 0 ∧ ordV k2 n2 k3 n3 s2 s3 ≤ 0 ∧ 0 < ordV k1 n1 k3 n3 s1 s3) := by
  rintro ⟨h1, h2, h3⟩
  have a1 : ordV k1 n1 k2 n2 s1 s2 = -1 ∨ ordV k1 n1 k2 n2 s1 s2 = 0 := by rcases ordV_range k1 n1 k2 n2 s1 s2 with h | h | h <;> omega
  have a2 : ordV k2 n2 k3 n3 s2 s3 = -1 ∨ ordV k2 n2 k3 n3 s2 s3 = 0 := by rcases ordV_range k2 n2 k3 n3 s2 s3 with h | h | h <;> omega
  have a3 : ¬ (ordV k1 n1 k3 n3 s1 s3 = -1 ∨ ordV k1 n1 k3 n3 s1 s3 = 0) := by omega
  rw [ordV_less, ordV_zero] at a1 a2 a3
  apply a3
  rcases a1 with a1 | ⟨rfl, rfl, rfl⟩
  · rcases a2 with a2 | ⟨rfl, rfl, rfl⟩
    · left
      rcases a1 with b1 | ⟨rfl, b1⟩
      · rcases a2 with b2 | ⟨rfl, b2⟩ <;> (left; omega)
      · rcases a2 with b2 | ⟨rfl, b2⟩
        · left; omega
        · right
          refine ⟨rfl, ?_⟩
          rcases b1 with c1 | ⟨rfl, c1⟩
          · rcases b2 with c2 | ⟨rfl, c2⟩ <;> (left; omega)
          · rcases b2 with c2 | ⟨rfl, c2⟩
            · left; omega
            · exact .inr ⟨rfl, List.lt_trans c1 c2⟩
    · exact .inl a1
  · exact a2

theorem truth_both (a b : Int) : eitherI (eitherI 0 (notI a)) (notI b) = notI (bothI (bothI 1 a) b) := by
  unfold eitherI bothI notI
  (repeat split) <;> omega
theorem truth_not (a : Int) : notI (notI a) = bothI 1 a := by
  unfold bothI notI
  (repeat split) <;> omega
set_option maxHeartbeats 400000 in
theorem refNumber_any (a b : Int) (w : World) :
    Calls Try.prog 52 #[.int .i64 a, .int .i64 b] w fun r w' => r = .returned (.int .i64 (cmpI a b)) ∧ w = w' := by
  go_enter Try.func52, Try.ntmps52
  go_wp2
  all_goals go_ret
  all_goals exact ⟨ret_int (by unfold cmpI; (repeat split) <;> omega), rfl⟩

set_option maxRecDepth 100000 in
set_option maxHeartbeats 1000000 in
theorem refOrder_any (k1 n1 k2 n2 : Int) (s1 s2 : ByteArray) (w : World) :
    Calls Try.prog 36 #[.agg #[.int .i64 k1, .int .i64 n1, .string s1], .agg #[.int .i64 k2, .int .i64 n2, .string s2]] w fun r w' => r = .returned (.int .i64 (ordV k1 n1 k2 n2 s1 s2)) ∧ Below w.heap.size w w' := by
  rw [ordV_eq]
  go_enter Try.func36, Try.ntmps36
  go_wp2_with (go_at_call 52; refine (refNumber_any _ _ _).mono ?_; rintro e w' ⟨rfl, rfl⟩)
  all_goals go_ret
  all_goals refine ⟨ret_int ?_, by go_grown⟩
  all_goals simp_all [cmpS]
theorem wpIn_scope_wide {n : Nat} {P : Program} {c : Code} {Q : Exit → Act → World → Prop} {a : Act} {w : World} (h : c.wpIn Fence.wide n P (Exit.noGoto Q) a w) : (Code.scope c).wpIn Fence.wide n P Q a w := wpIn_wide.2 (wp_scope_straight (wpIn_wide.1 h))
/-- A range over a function that is left at its end or by a break: one way on. -/
theorem range_norm {F : Fence} {n : Nat} {P : Program} {g : Operand} {ps : Array Tmp} {assign body : Code} {Q : Exit → Act → World → Prop} {a : Act} {w : World} (id : Nat) (R : Nat → World → Prop)
    (hex : ∀ a W, Q .normal a W → Q (.exit id) a W)
    (h : (Code.rangeFunc g ps assign body).wpIn F n P (fun e a' W => (e = .normal ∨ e = .exit id) ∧ ∃ D, a' = { a with defers := { target := .collected D, args := #[] } :: a.defers } ∧ R D W) a w)
    (hfin : ∀ D W, R D W → Q .normal { a with defers := { target := .collected D, args := #[] } :: a.defers } W) :
    (Code.rangeFunc g ps assign body).wpIn F n P Q a w :=
  wpIn_mono h (by
    rintro e a' W ⟨rfl | rfl, D, rfl, hR⟩
    · exact hfin D W hR
    · exact hex _ _ (hfin D W hR))
theorem keepsB {W W' : World} (h : Below W.heap.size W W') : KeepsOthers W W' :=
  ⟨h.size, fun k o hk _ => (h.block k (Array.getElem?_eq_some_iff.1 hk).1).trans hk⟩
theorem ownFrom_mark {β : Type} {B D : Nat} (hD : D < B) : OwnFrom B (fun (_ : β) W => W.heap[D]? = some (.deferred (some []))) :=
  fun _ A C row hs hg hr => (hg.block D (Array.getElem?_eq_some_iff.1 hs).1 (fun e => by have := (hr D e.symm).1; omega)).trans hs
theorem kbA {w w1 : World} {o : Obj} (h1 : Below (w.alloc o).heap.size (w.alloc o) w1) : Below w.heap.size w w1 := ((Below.refl _ _).alloc (Nat.le_refl _) o).trans (h1.mono (by simp))
theorem res_keep {W w5 : World} {o : Obj} {b : Nat} {v : Value} (h : W.cell? ⟨b, 0, none⟩ = some v) (hf : W.frozen? ⟨b, 0, none⟩ = false) (b5 : Below (W.alloc o).heap.size (W.alloc o) w5) : w5.cell? ⟨b, 0, none⟩ = some v ∧ w5.frozen? ⟨b, 0, none⟩ = false :=
  ⟨((kbA b5).cell (lt_of_cell_some h)).trans h, ((kbA b5).frozen (lt_of_cell_some h)).trans hf⟩
end Go.Proofs.Ytoknfdgejiachaa
