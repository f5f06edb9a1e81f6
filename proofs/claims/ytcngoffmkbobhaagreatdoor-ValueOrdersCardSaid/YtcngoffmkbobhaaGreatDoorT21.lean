import Derived.Test.YtcngoffmkbobhaaGreatDoorT20
namespace Go.Proofs.YtcngoffmkbobhaaGreatDoor
open Go.RowKit

set_option maxRecDepth 100000 in
set_option maxHeartbeats 1000000 in
theorem truths_many (a : Option Addr) (len cap : Nat) (t k n : Int) (s : ByteArray) (w : World) (hw : Base w) (hl : len ≤ 9223372036854775807) (h : 12 < len) :
    Calls Tryz.prog 4 #[.slice a len cap, .int .i64 t, .agg #[.int .i64 k, .int .i64 n, .string s]] w fun r w' => r = .returned (.bool true) ∧ Below w.heap.size w w' := by
  have HB : Hid (Base (w.alloc (vObj k n s))) := Lib.hid (hw.alloc _)
  go_enter Tryz.func4, Tryz.ntmps4
  go_wp2_with (go_at_call 9; refine (works_any _ HB.out).mono ?_; rintro e w' ⟨rfl, hb⟩)
  go_ret
  exact ⟨rfl, kb1 hb⟩
set_option maxRecDepth 100000 in
set_option maxHeartbeats 1000000 in
theorem truths_long (a : Option Addr) (len cap : Nat) (t k n : Int) (s : ByteArray) (w : World) (hw : Base w) (hl : len ≤ 12) (h : 1100 < s.size) :
    Calls Tryz.prog 4 #[.slice a len cap, .int .i64 t, .agg #[.int .i64 k, .int .i64 n, .string s]] w fun r w' => r = .returned (.bool true) ∧ Below w.heap.size w w' := by
  have HB : Hid (Base (w.alloc (vObj k n s))) := Lib.hid (hw.alloc _)
  go_enter Tryz.func4, Tryz.ntmps4
  go_wp2_with (go_at_call 9; refine (works_any _ HB.out).mono ?_; rintro e w' ⟨rfl, hb⟩)
  go_ret
  exact ⟨rfl, kb1 hb⟩
set_option maxHeartbeats 400000 in
theorem foldB_zero (x : Int) (a : Option Addr) (cap : Nat) (w : World) :
    Calls Tryz.prog 40 #[.int .i64 x, .func (Fn.func 41) #[] #[], .slice a 0 cap] w fun r w' => r = .returned (.int .i64 x) ∧ w = w' := by
  go_enter Tryz.func40, Tryz.ntmps40
  go_wp2
  go_rounds 1
  go_ret
  exact ⟨rfl, rfl⟩
set_option maxHeartbeats 400000 in
theorem foldE_zero (x : Int) (a : Option Addr) (cap : Nat) (w : World) :
    Calls Tryz.prog 40 #[.int .i64 x, .func (Fn.func 42) #[] #[], .slice a 0 cap] w fun r w' => r = .returned (.int .i64 x) ∧ w = w' := by
  go_enter Tryz.func40, Tryz.ntmps40
  go_wp2
  go_rounds 1
  go_ret
  exact ⟨rfl, rfl⟩
set_option maxHeartbeats 400000 in
theorem and_zero (a : Option Addr) (cap : Nat) (w : World) :
    Calls Tryz.prog 21 #[.slice a 0 cap] w fun r w' => r = .returned (.int .i64 1) ∧ w = w' := by
  go_enter Tryz.func21, Tryz.ntmps21
  go_wp2_with (go_at_call 40; refine (foldB_zero _ _ _ _).mono ?_; rintro e w' ⟨rfl, rfl⟩)
  go_ret
  exact ⟨rfl, rfl⟩
set_option maxHeartbeats 400000 in
theorem or_zero (a : Option Addr) (cap : Nat) (w : World) :
    Calls Tryz.prog 22 #[.slice a 0 cap] w fun r w' => r = .returned (.int .i64 0) ∧ w = w' := by
  go_enter Tryz.func22, Tryz.ntmps22
  go_wp2_with (go_at_call 40; refine (foldE_zero _ _ _ _).mono ?_; rintro e w' ⟨rfl, rfl⟩)
  go_ret
  exact ⟨rfl, rfl⟩
theorem of_same (t : Int) (w : World) : (binOp .eql 24 (ofI t) (ofI t)).run Tryz.prog w = .ok (.bool true) w := by
  unfold ofI
  by_cases h0 : t = 0
  · subst h0; kernel_rfl
  · by_cases h1 : t = 1
    · subst h1; kernel_rfl
    · simp only [h0, h1, or_self, if_false]; kernel_rfl
theorem of_guard (t : Int) (x y : Operand) (w : World) : (eqGuard .eql 24 x y (ofI t) (ofI t)).run Tryz.prog w = .ok () w := by
  unfold ofI
  by_cases h0 : t = 0
  · subst h0; kernel_rfl
  · by_cases h1 : t = 1
    · subst h1; kernel_rfl
    · simp only [h0, h1, or_self, if_false]; kernel_rfl
theorem box_facts {w w1 : World} {k n : Int} {s : ByteArray} (b1 : Below (w.alloc (vObj k n s)).heap.size (w.alloc (vObj k n s)) w1) : w1.cell? ⟨w.heap.size, 0, none⟩ = some (.int .i64 k) ∧ w1.cell? ⟨w.heap.size, 1, none⟩ = some (.int .i64 n) ∧ w1.cell? ⟨w.heap.size, 2, none⟩ = some (.string s) :=
  ⟨(b1.cell (by simp)).trans (by go_cell), (b1.cell (by simp)).trans (by go_cell), (b1.cell (by simp)).trans (by go_cell)⟩

set_option maxRecDepth 100000 in
set_option maxHeartbeats 1000000 in
theorem truths_zero (a : Option Addr) (cap : Nat) (t k n : Int) (s : ByteArray) (w : World) (hw : Base w) (h : s.size ≤ 1100) :
    Calls Tryz.prog 4 #[.slice a 0 cap, .int .i64 t, .agg #[.int .i64 k, .int .i64 n, .string s]] w fun r w' => r = .returned (.bool true) ∧ Below w.heap.size w w' := by
  have hof := of_same t
  have hog := of_guard t (.tmp 67) (.tmp 69)
  go_enter Tryz.func4, Tryz.ntmps4
  go_wp2
  refine wp_loop_rounds 1 ?_
  rw [rounds_succ]
  go_wp2_with (first | (go_at_call 19; refine (known_any _ _ _ _).mono ?_; rintro e w1 ⟨rfl, b1⟩; obtain ⟨kk0, kk1, kk2⟩ := box_facts b1) | (go_at_call 20; refine (refKnown_any _ _ _ _).mono ?_; rintro e w2 ⟨rfl, b2⟩) | (go_at_call 21; refine (and_zero _ _ _).mono ?_; rintro e w3 ⟨rfl, rfl⟩) | (go_at_call 22; refine (or_zero _ _ _).mono ?_; rintro e w3 ⟨rfl, rfl⟩) | (go_at_call 23; refine (not_any _ _).mono ?_; rintro e w3 ⟨rfl, rfl⟩) | (go_at_call 24; refine (refNot_any _ _).mono ?_; rintro e w3 ⟨rfl, rfl⟩) | (go_at_call 25; refine (of_any _ _).mono ?_; rintro e w3 ⟨rfl, b3⟩) | (go_at_call 26; refine (refOf_any _ _).mono ?_; rintro e w4 ⟨rfl, b4⟩) | (go_at_call 9; refine (works_any _ (hw.below (((kb2 b1 b2).trans (b3.mono (kb2 b1 b2).size)).trans (b4.mono ((kb2 b1 b2).trans (b3.mono (kb2 b1 b2).size)).size)))).mono ?_; rintro e w5 ⟨rfl, b5⟩))
  go_ret
  exact ⟨rfl, (((kb2 b1 b2).trans (b3.mono (kb2 b1 b2).size)).trans (b4.mono ((kb2 b1 b2).trans (b3.mono (kb2 b1 b2).size)).size)).trans (b5.mono (((kb2 b1 b2).trans (b3.mono (kb2 b1 b2).size)).trans (b4.mono ((kb2 b1 b2).trans (b3.mono (kb2 b1 b2).size)).size)).size)⟩
end Go.Proofs.YtcngoffmkbobhaaGreatDoor
