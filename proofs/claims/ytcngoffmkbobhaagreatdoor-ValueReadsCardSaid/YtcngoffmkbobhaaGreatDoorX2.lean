import Derived.Test.YtcngoffmkbobhaaGreatDoorR9
import Derived.Test.YtcngoffmkbobhaaGreatDoorF
namespace Go.Proofs.YtcngoffmkbobhaaGreatDoor
open Go.RowKit

set_option maxHeartbeats 400000 in
theorem ne24 (k n : Int) (s : ByteArray) (w : World) : (binOp .neq 24 (.agg #[.int .i64 k, .int .i64 n, .string s]) (.agg #[.int .i64 k, .int .i64 n, .string s])).run Tryz.prog w = .ok (.bool false) w := by
  go_simp
set_option maxHeartbeats 400000 in
theorem neg24 (x y : Operand) (k n : Int) (s : ByteArray) (w : World) : (eqGuard .neq 24 x y (.agg #[.int .i64 k, .int .i64 n, .string s]) (.agg #[.int .i64 k, .int .i64 n, .string s])).run Tryz.prog w = .ok () w := by
  go_simp

set_option maxRecDepth 100000 in
set_option maxHeartbeats 1000000 in
theorem reads_long (s : ByteArray) (w : World) (hw : Base w) (h : 2200 < s.size) :
    Calls Tryz.prog 6 #[.string s] w fun r w' => r = .returned (.bool true) ∧ Below w.heap.size w w' := by
  have HB : Hid (Base w) := Lib.hid hw
  go_enter Tryz.func6, Tryz.ntmps6
  go_wp2_with (go_at_call 9; refine (works_any _ HB.out).mono ?_; rintro e w' ⟨rfl, hb⟩)
  go_ret
  exact ⟨rfl, hb⟩

set_option maxRecDepth 100000 in
set_option maxHeartbeats 1000000 in
theorem reads_bad (k n E : Int) (s u : ByteArray) (w : World) (hw : Base w) (h : s.size ≤ 2200) (hE : (E != 0) = true)
    (PA : Hid (∀ w, Base w → Calls Tryz.prog 29 #[.string s] w fun r w' => r = .returned (.tuple #[.agg #[.int .i64 k, .int .i64 n, .string u], .int .i64 E]) ∧ Below w.heap.size w w'))
    (PB : Hid (∀ w, Calls Tryz.prog 30 #[.string s] w fun r w' => r = .returned (.tuple #[.agg #[.int .i64 k, .int .i64 n, .string u], .int .i64 E]) ∧ Below w.heap.size w w'))
    (hse : ∀ w, (binOp .neq 24 (.agg #[.int .i64 k, .int .i64 n, .string u]) (.agg #[.int .i64 k, .int .i64 n, .string u])).run Tryz.prog w = .ok (.bool false) w)
    (hg1 : ∀ w, (eqGuard .neq 24 (.tmp 23) (.tmp 24) (.agg #[.int .i64 k, .int .i64 n, .string u]) (.agg #[.int .i64 k, .int .i64 n, .string u])).run Tryz.prog w = .ok () w) :
    Calls Tryz.prog 6 #[.string s] w fun r w' => r = .returned (.bool true) ∧ Below w.heap.size w w' := by
  have HB : Hid (Base w) := Lib.hid hw
  go_enter Tryz.func6, Tryz.ntmps6
  go_wp2_with (first | (go_at_call 29; refine (PA.out _ HB.out).mono ?_; rintro e w1 ⟨rfl, b1⟩) | (go_at_call 30; refine (PB.out _).mono ?_; rintro e w2 ⟨rfl, b2⟩; obtain ⟨kk0, kk1, kk2⟩ := box_facts b2; have hB2 := b2.alloc b2.size (vObj k n u); obtain ⟨jj0, jj1, jj2⟩ := box_facts hB2; have hT := b1.trans ((kb1 hB2).mono b1.size)) | (go_at_call 10; refine (num_any _ _).mono ?_; rintro e w' ⟨rfl, rfl⟩) | (go_at_call 9; refine (works_any _ (HB.out.below hT)).mono ?_; rintro e w3 ⟨rfl, b3⟩))
  go_ret
  exact ⟨rfl, hT.trans (b3.mono hT.size)⟩

set_option maxRecDepth 100000 in
set_option maxHeartbeats 1000000 in
theorem reads_good (k n : Int) (s u : ByteArray) (w : World) (hw : Base w) (h : s.size ≤ 2200)
    (PA : Hid (∀ w, Base w → Calls Tryz.prog 29 #[.string s] w fun r w' => r = .returned (.tuple #[.agg #[.int .i64 k, .int .i64 n, .string u], .int .i64 0]) ∧ Below w.heap.size w w'))
    (PB : Hid (∀ w, Calls Tryz.prog 30 #[.string s] w fun r w' => r = .returned (.tuple #[.agg #[.int .i64 k, .int .i64 n, .string u], .int .i64 0]) ∧ Below w.heap.size w w'))
    (LA : Hid (∀ w, Base w → Calls Tryz.prog 27 #[.agg #[.int .i64 k, .int .i64 n, .string u]] w fun r w' => r = .returned (.tuple #[.string s, .int .i64 0]) ∧ Below w.heap.size w w'))
    (hse : ∀ w, (binOp .neq 24 (.agg #[.int .i64 k, .int .i64 n, .string u]) (.agg #[.int .i64 k, .int .i64 n, .string u])).run Tryz.prog w = .ok (.bool false) w)
    (hg1 : ∀ w, (eqGuard .neq 24 (.tmp 23) (.tmp 24) (.agg #[.int .i64 k, .int .i64 n, .string u]) (.agg #[.int .i64 k, .int .i64 n, .string u])).run Tryz.prog w = .ok () w) :
    Calls Tryz.prog 6 #[.string s] w fun r w' => r = .returned (.bool true) ∧ Below w.heap.size w w' := by
  have HB : Hid (Base w) := Lib.hid hw
  go_enter Tryz.func6, Tryz.ntmps6
  go_wp2_with (first | (go_at_call 29; refine (PA.out _ HB.out).mono ?_; rintro e w1 ⟨rfl, b1⟩) | (go_at_call 30; refine (PB.out _).mono ?_; rintro e w2 ⟨rfl, b2⟩; obtain ⟨kk0, kk1, kk2⟩ := box_facts b2; have hB2 := b2.alloc b2.size (vObj k n u); obtain ⟨jj0, jj1, jj2⟩ := box_facts hB2; have hT := b1.trans ((kb1 hB2).mono b1.size)) | (go_at_call 27; refine (LA.out _ (HB.out.below hT)).mono ?_; rintro e w3 ⟨rfl, b3⟩; have hT3 := hT.trans (b3.mono hT.size)) | (go_at_call 10; refine (num_any _ _).mono ?_; rintro e w' ⟨rfl, rfl⟩) | (go_at_call 9; refine (works_any _ (HB.out.below hT3)).mono ?_; rintro e w4 ⟨rfl, b4⟩))
  go_ret
  exact ⟨rfl, hT3.trans (b4.mono hT3.size)⟩

theorem reads_any (s : ByteArray) (w : World) (hw : Base w) :
    Calls Tryz.prog 6 #[.string s] w fun r w' => r = .returned (.bool true) ∧ Below w.heap.size w w' := by
  by_cases hs : 2200 < s.size
  · exact reads_long s w hw hs
  have PA := fun w hw => parse_any s (by omega) w hw
  have PB := fun w => refParse_any s w (by omega)
  by_cases hE : (parseE s.data.toList).1 = 0
  · obtain ⟨hc, hl, h0, h1, hn⟩ := parse_back hE
    unfold rdV at PB
    rw [hE] at PB
    rw [hE] at PA
    refine reads_good _ _ s _ w hw (by omega) (Lib.hid PA) (Lib.hid PB) (Lib.hid fun w hw => ?_) (fun w => ne24 _ _ _ w) (fun w => neg24 _ _ _ _ _ w)
    have hsz := size_of_list (parseE s.data.toList).2.2.2
    have := literal_any (parseE s.data.toList).2.1 (parseE s.data.toList).2.2.1 ⟨(parseE s.data.toList).2.2.2.toArray⟩ w hw (by omega) h0 h1
    have e : litE (parseE s.data.toList).2.1 (parseE s.data.toList).2.2.1 ⟨(parseE s.data.toList).2.2.2.toArray⟩ = (s.data.toList, 0) := by
      unfold litE
      rw [if_pos hc]
      show (litL _ _ (parseE s.data.toList).2.2.2, (0 : Int)) = _
      rw [hl]
    rw [e] at this
    exact this
  · exact reads_bad _ _ _ s _ w hw (by omega) (by simpa using hE) (Lib.hid PA) (Lib.hid PB) (fun w => ne24 _ _ _ w) (fun w => neg24 _ _ _ _ _ w)
end Go.Proofs.YtcngoffmkbobhaaGreatDoor
