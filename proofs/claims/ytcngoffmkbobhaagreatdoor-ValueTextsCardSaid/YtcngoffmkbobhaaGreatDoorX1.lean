import Derived.Test.YtcngoffmkbobhaaGreatDoorN3
import Derived.Test.YtcngoffmkbobhaaGreatDoorQ3
import Derived.Test.YtcngoffmkbobhaaGreatDoorF
namespace Go.Proofs.YtcngoffmkbobhaaGreatDoor
open Go.RowKit

set_option maxRecDepth 100000 in
set_option maxHeartbeats 1000000 in
theorem texts_long (k n : Int) (s : ByteArray) (w : World) (hw : Base w) (h : 1100 < s.size) :
    Calls Tryz.prog 5 #[.agg #[.int .i64 k, .int .i64 n, .string s]] w fun r w' => r = .returned (.bool true) ∧ Below w.heap.size w w' := by
  have HB : Hid (Base (w.alloc (vObj k n s))) := Lib.hid (hw.alloc _)
  go_enter Tryz.func5, Tryz.ntmps5
  go_wp2_with (go_at_call 9; refine (works_any _ HB.out).mono ?_; rintro e w' ⟨rfl, hb⟩)
  go_ret
  exact ⟨rfl, kb1 hb⟩

set_option maxRecDepth 100000 in
set_option maxHeartbeats 1000000 in
theorem texts_bad (k n E : Int) (L s : ByteArray) (w : World) (hw : Base w) (h : s.size ≤ 1100) (hE : (E != 0) = true)
    (LA : Hid (∀ w, Base w → Calls Tryz.prog 27 #[.agg #[.int .i64 k, .int .i64 n, .string s]] w fun r w' => r = .returned (.tuple #[.string L, .int .i64 E]) ∧ Below w.heap.size w w'))
    (LB : Hid (∀ w, Calls Tryz.prog 28 #[.agg #[.int .i64 k, .int .i64 n, .string s]] w fun r w' => r = .returned (.tuple #[.string L, .int .i64 E]) ∧ Below w.heap.size w w')) :
    Calls Tryz.prog 5 #[.agg #[.int .i64 k, .int .i64 n, .string s]] w fun r w' => r = .returned (.bool true) ∧ Below w.heap.size w w' := by
  have HB : Hid (Base (w.alloc (vObj k n s))) := Lib.hid (hw.alloc _)
  go_enter Tryz.func5, Tryz.ntmps5
  go_wp2_with (first | (go_at_call 27; refine (LA.out _ HB.out).mono ?_; rintro e w1 ⟨rfl, b1⟩; obtain ⟨kk0, kk1, kk2⟩ := box_facts b1) | (go_at_call 28; refine (LB.out _).mono ?_; rintro e w2 ⟨rfl, b2⟩; have hB2 := b1.trans (b2.mono b1.size)) | (go_at_call 10; refine (num_any _ _).mono ?_; rintro e w' ⟨rfl, rfl⟩) | (go_at_call 9; refine (works_any _ (HB.out.below hB2)).mono ?_; rintro e w3 ⟨rfl, b3⟩))
  go_ret
  exact ⟨rfl, kb1 (hB2.trans (b3.mono hB2.size))⟩

set_option maxRecDepth 100000 in
set_option maxHeartbeats 1000000 in
theorem texts_good (k n : Int) (L s : ByteArray) (w : World) (hw : Base w) (h : s.size ≤ 1100)
    (LA : Hid (∀ w, Base w → Calls Tryz.prog 27 #[.agg #[.int .i64 k, .int .i64 n, .string s]] w fun r w' => r = .returned (.tuple #[.string L, .int .i64 0]) ∧ Below w.heap.size w w'))
    (LB : Hid (∀ w, Calls Tryz.prog 28 #[.agg #[.int .i64 k, .int .i64 n, .string s]] w fun r w' => r = .returned (.tuple #[.string L, .int .i64 0]) ∧ Below w.heap.size w w'))
    (PA : Hid (∀ w, Base w → Calls Tryz.prog 29 #[.string L] w fun r w' => r = .returned (.tuple #[.agg #[.int .i64 k, .int .i64 n, .string s], .int .i64 0]) ∧ Below w.heap.size w w'))
    (hse : ∀ w, (binOp .eql 24 (.agg #[.int .i64 k, .int .i64 n, .string s]) (.agg #[.int .i64 k, .int .i64 n, .string s])).run Tryz.prog w = .ok (.bool true) w)
    (hg1 : ∀ w, (eqGuard .eql 24 (.tmp 41) (.tmp 42) (.agg #[.int .i64 k, .int .i64 n, .string s]) (.agg #[.int .i64 k, .int .i64 n, .string s])).run Tryz.prog w = .ok () w) :
    Calls Tryz.prog 5 #[.agg #[.int .i64 k, .int .i64 n, .string s]] w fun r w' => r = .returned (.bool true) ∧ Below w.heap.size w w' := by
  have HB : Hid (Base (w.alloc (vObj k n s))) := Lib.hid (hw.alloc _)
  go_enter Tryz.func5, Tryz.ntmps5
  go_wp2_with (first | (go_at_call 27; refine (LA.out _ HB.out).mono ?_; rintro e w1 ⟨rfl, b1⟩; obtain ⟨kk0, kk1, kk2⟩ := box_facts b1) | (go_at_call 28; refine (LB.out _).mono ?_; rintro e w2 ⟨rfl, b2⟩; have hB2 := b1.trans (b2.mono b1.size)) | (go_at_call 29; refine (PA.out _ (HB.out.below hB2)).mono ?_; rintro e w3 ⟨rfl, b3⟩; have hB3 := hB2.trans (b3.mono hB2.size); have hB4 := hB3.alloc hB3.size (vObj k n s); obtain ⟨jj0, jj1, jj2⟩ := box_facts hB4) | (go_at_call 10; refine (num_any _ _).mono ?_; rintro e w' ⟨rfl, rfl⟩) | (go_at_call 9; refine (works_any _ (HB.out.below hB4)).mono ?_; rintro e w5 ⟨rfl, b5⟩))
  go_ret
  exact ⟨rfl, kb1 (hB4.trans (b5.mono hB4.size))⟩

theorem lit_len (k n : Int) (l : List UInt8) (h0 : -9223372036854775808 ≤ n) (h1 : n ≤ 9223372036854775807) : (litL k n l).length ≤ 2 * l.length + 30 := by
  unfold litL
  split
  · simp
  split
  · cases (n == 1)
    · rw [show Lib.formatBool false = [102, 97, 108, 115, 101] by decide +kernel]; simp
    · rw [show Lib.formatBool true = [116, 114, 117, 101] by decide +kernel]; simp
  split
  · unfold Lib.itoa
    split
    · have := dec_len 19 n.natAbs (by omega)
      simp; omega
    · have := dec_len 19 n.toNat (by omega)
      omega
  split
  · have := dbl_le l
    simp; omega
  · have := hexL_len l
    simp; omega

theorem texts_any (k n : Int) (s : ByteArray) (w : World) (hw : Base w) (h0 : -9223372036854775808 ≤ n) (h1 : n ≤ 9223372036854775807) :
    Calls Tryz.prog 5 #[.agg #[.int .i64 k, .int .i64 n, .string s]] w fun r w' => r = .returned (.bool true) ∧ Below w.heap.size w w' := by
  by_cases hs : 1100 < s.size
  · exact texts_long k n s w hw hs
  by_cases hE : (litE k n s).2 = 0
  · obtain ⟨hc, hl⟩ := litE_ok k n s hE
    have LA := fun w hw => literal_any k n s w hw (by omega) h0 h1
    have LB := fun w => refLiteral_any k n s w (by omega) h0 h1
    rw [hE] at LA LB
    refine texts_good k n _ s w hw (by omega) LA LB (fun w hw => ?_) (fun w => ?_) (fun w => eqg24 _ _ _ _ _ _ _ _ w)
    · have hP := parse_any ⟨(litE k n s).1.toArray⟩ ?_ w hw
      · rw [show (⟨(litE k n s).1.toArray⟩ : ByteArray).data.toList = litL k n s.data.toList by rw [hl], parse_lit k n s hc h0 h1] at hP
        exact hP
      · have := lit_len k n s.data.toList h0 h1
        have e := Lib.size_eq s
        rw [hl, Lib.size_eq]
        simp only
        omega
    · rw [eq24]
      simp
  · exact texts_bad k n _ _ s w hw (by omega) (by simpa using hE) (fun w hw => literal_any k n s w hw (by omega) h0 h1) (fun w => refLiteral_any k n s w (by omega) h0 h1)
end Go.Proofs.YtcngoffmkbobhaaGreatDoor
