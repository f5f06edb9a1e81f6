import Derived.Test.YtcngoffmkbobhaaGreatDoorT14
namespace Go.Proofs.YtcngoffmkbobhaaGreatDoor
open Go.RowKit

/-- The literal of a value that may be. -/
def litL (k n : Int) (l : List UInt8) : List UInt8 :=
  if k = 0 then [110, 117, 108, 108] else if k = 1 then Lib.formatBool (n == 1) else if k = 2 then Lib.itoa n else if k = 3 then 39 :: (dbl l ++ [39]) else 120 :: 39 :: (hexL l ++ [39])
/-- What Literal tells of any value: bytes, and an error. -/
def litE (k n : Int) (s : ByteArray) : List UInt8 × Int := if checkV k n s = 0 then (litL k n s.data.toList, 0) else ([], checkV k n s)

set_option maxRecDepth 100000 in
set_option maxHeartbeats 400000 in
theorem literal_no (k n c : Int) (s : ByteArray) (w : World) (hc : Hid (checkV k n s = c)) (hne : (c != 0) = true) :
    Calls Tryz.prog 27 #[.agg #[.int .i64 k, .int .i64 n, .string s]] w fun r w' => r = .returned (.tuple #[.string ⟨#[]⟩, .int .i64 c]) ∧ Below w.heap.size w w' := by
  go_enter Tryz.func27, Tryz.ntmps27
  go_wp2_with (first | (go_at_call 11; refine (check_any _ _ _ _).mono ?_; rintro e w' ⟨rfl, hb⟩; rw [hc.out]))
  go_ret2
  exact ⟨rfl, ((Below.refl _ _).alloc (Nat.le_refl _) _).trans (hb.mono (by simp))⟩

theorem hexL_len (l : List UInt8) : (hexL l).length = 2 * l.length := by
  induction l with
  | nil => rfl
  | cons a l ih => simp [hexL] at ih ⊢; omega

theorem literal_any (k n : Int) (s : ByteArray) (w : World) (hw : Base w) (hs : s.size ≤ 1000000) (h0 : -9223372036854775808 ≤ n) (h1 : n ≤ 9223372036854775807) :
    Calls Tryz.prog 27 #[.agg #[.int .i64 k, .int .i64 n, .string s]] w fun r w' => r = .returned (.tuple #[.string ⟨(litE k n s).1.toArray⟩, .int .i64 (litE k n s).2]) ∧ Below w.heap.size w w' := by
  have hl : s.data.toList.length = s.size := (Lib.size_eq s).symm
  by_cases hc : checkV k n s = 0
  · have e : litE k n s = (litL k n s.data.toList, 0) := by unfold litE; rw [if_pos hc]
    rw [e]
    unfold litL
    by_cases k0 : k = 0
    · subst k0; exact literal0_any n s w hw hs hc
    rw [if_neg k0]
    by_cases k1 : k = 1
    · subst k1; exact literal1_any n s w hw hs hc
    rw [if_neg k1]
    by_cases k2 : k = 2
    · subst k2; exact literal2_any n s w hw hs h0 h1 hc
    rw [if_neg k2]
    by_cases k3 : k = 3
    · subst k3
      have := literal3_any n s w hw hs (by rw [dbl_eq]; have := dbl_le s.data.toList; omega) hc
      rw [dbl_eq] at this
      exact this
    rw [if_neg k3]
    have k4 : k = 4 := by
      unfold checkV at hc
      split at hc
      · cases hc
      · split at hc
        · rename_i hm
          unfold mayB at hm
          rw [if_neg k0, if_neg k1, if_neg k2] at hm
          split at hm
          · rename_i hor; rcases hor with h | h; exact absurd h k3; exact h
          · cases hm
        · cases hc
    subst k4
    exact literal4_any n s w hw hs (by rw [hexL_len]; omega) hc
  · have e : litE k n s = ([], checkV k n s) := by unfold litE; rw [if_neg hc]
    rw [e]
    exact literal_no k n (checkV k n s) s w (Lib.hid rfl) (by simpa using hc)

set_option maxHeartbeats 400000 in
theorem text_any (s : ByteArray) (w : World) :
    Calls Tryz.prog 33 #[.string s] w fun r w' => r = .returned (.agg #[.int .i64 3, .int .i64 0, .string s]) ∧ Below w.heap.size w w' := by
  go_enter Tryz.func33, Tryz.ntmps33
  go_wp2
  go_returns
  exact ⟨rfl, by go_grown⟩
end Go.Proofs.YtcngoffmkbobhaaGreatDoor
