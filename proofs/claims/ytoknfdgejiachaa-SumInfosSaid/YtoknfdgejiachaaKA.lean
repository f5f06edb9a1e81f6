import Derived.Test.YtoknfdgejiachaaV
import Derived.Test.YtoknfdgejiachaaW
namespace Go.Proofs.Ytoknfdgejiachaa
open Go.RowKit Go.Shelf

/-- What a sum gives up with. -/
abbrev gaveUp (e : Int) : List PanicEntry := [{ v := .iface 80 (.agg #[.int .i64 e]), recovered := false }]
set_option maxHeartbeats 400000 in
theorem need_ok (e : Int) (w : World) :
    Calls Try.prog 25 #[.bool true, .int .i64 e] w fun r w' => r = .returned (.tuple #[]) ∧ w = w' := by
  go_enter Try.func25, Try.ntmps25
  go_wp2
  go_end0
  exact ⟨rfl, rfl⟩
set_option maxHeartbeats 400000 in
theorem need_no (e : Int) (w : World) :
    Calls Try.prog 25 #[.bool false, .int .i64 e] w fun r w' => r = .panicked (gaveUp e) ∧ w = w' := by
  go_enter Try.func25, Try.ntmps25
  go_wp2
  exact ⟨rfl, rfl, rfl⟩
/-- How a call ends that makes a number, or gives up. -/
def endN (p : Int × Int) : Ending := if p.2 = 0 then .returned (.int .i64 p.1) else .panicked (gaveUp p.2)
theorem endN_fit {x : Int} (h : In64 x) : endN (fitE x) = .returned (.int .i64 x) := by rw [fitE_ok h]; rfl
theorem endN_over {x : Int} (h : ¬ In64 x) : endN (fitE x) = .panicked (gaveUp 122) := by rw [fitE_no h]; rfl
theorem wrap_over {x : Int} (h1 : -18446744073709551616 ≤ x) (h2 : x ≤ 18446744073709551615) (h : ¬ In64 x) : (0 ≤ x ∧ IntKind.i64.wrap x = x - 18446744073709551616) ∨ (x < 0 ∧ IntKind.i64.wrap x = x + 18446744073709551616) := by
  unfold In64 at h
  rw [IntWalk.i64_left]
  unfold wrap64
  omega
set_option maxHeartbeats 400000 in
theorem plus_any (a b : Int) (ha : In64 a) (hb : In64 b) (w : World) :
    Calls Try.prog 61 #[.int .i64 a, .int .i64 b] w fun r w' => r = endN (fitE (a + b)) ∧ w = w' := by
  by_cases h : In64 (a + b)
  · rw [endN_fit h]
    unfold In64 at ha hb h
    obtain ⟨ha1, ha2⟩ := ha
    obtain ⟨hb1, hb2⟩ := hb
    obtain ⟨s, hs⟩ : ∃ s, IntKind.i64.wrap (a + b) = s := ⟨_, rfl⟩
    have hw : s = a + b := by rw [← hs]; exact IntWalk.i64_in _ h
    rw [← hw]
    rcases Classical.em (b < 0) with g | g
    · have g1 : s < a := by omega
      clear hw h
      go_enter Try.func61, Try.ntmps61
      go_wp2_with (go_at_call 25; refine (need_ok _ _).mono ?_; rintro e w' ⟨rfl, rfl⟩)
      go_ret
      exact ⟨rfl, rfl⟩
    · have g1 : ¬ s < a := by omega
      clear hw h
      go_enter Try.func61, Try.ntmps61
      go_wp2_with (go_at_call 25; refine (need_ok _ _).mono ?_; rintro e w' ⟨rfl, rfl⟩)
      go_ret
      exact ⟨rfl, rfl⟩
  · rw [endN_over h]
    unfold In64 at ha hb
    obtain ⟨ha1, ha2⟩ := ha
    obtain ⟨hb1, hb2⟩ := hb
    have hw := wrap_over (by omega) (by omega) h
    obtain ⟨s, hs⟩ : ∃ s, IntKind.i64.wrap (a + b) = s := ⟨_, rfl⟩
    rw [hs] at hw
    unfold In64 at h
    rcases Classical.em (b < 0) with g | g
    · have g1 : ¬ s < a := by omega
      clear hw h
      go_enter Try.func61, Try.ntmps61
      go_wp2_with (go_at_call 25; refine (need_no _ _).mono ?_; rintro e w' ⟨rfl, rfl⟩)
      exact ⟨rfl, rfl, rfl⟩
    · have g1 : s < a := by omega
      clear hw h
      go_enter Try.func61, Try.ntmps61
      go_wp2_with (go_at_call 25; refine (need_no _ _).mono ?_; rintro e w' ⟨rfl, rfl⟩)
      exact ⟨rfl, rfl, rfl⟩
set_option maxHeartbeats 400000 in
theorem minus_any (a b : Int) (ha : In64 a) (hb : In64 b) (w : World) :
    Calls Try.prog 63 #[.int .i64 a, .int .i64 b] w fun r w' => r = endN (fitE (a - b)) ∧ w = w' := by
  by_cases h : In64 (a - b)
  · rw [endN_fit h]
    unfold In64 at ha hb h
    obtain ⟨ha1, ha2⟩ := ha
    obtain ⟨hb1, hb2⟩ := hb
    obtain ⟨s, hs⟩ : ∃ s, IntKind.i64.wrap (a - b) = s := ⟨_, rfl⟩
    have hw : s = a - b := by rw [← hs]; exact IntWalk.i64_in _ h
    rw [← hw]
    rcases Classical.em (b < 0) with g | g
    · have g1 : a < s := by omega
      clear hw h
      go_enter Try.func63, Try.ntmps63
      go_wp2_with (go_at_call 25; refine (need_ok _ _).mono ?_; rintro e w' ⟨rfl, rfl⟩)
      go_ret
      exact ⟨rfl, rfl⟩
    · have g1 : ¬ a < s := by omega
      clear hw h
      go_enter Try.func63, Try.ntmps63
      go_wp2_with (go_at_call 25; refine (need_ok _ _).mono ?_; rintro e w' ⟨rfl, rfl⟩)
      go_ret
      exact ⟨rfl, rfl⟩
  · rw [endN_over h]
    unfold In64 at ha hb
    obtain ⟨ha1, ha2⟩ := ha
    obtain ⟨hb1, hb2⟩ := hb
    have hw := wrap_over (by omega) (by omega) h
    obtain ⟨s, hs⟩ : ∃ s, IntKind.i64.wrap (a - b) = s := ⟨_, rfl⟩
    rw [hs] at hw
    unfold In64 at h
    rcases Classical.em (b < 0) with g | g
    · have g1 : ¬ a < s := by omega
      clear hw h
      go_enter Try.func63, Try.ntmps63
      go_wp2_with (go_at_call 25; refine (need_no _ _).mono ?_; rintro e w' ⟨rfl, rfl⟩)
      exact ⟨rfl, rfl, rfl⟩
    · have g1 : a < s := by omega
      clear hw h
      go_enter Try.func63, Try.ntmps63
      go_wp2_with (go_at_call 25; refine (need_no _ _).mono ?_; rintro e w' ⟨rfl, rfl⟩)
      exact ⟨rfl, rfl, rfl⟩
set_option maxHeartbeats 400000 in
theorem bare_any (a : Int) (ha : In64 a) (w : World) :
    Calls Try.prog 72 #[.int .i64 a] w fun r w' => r = endN (fitE a.natAbs) ∧ w = w' := by
  by_cases g : a < 0
  · rw [show ((a.natAbs : Nat) : Int) = 0 - a by omega]
    by_cases h : In64 (0 - a)
    · have C := Lib.hid (minus_any 0 a (by decide) ha)
      rw [endN_fit h] at *
      clear h ha
      go_enter Try.func72, Try.ntmps72
      go_wp2_with (go_at_call 63; refine (C.out _).mono ?_; rintro e w' ⟨rfl, rfl⟩)
      go_ret
      exact ⟨ret_int (by omega), rfl⟩
    · have C := Lib.hid (minus_any 0 a (by decide) ha)
      rw [endN_over h] at *
      clear h ha
      go_enter Try.func72, Try.ntmps72
      go_wp2_with (go_at_call 63; refine (C.out _).mono ?_; rintro e w' ⟨rfl, rfl⟩)
      exact ⟨rfl, rfl, rfl⟩
  · rw [show ((a.natAbs : Nat) : Int) = a by omega, endN_fit ha]
    clear ha
    go_enter Try.func72, Try.ntmps72
    go_wp2
    go_ret
    exact ⟨rfl, rfl⟩
set_option maxHeartbeats 400000 in
theorem left_any (a b : Int) (ha : In64 a) (hb : In64 b) (w : World) :
    Calls Try.prog 69 #[.int .i64 a, .int .i64 b] w fun r w' => r = endN (if b = 0 then (0, 121) else (a.tmod b, 0)) ∧ w = w' := by
  by_cases h : b = 0
  · rw [if_pos h]
    subst h
    clear ha hb
    go_enter Try.func69, Try.ntmps69
    go_wp2_with (go_at_call 25; refine (need_no _ _).mono ?_; rintro e w' ⟨rfl, rfl⟩)
    exact ⟨rfl, rfl, rfl⟩
  · rw [if_neg h]
    have hr : IntKind.i64.wrap (a.tmod b) = a.tmod b := by
      have := (quo_back a b h ha).2
      exact IntWalk.i64_in _ this
    have hn : (b == 0) = false := by simpa using h
    have hn2 : (b != 0) = true := by simpa using h
    clear ha hb
    go_enter Try.func69, Try.ntmps69
    go_wp2_with (go_at_call 25; refine (need_ok _ _).mono ?_; rintro e w' ⟨rfl, rfl⟩)
    go_ret
    exact ⟨by simp [endN, hr], rfl⟩
set_option maxHeartbeats 400000 in
theorem quotient_any (a b : Int) (ha : In64 a) (hb : In64 b) (w : World) :
    Calls Try.prog 67 #[.int .i64 a, .int .i64 b] w fun r w' => r = endN (if b = 0 then (0, 121) else fitE (a.tdiv b)) ∧ w = w' := by
  by_cases h : b = 0
  · rw [if_pos h]
    subst h
    clear ha hb
    go_enter Try.func67, Try.ntmps67
    go_wp2_with (go_at_call 25; refine (need_no _ _).mono ?_; rintro e w' ⟨rfl, rfl⟩)
    exact ⟨rfl, rfl, rfl⟩
  rw [if_neg h]
  have hn : (b == 0) = false := by simpa using h
  have hn2 : (b != 0) = true := by simpa using h
  have m1 : IntKind.i64.wrap (-1) = -1 := by decide
  by_cases g : b = -1
  · subst g
    rw [show a.tdiv (-1) = 0 - a by rw [Int.tdiv_neg, Int.tdiv_one]; omega]
    have C := Lib.hid (minus_any 0 a (by decide) ha)
    by_cases k : In64 (0 - a)
    · rw [endN_fit k] at *
      clear k ha hb
      go_enter Try.func67, Try.ntmps67
      go_wp2_with (first | (go_at_call 25; refine (need_ok _ _).mono ?_; rintro e w' ⟨rfl, rfl⟩) | (go_at_call 63; refine (C.out _).mono ?_; rintro e w' ⟨rfl, rfl⟩))
      go_ret
      exact ⟨ret_int (by omega), rfl⟩
    · rw [endN_over k] at *
      clear k ha hb
      go_enter Try.func67, Try.ntmps67
      go_wp2_with (first | (go_at_call 25; refine (need_ok _ _).mono ?_; rintro e w' ⟨rfl, rfl⟩) | (go_at_call 63; refine (C.out _).mono ?_; rintro e w' ⟨rfl, rfl⟩))
      exact ⟨rfl, rfl, rfl⟩
  · have k := quo_fits a b h ha (fun e => g e.2)
    rw [endN_fit k]
    have hr : IntKind.i64.wrap (a.tdiv b) = a.tdiv b := IntWalk.i64_in _ k
    have hg : (b == -1) = false := by simpa using g
    clear ha hb k
    go_enter Try.func67, Try.ntmps67
    go_wp2_with (go_at_call 25; refine (need_ok _ _).mono ?_; rintro e w' ⟨rfl, rfl⟩)
    go_ret
    exact ⟨ret_int (by first | rfl | simp [hr]), rfl⟩
end Go.Proofs.Ytoknfdgejiachaa
