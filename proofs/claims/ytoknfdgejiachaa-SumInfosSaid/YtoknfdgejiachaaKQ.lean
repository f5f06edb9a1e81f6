import Derived.Test.YtoknfdgejiachaaKP
import Derived.Test.YtoknfdgejiachaaKB
namespace Go.Proofs.Ytoknfdgejiachaa
open Go.RowKit Go.Shelf

set_option maxHeartbeats 400000 in
theorem numC_1 (A B : Nat) (a b : Int) (ha : In64 a) (hb : In64 b) (w : World) (ca : w.cell? ⟨A, 0, none⟩ = some (.int .i64 a)) (cb : w.cell? ⟨B, 0, none⟩ = some (.int .i64 b)) :
    Calls Try.prog 60 #[.pointer (some ⟨A, 0, none⟩), .pointer (some ⟨B, 0, none⟩)] w fun r w' => r = endN (wholeE 1 a b) ∧ w = w' := by
  have CM := plus_any a b ha hb w
  rw [show wholeE 1 a b = _ from rfl]
  generalize hq : wholeE 1 a b = q at *
  change Calls Try.prog 61 _ w (fun r w' => r = endN (wholeE 1 a b) ∧ w = w') at CM
  rw [hq] at CM
  clear hq ha hb
  by_cases h : q.2 = 0
  · rw [endN_ok h] at *
    have CM := Lib.hid CM
    clear h
    go_enter Try.func60, Try.ntmps60
    go_wp2_with (go_at_call 61; refine CM.out.mono ?_; rintro e w1 ⟨rfl, rfl⟩)
    go_ret
    exact ⟨rfl, rfl⟩
  · rw [endN_no h] at *
    have CM := Lib.hid CM
    clear h
    go_enter Try.func60, Try.ntmps60
    go_wp2_with (go_at_call 61; refine CM.out.mono ?_; rintro e w1 ⟨rfl, rfl⟩)
    exact ⟨rfl, rfl, rfl⟩
set_option maxHeartbeats 400000 in
theorem numC_2 (A B : Nat) (a b : Int) (ha : In64 a) (hb : In64 b) (w : World) (ca : w.cell? ⟨A, 0, none⟩ = some (.int .i64 a)) (cb : w.cell? ⟨B, 0, none⟩ = some (.int .i64 b)) :
    Calls Try.prog 62 #[.pointer (some ⟨A, 0, none⟩), .pointer (some ⟨B, 0, none⟩)] w fun r w' => r = endN (wholeE 2 a b) ∧ w = w' := by
  have CM := minus_any a b ha hb w
  rw [show wholeE 2 a b = _ from rfl]
  generalize hq : wholeE 2 a b = q at *
  change Calls Try.prog 63 _ w (fun r w' => r = endN (wholeE 2 a b) ∧ w = w') at CM
  rw [hq] at CM
  clear hq ha hb
  by_cases h : q.2 = 0
  · rw [endN_ok h] at *
    have CM := Lib.hid CM
    clear h
    go_enter Try.func62, Try.ntmps62
    go_wp2_with (go_at_call 63; refine CM.out.mono ?_; rintro e w1 ⟨rfl, rfl⟩)
    go_ret
    exact ⟨rfl, rfl⟩
  · rw [endN_no h] at *
    have CM := Lib.hid CM
    clear h
    go_enter Try.func62, Try.ntmps62
    go_wp2_with (go_at_call 63; refine CM.out.mono ?_; rintro e w1 ⟨rfl, rfl⟩)
    exact ⟨rfl, rfl, rfl⟩
set_option maxHeartbeats 400000 in
theorem numC_3 (A B : Nat) (a b : Int) (ha : In64 a) (hb : In64 b) (w : World) (ca : w.cell? ⟨A, 0, none⟩ = some (.int .i64 a)) (cb : w.cell? ⟨B, 0, none⟩ = some (.int .i64 b)) :
    Calls Try.prog 64 #[.pointer (some ⟨A, 0, none⟩), .pointer (some ⟨B, 0, none⟩)] w fun r w' => r = endN (wholeE 3 a b) ∧ w = w' := by
  have CM := times_any a b ha hb w
  rw [show wholeE 3 a b = _ from rfl]
  generalize hq : wholeE 3 a b = q at *
  change Calls Try.prog 65 _ w (fun r w' => r = endN (wholeE 3 a b) ∧ w = w') at CM
  rw [hq] at CM
  clear hq ha hb
  by_cases h : q.2 = 0
  · rw [endN_ok h] at *
    have CM := Lib.hid CM
    clear h
    go_enter Try.func64, Try.ntmps64
    go_wp2_with (go_at_call 65; refine CM.out.mono ?_; rintro e w1 ⟨rfl, rfl⟩)
    go_ret
    exact ⟨rfl, rfl⟩
  · rw [endN_no h] at *
    have CM := Lib.hid CM
    clear h
    go_enter Try.func64, Try.ntmps64
    go_wp2_with (go_at_call 65; refine CM.out.mono ?_; rintro e w1 ⟨rfl, rfl⟩)
    exact ⟨rfl, rfl, rfl⟩
set_option maxHeartbeats 400000 in
theorem numC_4 (A B : Nat) (a b : Int) (ha : In64 a) (hb : In64 b) (w : World) (ca : w.cell? ⟨A, 0, none⟩ = some (.int .i64 a)) (cb : w.cell? ⟨B, 0, none⟩ = some (.int .i64 b)) :
    Calls Try.prog 66 #[.pointer (some ⟨A, 0, none⟩), .pointer (some ⟨B, 0, none⟩)] w fun r w' => r = endN (wholeE 4 a b) ∧ w = w' := by
  have CM := quotient_any a b ha hb w
  rw [show wholeE 4 a b = _ from rfl]
  generalize hq : wholeE 4 a b = q at *
  change Calls Try.prog 67 _ w (fun r w' => r = endN (wholeE 4 a b) ∧ w = w') at CM
  rw [hq] at CM
  clear hq ha hb
  by_cases h : q.2 = 0
  · rw [endN_ok h] at *
    have CM := Lib.hid CM
    clear h
    go_enter Try.func66, Try.ntmps66
    go_wp2_with (go_at_call 67; refine CM.out.mono ?_; rintro e w1 ⟨rfl, rfl⟩)
    go_ret
    exact ⟨rfl, rfl⟩
  · rw [endN_no h] at *
    have CM := Lib.hid CM
    clear h
    go_enter Try.func66, Try.ntmps66
    go_wp2_with (go_at_call 67; refine CM.out.mono ?_; rintro e w1 ⟨rfl, rfl⟩)
    exact ⟨rfl, rfl, rfl⟩
set_option maxHeartbeats 400000 in
theorem numC_5 (A B : Nat) (a b : Int) (ha : In64 a) (hb : In64 b) (w : World) (ca : w.cell? ⟨A, 0, none⟩ = some (.int .i64 a)) (cb : w.cell? ⟨B, 0, none⟩ = some (.int .i64 b)) :
    Calls Try.prog 68 #[.pointer (some ⟨A, 0, none⟩), .pointer (some ⟨B, 0, none⟩)] w fun r w' => r = endN (wholeE 5 a b) ∧ w = w' := by
  have CM := left_any a b ha hb w
  rw [show wholeE 5 a b = _ from rfl]
  generalize hq : wholeE 5 a b = q at *
  change Calls Try.prog 69 _ w (fun r w' => r = endN (wholeE 5 a b) ∧ w = w') at CM
  rw [hq] at CM
  clear hq ha hb
  by_cases h : q.2 = 0
  · rw [endN_ok h] at *
    have CM := Lib.hid CM
    clear h
    go_enter Try.func68, Try.ntmps68
    go_wp2_with (go_at_call 69; refine CM.out.mono ?_; rintro e w1 ⟨rfl, rfl⟩)
    go_ret
    exact ⟨rfl, rfl⟩
  · rw [endN_no h] at *
    have CM := Lib.hid CM
    clear h
    go_enter Try.func68, Try.ntmps68
    go_wp2_with (go_at_call 69; refine CM.out.mono ?_; rintro e w1 ⟨rfl, rfl⟩)
    exact ⟨rfl, rfl, rfl⟩
set_option maxHeartbeats 400000 in
theorem numC_15 (A B : Nat) (a b : Int) (ha : In64 a) (hb : In64 b) (w : World) (ca : w.cell? ⟨A, 0, none⟩ = some (.int .i64 a)) (cb : w.cell? ⟨B, 0, none⟩ = some (.int .i64 b)) :
    Calls Try.prog 70 #[.pointer (some ⟨A, 0, none⟩)] w fun r w' => r = endN (wholeE 15 a b) ∧ w = w' := by
  have CM := minus_any 0 a (by decide) ha w
  rw [show wholeE 15 a b = _ from rfl]
  generalize hq : wholeE 15 a b = q at *
  change Calls Try.prog 63 _ w (fun r w' => r = endN (wholeE 15 a b) ∧ w = w') at CM
  rw [hq] at CM
  clear hq ha hb
  by_cases h : q.2 = 0
  · rw [endN_ok h] at *
    have CM := Lib.hid CM
    clear h
    go_enter Try.func70, Try.ntmps70
    go_wp2_with (go_at_call 63; refine CM.out.mono ?_; rintro e w1 ⟨rfl, rfl⟩)
    go_ret
    exact ⟨rfl, rfl⟩
  · rw [endN_no h] at *
    have CM := Lib.hid CM
    clear h
    go_enter Try.func70, Try.ntmps70
    go_wp2_with (go_at_call 63; refine CM.out.mono ?_; rintro e w1 ⟨rfl, rfl⟩)
    exact ⟨rfl, rfl, rfl⟩
set_option maxHeartbeats 400000 in
theorem numC_20 (A B : Nat) (a b : Int) (ha : In64 a) (hb : In64 b) (w : World) (ca : w.cell? ⟨A, 0, none⟩ = some (.int .i64 a)) (cb : w.cell? ⟨B, 0, none⟩ = some (.int .i64 b)) :
    Calls Try.prog 71 #[.pointer (some ⟨A, 0, none⟩)] w fun r w' => r = endN (wholeE 20 a b) ∧ w = w' := by
  have CM := bare_any a ha w
  rw [show wholeE 20 a b = _ from rfl]
  generalize hq : wholeE 20 a b = q at *
  change Calls Try.prog 72 _ w (fun r w' => r = endN (wholeE 20 a b) ∧ w = w') at CM
  rw [hq] at CM
  clear hq ha hb
  by_cases h : q.2 = 0
  · rw [endN_ok h] at *
    have CM := Lib.hid CM
    clear h
    go_enter Try.func71, Try.ntmps71
    go_wp2_with (go_at_call 72; refine CM.out.mono ?_; rintro e w1 ⟨rfl, rfl⟩)
    go_ret
    exact ⟨rfl, rfl⟩
  · rw [endN_no h] at *
    have CM := Lib.hid CM
    clear h
    go_enter Try.func71, Try.ntmps71
    go_wp2_with (go_at_call 72; refine CM.out.mono ?_; rintro e w1 ⟨rfl, rfl⟩)
    exact ⟨rfl, rfl, rfl⟩
/-- Where two numbers lie. -/
theorem ints_two {w : World} {t : Value} {x y : Int} (h : Ints w t [x, y]) : ∃ B off cap, t = .slice (some ⟨B, off, none⟩) 2 cap ∧ (∀ i, i < [x, y].length → w.cell? ⟨B, off + i, none⟩ = some (.int .i64 ([x, y].getD i 0))) := by
  obtain ⟨p, cap, rfl, _, hc⟩ := h
  obtain ⟨B, off, rfl, _⟩ := hc 0 (by simp)
  refine ⟨B, off, cap, rfl, fun i hi => ?_⟩
  obtain ⟨B', off', e, c⟩ := hc i hi
  injection e with e; injection e with e1 e2
  subst e1; subst e2
  exact c
theorem ints_one {w : World} {t : Value} {x : Int} (h : Ints w t [x]) : ∃ B off cap, t = .slice (some ⟨B, off, none⟩) 1 cap ∧ w.cell? ⟨B, off, none⟩ = some (.int .i64 x) := by
  obtain ⟨p, cap, rfl, _, hc⟩ := h
  obtain ⟨B, off, rfl, c⟩ := hc 0 (by simp)
  exact ⟨B, off, cap, rfl, c⟩
set_option maxHeartbeats 400000 in
theorem truC_13 (A : Nat) (t : Value) (x y : Int) (w : World) (ca : w.cell? ⟨A, 0, none⟩ = some t) (hI : Ints w t [x, y]) :
    Calls Try.prog 82 #[.pointer (some ⟨A, 0, none⟩)] w fun r w' => r = .returned (.int .i64 (bothI (bothI 1 x) y)) ∧ w = w' := by
  obtain ⟨B, off, cap, rfl, hc⟩ := ints_two hI
  have CM := Lib.hid (and_some B off cap [x, y] w (by simp) hc)
  clear hc hI
  simp only [List.foldl_cons, List.foldl_nil, List.length_cons, List.length_nil] at CM
  go_enter Try.func82, Try.ntmps82
  go_wp2_with (go_at_call 83; refine CM.out.mono ?_; rintro e w1 ⟨rfl, rfl⟩)
  go_ret
  exact ⟨rfl, rfl⟩
set_option maxHeartbeats 400000 in
theorem truC_14 (A : Nat) (t : Value) (x y : Int) (w : World) (ca : w.cell? ⟨A, 0, none⟩ = some t) (hI : Ints w t [x, y]) :
    Calls Try.prog 84 #[.pointer (some ⟨A, 0, none⟩)] w fun r w' => r = .returned (.int .i64 (eitherI (eitherI 0 x) y)) ∧ w = w' := by
  obtain ⟨B, off, cap, rfl, hc⟩ := ints_two hI
  have CM := Lib.hid (or_some B off cap [x, y] w (by simp) hc)
  clear hc hI
  simp only [List.foldl_cons, List.foldl_nil, List.length_cons, List.length_nil] at CM
  go_enter Try.func84, Try.ntmps84
  go_wp2_with (go_at_call 85; refine CM.out.mono ?_; rintro e w1 ⟨rfl, rfl⟩)
  go_ret
  exact ⟨rfl, rfl⟩
set_option maxHeartbeats 400000 in
theorem truC_16 (A : Nat) (t : Value) (x : Int) (w : World) (ca : w.cell? ⟨A, 0, none⟩ = some t) (hI : Ints w t [x]) :
    Calls Try.prog 86 #[.pointer (some ⟨A, 0, none⟩)] w fun r w' => r = .returned (.int .i64 (notI x)) ∧ w = w' := by
  obtain ⟨B, off, cap, rfl, hc⟩ := ints_one hI
  clear hI
  go_enter Try.func86, Try.ntmps86
  go_wp2_with (go_at_call 87; refine (not_any _ _).mono ?_; rintro e w1 ⟨rfl, rfl⟩)
  go_ret
  exact ⟨rfl, rfl⟩
end Go.Proofs.Ytoknfdgejiachaa
