import Derived.Test.YtcngoffmkbobhaaGreatDoorT5
namespace Go.Proofs.YtcngoffmkbobhaaGreatDoor
open Go.RowKit

/-- The program gives up with this error. -/
abbrev gaveUp (no : Int) : Ending := .panicked [{ v := .iface 79 (.agg #[.int .i64 no]), recovered := false }]

set_option maxHeartbeats 400000 in
theorem need_ok (b : Bool) (no : Int) (hb : b = true) (w : World) :
    Calls Tryz.prog 82 #[.bool b, .int .i64 no] w fun r w' => r = .returned (.tuple #[]) ∧ w = w' := by
  subst hb
  go_enter Tryz.func82, Tryz.ntmps82
  go_wp2
  go_returns
  exact ⟨rfl, rfl⟩
set_option maxHeartbeats 400000 in
theorem need_no (b : Bool) (no : Int) (hb : b = false) (w : World) :
    Calls Tryz.prog 82 #[.bool b, .int .i64 no] w fun r w' => r = gaveUp no ∧ w = w' := by
  subst hb
  go_enter Tryz.func82, Tryz.ntmps82
  go_wp2
  exact ⟨rfl, rfl, rfl⟩
set_option maxRecDepth 100000 in
set_option maxHeartbeats 400000 in
theorem few_ok (s : ByteArray) (hs : s.size ≤ 1000) (w : World) :
    Calls Tryz.prog 66 #[.string s] w fun r w' => r = .returned (.string s) ∧ w = w' := by
  go_enter Tryz.func66, Tryz.ntmps66
  go_wp2_with (go_at_call 82; refine (need_ok _ _ (by first | rfl | (simp; omega)) _).mono ?_; rintro e w' ⟨rfl, rfl⟩)
  go_ret
  exact ⟨rfl, rfl⟩
set_option maxRecDepth 100000 in
set_option maxHeartbeats 400000 in
theorem few_no (s : ByteArray) (hs : 1000 < s.size) (w : World) :
    Calls Tryz.prog 66 #[.string s] w fun r w' => r = gaveUp 3 ∧ w = w' := by
  go_enter Tryz.func66, Tryz.ntmps66
  go_wp2_with (go_at_call 82; refine (need_no _ _ (by first | rfl | assumption | (simp; omega)) _).mono ?_; rintro e w' ⟨rfl, rfl⟩)
  exact ⟨rfl, rfl, rfl⟩

/-- The place of a letter among the sixteen digits. -/
def dv (c : UInt8) : Int := Lib.indexByte DIG.data.toList c
theorem dv_cases : ∀ c : Fin 256, dv c.val.toUInt8 = -1 ∨ (0 ≤ dv c.val.toUInt8 ∧ dv c.val.toUInt8 < 16) := by decide +kernel
theorem dv_lo (c : UInt8) : dv c = -1 ∨ (0 ≤ dv c ∧ dv c < 16) := by
  have h := dv_cases ⟨c.toNat, c.toNat_lt⟩
  simpa using h

set_option maxRecDepth 100000 in
set_option maxHeartbeats 400000 in
theorem digit_ok (c : UInt8) (d : Nat) (hd : Hid (dv c = d)) (hc2 : d < 16) (w : World) :
    Calls Tryz.prog 84 #[.int .u8 c.toNat] w fun r w' => r = .returned (.int .u8 d) ∧ w = w' := by
  go_enter Tryz.func84, Tryz.ntmps84
  go_wp2_with (first | (go_at_call 99; refine (Tryz.strings_IndexByte _ _ _).mono ?_; rintro e w' ⟨rfl, hw⟩; obtain rfl := hw.symm; have e1 : Lib.indexByte (⟨#[48, 49, 50, 51, 52, 53, 54, 55, 56, 57, 97, 98, 99, 100, 101, 102]⟩ : ByteArray).data.toList (c.toNat : Int).toNat.toUInt8 = dv c := by { unfold dv DIG; simp }; rw [e1, hd.out]) | (go_at_call 82; refine (need_ok _ _ (by first | rfl | (simp; omega)) _).mono ?_; rintro e w' ⟨rfl, rfl⟩))
  go_ret
  exact ⟨rfl, rfl⟩
set_option maxRecDepth 100000 in
set_option maxHeartbeats 400000 in
theorem digit_no (c : UInt8) (hc : dv c = -1) (w : World) :
    Calls Tryz.prog 84 #[.int .u8 c.toNat] w fun r w' => r = gaveUp 110 ∧ w = w' := by
  go_enter Tryz.func84, Tryz.ntmps84
  go_wp2_with (first | (go_at_call 99; refine (Tryz.strings_IndexByte _ _ _).mono ?_; rintro e w' ⟨rfl, hw⟩; obtain rfl := hw.symm; have e1 : Lib.indexByte (⟨#[48, 49, 50, 51, 52, 53, 54, 55, 56, 57, 97, 98, 99, 100, 101, 102]⟩ : ByteArray).data.toList (c.toNat : Int).toNat.toUInt8 = -1 := by { rw [← hc]; unfold dv DIG; simp }; rw [e1]) | (go_at_call 82; refine (need_no _ _ (by first | rfl | assumption | (simp; omega)) _).mono ?_; rintro e w' ⟨rfl, rfl⟩))
  exact ⟨rfl, rfl, rfl⟩

/-- What CutPrefix leaves. -/
def restOf (s p : ByteArray) : ByteArray := ⟨(Lib.trimPrefix s.data.toList p.data.toList).toArray⟩

set_option maxRecDepth 100000 in
set_option maxHeartbeats 400000 in
theorem take_any (b : Nat) (s p : ByteArray) (w : World) (h : w.cell? ⟨b, 0, none⟩ = some (.string s)) (hf : w.frozen? ⟨b, 0, none⟩ = false) :
    Calls Tryz.prog 65 #[.pointer (some ⟨b, 0, none⟩), .string p] w fun r w' => r = .returned (.bool (Lib.hasPrefix s.data.toList p.data.toList)) ∧ w.setCell ⟨b, 0, none⟩ (.string (restOf s p)) = w' := by
  go_enter Tryz.func65, Tryz.ntmps65
  go_wp2_with (go_at_call 81; refine (Tryz.strings_CutPrefix _ _ _).mono ?_; rintro e w' ⟨rfl, hw⟩; obtain rfl := hw.symm)
  go_ret
  exact ⟨rfl, rfl⟩

set_option maxRecDepth 100000 in
set_option maxHeartbeats 400000 in
theorem body_ok (b : Nat) (s : ByteArray) (w : World) (hs : s.size ≤ 1000000) (h : w.cell? ⟨b, 0, none⟩ = some (.string s)) (hc : Hid (Lib.hasSuffix s.data.toList [39] = true)) :
    Calls Tryz.prog 68 #[.pointer (some ⟨b, 0, none⟩)] w fun r w' => r = .returned (.string ⟨(Lib.trimSuffix s.data.toList [39]).toArray⟩) ∧ w = w' := by
  go_enter Tryz.func68, Tryz.ntmps68
  go_wp2_with (first | (go_at_call 83; refine (Tryz.strings_CutSuffix _ _ _ (by omega)).mono ?_; rintro e w' ⟨rfl, hw⟩; obtain rfl := hw.symm; rw [show (⟨#[39]⟩ : ByteArray).data.toList = [39] from rfl, hc.out]) | (go_at_call 82; refine (need_ok _ _ (by first | rfl | (simp; omega)) _).mono ?_; rintro e w' ⟨rfl, rfl⟩))
  go_ret
  exact ⟨rfl, rfl⟩
set_option maxRecDepth 100000 in
set_option maxHeartbeats 400000 in
theorem body_no (b : Nat) (s : ByteArray) (w : World) (hs : s.size ≤ 1000000) (h : w.cell? ⟨b, 0, none⟩ = some (.string s)) (hc : Hid (Lib.hasSuffix s.data.toList [39] = false)) :
    Calls Tryz.prog 68 #[.pointer (some ⟨b, 0, none⟩)] w fun r w' => r = gaveUp 110 ∧ w = w' := by
  go_enter Tryz.func68, Tryz.ntmps68
  go_wp2_with (first | (go_at_call 83; refine (Tryz.strings_CutSuffix _ _ _ (by omega)).mono ?_; rintro e w' ⟨rfl, hw⟩; obtain rfl := hw.symm; rw [show (⟨#[39]⟩ : ByteArray).data.toList = [39] from rfl, hc.out]) | (go_at_call 82; refine (need_no _ _ (by first | rfl | assumption | (simp; omega)) _).mono ?_; rintro e w' ⟨rfl, rfl⟩))
  exact ⟨rfl, rfl, rfl⟩

theorem bw_below (w : World) (t : ByteArray) : Below w.heap.size w (Lib.bytesWorld w 5 t) :=
  ⟨rfl, rfl, rfl, by rw [Lib.bytesWorld_size]; omega, fun k hk => Lib.bytesWorld_at_old w 5 t k hk⟩
theorem bw_either {w w' : World} (h : w' = w ∨ ∃ t, w' = Lib.bytesWorld w 5 t) : Below w.heap.size w w' := by
  rcases h with rfl | ⟨t, rfl⟩
  · exact Below.refl _ _
  · exact bw_below w t

set_option maxRecDepth 100000 in
set_option maxHeartbeats 400000 in
theorem number_ok (s : ByteArray) (n : Int) (w : World) (hw : Base w) (hs : s.size ≤ 1000000) (h0 : -9223372036854775808 ≤ n) (h1 : n ≤ 9223372036854775807) (hc : Lib.parseIntB 64 s.data.toList = .ok n) (hn : Hid ((⟨(Lib.itoa n).toArray⟩ : ByteArray) = s)) :
    Calls Tryz.prog 70 #[.string s] w fun r w' => r = .returned (.int .i64 n) ∧ Below w.heap.size w w' := by
  have HC := Lib.hid hc
  clear hc
  go_enter Tryz.func70, Tryz.ntmps70
  go_wp2_with (first | (go_at_call 85; refine (Tryz.strconv_ParseInt_10_at64_ok s (by omega) n HC.out _).mono ?_; rintro e w' ⟨rfl, hq⟩; have hb := bw_either hq; clear hq; have hB := hw.below hb) | (go_at_call 47; refine (Tryz.strconv_FormatInt_10 n h0 h1 _ hB.tab).mono ?_; rintro e w2 ⟨rfl, hq⟩; have hb2 : Below w'.heap.size w' w2 := by { obtain ⟨k, os, rfl⟩ := hq; exact Lib.below_grow _ _ (Nat.le_refl _) _ _ }; clear hq; rw [hn.out]) | (go_at_call 82; refine (need_ok _ _ (by first | rfl | (simp; omega)) _).mono ?_; rintro e w3 ⟨rfl, rfl⟩))
  go_ret
  exact ⟨rfl, hb.trans (hb2.mono hb.size)⟩
set_option maxRecDepth 100000 in
set_option maxHeartbeats 400000 in
theorem number_unlike (s : ByteArray) (n : Int) (w : World) (hw : Base w) (hs : s.size ≤ 1000000) (h0 : -9223372036854775808 ≤ n) (h1 : n ≤ 9223372036854775807) (hc : Lib.parseIntB 64 s.data.toList = .ok n) (hn : (Lib.itoa n == s.toList) = false) :
    Calls Tryz.prog 70 #[.string s] w fun r w' => r = gaveUp 110 ∧ Below w.heap.size w w' := by
  have HC := Lib.hid hc
  clear hc
  go_enter Tryz.func70, Tryz.ntmps70
  go_wp2_with (first | (go_at_call 85; refine (Tryz.strconv_ParseInt_10_at64_ok s (by omega) n HC.out _).mono ?_; rintro e w' ⟨rfl, hq⟩; have hb := bw_either hq; clear hq; have hB := hw.below hb) | (go_at_call 47; refine (Tryz.strconv_FormatInt_10 n h0 h1 _ hB.tab).mono ?_; rintro e w2 ⟨rfl, hq⟩; have hb2 : Below w'.heap.size w' w2 := by { obtain ⟨k, os, rfl⟩ := hq; exact Lib.below_grow _ _ (Nat.le_refl _) _ _ }; clear hq) | (go_at_call 82; refine (need_no _ _ (by first | rfl | assumption | (simp; omega)) _).mono ?_; rintro e w3 ⟨rfl, rfl⟩))
  exact ⟨rfl, rfl, hb.trans (hb2.mono hb.size)⟩
/-- ParseInt at a text that is no number at all. -/
theorem parse_none (s : ByteArray) (hlim : s.size ≤ 281474976710656) (e : Lib.NumEnd Int) (h : Lib.parseIntB 64 s.data.toList = e) (h1 : ∀ n, e ≠ .ok n) (h2 : e ≠ .range) (tp : TypeId) (p : Value) (w : World) (hvar : w.var? Tryz.prog "strconv.ErrSyntax" = some #[.iface tp p]) :
    Calls Tryz.prog 85 #[.string s, .int .i64 10, .int .i64 64] w fun e w' => ∃ N, e = .returned (.tuple #[.int .i64 0, .iface 145 (.pointer (some ⟨N, 0, none⟩))]) ∧ Below w.heap.size w w' := by
  cases e with
  | ok n => exact absurd rfl (h1 n)
  | range => exact absurd rfl h2
  | _ => exact (Any.strconv_ParseInt_10_at64_syntax_var Tryz.laysC174 s hlim h tp p w hvar).mono fun e w' hq => by
           obtain ⟨N, h3, -, -, h4⟩ := hq
           exact ⟨N, h3, h4⟩
set_option maxRecDepth 100000 in
set_option maxHeartbeats 400000 in
theorem number_none (s : ByteArray) (e : Lib.NumEnd Int) (w : World) (hw : Base w) (hs : s.size ≤ 1000000) (hc : Hid (Lib.parseIntB 64 s.data.toList = e)) (h1 : Hid (∀ n, e ≠ .ok n)) (h2 : Hid (e ≠ .range)) :
    Calls Tryz.prog 70 #[.string s] w fun r w' => r = gaveUp 110 ∧ Below w.heap.size w w' := by
  obtain ⟨tp, p, hv⟩ := hw.syn
  have HV := Lib.hid hv
  clear hv
  go_enter Tryz.func70, Tryz.ntmps70
  go_wp2_with (first | (go_at_call 85; refine (parse_none s (by omega) e hc.out h1.out h2.out tp p _ HV.out).mono ?_; rintro e w' ⟨N, rfl, hb⟩) | (go_at_call 82; refine (need_no _ _ (by first | rfl | (simp; omega)) _).mono ?_; rintro e w3 ⟨rfl, rfl⟩))
  exact ⟨rfl, rfl, hb⟩
set_option maxRecDepth 100000 in
set_option maxHeartbeats 400000 in
theorem number_range (s : ByteArray) (w : World) (hw : Base w) (hs : s.size ≤ 1000000) (hc : Lib.parseIntB 64 s.data.toList = .range) :
    Calls Tryz.prog 70 #[.string s] w fun r w' => r = gaveUp 110 ∧ Below w.heap.size w w' := by
  have HC := Lib.hid hc
  clear hc
  obtain ⟨tp, p, hv⟩ := hw.rng
  have HV := Lib.hid hv
  clear hv
  go_enter Tryz.func70, Tryz.ntmps70
  go_wp2_with (first | (go_at_call 85; refine (Tryz.strconv_ParseInt_10_at64_range_var s (by omega) HC.out tp p _ HV.out).mono ?_; rintro e w' ⟨N, rfl, -, -, hb⟩) | (go_at_call 82; refine (need_no _ _ (by first | rfl | assumption | (simp; omega)) _).mono ?_; rintro e w3 ⟨rfl, rfl⟩))
  exact ⟨rfl, rfl, hb⟩
end Go.Proofs.YtcngoffmkbobhaaGreatDoor
