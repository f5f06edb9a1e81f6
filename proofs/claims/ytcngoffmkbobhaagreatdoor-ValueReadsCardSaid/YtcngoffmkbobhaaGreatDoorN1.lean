import Derived.Test.YtcngoffmkbobhaaGreatDoorQ2
import Derived.Lib.SmallJoins
namespace Go.Proofs.YtcngoffmkbobhaaGreatDoor
open Go.RowKit

theorem dig_cut : ∀ d : Fin 10, ((⟨#[48, 49, 50, 51, 52, 53, 54, 55, 56, 57, 97, 98, 99, 100, 101, 102]⟩ : ByteArray).extract d.val (d.val + 1)).data.toList = [UInt8.ofNat (48 + d.val)] := by decide +kernel
theorem dig_join (d : Nat) (h : d < 10) (l : List UInt8) : (⟨#[48, 49, 50, 51, 52, 53, 54, 55, 56, 57, 97, 98, 99, 100, 101, 102]⟩ : ByteArray).extract d (d + 1) ++ (⟨l.toArray⟩ : ByteArray) = ⟨(UInt8.ofNat (48 + d) :: l).toArray⟩ := by
  apply Go.WideShapes.bytes_inj
  rw [Go.Joins.data_append, dig_cut ⟨d, h⟩]
  simp
theorem minus_join (l : List UInt8) : (⟨#[45]⟩ : ByteArray) ++ (⟨l.toArray⟩ : ByteArray) = ⟨(45 :: l).toArray⟩ := by
  apply Go.WideShapes.bytes_inj
  rw [Go.Joins.data_append]
  simp
theorem dec_small {u : Nat} (h : u < 10) : Lib.decDigits u = [UInt8.ofNat (48 + u)] := by unfold Lib.decDigits; rw [dif_pos h]
theorem dec_big {u : Nat} (h : ¬ u < 10) : Lib.decDigits u = Lib.decDigits (u / 10) ++ [UInt8.ofNat (48 + u % 10)] := by conv => lhs; unfold Lib.decDigits; rw [dif_neg h]

/-- What the digits are behind a round, and when it was the last one. -/
theorem dec_round {u p : Nat} {l : List UInt8} (h : Lib.decDigits u = Lib.decDigits p ++ l) (hp : p / 10 ≠ 0) : Lib.decDigits u = Lib.decDigits (p / 10) ++ (UInt8.ofNat (48 + p % 10) :: l) := by
  rw [h, dec_big (show ¬ p < 10 by omega)]
  simp
theorem dec_last {u p : Nat} {l : List UInt8} (h : Lib.decDigits u = Lib.decDigits p ++ l) (hp : p / 10 = 0) : UInt8.ofNat (48 + p % 10) :: l = Lib.decDigits u := by
  rw [h, dec_small (show p < 10 by omega), Nat.mod_eq_of_lt (by omega)]
  rfl

theorem dec_len : ∀ (k u : Nat), u < 10 ^ (k + 1) → (Lib.decDigits u).length ≤ k + 1 := by
  intro k
  induction k with
  | zero =>
    intro u hu
    unfold Lib.decDigits
    rw [dif_pos (by omega)]
    simp
  | succ k ih =>
    intro u hu
    unfold Lib.decDigits
    by_cases h : u < 10
    · rw [dif_pos h]; simp
    · rw [dif_neg h]
      have := ih (u / 10) (by rw [Nat.pow_succ] at hu; omega)
      simp
      omega
theorem num_mod (x : Int) : x.tmod 10 = if x < 0 then -((x.natAbs % 10 : Nat) : Int) else ((x.natAbs % 10 : Nat) : Int) := by
  rcases Int.eq_nat_or_neg x with ⟨m, rfl | rfl⟩
  · rw [if_neg (by omega), Int.natAbs_natCast]
    rfl
  · rw [Int.neg_tmod, Int.natAbs_neg, Int.natAbs_natCast]
    by_cases hm : m = 0
    · subst hm; decide
    · rw [if_pos (by omega)]
      rfl
theorem num_div (x : Int) : (x.tdiv 10).natAbs = x.natAbs / 10 := by
  rcases Int.eq_nat_or_neg x with ⟨m, rfl | rfl⟩
  · rw [Int.natAbs_natCast]
    exact Int.natAbs_natCast (m / 10)
  · rw [Int.neg_tdiv, Int.natAbs_neg, Int.natAbs_neg, Int.natAbs_natCast]
    exact Int.natAbs_natCast (m / 10)
theorem num_neg (x : Int) (h : x.tmod 10 < 0) : wrap64 (-x.tmod 10) = ((x.natAbs % 10 : Nat) : Int) := by
  have e := num_mod x
  have : -x.tmod 10 = ((x.natAbs % 10 : Nat) : Int) := by
    rw [e] at h ⊢
    by_cases hx : x < 0
    · rw [if_pos hx]; omega
    · rw [if_neg hx] at h; omega
  rw [this]
  exact IntWalk.wrap64_in _ ⟨by omega, by omega⟩
theorem num_pos (x : Int) (h : ¬ x.tmod 10 < 0) : x.tmod 10 = ((x.natAbs % 10 : Nat) : Int) := by
  have e := num_mod x
  rw [e] at h ⊢
  by_cases hx : x < 0
  · rw [if_pos hx] at h ⊢; omega
  · rw [if_neg hx]
theorem num_quo (x : Int) (b0 : -9223372036854775808 ≤ x) (b1 : x ≤ 9223372036854775807) : wrap64 (x.tdiv 10) = x.tdiv 10 := by
  have := num_div x
  exact IntWalk.wrap64_in _ ⟨by omega, by omega⟩
theorem num_up (d : Nat) (h : d < 10) : wrap64 ((d : Int) + 1) = (d : Int) + 1 := IntWalk.wrap64_in _ ⟨by omega, by omega⟩
theorem quo_low (x : Int) (b0 : -9223372036854775808 ≤ x) (b1 : x ≤ 9223372036854775807) : -9223372036854775808 ≤ x.tdiv 10 ∧ x.tdiv 10 ≤ 9223372036854775807 := by
  have := num_div x
  omega

theorem num_end {n x : Int} {l : List UInt8} {d : Nat} (hz : (x.tdiv 10 == 0) = true) (he : Lib.decDigits n.natAbs = Lib.decDigits x.natAbs ++ l) (hd : d = x.natAbs % 10) : (⟨#[48, 49, 50, 51, 52, 53, 54, 55, 56, 57, 97, 98, 99, 100, 101, 102]⟩ : ByteArray).extract d (d + 1) ++ (⟨l.toArray⟩ : ByteArray) = ⟨(Lib.decDigits n.natAbs).toArray⟩ := by
  have hx := num_div x
  have hz' : x.tdiv 10 = 0 := by simpa using hz
  rw [hz'] at hx
  rw [dig_join d (by omega), hd, dec_last he (by simpa using hx.symm)]
theorem num_end_neg {n x : Int} {l : List UInt8} {d : Nat} (hn : n < 0) (hz : (x.tdiv 10 == 0) = true) (he : Lib.decDigits n.natAbs = Lib.decDigits x.natAbs ++ l) (hd : d = x.natAbs % 10) : (⟨#[45]⟩ : ByteArray) ++ ((⟨#[48, 49, 50, 51, 52, 53, 54, 55, 56, 57, 97, 98, 99, 100, 101, 102]⟩ : ByteArray).extract d (d + 1) ++ (⟨l.toArray⟩ : ByteArray)) = ⟨(Lib.itoa n).toArray⟩ := by
  rw [num_end hz he hd, minus_join]
  unfold Lib.itoa
  rw [if_pos hn]
theorem num_end_pos {n x : Int} {l : List UInt8} {d : Nat} (hn : 0 ≤ n) (hz : (x.tdiv 10 == 0) = true) (he : Lib.decDigits n.natAbs = Lib.decDigits x.natAbs ++ l) (hd : d = x.natAbs % 10) : (⟨#[48, 49, 50, 51, 52, 53, 54, 55, 56, 57, 97, 98, 99, 100, 101, 102]⟩ : ByteArray).extract d (d + 1) ++ (⟨l.toArray⟩ : ByteArray) = ⟨(Lib.itoa n).toArray⟩ := by
  rw [num_end hz he hd]
  unfold Lib.itoa
  rw [if_neg (by omega), show n.natAbs = n.toNat by omega]
theorem num_next {n x : Int} {l : List UInt8} {d : Nat} (hz : (x.tdiv 10 == 0) = false) (he : Lib.decDigits n.natAbs = Lib.decDigits x.natAbs ++ l) (hd : d = x.natAbs % 10) (hl : x.natAbs / 10 ≠ 0 → l.length + 1 ≤ 20) (hN : (x.tdiv 10).natAbs = x.natAbs / 10 ∧ -9223372036854775808 ≤ x.tdiv 10 ∧ x.tdiv 10 ≤ 9223372036854775807) :
    (∃ (l1 : List UInt8) (x1 : Int), Value.string ((⟨#[48, 49, 50, 51, 52, 53, 54, 55, 56, 57, 97, 98, 99, 100, 101, 102]⟩ : ByteArray).extract d (d + 1) ++ (⟨l.toArray⟩ : ByteArray)) = .string ⟨l1.toArray⟩ ∧ Value.int .i64 (x.tdiv 10) = .int .i64 x1 ∧ Lib.decDigits n.natAbs = Lib.decDigits x1.natAbs ++ l1 ∧ l1.length ≤ 20 ∧ -9223372036854775808 ≤ x1 ∧ x1 ≤ 9223372036854775807) ∧ (x.tdiv 10).natAbs < x.natAbs := by
  have hz' : ¬ x.tdiv 10 = 0 := by simpa using hz
  have h0 : x.natAbs / 10 ≠ 0 := by have := hN.1; omega
  refine ⟨⟨UInt8.ofNat (48 + d) :: l, x.tdiv 10, by rw [dig_join d (by omega)], rfl, ?_, by simpa using hl h0, hN.2.1, hN.2.2⟩, by have := hN.1; omega⟩
  rw [hN.1, hd]
  exact dec_round he h0

set_option maxRecDepth 100000 in
set_option maxHeartbeats 400000 in
theorem number_any (n : Int) (w : World) (h0 : -9223372036854775808 ≤ n) (h1 : n ≤ 9223372036854775807) :
    Calls Tryz.prog 52 #[.int .i64 n] w fun r w' => r = .returned (.string ⟨(Lib.itoa n).toArray⟩) ∧ w = w' := by
  go_enter Tryz.func52, Tryz.ntmps52
  go_wp2
  go_loopw [3, 4, 5] (fun s m _ wr => ∃ (l : List UInt8) (x : Int), s = .string ⟨l.toArray⟩ ∧ m = .int .i64 x ∧ Lib.decDigits n.natAbs = Lib.decDigits x.natAbs ++ l ∧ l.length ≤ 20 ∧ -9223372036854775808 ≤ x ∧ x ≤ 9223372036854775807 ∧ w = wr) (fun _ m _ _ => (intOf m).natAbs)
  case atStart => exact ⟨[], n, rfl, rfl, by simp, by simp, h0, h1, rfl⟩
  case round =>
    obtain ⟨l, x, rfl, rfl, he, hll, b0, b1, rfl⟩ := hrel
    have hq : wrap64 (x.tdiv 10) = x.tdiv 10 := num_quo x b0 b1
    have HN : Hid ((x.tdiv 10).natAbs = x.natAbs / 10 ∧ -9223372036854775808 ≤ x.tdiv 10 ∧ x.tdiv 10 ≤ 9223372036854775807) := ⟨num_div x, quo_low x b0 b1⟩
    have HL : Hid (x.natAbs / 10 ≠ 0 → l.length + 1 ≤ 20) := fun hp => by
      have e := congrArg List.length (dec_round he hp)
      have := dec_len 19 n.natAbs (by omega)
      simp at e
      omega
    have HE := Lib.hid he
    have hx := Lib.hid (show n < 0 ↔ n < 0 from Iff.rfl)
    clear he b0 b1
    by_cases hneg : x.tmod 10 < 0
    · have hw := num_neg x hneg
      have hd1 : (0 : Int) ≤ ((x.natAbs % 10 : Nat) : Int) := by omega
      have hd2 := num_up (x.natAbs % 10) (by omega)
      have hd3 : ((x.natAbs % 10 : Nat) : Int) + 1 ≤ 16 := by omega
      have hd4 : ((x.natAbs % 10 : Nat) : Int) ≤ ((x.natAbs % 10 : Nat) : Int) + 1 := by omega
      have HX : Hid (∃ d, d = x.natAbs % 10 ∧ d < 10) := ⟨_, rfl, by omega⟩
      obtain ⟨d, hd, hd10⟩ := HX.out
      rw [← hd] at hw hd1 hd2 hd3 hd4
      have HD := Lib.hid hd
      clear hd
      go_wp2
      · go_ret
        exact ⟨ret_str (num_end_neg ‹n < 0› ‹(x.tdiv 10 == 0) = true› HE.out HD.out), rfl⟩
      · go_ret
        exact ⟨ret_str (num_end_pos ‹0 ≤ n› ‹(x.tdiv 10 == 0) = true› HE.out HD.out), rfl⟩
      · obtain ⟨⟨l1, x1, e1, e2, e3, e4, e5, e6⟩, hms⟩ := num_next ‹(x.tdiv 10 == 0) = false› HE.out HD.out HL.out HN.out
        rw [hq]
        exact ⟨⟨l1, x1, e1, e2, e3, e4, e5, e6, trivial⟩, hms⟩
    · have hw := num_pos x hneg
      have hd1 : (0 : Int) ≤ ((x.natAbs % 10 : Nat) : Int) := by omega
      have hd2 := num_up (x.natAbs % 10) (by omega)
      have hd3 : ((x.natAbs % 10 : Nat) : Int) + 1 ≤ 16 := by omega
      have hd4 : ((x.natAbs % 10 : Nat) : Int) ≤ ((x.natAbs % 10 : Nat) : Int) + 1 := by omega
      have HX : Hid (∃ d, d = x.natAbs % 10 ∧ d < 10) := ⟨_, rfl, by omega⟩
      obtain ⟨d, hd, hd10⟩ := HX.out
      rw [← hd] at hw hd1 hd2 hd3 hd4
      rw [hw] at hneg
      have HD := Lib.hid hd
      clear hd
      go_wp2
      · go_ret
        exact ⟨ret_str (num_end_neg ‹n < 0› ‹(x.tdiv 10 == 0) = true› HE.out HD.out), rfl⟩
      · go_ret
        exact ⟨ret_str (num_end_pos ‹0 ≤ n› ‹(x.tdiv 10 == 0) = true› HE.out HD.out), rfl⟩
      · obtain ⟨⟨l1, x1, e1, e2, e3, e4, e5, e6⟩, hms⟩ := num_next ‹(x.tdiv 10 == 0) = false› HE.out HD.out HL.out HN.out
        rw [hq]
        exact ⟨⟨l1, x1, e1, e2, e3, e4, e5, e6, trivial⟩, hms⟩
end Go.Proofs.YtcngoffmkbobhaaGreatDoor
