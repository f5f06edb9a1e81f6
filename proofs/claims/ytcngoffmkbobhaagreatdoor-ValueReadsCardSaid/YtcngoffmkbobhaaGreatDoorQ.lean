/- Plain facts: a value's literal is read as the value. Nothing here speaks of a run. -/
import Derived.Test.YtcngoffmkbobhaaGreatDoorT15
import Derived.Lib.ItoaMem
namespace Go.Proofs.YtcngoffmkbobhaaGreatDoor
open Go.RowKit

theorem parseM_app (M : Nat) : ∀ (l1 l2 : List UInt8) (acc v : Nat), Lib.parseUintM M acc l1 = .ok v → Lib.parseUintM M acc (l1 ++ l2) = Lib.parseUintM M v l2
  | [], l2, acc, v, h => by
    simp only [Lib.parseUintM, Lib.NumEnd.ok.injEq] at h
    subst h
    rfl
  | c :: r, l2, acc, v, h => by
    unfold Lib.parseUintM at h
    rw [List.cons_append]
    conv => lhs; unfold Lib.parseUintM
    split at h
    · rename_i h1
      rw [if_pos h1]
      split at h
      · cases h
      · rename_i h2
        rw [if_neg h2]
        split at h
        · cases h
        · rename_i h3
          rw [if_neg h3]
          exact parseM_app M r l2 _ v h
    · cases h

theorem digit_nat (d : Nat) (h : d < 10) : (UInt8.ofNat (48 + d)).toNat = 48 + d := by
  simp
  omega

theorem parse_dec (M : Nat) (hM : M ≤ 18446744073709551615) : ∀ (k u : Nat), u ≤ k → u ≤ M → Lib.parseUintM M 0 (Lib.decDigits u) = .ok u := by
  intro k
  induction k with
  | zero =>
    intro u hu hm
    obtain rfl : u = 0 := by omega
    unfold Lib.decDigits
    rw [dif_pos (by omega)]
    simp [Lib.parseUintM]
  | succ k ih =>
    intro u hu hm
    unfold Lib.decDigits
    by_cases h : u < 10
    · rw [dif_pos h]
      unfold Lib.parseUintM
      rw [digit_nat u h, if_pos (by omega), if_neg (by omega), if_neg (by omega)]
      simp [Lib.parseUintM]
    · rw [dif_neg h, parseM_app M _ _ 0 (u / 10) (ih (u / 10) (by omega) (by omega))]
      unfold Lib.parseUintM
      rw [digit_nat (u % 10) (by omega), if_pos (by omega), if_neg (by omega), if_neg (by omega)]
      simp only [Lib.parseUintM, Lib.NumEnd.ok.injEq]
      omega

theorem dec_head (u : Nat) : ∃ c r, Lib.decDigits u = c :: r ∧ 48 ≤ c.toNat ∧ c.toNat ≤ 57 := by
  have : ∀ (k u : Nat), u ≤ k → ∃ c r, Lib.decDigits u = c :: r ∧ 48 ≤ c.toNat ∧ c.toNat ≤ 57 := by
    intro k
    induction k with
    | zero =>
      intro u hu
      unfold Lib.decDigits
      rw [dif_pos (by omega)]
      exact ⟨_, _, rfl, by rw [digit_nat u (by omega)]; omega, by rw [digit_nat u (by omega)]; omega⟩
    | succ k ih =>
      intro u hu
      unfold Lib.decDigits
      by_cases h : u < 10
      · rw [dif_pos h]
        exact ⟨_, _, rfl, by rw [digit_nat u (by omega)]; omega, by rw [digit_nat u (by omega)]; omega⟩
      · rw [dif_neg h]
        obtain ⟨c, r, e, h1, h2⟩ := ih (u / 10) (by omega)
        rw [e]
        exact ⟨c, r ++ _, rfl, h1, h2⟩
  exact this u u (Nat.le_refl _)

/-- A number's digits are read as the number. -/
theorem parse_itoa (n : Int) (h0 : -9223372036854775808 ≤ n) (h1 : n ≤ 9223372036854775807) : Lib.parseIntB 64 (Lib.itoa n) = .ok n := by
  have e64 : (2 : Nat) ^ 64 - 1 = 18446744073709551615 := by decide
  have e63 : (2 : Nat) ^ (64 - 1) = 9223372036854775808 := by decide
  unfold Lib.itoa
  by_cases h : n < 0
  · rw [if_pos h]
    obtain ⟨c, r, e, _, _⟩ := dec_head n.natAbs
    have hp := parse_dec (2 ^ 64 - 1) (by rw [e64]; omega) n.natAbs n.natAbs (Nat.le_refl _) (by rw [e64]; omega)
    have hB : Lib.parseUintB 64 (Lib.decDigits n.natAbs) = .ok n.natAbs := by
      unfold Lib.parseUintB
      rw [if_neg (by rw [e]; simp), hp]
    unfold Lib.parseIntB
    have e45 : (45 : UInt8).toNat = 45 := rfl
    simp only [e45, or_true, if_true, hB, not_true, false_and, if_false, true_and]
    rw [e63, if_neg (by omega)]
    congr 1
    omega
  · rw [if_neg h]
    obtain ⟨c, r, e, g1, g2⟩ := dec_head n.toNat
    have hp := parse_dec (2 ^ 64 - 1) (by rw [e64]; omega) n.toNat n.toNat (Nat.le_refl _) (by rw [e64]; omega)
    have hB : Lib.parseUintB 64 (c :: r) = .ok n.toNat := by
      unfold Lib.parseUintB
      rw [if_neg (by simp), ← e, hp]
    rw [e]
    unfold Lib.parseIntB
    have n1 : ¬ c.toNat = 43 := by omega
    have n2 : ¬ c.toNat = 45 := by omega
    have l1 : n.toNat < 9223372036854775808 := by omega
    have l2 : (n.toNat : Int) = n := Int.toNat_of_nonneg (by omega)
    have l3 : ¬ (9223372036854775808 ≤ n.toNat) := by omega
    simp only [n1, if_false, n2, not_false_eq_true, true_and, false_and, or_self]
    rw [hB]
    simp only [e63, l3, if_false, l2]

theorem itoa_head (n : Int) : ∃ c r, Lib.itoa n = c :: r ∧ (c = 45 ∨ (48 ≤ c.toNat ∧ c.toNat ≤ 57)) := by
  unfold Lib.itoa
  split
  · exact ⟨_, _, rfl, .inl rfl⟩
  · obtain ⟨c, r, e, h1, h2⟩ := dec_head n.toNat
    exact ⟨c, r, e, .inr ⟨h1, h2⟩⟩

theorem dv_dg : ∀ m : Fin 16, dv (dg m.val).toUInt8 = (m.val : Int) := by decide +kernel
theorem byte_pair (c : UInt8) : (16 * (((c.toNat / 16 : Nat) : Int)).toNat + (((c.toNat % 16 : Nat) : Int)).toNat).toUInt8 = c := by
  rw [Int.toNat_natCast, Int.toNat_natCast, Nat.div_add_mod]
  simp
theorem unhex_hexL : ∀ l : List UInt8, unhex (hexL l) = some l
  | [] => rfl
  | c :: l => by
    have e : hexL (c :: l) = (dg (c.toNat / 16)).toUInt8 :: (dg (c.toNat % 16)).toUInt8 :: hexL l := rfl
    rw [e]
    unfold unhex
    have h1 := dv_dg ⟨c.toNat / 16, by have := c.toNat_lt; omega⟩
    have h2 := dv_dg ⟨c.toNat % 16, by omega⟩
    simp only at h1 h2
    rw [h1, h2, if_neg (by omega), unhex_hexL l, byte_pair c]
    rfl
end Go.Proofs.YtcngoffmkbobhaaGreatDoor
