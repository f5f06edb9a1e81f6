/- Plain facts on sums, differences, products, quotients and rests of numbers of 64 bits: nothing here speaks of a program. No condition. -/
import Derived.WalkKit
namespace Go.Proofs.Ytoknfdgejiachaa

/-- A number of 64 bits. -/
def In64 (x : Int) : Prop := -9223372036854775808 ≤ x ∧ x ≤ 9223372036854775807
instance (x : Int) : Decidable (In64 x) := by unfold In64; exact inferInstance
/-- A number, or ErrOver. -/
def fitE (x : Int) : Int × Int := if In64 x then (x, 0) else (0, 122)
/-- What a number operator makes of two numbers: the number, an error. -/
def wholeE (o a b : Int) : Int × Int :=
  if o = 1 then fitE (a + b) else if o = 2 then fitE (a - b) else if o = 3 then fitE (a * b)
  else if o = 4 then (if b = 0 then (0, 121) else fitE (a.tdiv b))
  else if o = 5 then (if b = 0 then (0, 121) else (a.tmod b, 0))
  else if o = 20 then fitE a.natAbs
  else fitE (0 - a)

theorem fitE_ok {x : Int} (h : In64 x) : fitE x = (x, 0) := by unfold fitE; rw [if_pos h]
theorem fitE_no {x : Int} (h : ¬ In64 x) : fitE x = (0, 122) := by unfold fitE; rw [if_neg h]

theorem rest_bound (a b : Int) (_ : b ≠ 0) : (0 ≤ a → 0 ≤ a.tmod b ∧ a.tmod b ≤ a) ∧ (a ≤ 0 → a ≤ a.tmod b ∧ a.tmod b ≤ 0) := by
  constructor
  · intro h
    obtain ⟨n, rfl⟩ : ∃ n : Nat, a = n := ⟨a.toNat, by omega⟩
    rcases Int.eq_nat_or_neg b with ⟨m, rfl | rfl⟩
    · have := Nat.mod_le n m
      rw [show ((n : Int)).tmod (m : Int) = ((n % m : Nat) : Int) from rfl]
      omega
    · rw [Int.tmod_neg]
      have := Nat.mod_le n m
      rw [show ((n : Int)).tmod (m : Int) = ((n % m : Nat) : Int) from rfl]
      omega
  · intro h
    obtain ⟨n, rfl⟩ : ∃ n : Nat, a = -(n : Int) := ⟨(-a).toNat, by omega⟩
    rcases Int.eq_nat_or_neg b with ⟨m, rfl | rfl⟩
    · have := Nat.mod_le n m
      rw [Int.neg_tmod, show ((n : Int)).tmod (m : Int) = ((n % m : Nat) : Int) from rfl]
      omega
    · have := Nat.mod_le n m
      rw [Int.tmod_neg, Int.neg_tmod, show ((n : Int)).tmod (m : Int) = ((n % m : Nat) : Int) from rfl]
      omega
theorem quo_rest (a b : Int) : a.tdiv b * b + a.tmod b = a := by
  have := Int.mul_tdiv_add_tmod a b
  rw [Int.mul_comm] at this
  exact this
/-- Quotient times divisor lies between 0 and the number. -/
theorem quo_back (a b : Int) (hb : b ≠ 0) (ha : In64 a) : In64 (a.tdiv b * b) ∧ In64 (a.tmod b) := by
  have h1 := rest_bound a b hb
  have h2 := quo_rest a b
  unfold In64 at *
  generalize a.tdiv b * b = p at *
  generalize a.tmod b = r at *
  rcases Int.le_total 0 a with h | h
  · have := h1.1 h
    omega
  · have := h1.2 h
    omega
/-- A quotient is a number of 64 bits, but for one. -/
theorem quo_fits (a b : Int) (hb : b ≠ 0) (ha : In64 a) (h : ¬ (a = -9223372036854775808 ∧ b = -1)) : In64 (a.tdiv b) := by
  have hn : (a.tdiv b).natAbs ≤ a.natAbs := by
    rw [Int.natAbs_tdiv]
    exact Nat.div_le_self _ _
  unfold In64 at *
  by_cases hx : a = -9223372036854775808
  · by_cases h1 : b = 1
    · subst h1
      rw [Int.tdiv_one]
      omega
    · have hb2 : 2 ≤ b.natAbs := by
        have : b ≠ -1 := fun e => h ⟨hx, e⟩
        omega
      have h3 : (a.tdiv b).natAbs ≤ a.natAbs / 2 := by
        rw [Int.natAbs_tdiv]
        exact Nat.div_le_div_left hb2 (by decide)
      have h4 : a.natAbs / 2 ≤ 4611686018427387904 := by subst hx; decide
      omega
  · omega
theorem undo_sum (a b : Int) (ha : In64 a) (h : (wholeE 1 a b).2 = 0) : wholeE 2 (wholeE 1 a b).1 b = (a, 0) := by
  have e1 : wholeE 1 a b = fitE (a + b) := rfl
  rw [e1] at h ⊢
  by_cases hf : In64 (a + b)
  · rw [fitE_ok hf]
    show fitE (a + b - b) = _
    rw [show a + b - b = a by omega, fitE_ok ha]
  · rw [fitE_no hf] at h; cases h
theorem undo_quo (a b : Int) (ha : In64 a) (hb : b ≠ 0) (h : (wholeE 4 a b).2 = 0) : (wholeE 5 a b).2 = 0 ∧ (wholeE 3 (wholeE 4 a b).1 b).2 = 0 ∧ wholeE 1 (wholeE 3 (wholeE 4 a b).1 b).1 (wholeE 5 a b).1 = (a, 0) := by
  have e4 : wholeE 4 a b = fitE (a.tdiv b) := by
    show (if b = 0 then ((0 : Int), (121 : Int)) else fitE (a.tdiv b)) = _
    rw [if_neg hb]
  have e5 : wholeE 5 a b = (a.tmod b, 0) := by
    show (if b = 0 then ((0 : Int), (121 : Int)) else (a.tmod b, 0)) = _
    rw [if_neg hb]
  obtain ⟨hp, hr⟩ := quo_back a b hb ha
  rw [e4] at h ⊢
  by_cases hf : In64 (a.tdiv b)
  · rw [fitE_ok hf, e5]
    show (0 : Int) = 0 ∧ (fitE (a.tdiv b * b)).2 = 0 ∧ fitE ((fitE (a.tdiv b * b)).1 + a.tmod b) = (a, 0)
    rw [fitE_ok hp]
    exact ⟨rfl, rfl, by show fitE (a.tdiv b * b + a.tmod b) = _; rw [quo_rest, fitE_ok ha]⟩
  · rw [fitE_no hf] at h; cases h
theorem over_quo (a b : Int) (ha : In64 a) (hb : b ≠ 0) (h : (wholeE 4 a b).2 ≠ 0) : (wholeE 4 a b).2 = 122 ∧ b = -1 := by
  have e4 : wholeE 4 a b = fitE (a.tdiv b) := by
    show (if b = 0 then ((0 : Int), (121 : Int)) else fitE (a.tdiv b)) = _
    rw [if_neg hb]
  rw [e4] at h ⊢
  by_cases hf : In64 (a.tdiv b)
  · rw [fitE_ok hf] at h; exact absurd rfl h
  · rw [fitE_no hf]
    refine ⟨rfl, ?_⟩
    by_cases hx : a = -9223372036854775808 ∧ b = -1
    · exact hx.2
    · exact absurd (quo_fits a b hb ha hx) hf
end Go.Proofs.Ytoknfdgejiachaa
