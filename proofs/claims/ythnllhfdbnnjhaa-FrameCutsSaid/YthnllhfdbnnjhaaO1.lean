/- The document's answers for numbers' bytes and sums as plain functions, and what follows from them; nothing here speaks of a program. No condition. -/
import Derived.WalkKit
namespace Go.Proofs.Ythnllhfdbnnjhaa

/-- A number's bytes, of at most so many more. -/
def numF : Nat → Nat → List Nat
  | 0, n => [n]
  | f + 1, n => if n < 128 then [n] else (n % 128 + 128) :: numF f (n / 128)
/-- The number with whose bytes these begin, how many they are, an error. -/
def readAt : List Nat → Nat → Nat → Nat → Nat × Nat × Int
  | [], _, _, _ => (0, 0, 130)
  | b :: t, i, n, u =>
    if 10 ≤ i then (0, 0, 130)
    else if i = 9 ∧ 1 < b then (0, 0, 130)
    else if b < 128 then (if b % 128 = 0 ∧ 0 < i then (0, 0, 130) else (n + b % 128 * u, i + 1, 0))
    else readAt t (i + 1) (n + b % 128 * u) (if i < 9 then u * 128 else u)
def numE (n : Nat) : List Nat := numF 9 n
def readE (l : List Nat) : Nat × Nat × Int := readAt l 0 0 1

theorem numF_pos (f n : Nat) : 0 < (numF f n).length := by
  cases f with
  | zero => simp [numF]
  | succ f => unfold numF; split <;> simp
theorem numF_small (f n : Nat) (h : n < 128) : numF f n = [n] := by
  cases f with
  | zero => rfl
  | succ f => unfold numF; rw [if_pos h]
theorem read_numF (f : Nat) : ∀ (i n m u : Nat) (r : List Nat), f + i = 9 → n < 2 ^ (64 - 7 * i) → (0 < i → 0 < n) → readAt (numF f n ++ r) i m u = (m + n * u, i + (numF f n).length, 0) := by
  induction f with
  | zero =>
    intro i n m u r hi hn hp
    obtain rfl : i = 9 := by omega
    have hn' : n < 2 := hn
    have h0 := hp (by omega)
    obtain rfl : n = 1 := by omega
    simp [numF, readAt]
  | succ f ih =>
    intro i n m u r hi hn hp
    unfold numF
    by_cases h : n < 128
    · rw [if_pos h]
      simp only [List.cons_append, List.nil_append, readAt, List.length_cons, List.length_nil]
      rw [if_neg (by omega), if_neg (by omega), if_pos h, if_neg (by omega), Nat.mod_eq_of_lt h]
    · rw [if_neg h]
      simp only [List.cons_append, readAt, List.length_cons]
      have e : 2 ^ (64 - 7 * i) = 128 * 2 ^ (64 - 7 * (i + 1)) := by
        rw [show 64 - 7 * i = 7 + (64 - 7 * (i + 1)) by omega, Nat.pow_add]
      rw [if_neg (by omega), if_neg (by omega), if_neg (by omega), if_pos (by omega)]
      rw [ih (i + 1) (n / 128) _ _ r (by omega) (by rw [e] at hn; omega) (by omega)]
      have e2 : (n % 128 + 128) % 128 = n % 128 := by omega
      have e3 : m + n % 128 * u + n / 128 * (u * 128) = m + n * u := by
        have h4 : n * u = (128 * (n / 128) + n % 128) * u := by rw [Nat.div_add_mod]
        rw [h4, Nat.add_mul, Nat.mul_comm u 128, ← Nat.mul_assoc, Nat.mul_comm (n / 128) 128]
        omega
      rw [e2, e3, show i + 1 + (numF f (n / 128)).length = i + ((numF f (n / 128)).length + 1) by omega]
/-- What is read is what was told. -/
theorem read_num (n : Nat) (h : n < 2 ^ 64) (r : List Nat) : readE (numE n ++ r) = (n, (numE n).length, 0) := by
  have := read_numF 9 0 n 0 1 r rfl h (by omega)
  simpa [readE, numE] using this
/-- No number's bytes begin another one's. -/
theorem num_begins (a b : Nat) (ha : a < 2 ^ 64) (hb : b < 2 ^ 64) : ((numE a).length ≤ (numE b).length ∧ (numE b).take (numE a).length = numE a) ↔ a = b := by
  constructor
  · rintro ⟨_, h⟩
    have h1 := read_num b hb []
    have h2 := read_num a ha ((numE b).drop (numE a).length)
    have h3 : numE a ++ (numE b).drop (numE a).length = numE b ++ [] := by
      rw [List.append_nil]
      conv => lhs; lhs; rw [← h]
      exact List.take_append_drop _ _
    rw [h3, h1] at h2
    exact (Prod.mk.inj h2).1.symm
  · rintro rfl
    exact ⟨Nat.le_refl _, List.take_length⟩

/-- One bit of the sum's way. -/
def bitStep (s : BitVec 32) : BitVec 32 := if s.toNat % 2 = 1 then (s >>> 1) ^^^ 0xedb88320#32 else s >>> 1
def bitSteps : Nat → BitVec 32 → BitVec 32
  | 0, s => s
  | k + 1, s => bitSteps k (bitStep s)
def byteStep (s : BitVec 32) (b : BitVec 8) : BitVec 32 := bitSteps 8 (s ^^^ b.setWidth 32)
def sumE (l : List (BitVec 8)) : BitVec 32 := ~~~ (l.foldl byteStep 0xffffffff#32)

theorem half_low {a b : BitVec 32} (h : a >>> 1 = b >>> 1) (l : a.toNat % 2 = b.toNat % 2) : a = b := by
  apply BitVec.eq_of_toNat_eq
  have e := congrArg BitVec.toNat h
  simp only [BitVec.toNat_ushiftRight, Nat.shiftRight_eq_div_pow] at e
  omega
theorem half_top (a : BitVec 32) : (a >>> 1).getLsbD 31 = false := by
  rw [BitVec.getLsbD_ushiftRight]
  exact BitVec.getLsbD_of_ge _ _ (by omega)
theorem poly_top (a : BitVec 32) : ((a >>> 1) ^^^ 0xedb88320#32).getLsbD 31 = true := by
  rw [BitVec.getLsbD_xor, half_top]
  rfl
theorem bitStep_inj {a b : BitVec 32} (h : bitStep a = bitStep b) : a = b := by
  unfold bitStep at h
  by_cases ha : a.toNat % 2 = 1
  · by_cases hb : b.toNat % 2 = 1
    · rw [if_pos ha, if_pos hb] at h
      exact half_low ((BitVec.xor_left_inj _).1 h) (by omega)
    · rw [if_pos ha, if_neg hb] at h
      have := poly_top a
      rw [h, half_top] at this
      cases this
  · by_cases hb : b.toNat % 2 = 1
    · rw [if_neg ha, if_pos hb] at h
      have := poly_top b
      rw [← h, half_top] at this
      cases this
    · rw [if_neg ha, if_neg hb] at h
      exact half_low h (by omega)
theorem bitSteps_inj (k : Nat) : ∀ {a b : BitVec 32}, bitSteps k a = bitSteps k b → a = b := by
  induction k with
  | zero => intro a b h; exact h
  | succ k ih => intro a b h; exact bitStep_inj (ih h)
theorem byteStep_left {s t : BitVec 32} {b : BitVec 8} (h : byteStep s b = byteStep t b) : s = t := (BitVec.xor_left_inj _).1 (bitSteps_inj 8 h)
theorem wide_inj {b c : BitVec 8} (h : b.setWidth 32 = c.setWidth 32) : b = c := by
  apply BitVec.eq_of_toNat_eq
  have e := congrArg BitVec.toNat h
  simp only [BitVec.toNat_setWidth] at e
  have := b.isLt
  have := c.isLt
  omega
theorem byteStep_right {s : BitVec 32} {b c : BitVec 8} (h : byteStep s b = byteStep s c) : b = c := wide_inj ((BitVec.xor_right_inj _).1 (bitSteps_inj 8 h))
theorem fold_inj (l : List (BitVec 8)) : ∀ {s t : BitVec 32}, l.foldl byteStep s = l.foldl byteStep t → s = t := by
  induction l with
  | nil => intro s t h; exact h
  | cons b l ih => intro s t h; exact byteStep_left (ih h)
/-- Lists of bytes that differ in one byte have unlike sums. -/
theorem sum_unlike (p q : List (BitVec 8)) (b c : BitVec 8) (h : b ≠ c) : sumE (p ++ b :: q) ≠ sumE (p ++ c :: q) := by
  intro e
  unfold sumE at e
  simp only [List.foldl_append, List.foldl_cons] at e
  exact h (byteStep_right (fold_inj q (BitVec.not_inj.1 e)))

/-- The way of the sum is straight: of two that are laid on each other. -/
theorem shr_xor (a b : BitVec 32) : (a ^^^ b) >>> 1 = (a >>> 1) ^^^ (b >>> 1) := by
  apply BitVec.eq_of_getLsbD_eq
  intro i _
  simp [BitVec.getLsbD_ushiftRight, BitVec.getLsbD_xor]
theorem low_bit (a : BitVec 32) : a.toNat % 2 = 1 ↔ a.getLsbD 0 = true := by
  rw [BitVec.getLsbD, Nat.testBit_zero]
  simp
theorem bitStep_xor (a b : BitVec 32) : bitStep (a ^^^ b) = bitStep a ^^^ bitStep b := by
  unfold bitStep
  simp only [low_bit, BitVec.getLsbD_xor, shr_xor]
  cases a.getLsbD 0 <;> cases b.getLsbD 0
  · simp
  · simp [BitVec.xor_assoc]
  · simp only [Bool.xor_false, if_true, if_false, Bool.false_eq_true]
    rw [BitVec.xor_assoc, BitVec.xor_comm (b >>> 1), ← BitVec.xor_assoc]
  · simp only [Bool.xor_self, if_true, if_false, Bool.false_eq_true]
    rw [BitVec.xor_assoc, ← BitVec.xor_assoc 0xedb88320#32, BitVec.xor_comm 0xedb88320#32, BitVec.xor_assoc (b >>> 1), BitVec.xor_self, BitVec.xor_zero]
theorem bitSteps_xor (k : Nat) : ∀ (a b : BitVec 32), bitSteps k (a ^^^ b) = bitSteps k a ^^^ bitSteps k b := by
  induction k with
  | zero => intro a b; rfl
  | succ k ih => intro a b; show bitSteps k (bitStep (a ^^^ b)) = _; rw [bitStep_xor, ih]; rfl
theorem bitSteps_even (k : Nat) : ∀ (a : BitVec 32), a.toNat % 2 ^ k = 0 → bitSteps k a = a >>> k := by
  induction k with
  | zero => intro a _; simp [bitSteps]
  | succ k ih =>
    intro a h
    show bitSteps k (bitStep a) = _
    have h2 : a.toNat % 2 = 0 := by
      have : 2 ∣ 2 ^ (k + 1) := ⟨2 ^ k, by rw [Nat.pow_succ, Nat.mul_comm]⟩
      have h3 := Nat.mod_mod_of_dvd a.toNat this
      rw [h] at h3
      omega
    have e : bitStep a = a >>> 1 := by unfold bitStep; rw [if_neg (by omega)]
    rw [e, ih]
    · rw [← BitVec.shiftRight_add, Nat.add_comm]
    · simp only [BitVec.toNat_ushiftRight, Nat.shiftRight_eq_div_pow]
      obtain ⟨q, hq⟩ := Nat.dvd_of_mod_eq_zero h
      have e2 : 2 ^ (k + 1) * q = 2 * (2 ^ k * q) := by rw [Nat.pow_succ, Nat.mul_comm (2 ^ k) 2, Nat.mul_assoc]
      rw [hq, e2, show 2 * (2 ^ k * q) / 2 ^ 1 = 2 ^ k * q by omega]
      exact Nat.mul_mod_right _ _
/-- Eight bits at once: the way of a table. -/
theorem byte_table (x : BitVec 32) : bitSteps 8 x = bitSteps 8 (x &&& 255#32) ^^^ (x >>> 8) := by
  have e : x = (x &&& 255#32) ^^^ ((x >>> 8) <<< 8) := by
    apply BitVec.eq_of_getLsbD_eq
    intro i hi
    rw [BitVec.getLsbD_xor, BitVec.getLsbD_and, BitVec.getLsbD_shiftLeft, BitVec.getLsbD_ushiftRight]
    by_cases h : i < 8
    · have : (255#32).getLsbD i = true := by
        rcases (show i = 0 ∨ i = 1 ∨ i = 2 ∨ i = 3 ∨ i = 4 ∨ i = 5 ∨ i = 6 ∨ i = 7 by omega) with rfl | rfl | rfl | rfl | rfl | rfl | rfl | rfl <;> rfl
      simp [this, h]
    · have : (255#32).getLsbD i = false := by
        rw [BitVec.getLsbD, BitVec.toNat_ofNat]
        exact Nat.testBit_lt_two_pow (Nat.lt_of_lt_of_le (show 255 % 2 ^ 32 < 2 ^ 8 by decide) (Nat.pow_le_pow_right (by decide) (by omega)))
      rw [this, show 8 + (i - 8) = i by omega]
      simp only [Bool.and_false, Bool.false_xor, hi, h, decide_true, decide_false, Bool.not_false, Bool.true_and, Bool.and_true]
  have e8 : (x >>> 8) <<< 8 >>> 8 = x >>> 8 := by
    apply BitVec.eq_of_getLsbD_eq
    intro i hi
    rw [BitVec.getLsbD_ushiftRight, BitVec.getLsbD_shiftLeft, BitVec.getLsbD_ushiftRight]
    by_cases h : i < 24
    · rw [show 8 + (8 + i - 8) = 8 + i by omega]
      simp only [show 8 + i < 32 by omega, show ¬ 8 + i < 8 by omega, decide_true, decide_false, Bool.not_false, Bool.true_and]
      rw [BitVec.getLsbD_ushiftRight]
    · have : x.getLsbD (8 + i) = false := BitVec.getLsbD_of_ge _ _ (by omega)
      rw [show 8 + (8 + i - 8) = 8 + i by omega, this, Bool.and_false, BitVec.getLsbD_ushiftRight, this]
  have e9 : ((x >>> 8) <<< 8).toNat % 2 ^ 8 = 0 := by
    rw [BitVec.toNat_shiftLeft, Nat.shiftLeft_eq]
    omega
  have e10 := bitSteps_even 8 _ e9
  rw [e8] at e10
  have e11 := bitSteps_xor 8 (x &&& 255#32) ((x >>> 8) <<< 8)
  rw [← e, e10] at e11
  exact e11
end Go.Proofs.Ythnllhfdbnnjhaa

