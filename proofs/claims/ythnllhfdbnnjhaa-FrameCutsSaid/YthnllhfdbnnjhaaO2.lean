/- The document's answers for fixed numbers and strings as plain functions; what reading numbers gives. No condition. -/
import Derived.Test.YthnllhfdbnnjhaaO1
namespace Go.Proofs.Ythnllhfdbnnjhaa

/-- A fixed number's bytes, the highest first. -/
def fixE : Nat → Nat → List Nat
  | 0, _ => []
  | k + 1, n => fixE k (n / 256) ++ [n % 256]
def readFixE (k : Nat) (l : List Nat) : Nat × Int := if l.length < k then (0, 130) else ((l.take k).foldl (fun a b => 256 * a + b) 0, 0)
/-- A string's bytes. -/
def strE (s : List Nat) : List Nat := numE s.length ++ s
def readStrE (l : List Nat) : List Nat × Nat × Int :=
  if (readE l).2.2 ≠ 0 ∨ l.length - (readE l).2.1 < (readE l).1 then ([], 0, 130) else ((l.drop (readE l).2.1).take (readE l).1, (readE l).2.1 + (readE l).1, 0)

theorem fixE_length (k : Nat) : ∀ n, (fixE k n).length = k := by
  induction k with
  | zero => intro n; rfl
  | succ k ih => intro n; simp [fixE, ih]
theorem fold_fix (k : Nat) : ∀ n, n < 256 ^ k → (fixE k n).foldl (fun a b => 256 * a + b) 0 = n := by
  induction k with
  | zero => intro n h; simp at h; subst h; rfl
  | succ k ih =>
    intro n h
    have h' : n / 256 < 256 ^ k := by rw [Nat.pow_succ] at h; omega
    simp only [fixE, List.foldl_append, List.foldl_cons, List.foldl_nil, ih _ h']
    omega
theorem read_fix (k n : Nat) (h : n < 256 ^ k) (r : List Nat) : readFixE k (fixE k n ++ r) = (n, 0) := by
  unfold readFixE
  rw [if_neg (by simp [fixE_length])]
  rw [List.take_append_of_le_length (by simp [fixE_length]), List.take_of_length_le (by simp [fixE_length]), fold_fix k n h]

/-- What reading gives: a number of 64 bits, and where its bytes end; or an error and nothing. -/
theorem readAt_range : ∀ (l : List Nat) (i n u : Nat), (∀ b ∈ l, b < 256) → i ≤ 9 → u = 128 ^ i → n < 128 ^ i →
    ((readAt l i n u).2.2 = 0 ∧ (readAt l i n u).1 < 2 ^ 64 ∧ i < (readAt l i n u).2.1 ∧ (readAt l i n u).2.1 ≤ i + l.length ∧ (readAt l i n u).2.1 ≤ 10) ∨ readAt l i n u = (0, 0, 130) := by
  intro l
  induction l with
  | nil => intro i n u _ _ _ _; exact .inr rfl
  | cons b t ih =>
    intro i n u hb hi hu hn
    unfold readAt
    rw [if_neg (by omega)]
    by_cases h9 : i = 9 ∧ 1 < b
    · rw [if_pos h9]; exact .inr rfl
    rw [if_neg h9]
    have hpow : 128 ^ i * 128 ^ (9 - i) = 128 ^ 9 := by rw [← Nat.pow_add]; congr 1; omega
    by_cases h : b < 128
    · rw [if_pos h]
      by_cases h0 : b % 128 = 0 ∧ 0 < i
      · rw [if_pos h0]; exact .inr rfl
      rw [if_neg h0]
      left
      refine ⟨rfl, ?_, Nat.lt_succ_self _, by simp, by show i + 1 ≤ 10; omega⟩
      show n + b % 128 * u < 2 ^ 64
      subst hu
      rcases (show i = 0 ∨ i = 1 ∨ i = 2 ∨ i = 3 ∨ i = 4 ∨ i = 5 ∨ i = 6 ∨ i = 7 ∨ i = 8 ∨ i = 9 by omega) with rfl | rfl | rfl | rfl | rfl | rfl | rfl | rfl | rfl | rfl
      all_goals (simp only [Nat.reducePow] at hn ⊢; omega)
    · rw [if_neg h]
      by_cases hi9 : i < 9
      · rw [if_pos hi9]
        have := ih (i + 1) (n + b % 128 * u) (u * 128) (fun x hx => hb x (by simp [hx])) (by omega) (by rw [hu, Nat.pow_succ]) (by
          rw [hu, Nat.pow_succ]
          have h1 : b % 128 * 128 ^ i ≤ 127 * 128 ^ i := Nat.mul_le_mul_right _ (by omega)
          omega)
        rcases this with ⟨a1, a2, a3, a4, a5⟩ | this
        · exact .inl ⟨a1, a2, by omega, by simp at a4 ⊢; omega, a5⟩
        · exact .inr this
      · obtain rfl : i = 9 := by omega
        exact absurd ⟨rfl, by omega⟩ h9
theorem readE_range (l : List Nat) (hb : ∀ b ∈ l, b < 256) :
    ((readE l).2.2 = 0 ∧ (readE l).1 < 2 ^ 64 ∧ 0 < (readE l).2.1 ∧ (readE l).2.1 ≤ l.length ∧ (readE l).2.1 ≤ 10) ∨ readE l = (0, 0, 130) := by
  have := readAt_range l 0 0 1 hb (by omega) rfl (by decide)
  simpa [readE] using this
theorem read_str (s r : List Nat) (h : s.length < 2 ^ 64) : readStrE (strE s ++ r) = (s, (strE s).length, 0) := by
  have e : readE (strE s ++ r) = (s.length, (numE s.length).length, 0) := by
    unfold strE
    rw [List.append_assoc]
    exact read_num _ h _
  unfold readStrE
  rw [e]
  simp only
  rw [if_neg (by simp [strE])]
  simp only [strE, List.append_assoc, List.drop_left, List.take_left, List.length_append]
end Go.Proofs.Ythnllhfdbnnjhaa

