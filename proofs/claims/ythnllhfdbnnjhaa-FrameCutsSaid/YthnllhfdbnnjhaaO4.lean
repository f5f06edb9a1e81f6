import Derived.Test.YthnllhfdbnnjhaaO3
namespace Go.Proofs.Ythnllhfdbnnjhaa
open Go.RowKit Go.Shelf

theorem byte_of {l : List Nat} {k : Nat} (hb : ∀ b ∈ l, b < 256) (hlt : k < l.length) : l.getD k 0 < 256 ∧ l.drop k = l.getD k 0 :: l.drop (k + 1) := by
  rw [List.getD_eq_getElem?_getD, List.getElem?_eq_getElem hlt]
  exact ⟨hb _ (List.getElem_mem hlt), List.drop_eq_getElem_cons hlt⟩
/-- Where reading stands. -/
structure Stands (l : List Nat) (k a u : Nat) : Prop where
  r : readE l = readAt (l.drop k) k a u
  u9 : k < 9 → u * 128 < 2 ^ 64
  u63 : u ≤ 2 ^ 63
  d : ∀ b, b < 256 → (k = 9 → b ≤ 1) → k ≤ 9 → a + b % 128 * u < 2 ^ 64
  a64 : a < 2 ^ 64
theorem stands_pow {l : List Nat} {k a : Nat} (hk : k ≤ 9) (h : readE l = readAt (l.drop k) k a (128 ^ k)) (ha : a < 128 ^ k) : Stands l k a (128 ^ k) := by
  rcases (show k = 0 ∨ k = 1 ∨ k = 2 ∨ k = 3 ∨ k = 4 ∨ k = 5 ∨ k = 6 ∨ k = 7 ∨ k = 8 ∨ k = 9 by omega) with rfl | rfl | rfl | rfl | rfl | rfl | rfl | rfl | rfl | rfl
  all_goals (refine ⟨h, fun _ => by omega, by omega, fun b h1 h2 _ => ?_, by omega⟩; simp only [Nat.reducePow] at ha ⊢; omega)
theorem step_pow {k a u b : Nat} (hk : k < 9) (hu : u = 128 ^ k) (ha : a < 128 ^ k) : u * 128 = 128 ^ (k + 1) ∧ a + b % 128 * u < 128 ^ (k + 1) := by
  subst hu
  refine ⟨by rw [Nat.pow_succ], ?_⟩
  rw [Nat.pow_succ]
  have h1 : b % 128 * 128 ^ k ≤ 127 * 128 ^ k := Nat.mul_le_mul_right _ (by omega)
  omega
end Go.Proofs.Ythnllhfdbnnjhaa

