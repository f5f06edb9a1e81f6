import Derived.Test.YthnllhfdbnnjhaaO13
namespace Go.Proofs.Ythnllhfdbnnjhaa
open Go.RowKit Go.Shelf

theorem or_digit (k a b : Nat) (hb : b < 256) (hk : k ≤ 9) (ha : a < 128 ^ k) (h64 : a + b % 128 * 128 ^ k < 2 ^ 64) :
    bits .or .u64 (a : Int) (IntKind.u64.wrap (IntKind.u64.wrap (bits .and .u8 (b : Int) 127) * 2 ^ (7 * k))) = ((a + b % 128 * 128 ^ k : Nat) : Int) := by
  rw [and127 ⟨b, hb⟩]
  simp only
  have h1 : (128 : Nat) ^ k = 2 ^ (7 * k) := by rw [show (128 : Nat) = 2 ^ 7 from rfl, ← Nat.pow_mul]
  have e1 : IntKind.u64.wrap ((b % 128 : Nat) : Int) = ((b % 128 : Nat) : Int) := by
    simp only [IntKind.wrap, IntKind.signed, IntKind.bits, Bool.false_and, Bool.false_eq_true, if_false]
    omega
  have e2 : IntKind.u64.wrap (((b % 128 : Nat) : Int) * 2 ^ (7 * k)) = ((b % 128 * 128 ^ k : Nat) : Int) := by
    have : ((b % 128 : Nat) : Int) * 2 ^ (7 * k) = ((b % 128 * 128 ^ k : Nat) : Int) := by rw [h1]; push_cast; rfl
    rw [this]
    generalize b % 128 * 128 ^ k = q at h64 ⊢
    simp only [IntKind.wrap, IntKind.signed, IntKind.bits, Bool.false_and, Bool.false_eq_true, if_false]
    omega
  rw [e1, e2]
  exact or_apart k a _ (b % 128) (by omega) hk rfl ha h64
/-- What reading a number leaves: the number and the rest behind it, or nothing. -/
def numPost (T : Nat → Prop) (l : List Nat) (c0 P : Nat) (w : World) (r : Ending) (w' : World) : Prop :=
  r = .returned (.tuple #[.int .u64 (readE l).1, .bool (decide ((readE l).2.2 = 0))]) ∧ Only P w w' ∧ ((readE l).2.2 = 0 → ∃ p c, c ≤ c0 ∧ RestP T w' P p c (l.drop (readE l).2.1))
end Go.Proofs.Ythnllhfdbnnjhaa
