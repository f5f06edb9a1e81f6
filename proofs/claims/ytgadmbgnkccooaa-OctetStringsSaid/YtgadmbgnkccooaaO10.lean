import Derived.Test.YtgadmbgnkccooaaO9
import Derived.Test.YtgadmbgnkccooaaO7
import Derived.Shelf.Strconv.Itoa0
import Derived.Shelf.Bytes.SlClone
namespace Go.Proofs
open Go.Shelf
def Try.len64_ren : Go.Shelf.Ren := ⟨fun | 129 => 39 | n => n, fun | 3 => 3 | 4 => 4 | 5 => 5 | 9 => 9 | 46 => 55 | 53 => 22 | n => n, fun | n => n⟩
theorem Try.len64_lays : Go.Proofs.Lays.n129 Try.prog Try.len64_ren := {
  mixed := by kernel_rfl
  f129 := Try.func39.trans (congrArg some (by kernel_rfl))
  t3 := Try.underlying3
  a3 := Try.isAgg3
  z3 := Try.sizeOf3
  v3 := Try.zeroValue3
  t4 := Try.underlying4
  a4 := Try.isAgg4
  z4 := Try.sizeOf4
  v4 := Try.zeroValue4
  t5 := Try.underlying5
  a5 := Try.isAgg5
  z5 := Try.sizeOf5
  v5 := Try.zeroValue5
  t9 := Try.underlying9
  a9 := Try.isAgg9
  z9 := Try.sizeOf9
  v9 := Try.zeroValue9
  t46 := Try.underlying55
  a46 := Try.isAgg55
  z46 := Try.sizeOf55
  v46 := Try.zeroValue55
  t53 := Try.underlying22
  a53 := Try.isAgg22
  z53 := Try.sizeOf22
  v53 := Try.zeroValue22 }
def Try.clone_ren : Go.Shelf.Ren := ⟨fun | 4 => 36 | n => n, fun | 4 => 4 | 22 => 23 | 5 => 5 | n => n, fun | n => n⟩
theorem Try.clone_lays : Go.Proofs.SlLaysK.n4 Try.prog Try.clone_ren := {
  mixed := by kernel_rfl
  f4 := Try.func36.trans (congrArg some (by kernel_rfl))
  t4 := Try.underlying4
  a4 := Try.isAgg4
  z4 := Try.sizeOf4
  v4 := Try.zeroValue4
  t22 := Try.underlying23
  a22 := Try.isAgg23
  z22 := Try.sizeOf23
  v22 := Try.zeroValue23
  t5 := Try.underlying5
  i5 := by kernel_rfl }
end Go.Proofs
namespace Go.Proofs.Ytgadmbgnkccooaa
open Go.RowKit Go.Shelf
theorem bitLenAux_le (f : Nat) : ∀ x, Lib.bitLenAux f x ≤ f := by
  induction f with
  | zero => intro x; simp [Lib.bitLenAux]
  | succ f ih =>
    intro x
    have := ih (x / 2)
    simp only [Lib.bitLenAux]
    split <;> omega
theorem bitLen_small : ∀ n : Fin 128, Lib.bitLen n.val ≤ 7 := by decide +kernel
theorem bitLen_pos (n : Nat) (h : 0 < n) (h2 : n < 2 ^ 64) : 0 < Lib.bitLen n := by
  rw [Lib.bitLen_half n (by omega) h2]; omega
theorem bitLen_128 (n : Nat) (h : 128 ≤ n) (h2 : n < 2 ^ 64) : Lib.bitLen n = 7 + Lib.bitLen (n / 128) := by
  rw [Lib.bitLen_half n (by omega) h2, Lib.bitLen_half (n / 2) (by omega) (by omega), Lib.bitLen_half (n / 2 / 2) (by omega) (by omega), Lib.bitLen_half (n / 2 / 2 / 2) (by omega) (by omega),
    Lib.bitLen_half (n / 2 / 2 / 2 / 2) (by omega) (by omega), Lib.bitLen_half (n / 2 / 2 / 2 / 2 / 2) (by omega) (by omega), Lib.bitLen_half (n / 2 / 2 / 2 / 2 / 2 / 2) (by omega) (by omega)]
  rw [show n / 2 / 2 / 2 / 2 / 2 / 2 / 2 = n / 128 by omega]
  omega
theorem numF_size (f : Nat) : ∀ n, n < 2 ^ (7 * f + 1) → n < 2 ^ 64 → (numF f n).length = max 1 ((Lib.bitLen n + 6) / 7) := by
  induction f with
  | zero =>
    intro n h h2
    have := bitLen_small ⟨n, by omega⟩
    simp only at this
    show 1 = _
    omega
  | succ f ih =>
    intro n h h2
    rw [numF_more]
    by_cases h1 : n < 128
    · have := bitLen_small ⟨n, h1⟩
      simp only at this
      rw [if_pos h1]
      show 1 = _
      omega
    · rw [if_neg h1, List.length_cons, ih (n / 128) ?_ (by omega), bitLen_128 n (by omega) h2]
      · have := bitLen_pos (n / 128) (by omega) (by omega)
        omega
      · rw [show 7 * (f + 1) + 1 = (7 * f + 1) + 7 by omega, Nat.pow_add] at h
        omega
theorem numE_size (n : Nat) (h : n < 2 ^ 64) : (numE n).length = max 1 ((Lib.bitLen n + 6) / 7) := numF_size 9 n h h
theorem numF_digit (f : Nat) : ∀ n i, n < 2 ^ (7 * f + 1) → i < (numF f n).length → (numF f n).getD i 0 = n / 128 ^ i % 128 + (if i + 1 < (numF f n).length then 128 else 0) := by
  induction f with
  | zero =>
    intro n i h hi
    have e : numF 0 n = [n] := rfl
    rw [e] at hi ⊢
    obtain rfl : i = 0 := by simpa using hi
    simp
    omega
  | succ f ih =>
    intro n i h hi
    rw [numF_more] at hi ⊢
    by_cases h1 : n < 128
    · rw [if_pos h1] at hi ⊢
      obtain rfl : i = 0 := by simpa using hi
      simp
      omega
    · rw [if_neg h1] at hi ⊢
      have hp := numF_pos f (n / 128)
      cases i with
      | zero => simp [hp]
      | succ i =>
        have h3 := ih (n / 128) i (by rw [show 7 * (f + 1) + 1 = (7 * f + 1) + 7 by omega, Nat.pow_add] at h; omega) (by simpa using hi)
        simp only [List.getD_cons_succ, List.length_cons]
        rw [h3, Nat.div_div_eq_div_mul, show 128 ^ (i + 1) = 128 * 128 ^ i by rw [Nat.pow_succ, Nat.mul_comm]]
        simp
theorem numE_digit (n i : Nat) (h : n < 2 ^ 64) (hi : i < (numE n).length) : (numE n).getD i 0 = n / 128 ^ i % 128 + (if i + 1 < (numE n).length then 128 else 0) := numF_digit 9 n i h hi
set_option maxHeartbeats 400000 in
theorem size_any (n : Nat) (h : n < 2 ^ 64) (w : World) :
    Calls Try.prog 26 #[.int .u64 n] w fun r w' => r = .returned (.int .i64 (numE n).length) ∧ w = w' := by
  have C : Calls Try.prog 39 #[.int .u64 n] w fun r w' => r = .returned (.int .i64 (Lib.bitLen n)) ∧ w' = w := by
    exact Any.bits_Len64 Try.len64_lays (n : Int) w (by omega) (by omega)
  have hs := numE_size n h
  have hb : Lib.bitLen n ≤ 64 := by
    exact bitLenAux_le 64 n
  generalize Lib.bitLen n = b at C hs hb
  rw [hs]
  clear hs
  go_enter Try.func26, Try.ntmps26
  go_wp2_with (go_at_call 39; refine C.mono ?_; rintro e w' ⟨rfl, rfl⟩)
  go_ret
  refine ⟨?_, rfl⟩
  have e : ((max 1 ((b + 6) / 7) : Nat) : Int) = max 1 (((b : Int) + 6) / 7) := by omega
  rw [e]
  rfl
end Go.Proofs.Ytgadmbgnkccooaa
