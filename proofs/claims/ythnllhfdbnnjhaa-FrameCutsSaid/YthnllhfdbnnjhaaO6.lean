import Derived.Test.YthnllhfdbnnjhaaO5
namespace Go.Proofs.Ythnllhfdbnnjhaa
open Go.RowKit Go.Shelf

def foldN (l : List Nat) : Nat := l.foldl (fun a b => 256 * a + b) 0
theorem foldN_next {l : List Nat} {k : Nat} (h : k < l.length) : foldN (l.take (k + 1)) = 256 * foldN (l.take k) + l.getD k 0 := by
  unfold foldN
  rw [List.take_succ_eq_append_getElem h, List.foldl_append, List.getD_eq_getElem?_getD, List.getElem?_eq_getElem h]
  rfl
theorem foldN_lt {l : List Nat} (hb : ∀ b ∈ l, b < 256) : ∀ k, k ≤ l.length → foldN (l.take k) < 256 ^ k := by
  intro k
  induction k with
  | zero => intro _; simp [foldN]
  | succ k ih =>
    intro h
    rw [foldN_next (by omega), Nat.pow_succ]
    have h1 := ih (by omega)
    have h2 := (byte_of hb (show k < l.length by omega)).1
    omega
theorem pow_small {k m : Nat} (hk : k < m) (hm : m ≤ 8) {x : Nat} (hx : x < 256 ^ k) : 256 * x + 255 < 18446744073709551616 := by
  have h2 : 256 ^ k ≤ 256 ^ 7 := Nat.pow_le_pow_right (by decide) (by omega)
  simp only [Nat.reducePow] at h2
  omega
set_option maxRecDepth 100000 in
set_option maxHeartbeats 1000000 in
theorem refReadFixed_any (l : List Nat) (m : Nat) (hm : m ≤ 8) (p : Option Addr) (cap : Nat) (w : World) (hl : l.length ≤ 100000) (hb : ∀ b ∈ l, b < 256) (hc : Hid (BytesAt w p l)) :
    Calls Try.prog 41 #[.slice p l.length cap, .int .i64 m] w fun r w' => r = .returned (.tuple #[.int .u64 (readFixE m l).1, .int .i64 (readFixE m l).2]) ∧ w = w' := by
  have HB := Lib.hid hb
  clear hb
  by_cases hlm : l.length < m
  · have e : readFixE m l = (0, 130) := by unfold readFixE; rw [if_pos hlm]
    rw [e]
    go_enter Try.func41, Try.ntmps41
    go_wp2
    go_ret2
    exact ⟨rfl, rfl⟩
  · have e : readFixE m l = (foldN (l.take m), 0) := by unfold readFixE; rw [if_neg hlm]; rfl
    rw [e]
    clear e
    go_enter Try.func41, Try.ntmps41
    go_wp2
    go_loop [6, 7] (fun n i => ∃ k x : Nat, k ≤ m ∧ i = .int .i64 k ∧ n = .int .u64 x ∧ Hid (x = foldN (l.take k))) (fun _ i => m - (intOf i).toNat)
    case atStart => exact ⟨0, 0, Nat.zero_le _, rfl, rfl, Lib.hid rfl⟩
    case round =>
      obtain ⟨k, x, hk, rfl, rfl, HX⟩ := hrel
      by_cases hlt : k < m
      · have hkl : k < l.length := by omega
        obtain ⟨B, off, rfl, c⟩ := hc.out k hkl
        have hn := foldN_next hkl
        have hlt2 := foldN_lt HB.out k (by omega)
        rw [← HX.out] at hn hlt2
        obtain ⟨b, hbk⟩ : ∃ b, b = l.getD k 0 := ⟨_, rfl⟩
        have hb' := (byte_of HB.out hkl).1
        rw [← hbk] at c hb' hn
        have HN := Lib.hid hn
        have hs := pow_small hlt hm hlt2
        clear hbk hn hlt2
        go_wp2
        go_round
        case rel => exact ⟨k + 1, 256 * x + b, by omega, by go_num, by first | rfl | go_num, Lib.hid HN.out.symm⟩
        case measure => simp [intOf]; omega
      · obtain rfl : k = m := by omega
        go_wp2
        go_ret2
        exact ⟨by have hx := HX.out; subst hx; rfl, rfl⟩
end Go.Proofs.Ythnllhfdbnnjhaa

