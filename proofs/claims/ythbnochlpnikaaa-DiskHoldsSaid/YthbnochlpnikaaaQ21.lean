/- DiskHolds at any arguments. -/
import Derived.Test.YthbnochlpnikaaaQ19
namespace Go.Proofs.Ythbnochlpnikaaa
open Go.RowKit Go.Shelf

set_option maxRecDepth 100000 in
set_option maxHeartbeats 1000000 in
theorem holds_any {Rep : DiskRep} (S : DiskOk Rep) (n : Int) (L0 L1 : List (Nat × Nat)) (p0 p1 : Option Addr) (c0 c1 : Nat) (kp : Option Addr) (keep : List Bool) (kc : Nat) (w : World)
    (hb0 : ∀ x ∈ L0, x.1 < 256 ∧ x.2 < 256) (hb1 : ∀ x ∈ L1, x.1 < 256 ∧ x.2 < 256) (P0 : Hid (PairsAt w p0 L0)) (P1 : Hid (PairsAt w p1 L1)) (HK : Hid (BoolsAt w kp keep)) (hkn : kp = none → kc = 0) (hkc : keep.length ≤ kc ∧ kc ≤ 9223372036854775807) :
    Calls Try.prog 4 #[.int .i64 n, .agg #[.slice p0 L0.length c0, .slice p1 L1.length c1], .slice kp keep.length kc] w fun r w' => r = .returned (.bool true) ∧ Below w.heap.size w w' := by
  by_cases hgo : 1 ≤ n ∧ n ≤ 12 ∧ L0.length ≤ 20 ∧ L1.length ≤ 20 ∧ keep.length ≤ 40
  · obtain ⟨h1, h2, h3, h4, h5⟩ := hgo
    obtain ⟨N, rfl⟩ := Int.eq_ofNat_of_zero_le (show 0 ≤ n by omega)
    exact holds_main S N (by omega) L0 L1 p0 p1 c0 c1 kp keep kc w h3 h4 h5 hb0 hb1 P0 P1 HK hkn hkc
  have WK := Lib.hid (fun w => works_any S w)
  clear P0 P1 HK hb0 hb1 hkn hkc
  rcases (show n < 1 ∨ (1 ≤ n ∧ 12 < n) ∨ (1 ≤ n ∧ n ≤ 12 ∧ 20 < L0.length) ∨ (1 ≤ n ∧ n ≤ 12 ∧ L0.length ≤ 20 ∧ 20 < L1.length) ∨ (1 ≤ n ∧ n ≤ 12 ∧ L0.length ≤ 20 ∧ L1.length ≤ 20 ∧ 40 < keep.length) by omega) with h | ⟨h, h2⟩ | ⟨h, h2, h3⟩ | ⟨h, h2, h3, h4⟩ | ⟨h, h2, h3, h4, h5⟩
  all_goals
    clear hgo
    go_enter Try.func4, Try.ntmps4
    go_wp2_with (go_at_call 6; refine (WK.out _).mono ?_; rintro e w7 ⟨rfl, hb7⟩; have HB7 := Lib.hid (kbA hb7); clear hb7)
    go_ret
    exact ⟨rfl, HB7.out⟩
end Go.Proofs.Ythbnochlpnikaaa
