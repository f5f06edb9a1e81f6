import Derived.Test.YtgadmbgnkccooaaO13
namespace Go.Proofs.Ytgadmbgnkccooaa
open Go.RowKit Go.Shelf

theorem or_digit (k a b : Nat) (hb : b < 256) (hk : k ≤ 9) (ha : a < 128 ^ k) (h64 : a + b % 128 * 128 ^ k < 2 ^ 64) :
    bits .or .u64 (a : Int) (IntKind.u64.wrap (IntKind.u64.wrap (bits .and .u8 (b : Int) 127) * 2 ^ (7 * k))) = ((a + b % 128 * 128 ^ k : Nat) : Int) := by
  rw [and127 ⟨b, hb⟩]
  simp only
  have h1 : (128 : Nat) ^ k = 2 ^ (7 * k) := by rw [show (128 : Nat) = 2 ^ 7 from rfl, ← Nat.pow_mul]
  have e1 : IntKind.u64.wrap ((b % 128 : Nat) : Int) = ((b % 128 : Nat) : Int) := by
    simp only [IntKind.wrap, IntKind.signed, IntKind.bits, Bool.false_and, Bool.false_eq_true, if_false]
    omega
  have e2 : IntKind.u64.wrap (((b % 128 : Nat) : Int) * 2 ^ (7 * k)) = ((b % 128 * 128 ^ k : Nat) : Int) := by
    have : ((b % 128 : Nat) : Int) * 2 ^ (7 * k) = ((b % 128 * 128 ^ k : Nat) : Int) := by rw [h1]; push_cast; rfl
    rw [this]
    generalize b % 128 * 128 ^ k = q at h64 ⊢
    simp only [IntKind.wrap, IntKind.signed, IntKind.bits, Bool.false_and, Bool.false_eq_true, if_false]
    omega
  rw [e1, e2]
  exact or_apart k a _ (b % 128) (by omega) hk rfl ha h64
/-- What reading a number leaves: the number and the rest behind it, or nothing. -/
def numPost (T : Nat → Prop) (l : List Nat) (c0 P : Nat) (w : World) (r : Ending) (w' : World) : Prop :=
  r = .returned (.tuple #[.int .u64 (readE l).1, .bool (decide ((readE l).2.2 = 0))]) ∧ Only P w w' ∧ ((readE l).2.2 = 0 → ∃ p c, c ≤ c0 ∧ RestP T w' P p c (l.drop (readE l).2.1))
set_option maxRecDepth 100000 in
set_option maxHeartbeats 1000000 in
theorem readNumber_rest {T : Nat → Prop} (l : List Nat) (p0 : Option Addr) (c0 P : Nat) (w : World) (hl : l.length ≤ 100000) (hc0 : c0 ≤ 9223372036854775807) (hb : ∀ b ∈ l, b < 256) (HR : Hid (RestP T w P p0 c0 l)) :
    Calls Try.prog 41 #[.pointer (some ⟨P, 0, none⟩)] w fun r w' => numPost T l c0 P w r w' := by
  have HB := Lib.hid hb
  clear hb
  obtain ⟨R, hR⟩ : ∃ R, readE l = R := ⟨_, rfl⟩
  unfold numPost
  rw [hR]
  go_enter Try.func41, Try.ntmps41
  go_wp2
  refine wp_scope_fwd 0 rfl fun J HJ => ?_
  go_wp2
  go_loopw [4, 5, 6, 7] (fun n up b is wr => ∃ k a p c, k ≤ l.length ∧ k ≤ 9 ∧ up = .int .i64 (7 * k : Nat) ∧ n = .int .u64 (a : Nat) ∧ Hid (readE l = readAt (l.drop k) k a (128 ^ k) ∧ a < 128 ^ k) ∧ Hid (RestP T wr P p c (l.drop k)) ∧ c ≤ c0 ∧ Hid (Only P w wr)) (fun _ up _ _ _ => 100 - (intOf up).toNat)
  case atStart => exact ⟨0, 0, p0, c0, Nat.zero_le _, by omega, rfl, rfl, Lib.hid ⟨rfl, by decide⟩, HR, Nat.le_refl _, Lib.hid .refl⟩
  case round =>
    obtain ⟨k, a, p, c, hk, hk9, rfl, rfl, HS, HP, hcc, HO⟩ := hrel
    by_cases hlt : k < l.length
    · obtain ⟨B, off, rfl, s, c', hR1, hcb, hc', CT⟩ := take_one P p c _ wr (by rw [List.length_drop]; omega) (by omega) HP.out
      have HR1 : Hid (RestP T (wr.setCell ⟨P, 0, none⟩ s) P (restAt (some ⟨B, off, none⟩) c 1) c' (l.drop (k + 1))) := Lib.hid (by rw [List.drop_drop] at hR1; exact hR1)
      have HCT := Lib.hid CT
      clear CT hR1
      obtain ⟨hb', hd⟩ := byte_of HB.out hlt
      have hg0 : (l.drop k).getD 0 0 = l.getD k 0 := by rw [hd]; rfl
      rw [hg0] at hcb
      obtain ⟨b, hbk⟩ : ∃ b, b = l.getD k 0 := ⟨_, rfl⟩
      rw [← hbk] at hcb hb' hd
      have HD := Lib.hid hd
      have HO1 : Hid (Only P w (wr.setCell ⟨P, 0, none⟩ s)) := Lib.hid (.step HO.out s)
      clear hbk hd hg0
      by_cases hA : 0 < k ∧ b = 0
      · obtain ⟨hk0, hb0⟩ := hA
        have e : R = (0, 0, 130) := by
          rw [← hR, HS.out.1, HD.out]
          simp only [readAt]
          rw [if_neg (by omega), if_neg (by omega), if_pos (by omega), if_pos ⟨by omega, hk0⟩]
        subst hb0
        subst e
        go_wp2_with (go_at_call 42; refine HCT.out.mono ?_; rintro e w' ⟨rfl, rfl⟩)
        go_step3
        refine ⟨rfl, HJ.out _ _ ?_⟩
        go_wp2
        simp only [Exit.noGoto_ret]
        go_ret2
        exact ⟨rfl, HO1.out, fun h => by simp at h⟩
      by_cases hB : k = 9 ∧ 1 < b
      · obtain ⟨rfl, hb1⟩ := hB
        have e : R = (0, 0, 130) := by
          rw [← hR, HS.out.1, HD.out]
          simp only [readAt]
          rw [if_neg (by omega), if_pos ⟨trivial, hb1⟩]
        subst e
        go_wp2_with (go_at_call 42; refine HCT.out.mono ?_; rintro e w' ⟨rfl, rfl⟩)
        go_step3
        refine ⟨rfl, HJ.out _ _ ?_⟩
        go_wp2
        simp only [Exit.noGoto_ret]
        go_ret2
        exact ⟨rfl, HO1.out, fun h => by simp at h⟩
      have hq64 := (stands_pow hk9 HS.out.1 HS.out.2).d b hb' (by omega) hk9
      have HV := Lib.hid (or_digit k a b hb' hk9 HS.out.2 hq64)
      by_cases hC : b < 128
      · have e : R = (a + b % 128 * 128 ^ k, k + 1, 0) := by
          rw [← hR, HS.out.1, HD.out]
          simp only [readAt]
          rw [if_neg (by omega), if_neg hB, if_pos hC, if_neg (by omega)]
        clear hq64
        generalize a + b % 128 * 128 ^ k = q at HV e
        subst e
        by_cases h9 : k = 9
        · subst h9
          obtain rfl : b = 1 := by omega
          have HV' := Lib.hid HV.out
          simp only [Nat.reduceMul, Int.reducePow, Int.natCast_one] at HV'
          go_wp2_with (go_at_call 42; refine HCT.out.mono ?_; rintro e w' ⟨rfl, rfl⟩)
          all_goals simp only [Exit.jump]
          all_goals go_ret2
          all_goals exact ⟨by first | rw [HV.out]; rfl | rw [HV'.out]; rfl, HO1.out, fun _ => ⟨_, _, by omega, HR1.out⟩⟩
        · by_cases h0 : k = 0
          · subst h0
            have HV' : Hid (bits .or .u64 (a : Int) (IntKind.u64.wrap (IntKind.u64.wrap (bits .and .u8 (b : Int) 127))) = (q : Int)) := Lib.hid (by
              have h := HV.out
              rw [Nat.mul_zero, Int.pow_zero, Int.mul_one] at h
              exact h)
            clear hA hB
            go_wp2_with (go_at_call 42; refine HCT.out.mono ?_; rintro e w' ⟨rfl, rfl⟩)
            all_goals simp only [Exit.jump]
            all_goals go_ret2
            all_goals exact ⟨by first | rw [HV.out]; rfl | rw [HV'.out]; rfl | rfl, HO1.out, fun _ => ⟨_, _, by omega, HR1.out⟩⟩
          · have h0' : b ≠ 0 := by omega
            clear hA hB
            go_wp2_with (go_at_call 42; refine HCT.out.mono ?_; rintro e w' ⟨rfl, rfl⟩)
            all_goals simp only [Exit.jump]
            all_goals go_ret2
            all_goals exact ⟨by first | rw [HV.out]; rfl | rw [HV'.out]; rfl | rfl, HO1.out, fun _ => ⟨_, _, by omega, HR1.out⟩⟩
      · have h9 : k < 9 := by omega
        have HN : Hid (readE l = readAt (l.drop (k + 1)) (k + 1) (a + b % 128 * 128 ^ k) (128 ^ (k + 1)) ∧ a + b % 128 * 128 ^ k < 128 ^ (k + 1)) := Lib.hid (by
          obtain ⟨p1, p2⟩ := step_pow (k := k) (a := a) (u := 128 ^ k) (b := b) h9 rfl HS.out.2
          refine ⟨?_, p2⟩
          rw [HS.out.1, HD.out]
          simp only [readAt]
          rw [if_neg (by omega), if_neg hB, if_neg hC, if_pos h9, p1])
        clear hq64
        generalize a + b % 128 * 128 ^ k = q at HV HN
        clear hA hB
        go_wp2_with (go_at_call 42; refine HCT.out.mono ?_; rintro e w' ⟨rfl, rfl⟩)
        all_goals exact ⟨⟨k + 1, q, _, _, by omega, by omega, congrArg (Value.int .i64) (by push_cast; omega), congrArg (Value.int .u64) HV.out, HN, HR1, by omega, HO1⟩, by simp [intOf]; omega⟩
    · obtain rfl : k = l.length := by omega
      have e : R = (0, 0, 130) := by
        rw [← hR, HS.out.1, List.drop_length]
        rfl
      subst e
      have HCT := Lib.hid (take_more 1 P p c _ wr (by rw [List.length_drop]; omega) (by rw [List.length_drop]; omega) HP.out)
      go_wp2_with (go_at_call 42; refine HCT.out.mono ?_; rintro e w' ⟨rfl, rfl⟩)
      go_step3
      refine ⟨rfl, HJ.out _ _ ?_⟩
      go_wp2
      simp only [Exit.noGoto_ret]
      go_ret2
      exact ⟨rfl, HO.out, fun h => by simp at h⟩
end Go.Proofs.Ytgadmbgnkccooaa
