import Derived.Test.YtgadmbgnkccooaaO14
namespace Go.Proofs.Ytgadmbgnkccooaa
open Go.RowKit Go.Shelf

/-- A string made of bytes that are there. -/
theorem conv_at (w : World) (p : Option Addr) (cap : Nat) (l : List Nat) (hb : ∀ b ∈ l, b < 256) (hc : BytesAt w p l) :
    (convert 23 9 (.slice p l.length cap)).run Try.prog w = .ok (.string (strOf l)) w := by
  cases l with
  | nil =>
    cases p with
    | none =>
      show (convert 23 9 (.slice none 0 cap)).run Try.prog w = _
      rw [run_convert_bytes_string w 23 9 5 none 0 cap Try.underlying23 Try.underlying5 Try.underlying9]
      rfl
    | some a =>
      have := run_convert_bytes_back (P := Try.prog) w 23 9 5 a cap [] Try.underlying23 Try.underlying5 Try.underlying9 (fun j hj => absurd hj (Nat.not_lt_zero j))
      simpa [strOf] using this
  | cons b l =>
    obtain ⟨B, off, rfl, -⟩ := hc 0 (by simp)
    refine conv_bytes w B off cap _ (b :: l) rfl hb fun j hj => ?_
    obtain ⟨B', off', e, c⟩ := hc j hj
    injection e with e
    injection e with e1 e2
    subst e1 e2
    exact c
set_option maxHeartbeats 1000000 in
theorem text_rest {T : Nat → Prop} (l : List Nat) (p0 : Option Addr) (c0 P : Nat) (w : World) (hl : l.length ≤ 100000) (hc0 : c0 ≤ 9223372036854775807) (hb : ∀ b ∈ l, b < 256) (HR : Hid (RestP T w P p0 c0 l)) :
    Calls Try.prog 37 #[.pointer (some ⟨P, 0, none⟩)] w fun r w' => r = .returned (.tuple #[.string (strOf (readStrE l).1), .bool (decide ((readStrE l).2.2 = 0))]) ∧ Only P w w' ∧ ((readStrE l).2.2 = 0 → ∃ p c, c ≤ c0 ∧ RestP T w' P p c (l.drop (readStrE l).2.1)) := by
  have C := readNumber_rest l p0 c0 P w hl hc0 hb HR
  have hRng := readE_range l hb
  have hS : readStrE l = if (readE l).2.2 ≠ 0 ∨ l.length - (readE l).2.1 < (readE l).1 then ([], 0, 130) else ((l.drop (readE l).2.1).take (readE l).1, (readE l).2.1 + (readE l).1, 0) := rfl
  unfold numPost at C
  obtain ⟨⟨n, k, e⟩, hr⟩ : ∃ R, readE l = R := ⟨_, rfl⟩
  rw [hr] at C hRng hS
  simp only at C hRng hS
  have HC := Lib.hid C
  have HB := Lib.hid hb
  clear C hb
  by_cases he : e = 0
  · subst he
    obtain ⟨h1, h2, h3, h4⟩ : n < 2 ^ 64 ∧ 0 < k ∧ k ≤ l.length ∧ k ≤ 10 := by
      rcases hRng with h | h
      · exact h.2
      · simp at h
    by_cases hn : l.length - k < n
    · rw [if_pos (.inr hn)] at hS
      rw [hS]
      clear hS hRng
      go_enter Try.func37, Try.ntmps37
      go_wp2
      refine wp_scope_fwd 0 rfl fun J HJ => ?_
      go_wp2_with fail
      refine HC.out.mono ?_
      rintro e w1 ⟨rfl, ho, hR⟩
      obtain ⟨p, c, hcc, hR⟩ := hR trivial
      have HCT := Lib.hid (take_more n P p c _ w1 (by rw [List.length_drop]; exact hn) (by rw [List.length_drop]; omega) hR)
      have HO := Lib.hid ho
      clear ho hR
      go_wp2_with (go_at_call 42; refine HCT.out.mono ?_; rintro e w' ⟨rfl, rfl⟩)
      go_step3
      refine ⟨rfl, HJ.out _ _ ?_⟩
      go_wp2
      simp only [Exit.noGoto_ret]
      go_ret2
      exact ⟨rfl, HO.out, fun h => by simp at h⟩
    · rw [if_neg (by simp; omega)] at hS
      rw [hS]
      clear hS hRng
      go_enter Try.func37, Try.ntmps37
      go_wp2
      refine wp_scope_fwd 0 rfl fun J HJ => ?_
      go_wp2_with fail
      refine HC.out.mono ?_
      rintro e w1 ⟨rfl, ho, hR⟩
      obtain ⟨p, c, hcc, hR⟩ := hR trivial
      have hlen : ((l.drop k).take n).length = n := by simp; omega
      have HCT := Lib.hid (take_rest n P p c _ w1 (by rw [List.length_drop]; omega) (by omega) hR)
      have HR2 := Lib.hid (hR.next (m := n) (by rw [List.length_drop]; omega))
      have HO2 := Lib.hid (ho.step (.slice (restAt p c n) ((l.drop k).length - n) (c - n)))
      have hcv := conv_at _ p n ((l.drop k).take n) (fun b hb => HB.out b (List.mem_of_mem_drop (List.mem_of_mem_take hb))) (hR.taken n (Only.step .refl (.slice (restAt p c n) ((l.drop k).length - n) (c - n))))
      rw [hlen] at hcv
      generalize hW : w1.setCell ⟨P, 0, none⟩ (.slice (restAt p c n) ((l.drop k).length - n) (c - n)) = W2 at HCT HR2 HO2 hcv
      clear hW ho hR hlen
      go_wp2_with (go_at_call 42; refine HCT.out.mono ?_; rintro e w' ⟨rfl, rfl⟩)
      simp only [Exit.jump]
      go_ret2
      exact ⟨rfl, HO2.out, fun _ => ⟨restAt p c n, c - n, by omega, by rw [← List.drop_drop]; exact HR2.out⟩⟩
  · have e2 : e = 130 := by
      rcases hRng with h | h
      · exact absurd h.1 he
      · simp at h; exact h.2.2
    subst e2
    rw [if_pos (.inl he)] at hS
    rw [hS]
    clear hS hRng
    go_enter Try.func37, Try.ntmps37
    go_wp2
    refine wp_scope_fwd 0 rfl fun J HJ => ?_
    go_wp2_with fail
    refine HC.out.mono ?_
    rintro e w1 ⟨rfl, ho, -⟩
    have HO := Lib.hid ho
    clear ho
    go_wp2
    go_step3
    refine ⟨rfl, HJ.out _ _ ?_⟩
    go_wp2
    simp only [Exit.noGoto_ret]
    go_ret2
    exact ⟨rfl, HO.out, fun h => by simp at h⟩
end Go.Proofs.Ytgadmbgnkccooaa
