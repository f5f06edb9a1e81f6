import Derived.Test.YtgadmbgnkccooaaO3
namespace Go.Proofs.Ytgadmbgnkccooaa
open Go.RowKit Go.Shelf

theorem byte_of {l : List Nat} {k : Nat} (hb : ∀ b ∈ l, b < 256) (hlt : k < l.length) : l.getD k 0 < 256 ∧ l.drop k = l.getD k 0 :: l.drop (k + 1) := by
  rw [List.getD_eq_getElem?_getD, List.getElem?_eq_getElem hlt]
  exact ⟨hb _ (List.getElem_mem hlt), List.drop_eq_getElem_cons hlt⟩
/-- Where reading stands. -/
structure Stands (l : List Nat) (k a u : Nat) : Prop where
  r : readE l = readAt (l.drop k) k a u
  u9 : k < 9 → u * 128 < 2 ^ 64
  u63 : u ≤ 2 ^ 63
  d : ∀ b, b < 256 → (k = 9 → b ≤ 1) → k ≤ 9 → a + b % 128 * u < 2 ^ 64
  a64 : a < 2 ^ 64
theorem stands_pow {l : List Nat} {k a : Nat} (hk : k ≤ 9) (h : readE l = readAt (l.drop k) k a (128 ^ k)) (ha : a < 128 ^ k) : Stands l k a (128 ^ k) := by
  rcases (show k = 0 ∨ k = 1 ∨ k = 2 ∨ k = 3 ∨ k = 4 ∨ k = 5 ∨ k = 6 ∨ k = 7 ∨ k = 8 ∨ k = 9 by omega) with rfl | rfl | rfl | rfl | rfl | rfl | rfl | rfl | rfl | rfl
  all_goals (refine ⟨h, fun _ => by omega, by omega, fun b h1 h2 _ => ?_, by omega⟩; simp only [Nat.reducePow] at ha ⊢; omega)
theorem step_pow {k a u b : Nat} (hk : k < 9) (hu : u = 128 ^ k) (ha : a < 128 ^ k) : u * 128 = 128 ^ (k + 1) ∧ a + b % 128 * u < 128 ^ (k + 1) := by
  subst hu
  refine ⟨by rw [Nat.pow_succ], ?_⟩
  rw [Nat.pow_succ]
  have h1 : b % 128 * 128 ^ k ≤ 127 * 128 ^ k := Nat.mul_le_mul_right _ (by omega)
  omega
set_option maxRecDepth 100000 in
set_option maxHeartbeats 1000000 in
theorem refReadNumber_any (l : List Nat) (p : Option Addr) (cap : Nat) (w : World) (hl : l.length ≤ 100000) (hb : ∀ b ∈ l, b < 256) (hc : Hid (BytesAt w p l)) :
    Calls Try.prog 10 #[.slice p l.length cap] w fun r w' => r = .returned (.tuple #[.int .u64 (readE l).1, .int .i64 (readE l).2.1, .int .i64 (readE l).2.2]) ∧ w = w' := by
  have HB := Lib.hid hb
  clear hb
  obtain ⟨R, hR⟩ : ∃ R, readE l = R := ⟨_, rfl⟩
  rw [hR]
  go_enter Try.func10, Try.ntmps10
  go_wp2
  go_loop [5, 6, 7] (fun n u i => ∃ k a : Nat, k ≤ l.length ∧ k ≤ 9 ∧ i = .int .i64 k ∧ n = .int .u64 a ∧ u = .int .u64 (128 ^ k : Nat) ∧ Hid (readE l = readAt (l.drop k) k a (128 ^ k) ∧ a < 128 ^ k)) (fun _ _ i => l.length - (intOf i).toNat)
  case atStart => exact ⟨0, 0, Nat.zero_le _, by omega, rfl, rfl, rfl, Lib.hid ⟨rfl, by decide⟩⟩
  case round =>
    obtain ⟨k, a, hk, hk9, rfl, rfl, rfl, HS⟩ := hrel
    have HT := Lib.hid (stands_pow hk9 HS.out.1 HS.out.2)
    have HP := Lib.hid (fun b h => step_pow (k := k) (a := a) (u := 128 ^ k) (b := b) h rfl HS.out.2)
    generalize hu : 128 ^ k = u at HT HP ⊢
    have HU := Lib.hid hu
    clear hu
    by_cases hlt : k < l.length
    · obtain ⟨B, off, rfl, c⟩ := hc.out k hlt
      obtain ⟨b, hbk⟩ : ∃ b, b = l.getD k 0 := ⟨_, rfl⟩
      obtain ⟨hb', hd⟩ := byte_of HB.out hlt
      rw [← hbk] at c hb' hd
      have HD := Lib.hid hd
      have hu63 := HT.out.u63
      have ha := HT.out.a64
      clear hbk hd
      by_cases h9 : k = 9 ∧ 1 < b
      · obtain ⟨rfl, h1⟩ := h9
        have e : R = (0, 0, 130) := by
          rw [← hR, HT.out.r, HD.out]
          simp only [readAt]
          rw [if_neg (by omega), if_pos ⟨trivial, h1⟩]
        subst e
        go_wp2
        go_ret3
        exact ⟨rfl, rfl⟩
      · obtain ⟨q, hq⟩ : ∃ q : Nat, b % 128 * u = q := ⟨_, rfl⟩
        have hq64 := HT.out.d b hb' (by omega) hk9
        have hqi : ((b : Int) % 128) * (u : Int) = (q : Int) := by rw [← hq]; simp
        have HQ := Lib.hid hq
        rw [hq] at hq64
        clear hq
        by_cases hb7 : b < 128
        · by_cases h0 : b % 128 = 0 ∧ 0 < k
          · have e : R = (0, 0, 130) := by
              rw [← hR, HT.out.r, HD.out]
              simp only [readAt]
              rw [if_neg (by omega), if_neg h9, if_pos hb7, if_pos h0]
            subst e
            obtain ⟨h0, h1⟩ := h0
            have hb0 : b = 0 := by omega
            subst hb0
            by_cases h99 : k = 9
            · subst h99
              go_wp2
              go_ret3
              exact ⟨rfl, rfl⟩
            · have h98 : ((k : Int) == 9) = false := by simp; omega
              go_wp2
              go_ret3
              exact ⟨rfl, rfl⟩
          · have e : R = (a + q, k + 1, 0) := by
              rw [← hR, HT.out.r, HD.out]
              simp only [readAt]
              rw [if_neg (by omega), if_neg h9, if_pos hb7, if_neg h0, HQ.out]
            subst e
            by_cases h99 : k = 9
            · subst h99
              go_wp2
              all_goals go_ret3
              all_goals exact ⟨rfl, rfl⟩
            · have h98 : ((k : Int) == 9) = false := by simp; omega
              go_wp2
              all_goals go_ret3
              all_goals exact ⟨rfl, rfl⟩
        · have h9' : k < 9 := by omega
          obtain ⟨p1, p2⟩ := HP.out b h9'
          have hu9 := HT.out.u9 h9'
          have HN : Hid (readE l = readAt (l.drop (k + 1)) (k + 1) (a + q) (128 ^ (k + 1)) ∧ a + q < 128 ^ (k + 1)) := Lib.hid (by
            rw [HQ.out] at p2
            refine ⟨?_, p2⟩
            rw [HT.out.r, HD.out]
            simp only [readAt]
            rw [if_neg (by omega), if_neg h9, if_neg hb7, if_pos h9', HQ.out, p1])
          have HP1 := Lib.hid p1
          clear p1 p2
          go_wp2
          go_round
          case rel => exact ⟨k + 1, a + q, by omega, by omega, by go_num, by first | rfl | go_num, by rw [← HP1.out]; first | rfl | go_num, HN⟩
          case measure => simp [intOf]; omega
    · obtain rfl : k = l.length := by omega
      have e : R = (0, 0, 130) := by
        rw [← hR, HT.out.r, List.drop_length]
        rfl
      subst e
      go_wp2
      go_ret3
      exact ⟨rfl, rfl⟩
end Go.Proofs.Ytgadmbgnkccooaa

