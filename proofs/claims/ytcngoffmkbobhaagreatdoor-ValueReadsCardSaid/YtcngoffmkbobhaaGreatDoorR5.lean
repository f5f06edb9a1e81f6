import Derived.Test.YtcngoffmkbobhaaGreatDoorR4
namespace Go.Proofs.YtcngoffmkbobhaaGreatDoor
open Go.RowKit

theorem head_cut (s : ByteArray) (h0 : 0 < s.size) (hf : (s[0]'h0).toNat = 45) : s.data.toList = 45 :: (s.extract 1 s.size).data.toList := by
  have hz := Lib.size_eq s
  have hl : 0 < s.data.toList.length := by omega
  have e0 : s[0]'h0 = s.data.toList[0]'hl := rfl
  have h45 : s.data.toList[0]'hl = 45 := by rw [← e0]; exact UInt8.toNat_inj.1 hf
  rw [← ByteArray.toList_eq (s.extract _ _), Lib.extract_toList]
  have e1 : (s.data.toList.drop 1).take (s.size - 1) = s.data.toList.drop 1 := List.take_of_length_le (by simp)
  rw [e1, ← h45]
  exact (List.drop_eq_getElem_cons hl)
theorem not_head (s : ByteArray) (h0 : 0 < s.size) (hf : ¬ (s[0]'h0).toNat = 45) : ∀ t, s.data.toList ≠ 45 :: t := by
  intro t e
  have hz := Lib.size_eq s
  have hl : 0 < s.data.toList.length := by omega
  have e0 : s[0]'h0 = s.data.toList[0]'hl := rfl
  apply hf
  rw [e0]
  simp only [e]
  rfl

set_option maxRecDepth 100000 in
set_option maxHeartbeats 1000000 in
theorem whole_m (s : ByteArray) (w : World) (hs : s.size ≤ 1000000) (h0 : 0 < s.size) (hf : (s[0]'h0).toNat = 45) :
    Calls Tryz.prog 55 #[.string s] w fun r w' => ∃ n b, r = .returned (.tuple #[.int .i64 n, .bool b]) ∧ (b = true → Whole s.data.toList n) ∧ (b = false → ∀ m, ¬ Whole s.data.toList m) ∧ w = w' := by
  have z0 : (0 : Int) < (s.size : Int) := by omega
  have z1 : (1 : Int) ≤ (s.size : Int) := by omega
  obtain ⟨B, hB⟩ : ∃ B, B = s.extract 1 s.size := ⟨_, rfl⟩
  have hBz : B.size = s.size - 1 := by rw [hB]; simp
  have HBB := Lib.hid hB
  have HL : Hid (s.data.toList = 45 :: B.data.toList) := by rw [hB]; exact head_cut s h0 hf
  clear hB
  have hBl := Lib.hid (Lib.size_eq B)
  by_cases hlen : s.size - 1 = 0 ∨ 19 < s.size - 1
  · go_enter Tryz.func55, Tryz.ntmps55
    go_wp2
    all_goals first
      | (exfalso; have h : (((s.size - 1 : Nat) : Int) == 0) = false ∧ ((s.size - 1 : Nat) : Int) ≤ 19 := ‹_›; have := h.1; simp at this; omega)
      | (go_ret2; exact ⟨0, false, rfl, nofun, fun _ => by rw [HL.out]; exact no_m (nd_len (by have := hBl.out; omega)), rfl⟩)
  go_enter Tryz.func55, Tryz.ntmps55
  go_wp2
  all_goals first
    | (exfalso; have h : (((s.size - 1 : Nat) : Int) == 0) = true ∨ 19 < ((s.size - 1 : Nat) : Int) := ‹_›; simp at h; omega)
    | skip
  rw [← HBB.out, ← hBz]
  have hz19 : B.size ≤ 19 := by omega
  clear hBz
  go_loopw [6, 7, 8] (fun n i _ wr => ∃ (j : Nat), j ≤ B.size ∧ i = .int .i64 j ∧ n = .int .i64 (-((val (B.data.toList.take j) : Nat) : Int)) ∧ val (B.data.toList.take j) ≤ 9223372036854775808 ∧ (∀ c ∈ B.data.toList.take j, 48 ≤ c.toNat ∧ c.toNat ≤ 57) ∧ w = wr) (fun _ i _ _ => B.size - (intOf i).toNat)
  case atStart => exact ⟨0, Nat.zero_le _, rfl, rfl, by simp [val], by simp, rfl⟩
  case round =>
    obtain ⟨j, hj, rfl, rfl, hv, hdg, rfl⟩ := hrel
    have HDG := Lib.hid hdg
    clear hdg
    by_cases hlt : j < B.size
    · have hi0 : (0 : Int) ≤ (j : Int) := by omega
      have hi1 : (j : Int) < (B.size : Int) := by omega
      have hjl : Hid (j < B.data.toList.length) := by have := hBl.out; exact (show j < B.data.toList.length by omega)
      by_cases k48 : (B[j]'hlt).toNat < 48
      · have k48' : ((B[j]'hlt).toNat : Int) < 48 := by omega
        have HNO : Hid (∀ m, ¬ Whole s.data.toList m) := by rw [HL.out]; exact no_m (nd_dig hjl.out (.inl k48))
        go_wp2
        go_ret2
        exact ⟨0, false, rfl, nofun, fun _ => HNO.out, rfl⟩
      by_cases k57 : 57 < (B[j]'hlt).toNat
      · have k48' : (48 : Int) ≤ ((B[j]'hlt).toNat : Int) := by omega
        have k57' : (57 : Int) < ((B[j]'hlt).toNat : Int) := by omega
        have HNO : Hid (∀ m, ¬ Whole s.data.toList m) := by rw [HL.out]; exact no_m (nd_dig hjl.out (.inr k57))
        go_wp2
        go_ret2
        exact ⟨0, false, rfl, nofun, fun _ => HNO.out, rfl⟩
      · have k48' : (48 : Int) ≤ ((B[j]'hlt).toNat : Int) := by omega
        have k57' : ((B[j]'hlt).toNat : Int) ≤ 57 := by omega
        go_wp2
        · have HO := step_over (v := val (B.data.toList.take j)) (k := (B[j]'hlt).toNat) (by omega) (by omega) ‹_›
          go_ret2
          exact ⟨0, false, rfl, nofun, fun _ => by rw [HL.out]; exact no_m (nd_over (val_over _ j hjl.out HO)), rfl⟩
        · have HS := step_stay (v := val (B.data.toList.take j)) (k := (B[j]'hlt).toNat) (by omega) (by omega) ‹_›
          have hvs : val (B.data.toList.take (j + 1)) = 10 * val (B.data.toList.take j) + ((B[j]'hlt).toNat - 48) := val_step _ j hjl.out
          refine ⟨⟨j + 1, by omega, by go_num, ?_, by rw [hvs]; exact HS, take_digits hjl.out HDG.out (show 48 ≤ (B[j]'hlt).toNat by omega) (show (B[j]'hlt).toNat ≤ 57 by omega), trivial⟩, by simp [intOf]; omega⟩
          rw [hvs, step_wrap (by omega) (by omega) HS]
    · have e1 : B.data.toList.take j = B.data.toList := List.take_of_length_le (by have := hBl.out; omega)
      rw [e1] at hv ⊢
      clear e1
      go_wp2_with (go_at_call 52; refine (number_any _ _ (by omega) (by omega)).mono ?_; rintro e w' ⟨rfl, rfl⟩)
      go_ret2
      have HE := end_m hv
      exact ⟨_, _, rfl, fun h => HE.1 _ HL.out (by rw [← toL s]; exact h), fun h => HE.2 _ HL.out (by rw [← toL s]; exact h), rfl⟩

set_option maxRecDepth 100000 in
set_option maxHeartbeats 1000000 in
theorem whole_p (s : ByteArray) (w : World) (hs : s.size ≤ 1000000) (h0 : 0 < s.size) (hf : ¬ (s[0]'h0).toNat = 45) :
    Calls Tryz.prog 55 #[.string s] w fun r w' => ∃ n b, r = .returned (.tuple #[.int .i64 n, .bool b]) ∧ (b = true → Whole s.data.toList n) ∧ (b = false → ∀ m, ¬ Whole s.data.toList m) ∧ w = w' := by
  have z0 : (0 : Int) < (s.size : Int) := by omega
  have z1 : (1 : Int) ≤ (s.size : Int) := by omega
  have HL : Hid (∀ t, s.data.toList ≠ 45 :: t) := not_head s h0 hf
  have hBl := Lib.hid (Lib.size_eq s)
  by_cases hlen : 19 < s.size
  · have z2 : (19 : Int) < (s.size : Int) := by omega
    go_enter Tryz.func55, Tryz.ntmps55
    go_wp2
    all_goals (go_ret2; exact ⟨0, false, rfl, nofun, fun _ => no_p HL.out (fun u hu => (nd_len (by have := hBl.out; omega)) u (by omega)), rfl⟩)
  have z2 : (s.size : Int) ≤ 19 := by omega
  go_enter Tryz.func55, Tryz.ntmps55
  go_wp2
  all_goals first
    | (exfalso; have h : s = ByteArray.empty := ‹_›; have h' := congrArg ByteArray.size h; rw [ByteArray.size_empty] at h'; omega)
    | (exfalso; have h : ((s.size : Int) == 0) = true ∨ 19 < (s.size : Int) := ‹_›; rcases h with h | h; (have h' := eq_of_beq h; omega); omega)
    | skip
  have hse : ((s.size : Int) == 0) = false := by have h : ((s.size : Int) == 0) = false ∧ (s.size : Int) ≤ 19 := ‹_›; exact h.1
  simp only [hse, Bool.false_or]
  go_loopw [6, 7, 8] (fun n i _ wr => ∃ (j : Nat), j ≤ s.size ∧ i = .int .i64 j ∧ n = .int .i64 (-((val (s.data.toList.take j) : Nat) : Int)) ∧ val (s.data.toList.take j) ≤ 9223372036854775808 ∧ (∀ c ∈ s.data.toList.take j, 48 ≤ c.toNat ∧ c.toNat ≤ 57) ∧ w = wr) (fun _ i _ _ => s.size - (intOf i).toNat)
  case atStart => exact ⟨0, Nat.zero_le _, rfl, rfl, by simp [val], by simp, rfl⟩
  case round =>
    obtain ⟨j, hj, rfl, rfl, hv, hdg, rfl⟩ := hrel
    have HDG := Lib.hid hdg
    clear hdg
    by_cases hlt : j < s.size
    · have hi0 : (0 : Int) ≤ (j : Int) := by omega
      have hi1 : (j : Int) < (s.size : Int) := by omega
      have hjl : Hid (j < s.data.toList.length) := by have := hBl.out; exact (show j < s.data.toList.length by omega)
      by_cases k48 : (s[j]'hlt).toNat < 48
      · have k48' : ((s[j]'hlt).toNat : Int) < 48 := by omega
        have HNO : Hid (∀ m, ¬ Whole s.data.toList m) := no_p HL.out (fun u hu => (nd_dig hjl.out (.inl k48)) u (by omega))
        go_wp2
        go_ret2
        exact ⟨0, false, rfl, nofun, fun _ => HNO.out, rfl⟩
      by_cases k57 : 57 < (s[j]'hlt).toNat
      · have k48' : (48 : Int) ≤ ((s[j]'hlt).toNat : Int) := by omega
        have k57' : (57 : Int) < ((s[j]'hlt).toNat : Int) := by omega
        have HNO : Hid (∀ m, ¬ Whole s.data.toList m) := no_p HL.out (fun u hu => (nd_dig hjl.out (.inr k57)) u (by omega))
        go_wp2
        go_ret2
        exact ⟨0, false, rfl, nofun, fun _ => HNO.out, rfl⟩
      · have k48' : (48 : Int) ≤ ((s[j]'hlt).toNat : Int) := by omega
        have k57' : ((s[j]'hlt).toNat : Int) ≤ 57 := by omega
        go_wp2
        · have HO := step_over (v := val (s.data.toList.take j)) (k := (s[j]'hlt).toNat) (by omega) (by omega) ‹_›
          go_ret2
          exact ⟨0, false, rfl, nofun, fun _ => no_p HL.out (fun u hu => (nd_over (val_over _ j hjl.out HO)) u (by omega)), rfl⟩
        · have HS := step_stay (v := val (s.data.toList.take j)) (k := (s[j]'hlt).toNat) (by omega) (by omega) ‹_›
          have hvs : val (s.data.toList.take (j + 1)) = 10 * val (s.data.toList.take j) + ((s[j]'hlt).toNat - 48) := val_step _ j hjl.out
          refine ⟨⟨j + 1, by omega, by go_num, ?_, by rw [hvs]; exact HS, take_digits hjl.out HDG.out (show 48 ≤ (s[j]'hlt).toNat by omega) (show (s[j]'hlt).toNat ≤ 57 by omega), trivial⟩, by simp [intOf]; omega⟩
          rw [hvs, step_wrap (by omega) (by omega) HS]
    · have e1 : s.data.toList.take j = s.data.toList := List.take_of_length_le (by have := hBl.out; omega)
      rw [e1] at hv ⊢
      clear e1
      by_cases hmax : val s.data.toList = 9223372036854775808
      · have hm1 : -((val s.data.toList : Nat) : Int) = -9223372036854775808 := by omega
        have HNO : Hid (∀ m, ¬ Whole s.data.toList m) := no_p HL.out (nd_more (by omega))
        rw [hm1]
        clear hm1 hv
        go_wp2
        go_ret2
        exact ⟨0, false, rfl, nofun, fun _ => HNO.out, rfl⟩
      · have hm2 : ¬ -((val s.data.toList : Nat) : Int) = -9223372036854775808 := by omega
        have hm3 : wrap64 (-(-((val s.data.toList : Nat) : Int))) = ((val s.data.toList : Nat) : Int) := by rw [IntWalk.wrap64_in _ ⟨by omega, by omega⟩]; omega
        have HE := Lib.hid (end_p HL.out (show val s.data.toList ≤ 9223372036854775807 by omega))
        go_wp2_with (go_at_call 52; refine (number_any _ _ (by omega) (by omega)).mono ?_; rintro e w' ⟨rfl, rfl⟩)
        go_ret2
        exact ⟨_, _, rfl, fun h => HE.out.1 (by have h' : (Lib.itoa ((val s.data.toList : Nat) : Int) == s.toList) = true := h; rw [toL s] at h'; exact h'), fun h => HE.out.2 (by have h' : (Lib.itoa ((val s.data.toList : Nat) : Int) == s.toList) = false := h; rw [toL s] at h'; exact h'), rfl⟩

set_option maxRecDepth 100000 in
set_option maxHeartbeats 1000000 in
theorem whole_0 (s : ByteArray) (w : World) (h0 : s.size = 0) :
    Calls Tryz.prog 55 #[.string s] w fun r w' => ∃ n b, r = .returned (.tuple #[.int .i64 n, .bool b]) ∧ (b = true → Whole s.data.toList n) ∧ (b = false → ∀ m, ¬ Whole s.data.toList m) ∧ w = w' := by
  have z0 : (s.size : Int) = 0 := by omega
  have HN : Hid (∀ m, ¬ Whole s.data.toList m) := no_p (fun t e => by have := Lib.size_eq s; rw [e] at this; simp at this; omega) (fun u hu => nd_len (by have := Lib.size_eq s; omega) u (by omega))
  go_enter Tryz.func55, Tryz.ntmps55
  go_wp2
  go_ret2
  exact ⟨0, false, rfl, nofun, fun _ => HN.out, rfl⟩
theorem whole_any (s : ByteArray) (w : World) (hs : s.size ≤ 1000000) :
    Calls Tryz.prog 55 #[.string s] w fun r w' => ∃ n b, r = .returned (.tuple #[.int .i64 n, .bool b]) ∧ (b = true → Whole s.data.toList n) ∧ (b = false → ∀ m, ¬ Whole s.data.toList m) ∧ w = w' := by
  by_cases h0 : 0 < s.size
  · by_cases hf : (s[0]'h0).toNat = 45
    · exact whole_m s w hs h0 hf
    · exact whole_p s w hs h0 hf
  · exact whole_0 s w (by omega)
end Go.Proofs.YtcngoffmkbobhaaGreatDoor
