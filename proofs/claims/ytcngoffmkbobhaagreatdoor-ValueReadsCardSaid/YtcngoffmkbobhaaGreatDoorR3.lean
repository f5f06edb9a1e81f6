import Derived.Test.YtcngoffmkbobhaaGreatDoorR2
namespace Go.Proofs.YtcngoffmkbobhaaGreatDoor
open Go.RowKit

set_option maxRecDepth 100000 in
set_option maxHeartbeats 1000000 in
theorem quo_short (s : ByteArray) (w : World) (h : s.size < 2) :
    Calls Tryz.prog 56 #[.string s] w fun r w' => r = .returned (.tuple #[.string ⟨#[]⟩, .bool false]) ∧ w = w' := by
  have z1 : (s.size : Int) < 2 := by omega
  go_enter Tryz.func56, Tryz.ntmps56
  go_wp2
  go_ret2
  exact ⟨rfl, rfl⟩
set_option maxRecDepth 100000 in
set_option maxHeartbeats 1000000 in
theorem quo_first (s : ByteArray) (w : World) (hs : s.size ≤ 1000000) (h : 2 ≤ s.size) (hf : ¬ (s[0]'(by omega)).toNat = 39) :
    Calls Tryz.prog 56 #[.string s] w fun r w' => r = .returned (.tuple #[.string ⟨#[]⟩, .bool false]) ∧ w = w' := by
  have z0 : (0 : Int) < (s.size : Int) := by omega
  have z1 : ¬ (s.size : Int) < 2 := by omega
  go_enter Tryz.func56, Tryz.ntmps56
  go_wp2
  go_ret2
  exact ⟨rfl, rfl⟩
set_option maxRecDepth 100000 in
set_option maxHeartbeats 1000000 in
theorem quo_last (s : ByteArray) (w : World) (hs : s.size ≤ 1000000) (h : 2 ≤ s.size) (hf : (s[0]'(by omega)).toNat = 39) (hl : ¬ (s[s.size - 1]'(by omega)).toNat = 39) :
    Calls Tryz.prog 56 #[.string s] w fun r w' => r = .returned (.tuple #[.string ⟨#[]⟩, .bool false]) ∧ w = w' := by
  have z0 : (0 : Int) < (s.size : Int) := by omega
  have z1 : ¬ (s.size : Int) < 2 := by omega
  have z2 : (0 : Int) ≤ (s.size : Int) - 1 := by omega
  have z3 : (s.size : Int) - 1 < (s.size : Int) := by omega
  go_enter Tryz.func56, Tryz.ntmps56
  go_wp2
  go_ret2
  exact ⟨rfl, rfl⟩

theorem quo_some (s : ByteArray) (m : List UInt8) (w : World) (hs : s.size ≤ 1000000) (h : s.data.toList = 39 :: (m ++ [39])) :
    Calls Tryz.prog 56 #[.string s] w fun r w' => r = .returned (quoR m) ∧ w = w' := by
  have hz := Lib.size_eq s
  rw [h] at hz
  simp at hz
  have e0 : s[0]'(by omega) = s.data.toList[0]'(by rw [h]; simp) := rfl
  have e1 : s[s.size - 1]'(by omega) = s.data.toList[s.size - 1]'(by rw [h]; simp; omega) := rfl
  have f0 : (s[0]'(by omega)).toNat = 39 := by rw [e0]; simp [h]
  have f1 : (s[s.size - 1]'(by omega)).toNat = 39 := by
    rw [e1]
    simp only [h]
    have : s.size - 1 = m.length + 1 := by omega
    simp only [this]
    rw [List.getElem_cons_succ, List.getElem_append_right (by omega)]
    simp
  have hm : (s.extract 1 (s.size - 1)).data.toList = m := by
    rw [← ByteArray.toList_eq, Lib.extract_toList, h]
    simp only [List.drop_succ_cons, List.drop_zero]
    rw [show s.size - 1 - 1 = m.length by omega]
    simp
  have := quo_try s w hs (by omega) f0 f1
  rw [hm] at this
  exact this
theorem quo_none (s : ByteArray) (w : World) (hs : s.size ≤ 1000000) (h : ∀ m, s.data.toList ≠ 39 :: (m ++ [39])) :
    Calls Tryz.prog 56 #[.string s] w fun r w' => r = .returned (.tuple #[.string ⟨#[]⟩, .bool false]) ∧ w = w' := by
  by_cases h2 : s.size < 2
  · exact quo_short s w h2
  by_cases hf : (s[0]'(by omega)).toNat = 39
  · by_cases hl : (s[s.size - 1]'(by omega)).toNat = 39
    · exfalso
      have hz := Lib.size_eq s
      have e0 : s[0]'(by omega) = s.data.toList[0]'(by omega) := rfl
      have e1 : s[s.size - 1]'(by omega) = s.data.toList[s.size - 1]'(by omega) := rfl
      have g0 := byte_eq39 hf
      have g1 := byte_eq39 hl
      rw [e0] at g0
      rw [e1] at g1
      obtain ⟨c, t, e⟩ : ∃ c t, s.data.toList = c :: t := by
        cases hq : s.data.toList with
        | nil =>
          have : s.size = 0 := by rw [hz, hq]; rfl
          omega
        | cons c t => exact ⟨c, t, rfl⟩
      have hc : c = 39 := by simpa [e] using g0
      have ht : t ≠ [] := fun e' => by rw [e, e'] at hz; simp at hz; omega
      have hlast : t.getLast ht = 39 := by
        rw [← g1, List.getLast_eq_getElem]
        simp only [e]
        rw [e] at hz
        simp at hz
        have : s.size - 1 = (t.length - 1) + 1 := by have := List.length_pos_iff.2 ht; omega
        simp only [this, List.getElem_cons_succ]
      have hd := List.dropLast_concat_getLast ht
      rw [hlast] at hd
      exact h t.dropLast (by rw [e, hc, hd])
    · exact quo_last s w hs (by omega) hf hl
  · exact quo_first s w hs (by omega) hf
end Go.Proofs.YtcngoffmkbobhaaGreatDoor
