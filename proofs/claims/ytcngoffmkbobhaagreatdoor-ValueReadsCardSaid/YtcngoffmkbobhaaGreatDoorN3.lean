import Derived.Test.YtcngoffmkbobhaaGreatDoorN2
namespace Go.Proofs.YtcngoffmkbobhaaGreatDoor
open Go.RowKit

theorem dig_cut16 : ∀ d : Fin 16, ((⟨#[48, 49, 50, 51, 52, 53, 54, 55, 56, 57, 97, 98, 99, 100, 101, 102]⟩ : ByteArray).extract d.val (d.val + 1)).data.toList = [(dg d.val).toUInt8] := by decide +kernel
theorem hex_join (s : ByteArray) (j : Nat) (h : j < s.size) : (⟨(hexL (s.data.toList.take j)).toArray⟩ : ByteArray) ++ (⟨#[48, 49, 50, 51, 52, 53, 54, 55, 56, 57, 97, 98, 99, 100, 101, 102]⟩ : ByteArray).extract (s[j].toNat / 16) (s[j].toNat / 16 + 1) ++ (⟨#[48, 49, 50, 51, 52, 53, 54, 55, 56, 57, 97, 98, 99, 100, 101, 102]⟩ : ByteArray).extract (s[j].toNat % 16) (s[j].toNat % 16 + 1) = ⟨(hexL (s.data.toList.take (j + 1))).toArray⟩ := by
  apply Go.WideShapes.bytes_inj
  have hl : j < s.data.toList.length := by simpa using h
  have e : s[j] = s.data.toList[j] := rfl
  rw [Go.Joins.data_append, Go.Joins.data_append, dig_cut16 ⟨s[j].toNat / 16, by have := s[j].toNat_lt; omega⟩, dig_cut16 ⟨s[j].toNat % 16, by omega⟩, hexL_take _ _ hl, ← e]
  simp

set_option maxRecDepth 100000 in
set_option maxHeartbeats 400000 in
theorem rl4 (n : Int) (s : ByteArray) (w : World) (hs : s.size ≤ 1000000) (hc : Hid (checkV 4 n s = 0)) :
    Calls Tryz.prog 28 #[.agg #[.int .i64 4, .int .i64 n, .string s]] w fun r w' => r = .returned (.tuple #[.string ⟨((120 : UInt8) :: 39 :: (hexL s.data.toList ++ [39])).toArray⟩, .int .i64 0]) ∧ Below w.heap.size w w' := by
  go_enter Tryz.func28, Tryz.ntmps28
  go_wp2_with (first | (go_at_call 12; refine (refCheck_any _ _ _ _).mono ?_; rintro e w1 ⟨rfl, b1⟩; rw [hc.out]; obtain ⟨kk0, kk1, kk2⟩ := box_facts b1))
  go_loopw [5, 7, 8] (fun v i _ wr => ∃ j : Nat, j ≤ s.size ∧ i = .int .i64 j ∧ v = .string ⟨(hexL (s.data.toList.take j)).toArray⟩ ∧ Below (w.alloc (vObj 4 n s)).heap.size (w.alloc (vObj 4 n s)) wr) (fun _ i _ _ => s.size - (intOf i).toNat)
  case atStart => exact ⟨0, Nat.zero_le _, rfl, rfl, b1⟩
  case round =>
    obtain ⟨j, hj, rfl, rfl, hB⟩ := hrel
    obtain ⟨kk0, kk1, kk2⟩ := box_facts hB
    have hdl : (hexL (s.data.toList.take j)).length ≤ 2000000 := by
      have h1 := hexL_len (s.data.toList.take j)
      have h2 : (s.data.toList.take j).length ≤ s.data.toList.length := by simp; omega
      have h3 := Lib.size_eq s
      omega
    by_cases hlt : j < s.size
    · have hi0 : (0 : Int) ≤ (j : Int) := by omega
      have hi1 : (j : Int) < (s.size : Int) := by omega
      have hc8 := s[j].toNat_lt
      go_wp2
      go_region
      all_goals go_wp2
      all_goals
        refine ⟨⟨j + 1, by omega, by go_num, ?_, hB.drew⟩, by simp [intOf]; omega⟩
        rw [hex_join s j hlt]
    · have e1 : s.data.toList.take j = s.data.toList := List.take_of_length_le (by have := Lib.size_eq s; omega)
      rw [e1] at hdl ⊢
      clear e1
      go_wp2
      go_ret2
      refine ⟨?_, kb1 hB⟩
      rw [show (⟨#[120, 39]⟩ : ByteArray) ++ (⟨(hexL s.data.toList).toArray⟩ : ByteArray) ++ (⟨#[39]⟩ : ByteArray) = ⟨((120 : UInt8) :: 39 :: (hexL s.data.toList ++ [39])).toArray⟩ from Go.WideShapes.bytes_inj (by rw [Go.Joins.data_append, Go.Joins.data_append]; simp)]
      rfl

/-- What the document's answer on a literal is: the same as the program's, of any value. -/
theorem refLiteral_any (k n : Int) (s : ByteArray) (w : World) (hs : s.size ≤ 1000000) (h0 : -9223372036854775808 ≤ n) (h1 : n ≤ 9223372036854775807) :
    Calls Tryz.prog 28 #[.agg #[.int .i64 k, .int .i64 n, .string s]] w fun r w' => r = .returned (.tuple #[.string ⟨(litE k n s).1.toArray⟩, .int .i64 (litE k n s).2]) ∧ Below w.heap.size w w' := by
  by_cases hc : checkV k n s = 0
  · have e : litE k n s = (litL k n s.data.toList, 0) := by unfold litE; rw [if_pos hc]
    rw [e]
    unfold litL
    by_cases k0 : k = 0
    · subst k0; exact rl0 n s w hc
    rw [if_neg k0]
    by_cases k1 : k = 1
    · subst k1; exact rl1 n s w hc
    rw [if_neg k1]
    by_cases k2 : k = 2
    · subst k2; exact rl2 n s w h0 h1 hc
    rw [if_neg k2]
    by_cases k3 : k = 3
    · subst k3; exact rl3 n s w hs hc
    rw [if_neg k3]
    have k4 : k = 4 := by
      unfold checkV at hc
      split at hc
      · cases hc
      · split at hc
        · rename_i hm
          unfold mayB at hm
          rw [if_neg k0, if_neg k1, if_neg k2] at hm
          split at hm
          · rename_i hor; rcases hor with h | h; exact absurd h k3; exact h
          · cases hm
        · cases hc
    subst k4
    exact rl4 n s w hs hc
  · have e : litE k n s = ([], checkV k n s) := by unfold litE; rw [if_neg hc]
    rw [e]
    exact rl_no k n _ s w rfl (by simpa using hc)
end Go.Proofs.YtcngoffmkbobhaaGreatDoor
