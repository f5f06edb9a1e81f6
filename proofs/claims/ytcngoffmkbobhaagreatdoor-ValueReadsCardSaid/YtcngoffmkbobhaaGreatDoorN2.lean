import Derived.Test.YtcngoffmkbobhaaGreatDoorN1
import Derived.Test.YtcngoffmkbobhaaGreatDoorT22
namespace Go.Proofs.YtcngoffmkbobhaaGreatDoor
open Go.RowKit

set_option maxRecDepth 100000 in
set_option maxHeartbeats 400000 in
theorem rl_no (k n c : Int) (s : ByteArray) (w : World) (hc : Hid (checkV k n s = c)) (hne : (c != 0) = true) :
    Calls Tryz.prog 28 #[.agg #[.int .i64 k, .int .i64 n, .string s]] w fun r w' => r = .returned (.tuple #[.string ⟨#[]⟩, .int .i64 c]) ∧ Below w.heap.size w w' := by
  go_enter Tryz.func28, Tryz.ntmps28
  go_wp2_with (go_at_call 12; refine (refCheck_any _ _ _ _).mono ?_; rintro e w1 ⟨rfl, b1⟩; rw [hc.out]; obtain ⟨kk0, kk1, kk2⟩ := box_facts b1)
  go_ret2
  exact ⟨rfl, kb1 b1⟩
set_option maxRecDepth 100000 in
set_option maxHeartbeats 400000 in
theorem rl0 (n : Int) (s : ByteArray) (w : World) (hc : Hid (checkV 0 n s = 0)) :
    Calls Tryz.prog 28 #[.agg #[.int .i64 0, .int .i64 n, .string s]] w fun r w' => r = .returned (.tuple #[.string ⟨#[110, 117, 108, 108]⟩, .int .i64 0]) ∧ Below w.heap.size w w' := by
  go_enter Tryz.func28, Tryz.ntmps28
  go_wp2_with (go_at_call 12; refine (refCheck_any _ _ _ _).mono ?_; rintro e w1 ⟨rfl, b1⟩; rw [hc.out]; obtain ⟨kk0, kk1, kk2⟩ := box_facts b1)
  go_ret2
  exact ⟨rfl, kb1 b1⟩
theorem fb_true : (⟨(Lib.formatBool true).toArray⟩ : ByteArray) = ⟨#[116, 114, 117, 101]⟩ := by decide +kernel
theorem fb_false : (⟨(Lib.formatBool false).toArray⟩ : ByteArray) = ⟨#[102, 97, 108, 115, 101]⟩ := by decide +kernel
set_option maxRecDepth 100000 in
set_option maxHeartbeats 400000 in
theorem rl1 (n : Int) (s : ByteArray) (w : World) (hc : Hid (checkV 1 n s = 0)) :
    Calls Tryz.prog 28 #[.agg #[.int .i64 1, .int .i64 n, .string s]] w fun r w' => r = .returned (.tuple #[.string ⟨(Lib.formatBool (n == 1)).toArray⟩, .int .i64 0]) ∧ Below w.heap.size w w' := by
  by_cases hn : n = 1
  · subst hn
    rw [show ((1 : Int) == 1) = true from rfl, fb_true]
    go_enter Tryz.func28, Tryz.ntmps28
    go_wp2_with (go_at_call 12; refine (refCheck_any _ _ _ _).mono ?_; rintro e w1 ⟨rfl, b1⟩; rw [hc.out]; obtain ⟨kk0, kk1, kk2⟩ := box_facts b1)
    go_ret2
    exact ⟨rfl, kb1 b1⟩
  · have hn' : (n == 1) = false := by simpa using hn
    rw [hn', fb_false]
    go_enter Tryz.func28, Tryz.ntmps28
    go_wp2_with (go_at_call 12; refine (refCheck_any _ _ _ _).mono ?_; rintro e w1 ⟨rfl, b1⟩; rw [hc.out]; obtain ⟨kk0, kk1, kk2⟩ := box_facts b1)
    go_ret2
    exact ⟨rfl, kb1 b1⟩
set_option maxRecDepth 100000 in
set_option maxHeartbeats 400000 in
theorem rl2 (n : Int) (s : ByteArray) (w : World) (h0 : -9223372036854775808 ≤ n) (h1 : n ≤ 9223372036854775807) (hc : Hid (checkV 2 n s = 0)) :
    Calls Tryz.prog 28 #[.agg #[.int .i64 2, .int .i64 n, .string s]] w fun r w' => r = .returned (.tuple #[.string ⟨(Lib.itoa n).toArray⟩, .int .i64 0]) ∧ Below w.heap.size w w' := by
  go_enter Tryz.func28, Tryz.ntmps28
  go_wp2_with (first | (go_at_call 12; refine (refCheck_any _ _ _ _).mono ?_; rintro e w1 ⟨rfl, b1⟩; rw [hc.out]; obtain ⟨kk0, kk1, kk2⟩ := box_facts b1) | (go_at_call 52; refine (number_any _ _ h0 h1).mono ?_; rintro e w2 ⟨rfl, rfl⟩))
  go_ret2
  exact ⟨rfl, kb1 b1⟩

theorem dbl_app : ∀ a b : List UInt8, dbl (a ++ b) = dbl a ++ dbl b
  | [], b => rfl
  | c :: a, b => by
    simp only [List.cons_append, dbl, dbl_app a b]
    split <;> simp
theorem byte_join (l : List UInt8) (s : ByteArray) (j : Nat) (h : j < s.size) : (⟨l.toArray⟩ : ByteArray) ++ s.extract j (j + 1) = ⟨(l ++ [s[j]]).toArray⟩ := by
  apply Go.WideShapes.bytes_inj
  have hl : j < s.data.toList.length := by simpa using h
  have e : s[j] = s.data.toList[j] := rfl
  rw [Go.Joins.data_append, ← ByteArray.toList_eq (s.extract _ _), Lib.extract_toList, e]
  simp only [Nat.add_sub_cancel_left]
  rw [List.drop_eq_getElem_cons hl]
  simp
theorem quote_join (l : List UInt8) : (⟨l.toArray⟩ : ByteArray) ++ (⟨#[39]⟩ : ByteArray) = ⟨(l ++ [39]).toArray⟩ := by
  apply Go.WideShapes.bytes_inj
  rw [Go.Joins.data_append]
theorem dbl_take (s : ByteArray) (j : Nat) (h : j < s.size) : dbl (s.data.toList.take (j + 1)) = dbl (s.data.toList.take j) ++ (if s[j] = 39 then [39, 39] else [s[j]]) := by
  have hl : j < s.data.toList.length := by simpa using h
  rw [List.take_succ_eq_append_getElem hl, dbl_app]
  rfl

set_option maxRecDepth 100000 in
set_option maxHeartbeats 400000 in
theorem rl3 (n : Int) (s : ByteArray) (w : World) (hs : s.size ≤ 1000000) (hc : Hid (checkV 3 n s = 0)) :
    Calls Tryz.prog 28 #[.agg #[.int .i64 3, .int .i64 n, .string s]] w fun r w' => r = .returned (.tuple #[.string ⟨((39 : UInt8) :: (dbl s.data.toList ++ [39])).toArray⟩, .int .i64 0]) ∧ Below w.heap.size w w' := by
  go_enter Tryz.func28, Tryz.ntmps28
  go_wp2_with (first | (go_at_call 12; refine (refCheck_any _ _ _ _).mono ?_; rintro e w1 ⟨rfl, b1⟩; rw [hc.out]; obtain ⟨kk0, kk1, kk2⟩ := box_facts b1))
  go_loopw [5, 6] (fun v i wr => ∃ j : Nat, j ≤ s.size ∧ i = .int .i64 j ∧ v = .string ⟨(dbl (s.data.toList.take j)).toArray⟩ ∧ wr = w1) (fun _ i _ => s.size - (intOf i).toNat)
  case atStart => exact ⟨0, Nat.zero_le _, rfl, rfl, rfl⟩
  case round =>
    obtain ⟨j, hj, rfl, rfl, rfl⟩ := hrel
    have hdl : (dbl (s.data.toList.take j)).length ≤ 2000000 := by
      have h1 := dbl_le (s.data.toList.take j)
      have h2 : (s.data.toList.take j).length ≤ s.data.toList.length := by simp; omega
      have h3 := Lib.size_eq s
      omega
    by_cases hlt : j < s.size
    · have hi0 : (0 : Int) ≤ (j : Int) := by omega
      have hi1 : (j : Int) < (s.size : Int) := by omega
      have HJ := Lib.hid (byte_join (dbl (s.data.toList.take j)) s j hlt)
      have HT := Lib.hid (dbl_take s j hlt)
      go_wp2
      · have h39 : s[j] = 39 := by
          have h : ((s[j].toNat : Int) == 39) = true := ‹_›
          have h' : s[j].toNat = 39 := by have := eq_of_beq h; omega
          exact UInt8.toNat_inj.1 h'
        refine ⟨⟨j + 1, by omega, by go_num, ?_, trivial⟩, by simp [intOf]; omega⟩
        rw [HT.out, if_pos h39, HJ.out, quote_join, h39]
        simp
      · have h39 : ¬ s[j] = 39 := by
          have h : ((s[j].toNat : Int) == 39) = false := ‹_›
          intro e
          rw [e] at h
          exact absurd h (by decide)
        refine ⟨⟨j + 1, by omega, by go_num, ?_, trivial⟩, by simp [intOf]; omega⟩
        rw [HT.out, if_neg h39, HJ.out]
    · have e1 : s.data.toList.take j = s.data.toList := List.take_of_length_le (by have := Lib.size_eq s; omega)
      rw [e1] at hdl ⊢
      clear e1
      go_wp2
      go_ret2
      refine ⟨?_, kb1 b1⟩
      rw [show (⟨#[39]⟩ : ByteArray) ++ (⟨(dbl s.data.toList).toArray⟩ : ByteArray) ++ (⟨#[39]⟩ : ByteArray) = ⟨((39 : UInt8) :: (dbl s.data.toList ++ [39])).toArray⟩ from Go.WideShapes.bytes_inj (by rw [Go.Joins.data_append, Go.Joins.data_append]; simp)]
      rfl
end Go.Proofs.YtcngoffmkbobhaaGreatDoor
