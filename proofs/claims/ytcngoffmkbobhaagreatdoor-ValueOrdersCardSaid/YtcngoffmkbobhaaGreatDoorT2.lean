import Derived.Test.YtcngoffmkbobhaaGreatDoorT1
namespace Go.Proofs.YtcngoffmkbobhaaGreatDoor
open Go.RowKit

theorem foldl_take {α β : Type} (f : β → α → β) (z : α) (x : β) (zs : List α) (k : Nat) (h : k < zs.length) : (zs.take (k + 1)).foldl f x = f ((zs.take k).foldl f x) (zs.getD k z) := by
  rw [List.take_succ_eq_append_getElem h, List.foldl_append]
  simp [List.getD_eq_getElem?_getD, h]

set_option maxHeartbeats 400000 in
theorem foldB_nil (x : Int) (w : World) :
    Calls Tryz.prog 40 #[.int .i64 x, .func (Fn.func 41) #[] #[], .slice none 0 0] w fun r w' => r = .returned (.int .i64 x) ∧ w = w' := by
  go_enter Tryz.func40, Tryz.ntmps40
  go_wp2
  go_rounds 1
  go_ret
  exact ⟨rfl, rfl⟩
set_option maxHeartbeats 400000 in
theorem foldB_some (x : Int) (b off cap : Nat) (zs : List Int) (w : World) (hm : zs.length ≤ 100000) (hc : ∀ i, i < zs.length → w.cell? ⟨b, off + i, none⟩ = some (.int .i64 (zs.getD i 0))) :
    Calls Tryz.prog 40 #[.int .i64 x, .func (Fn.func 41) #[] #[], .slice (some ⟨b, off, none⟩) zs.length cap] w fun r w' => r = .returned (.int .i64 (zs.foldl bothI x)) ∧ w = w' := by
  have HC : Hid (∀ i, i < zs.length → w.cell? ⟨b, off + i, none⟩ = some (.int .i64 (zs.getD i 0))) := hc
  clear hc
  go_enter Tryz.func40, Tryz.ntmps40
  go_wp2
  go_loop [0, 11] (fun t i => ∃ k : Nat, k ≤ zs.length ∧ i = .int .i64 k ∧ t = .int .i64 ((zs.take k).foldl bothI x)) (fun _ i => zs.length - (intOf i).toNat)
  case atStart => exact ⟨0, Nat.zero_le _, rfl, rfl⟩
  case round =>
    obtain ⟨k, hk, rfl, rfl⟩ := hrel
    by_cases hlt : k < zs.length
    · have hcell := HC.out k hlt
      have HS : Hid ((zs.take (k + 1)).foldl bothI x = bothI ((zs.take k).foldl bothI x) (zs.getD k 0)) := foldl_take bothI 0 x zs k hlt
      generalize zs.getD k 0 = z at hcell HS
      go_wp2_with (go_at_call 41; refine (both_any _ _ _).mono ?_; rintro e w' ⟨rfl, rfl⟩)
      go_round
      case rel => exact ⟨k + 1, by omega, by go_num, by rw [HS.out]⟩
      case measure => simp [intOf]; omega
    · go_wp2
      go_ret
      exact ⟨ret_int (by rw [List.take_of_length_le (by omega)]), rfl⟩

set_option maxHeartbeats 400000 in
theorem foldE_nil (x : Int) (w : World) :
    Calls Tryz.prog 40 #[.int .i64 x, .func (Fn.func 42) #[] #[], .slice none 0 0] w fun r w' => r = .returned (.int .i64 x) ∧ w = w' := by
  go_enter Tryz.func40, Tryz.ntmps40
  go_wp2
  go_rounds 1
  go_ret
  exact ⟨rfl, rfl⟩
set_option maxHeartbeats 400000 in
theorem foldE_some (x : Int) (b off cap : Nat) (zs : List Int) (w : World) (hm : zs.length ≤ 100000) (hc : ∀ i, i < zs.length → w.cell? ⟨b, off + i, none⟩ = some (.int .i64 (zs.getD i 0))) :
    Calls Tryz.prog 40 #[.int .i64 x, .func (Fn.func 42) #[] #[], .slice (some ⟨b, off, none⟩) zs.length cap] w fun r w' => r = .returned (.int .i64 (zs.foldl eitherI x)) ∧ w = w' := by
  have HC : Hid (∀ i, i < zs.length → w.cell? ⟨b, off + i, none⟩ = some (.int .i64 (zs.getD i 0))) := hc
  clear hc
  go_enter Tryz.func40, Tryz.ntmps40
  go_wp2
  go_loop [0, 11] (fun t i => ∃ k : Nat, k ≤ zs.length ∧ i = .int .i64 k ∧ t = .int .i64 ((zs.take k).foldl eitherI x)) (fun _ i => zs.length - (intOf i).toNat)
  case atStart => exact ⟨0, Nat.zero_le _, rfl, rfl⟩
  case round =>
    obtain ⟨k, hk, rfl, rfl⟩ := hrel
    by_cases hlt : k < zs.length
    · have hcell := HC.out k hlt
      have HS : Hid ((zs.take (k + 1)).foldl eitherI x = eitherI ((zs.take k).foldl eitherI x) (zs.getD k 0)) := foldl_take eitherI 0 x zs k hlt
      generalize zs.getD k 0 = z at hcell HS
      go_wp2_with (go_at_call 42; refine (either_any _ _ _).mono ?_; rintro e w' ⟨rfl, rfl⟩)
      go_round
      case rel => exact ⟨k + 1, by omega, by go_num, by rw [HS.out]⟩
      case measure => simp [intOf]; omega
    · go_wp2
      go_ret
      exact ⟨ret_int (by rw [List.take_of_length_le (by omega)]), rfl⟩

set_option maxHeartbeats 400000 in
theorem and_nil (w : World) :
    Calls Tryz.prog 21 #[.slice none 0 0] w fun r w' => r = .returned (.int .i64 1) ∧ w = w' := by
  go_enter Tryz.func21, Tryz.ntmps21
  go_wp2_with (go_at_call 40; refine (foldB_nil _ _).mono ?_; rintro e w' ⟨rfl, rfl⟩)
  go_ret
  exact ⟨rfl, rfl⟩
set_option maxHeartbeats 400000 in
theorem and_some (b off cap : Nat) (zs : List Int) (w : World) (hm : zs.length ≤ 100000) (hc : ∀ i, i < zs.length → w.cell? ⟨b, off + i, none⟩ = some (.int .i64 (zs.getD i 0))) :
    Calls Tryz.prog 21 #[.slice (some ⟨b, off, none⟩) zs.length cap] w fun r w' => r = .returned (.int .i64 (zs.foldl bothI 1)) ∧ w = w' := by
  have HC : Hid (∀ i, i < zs.length → w.cell? ⟨b, off + i, none⟩ = some (.int .i64 (zs.getD i 0))) := hc
  clear hc
  go_enter Tryz.func21, Tryz.ntmps21
  go_wp2_with (go_at_call 40; refine (foldB_some _ _ _ _ _ _ hm HC.out).mono ?_; rintro e w' ⟨rfl, rfl⟩)
  go_ret
  exact ⟨rfl, rfl⟩

set_option maxHeartbeats 400000 in
theorem or_nil (w : World) :
    Calls Tryz.prog 22 #[.slice none 0 0] w fun r w' => r = .returned (.int .i64 0) ∧ w = w' := by
  go_enter Tryz.func22, Tryz.ntmps22
  go_wp2_with (go_at_call 40; refine (foldE_nil _ _).mono ?_; rintro e w' ⟨rfl, rfl⟩)
  go_ret
  exact ⟨rfl, rfl⟩
set_option maxHeartbeats 400000 in
theorem or_some (b off cap : Nat) (zs : List Int) (w : World) (hm : zs.length ≤ 100000) (hc : ∀ i, i < zs.length → w.cell? ⟨b, off + i, none⟩ = some (.int .i64 (zs.getD i 0))) :
    Calls Tryz.prog 22 #[.slice (some ⟨b, off, none⟩) zs.length cap] w fun r w' => r = .returned (.int .i64 (zs.foldl eitherI 0)) ∧ w = w' := by
  have HC : Hid (∀ i, i < zs.length → w.cell? ⟨b, off + i, none⟩ = some (.int .i64 (zs.getD i 0))) := hc
  clear hc
  go_enter Tryz.func22, Tryz.ntmps22
  go_wp2_with (go_at_call 40; refine (foldE_some _ _ _ _ _ _ hm HC.out).mono ?_; rintro e w' ⟨rfl, rfl⟩)
  go_ret
  exact ⟨rfl, rfl⟩
end Go.Proofs.YtcngoffmkbobhaaGreatDoor
