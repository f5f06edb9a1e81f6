import Derived.Test.YtcngoffmkbobhaaGreatDoorT21
import Derived.BigQuiet
namespace Go.Proofs.YtcngoffmkbobhaaGreatDoor
open Go.RowKit

theorem refAnd_q (a b : Int) (w : World) : Calls Tryz.prog 17 #[.int .i64 a, .int .i64 b] w fun r w' => r = .returned (.int .i64 (bothI a b)) ∧ w' = w := (refAnd_any a b w).mono fun _ _ ⟨h1, h2⟩ => ⟨h1, h2.symm⟩
theorem refOr_q (a b : Int) (w : World) : Calls Tryz.prog 18 #[.int .i64 a, .int .i64 b] w fun r w' => r = .returned (.int .i64 (eitherI a b)) ∧ w' = w := (refOr_any a b w).mono fun _ _ ⟨h1, h2⟩ => ⟨h1, h2.symm⟩

set_option maxRecDepth 100000 in
set_option maxHeartbeats 2000000 in
theorem truths_some (b off cap : Nat) (zs : List Int) (t k n : Int) (s : ByteArray) (w : World) (hw : Base w) (h : s.size ≤ 1100) (hm : zs.length ≤ 12) (hc : ∀ i, i < zs.length → w.cell? ⟨b, off + i, none⟩ = some (.int .i64 (zs.getD i 0))) :
    Calls Tryz.prog 4 #[.slice (some ⟨b, off, none⟩) zs.length cap, .int .i64 t, .agg #[.int .i64 k, .int .i64 n, .string s]] w fun r w' => r = .returned (.bool true) ∧ Below w.heap.size w w' := by
  have hof := of_same t
  have hog := of_guard t (.tmp 67) (.tmp 69)
  have HC : Hid (∀ wx, Below (w.alloc (vObj k n s)).heap.size (w.alloc (vObj k n s)) wx → ∀ i, i < zs.length → wx.cell? ⟨b, off + i, none⟩ = some (.int .i64 (zs.getD i 0))) := fun wx hx i hi => by
    have h1 := hc i hi
    have h2 := lt_of_cell_some h1
    exact (kb1 hx).cell h2 |>.trans h1
  clear hc
  go_enter Tryz.func4, Tryz.ntmps4
  go_wp2
  go_loopw [7, 8, 9] (fun x y i wr => ∃ j : Nat, j ≤ zs.length ∧ i = .int .i64 j ∧ x = .int .i64 ((zs.take j).foldl bothI 1) ∧ y = .int .i64 ((zs.take j).foldl eitherI 0) ∧ Below (w.alloc (vObj k n s)).heap.size (w.alloc (vObj k n s)) wr) (fun _ _ i _ => zs.length - (intOf i).toNat)
  case atStart => exact ⟨0, Nat.zero_le _, rfl, rfl, rfl, Below.refl _ _⟩
  case round =>
    obtain ⟨j, hj, rfl, rfl, rfl, hB⟩ := hrel
    by_cases hlt : j < zs.length
    · have hcell := HC.out _ hB j hlt
      have HS : Hid ((zs.take (j + 1)).foldl bothI 1 = bothI ((zs.take j).foldl bothI 1) (zs.getD j 0)) := foldl_take bothI 0 1 zs j hlt
      have HT : Hid ((zs.take (j + 1)).foldl eitherI 0 = eitherI ((zs.take j).foldl eitherI 0) (zs.getD j 0)) := foldl_take eitherI 0 0 zs j hlt
      generalize zs.getD j 0 = z at hcell HS HT
      have hi0 : (0 : Int) ≤ (j : Int) := by omega
      have hi1 : (j : Int) < (zs.length : Int) := by omega
      go_wp2
      go_quiet ((first | (go_at_call 17; exact Calls.quiet_of_same (refAnd_q _ _ _)) | (go_at_call 18; exact Calls.quiet_of_same (refOr_q _ _ _))))
      go_wp2
      go_roundw
      case rel => exact ⟨j + 1, by omega, by go_num, by rw [HS.out], by rw [HT.out], below_drewN hB _⟩
      case measure => simp [intOf]; omega
    · obtain ⟨kk0, kk1, kk2⟩ := box_facts hB
      have e1 : zs.take j = zs := List.take_of_length_le (by omega)
      rw [e1]
      clear e1
      go_wp2_with (first | (go_at_call 19; refine (known_any _ _ _ _).mono ?_; rintro e w1 ⟨rfl, b1⟩; have hB1 := hB.trans (b1.mono hB.size); obtain ⟨kk0, kk1, kk2⟩ := box_facts hB1) | (go_at_call 20; refine (refKnown_any _ _ _ _).mono ?_; rintro e w2 ⟨rfl, b2⟩; have hB2 := hB1.trans (b2.mono hB1.size)) | (go_at_call 21; refine (and_some _ _ _ _ _ (by omega) (HC.out _ hB2)).mono ?_; rintro e w3 ⟨rfl, rfl⟩) | (go_at_call 22; refine (or_some _ _ _ _ _ (by omega) (HC.out _ hB2)).mono ?_; rintro e w3 ⟨rfl, rfl⟩) | (go_at_call 23; refine (not_any _ _).mono ?_; rintro e w3 ⟨rfl, rfl⟩) | (go_at_call 24; refine (refNot_any _ _).mono ?_; rintro e w3 ⟨rfl, rfl⟩) | (go_at_call 25; refine (of_any _ _).mono ?_; rintro e w3 ⟨rfl, b3⟩; have hB3 := hB2.trans (b3.mono hB2.size)) | (go_at_call 26; refine (refOf_any _ _).mono ?_; rintro e w4 ⟨rfl, b4⟩; have hB4 := hB3.trans (b4.mono hB3.size)) | (go_at_call 9; refine (works_any _ (hw.below (kb1 hB4))).mono ?_; rintro e w5 ⟨rfl, b5⟩))
      go_ret
      exact ⟨rfl, kb1 (hB4.trans (b5.mono hB4.size))⟩
end Go.Proofs.YtcngoffmkbobhaaGreatDoor
