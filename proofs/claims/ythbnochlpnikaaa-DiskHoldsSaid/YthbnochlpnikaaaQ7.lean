/- The document's Read, Sync, Write. -/
import Derived.Test.YthbnochlpnikaaaQ6
namespace Go.Proofs.Ythbnochlpnikaaa
open Go.RowKit Go.Shelf

def Few (s : DS) : Prop := s.sync.length ≤ 30000 ∧ s.loose.length ≤ 20000
theorem readS_low {s : DS} {k : Int} (h : k < 0) : readS s k = (⟨#[]⟩, 4) := by unfold readS; rw [if_pos (.inl h)]
theorem readS_high {s : DS} {k : Int} (h : (s.many : Int) ≤ k) : readS s k = (⟨#[]⟩, 4) := by unfold readS; rw [if_pos (.inr h)]
theorem readS_stop {s : DS} {k : Int} (h0 : ¬ k < 0) (h1 : ¬ (s.many : Int) ≤ k) (h2 : s.left = 0) : readS s k = (⟨#[]⟩, 140) := by unfold readS; rw [if_neg (by omega), if_pos h2]
theorem readS_ok {s : DS} {k : Nat} (h1 : ¬ s.many ≤ k) (h2 : ¬ s.left = 0) : readS s k = (sectorS s k, 0) := by unfold readS; rw [if_neg (by omega), if_neg h2]; rfl
set_option maxRecDepth 100000 in
theorem refRead_any (s : DS) (p : Option Addr) (c : Nat) (q : Option Addr) (d : Nat) (k : Int) (w : World) (hf : Few s) (R : Hid (RefAt w s p c q d)) :
    Calls Try.prog 27 #[refV s p c q d, .int .i64 k] w fun r w' => r = .returned (.tuple #[.string (readS s k).1, .int .i64 (readS s k).2]) ∧ Below w.heap.size w w' := by
  obtain ⟨hf1, hf2⟩ := hf
  have SA : Hid (∀ (j : Nat) w', Below w.heap.size w w' → Calls Try.prog 36 #[.agg #[.int .i64 s.many, .slice p s.sync.length c, .slice q s.loose.length d, .int .i64 s.left], .int .i64 j] w' fun r w2 => r = .returned (.string (sectorS s j)) ∧ Below w'.heap.size w' w2) :=
    Lib.hid fun j w' hb => sector_any s p c q d j w' (by omega) (by omega) (Lib.hid (R.out.below hb))
  clear R
  by_cases h0 : k < 0
  · rw [readS_low h0]
    unfold refV
    go_enter Try.func27, Try.ntmps27
    go_wp2
    go_ret2
    exact ⟨rfl, by go_grown⟩
  by_cases h1 : (s.many : Int) ≤ k
  · rw [readS_high h1]
    unfold refV
    go_enter Try.func27, Try.ntmps27
    go_wp2
    go_ret2
    exact ⟨rfl, by go_grown⟩
  obtain ⟨k, rfl⟩ := Int.eq_ofNat_of_zero_le (show 0 ≤ k by omega)
  by_cases h2 : s.left = 0
  · rw [readS_stop h0 h1 h2]
    have hz : (s.left == 0) = true := by rw [h2]; rfl
    clear h2
    unfold refV
    go_enter Try.func27, Try.ntmps27
    go_wp2
    go_ret2
    exact ⟨rfl, by go_grown⟩
  · rw [readS_ok (by omega) h2]
    have hz : (s.left == 0) = false := by simpa using h2
    clear h2
    unfold refV
    go_enter Try.func27, Try.ntmps27
    go_wp2_with fail
    refine (SA.out k _ ((Below.refl _ _).alloc (Nat.le_refl _) _)).mono ?_
    rintro e w2 ⟨rfl, hb⟩
    go_wp2
    go_ret2
    exact ⟨rfl, kbA hb⟩
end Go.Proofs.Ythbnochlpnikaaa
