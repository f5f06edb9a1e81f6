/- What the statements' own helpers make: a sector of bytes. -/
import Derived.Test.YthbnochlpnikaaaQ4
namespace Go.Proofs.Ythbnochlpnikaaa
open Go.RowKit Go.Shelf

theorem num_any (n : Int) (w : World) : Calls Try.prog 12 #[.int .i64 n] w fun r w' => r = .returned (.int .i64 n) ∧ w = w' := by
  go_enter Try.func12, Try.ntmps12
  go_wp2
  go_ret
  exact ⟨rfl, rfl⟩
def secRow (c k : Nat) (j : Nat) : Value := if j < k then .int .u8 c else .int .u8 0
theorem secRow_next {c k : Nat} : (fun j => if j = k then Value.int .u8 (c : Int) else secRow c k j) = secRow c (k + 1) := by
  funext j
  unfold secRow
  by_cases h : j = k
  · subst h; rw [if_pos rfl, if_pos (by omega)]
  · rw [if_neg h]
    by_cases hj : j < k
    · rw [if_pos hj, if_pos (by omega)]
    · rw [if_neg hj, if_neg (by omega)]
theorem replicate_getD' (n i c : Nat) (h : i < n) : (List.replicate n c).getD i 0 = c := by
  rw [List.getD_eq_getElem?_getD, List.getElem?_replicate, if_pos h]
  rfl
set_option maxRecDepth 100000 in
set_option maxHeartbeats 1000000 in
theorem sec_any (c : Nat) (hc : c < 256) (w : World) :
    Calls Try.prog 16 #[.int .u8 c] w fun r w' => r = .returned (.slice (some ⟨w.heap.size, 0, none⟩) 64 64) ∧ RowB w (List.replicate 64 c) (.slice (some ⟨w.heap.size, 0, none⟩) 64 64) w' := by
  have hmk := make64 w
  go_enter Try.func16, Try.ntmps16
  go_wp2
  have R0 : (w.alloc (.cells (madeCells #[.int .u8 0] 64) 5)).rowIs w.heap.size 5 64 (secRow c 0) := (World.rowIs_made w (.int .u8 0) 64 5).congr fun i hi => by unfold secRow; rw [if_neg (by omega)]
  have B0 : Below w.heap.size w (w.alloc (.cells (madeCells #[.int .u8 0] 64) 5)) := (Below.refl _ _).alloc (Nat.le_refl _) _
  clear hmk
  generalize w.alloc (.cells (madeCells #[.int .u8 0] 64) 5) = w1 at *
  go_loopw [4] (fun i wr => ∃ k : Nat, k ≤ 64 ∧ i = .int .i64 k ∧ wr.rowIs w.heap.size 5 64 (secRow c k) ∧ Below w.heap.size w wr) (fun i _ => (64 - intOf i).toNat)
  case atStart => exact ⟨0, Nat.zero_le _, by first | rfl | go_num, R0, B0⟩
  case round =>
    obtain ⟨k, hk, rfl, R, hB⟩ := hrel
    by_cases hlt : k < 64
    · obtain ⟨v0, hcell⟩ : ∃ v, wr.cell? ⟨w.heap.size, k, none⟩ = some v := ⟨_, R.cell (i := k) hlt⟩
      have hfz := R.frozen k
      have h2 := R.set k (.int .u8 (c : Int))
      rw [secRow_next] at h2
      have H2 := Lib.hid h2
      clear h2
      go_wp2
      go_roundw
      case rel => exact ⟨k + 1, hlt, by first | rfl | go_num, H2.out, hB.setCell (Nat.le_refl _) _⟩
      case measure => simp [intOf]; omega
    · obtain rfl : k = 64 := by omega
      go_wp2
      go_ret
      refine ⟨rfl, rowB_of_is (n := 64) (f := secRow c 64) R (by simp) (by unfold maxLen; omega) (fun i hi => ?_) hB⟩
      unfold secRow
      rw [if_pos hi, replicate_getD' 64 i c hi]
end Go.Proofs.Ythbnochlpnikaaa
