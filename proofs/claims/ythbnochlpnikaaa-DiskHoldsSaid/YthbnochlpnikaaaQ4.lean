/- The document's own 'last'. -/
import Derived.Test.YthbnochlpnikaaaQ3
namespace Go.Proofs.Ythbnochlpnikaaa
open Go.RowKit Go.Shelf

theorem replicate_getD (n i : Nat) : (List.replicate n 0).getD i 0 = 0 := by
  rw [List.getD_eq_getElem?_getD, List.getElem?_replicate]
  split <;> rfl
theorem make64 (w : World) : (Instr.makeSlice 47 (.int .i64 64) (.int .i64 64)).run Try.prog w = .ok (.slice (some ⟨w.heap.size, 0, none⟩) 64 64) (w.alloc (.cells (madeCells #[.int .u8 0] 64) 5)) :=
  run_make_row' (P := Try.prog) 47 5 (.int .u8 0) 1 Try.underlying47 info5 rfl .i64 .i64 64 (by omega) (by omega) w
theorem bytes64 (w : World) : BytesAt (w.alloc (.cells (madeCells #[.int .u8 0] 64) 5)) (some ⟨w.heap.size, 0, none⟩) (List.replicate 64 0) := fun i hi => by
  have hi' : i < 64 := by simpa using hi
  refine ⟨w.heap.size, 0, rfl, ?_⟩
  rw [Nat.zero_add, (World.rowIs_made w (.int .u8 0) 64 5).cell hi']
  rw [replicate_getD]
  rfl
theorem conv64 (w : World) : (convert 47 9 (.slice (some ⟨w.heap.size, 0, none⟩) 64 64)).run Try.prog (w.alloc (.cells (madeCells #[.int .u8 0] 64) 5)) = .ok (.string (secS 0)) (w.alloc (.cells (madeCells #[.int .u8 0] 64) 5)) := by
  have := conv_at (w.alloc (.cells (madeCells #[.int .u8 0] 64) 5)) (some ⟨w.heap.size, 0, none⟩) 64 (List.replicate 64 0) (fun b hb => by rw [List.mem_replicate] at hb; omega) (bytes64 w)
  rw [List.length_replicate] at this
  exact this
set_option maxRecDepth 100000 in
set_option maxHeartbeats 1000000 in
theorem last_any (l : List (Nat × ByteArray)) (p : Option Addr) (cap k : Nat) (w : World) (hl : l.length ≤ 100000) (hc : Hid (WritesAt w p l)) :
    Calls Try.prog 31 #[.slice p l.length cap, .int .i64 k] w fun r w' => r = .returned (.string (lastS l k)) ∧ Below w.heap.size w w' := by
  have hmk := make64 w
  have hcv := conv64 w
  have B0 : Below w.heap.size w (w.alloc (.cells (madeCells #[.int .u8 0] 64) 5)) := (Below.refl _ _).alloc (Nat.le_refl _) _
  have C0 := Lib.hid (hc.out.below B0)
  go_enter Try.func31, Try.ntmps31
  go_wp2
  generalize w.alloc (.cells (madeCells #[.int .u8 0] 64) 5) = w1 at *
  clear hmk hcv
  have HB := Lib.hid B0
  clear B0
  go_loop [5, 6] (fun s i => ∃ n : Nat, n ≤ l.length ∧ i = .int .i64 n ∧ s = .string (lastS (l.take n) k)) (fun _ i => (l.length - intOf i).toNat)
  case atStart => exact ⟨0, Nat.zero_le _, by first | rfl | go_num, rfl⟩
  case round =>
    obtain ⟨n, hn, rfl, rfl⟩ := hrel
    by_cases hlt : n < l.length
    · obtain ⟨x, hx⟩ : ∃ x, l[n]? = some x := ⟨_, List.getElem?_eq_getElem hlt⟩
      obtain ⟨B, off, rfl, c1, c2⟩ := C0.out n x hx
      have hnx := Lib.hid (lastS_next hx k)
      clear hx
      have e1 : off + 2 * n = off + n * 2 := by omega
      have e2 : off + (2 * n + 1) = off + n * 2 + 1 := by omega
      rw [e1] at c1
      rw [e2] at c2
      clear e1 e2
      by_cases hk : x.1 = k
      · have hk2 : ((x.1 : Int) == (k : Int)) = true := by rw [hk]; simp
        have hs := hnx.out
        rw [if_pos hk] at hs
        have HS := Lib.hid hs
        clear hs hnx
        clear hk
        go_wp2
        go_round
        case rel => exact ⟨n + 1, hlt, by first | rfl | go_num, by rw [HS.out]⟩
        case measure => simp [intOf]; omega
      · have hk2 : ((x.1 : Int) == (k : Int)) = false := by simp only [beq_eq_false_iff_ne, ne_eq]; omega
        have hs := hnx.out
        rw [if_neg hk] at hs
        have HS := Lib.hid hs
        clear hs hnx
        clear hk
        go_wp2
        go_round
        case rel => exact ⟨n + 1, hlt, by first | rfl | go_num, by rw [HS.out]⟩
        case measure => simp [intOf]; omega
    · obtain rfl : n = l.length := by omega
      go_wp2
      go_ret
      exact ⟨rfl, HB.out⟩
end Go.Proofs.Ythbnochlpnikaaa
