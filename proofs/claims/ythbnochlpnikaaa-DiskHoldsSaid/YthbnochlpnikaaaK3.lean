/- A sector's bytes, cut and told. -/
import Derived.Test.YthbnochlpnikaaaK2
namespace Go.Proofs.Ythbnochlpnikaaa
open Go.RowKit Go.Shelf

/-- An array's first places, with no room behind. -/
theorem run_cut (B n : Nat) (hn : n ≤ 64) (w : World) :
    (Instr.sliceAt 76 (.pointer (some ⟨B, 0, none⟩)) none (some (.int .i64 n)) (some (.int .i64 n))).run Try.prog w = .ok (.slice (some ⟨B, 0, none⟩) n n) w := by
  have h1 := fun y code w (h : n ≤ y) => run_sliceBound (P := Try.prog) w .i64 (n : Int) y code (by omega) (by omega)
  simp [Instr.sliceAt, Instr.sureAddr, run_underlying Try.underlying76, Instr.sliceBounds, h1 64 _ w hn, h1 n _ w (Nat.le_refl _), Try.sizeOf5, Result.andThen, Addr.add]
set_option maxRecDepth 100000 in
set_option maxHeartbeats 400000 in
theorem cut_any (b : ByteArray) (n : Nat) (hn : n ≤ 64) (w : World) :
    Calls Try.prog 56 #[.agg (bV b), .int .i64 n] w fun r w' => r = .returned (.slice (some ⟨w.heap.size, 0, none⟩) n n) ∧ w' = w.alloc (.cells (bV b) 76) := by
  have hc := run_cut w.heap.size n hn
  go_enter Try.func56, Try.ntmps56
  go_wp2
  go_ret
  exact ⟨rfl, rfl⟩
set_option maxRecDepth 100000 in
set_option maxHeartbeats 400000 in
theorem bytes_any {b m : Nat} {f : Nat → ByteArray} {k : Nat} {w : World} (h : MapIs w b m f) (hk : k < m) :
    Calls Try.prog 50 #[.agg #[.map (some b)], .int .i64 k] w fun r w' => r = .returned (.slice (some ⟨w.heap.size + 1, 0, none⟩) 64 64) ∧ w' = (w.alloc (.cells #[.map (some b)] 59)).alloc (.cells (bV (f k)) 76) := by
  have hl := (h.below (w' := w.alloc (.cells #[.map (some b)] 59)) ((Below.refl _ _).alloc (Nat.le_refl _) _)).look hk
  have C := cut_any (f k) 64 (Nat.le_refl _)
  go_enter Try.func50, Try.ntmps50
  go_wp2_with (first
    | (go_at_call 56; refine (C _).mono ?_; rintro e w' ⟨rfl, rfl⟩)
    | fail)
  go_ret
  exact ⟨by simp, rfl⟩
end Go.Proofs.Ythbnochlpnikaaa
