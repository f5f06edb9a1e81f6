import Derived.Test.YthnllhfdbnnjhaaO10
namespace Go.Proofs.Ythnllhfdbnnjhaa
open Go.RowKit Go.Shelf

/-- A list made of its places. -/
def each1Row (fn : Nat → Nat) (k : Nat) (j : Nat) : Value := if j < k then .int .u8 (fn j) else .int .u8 0
theorem each1Row_next {fn : Nat → Nat} {k : Nat} : (fun j => if j = k then Value.int .u8 (fn k) else each1Row fn k j) = each1Row fn (k + 1) := by
  funext j
  unfold each1Row
  by_cases h : j = k
  · subst h; rw [if_pos rfl, if_pos (by omega)]
  · rw [if_neg h]
    by_cases hj : j < k
    · rw [if_pos hj, if_pos (by omega)]
    · rw [if_neg hj, if_neg (by omega)]
set_option maxRecDepth 100000 in
set_option maxHeartbeats 1000000 in
theorem each1_any (m : Nat) (hm : m ≤ 1000) (F : Nat) (c1 : Value) (fn : Nat → Nat) (w : World)
    (hen : ∀ (args : Array Value) (w : World), (callFunc F args).run Try.prog w = .ok (.enter F args) w)
    (CL : Hid (∀ i : Nat, i < m → ∀ wr, Below w.heap.size w wr → Calls Try.prog F #[.int .i64 i, c1] wr fun r w' => r = .returned (.int .u8 (fn i)) ∧ wr = w')) :
    Calls Try.prog 70 #[.int .i64 m, .func (.func F) #[] #[c1]] w fun r w' => r = .returned (.slice (some ⟨w.heap.size, 0, none⟩) m m) ∧ w'.rowIs w.heap.size 5 m (fun i => .int .u8 (fn i)) ∧ Below w.heap.size w w' := by
  have hmk := run_make_row' (P := Try.prog) 39 5 (.int .u8 0) 1 Try.underlying39 (by kernel_rfl) rfl .i64 .i64 m (by omega) (by omega)
  go_enter Try.func70, Try.ntmps70
  go_wp2
  have R0 : (w.alloc (.cells (madeCells #[.int .u8 0] m) 5)).rowIs w.heap.size 5 m (each1Row fn 0) := by
    exact (World.rowIs_made w (.int .u8 0) m 5).congr fun i hi => by unfold each1Row; rw [if_neg (by omega)]
  have B0 : Below w.heap.size w (w.alloc (.cells (madeCells #[.int .u8 0] m) 5)) := (Below.refl _ _).alloc (Nat.le_refl _) _
  go_loopw [6, 11] (fun x i wr => ∃ k : Nat, k ≤ m ∧ i = .int .i64 (k : Nat) ∧ wr.rowIs w.heap.size 5 m (each1Row fn k) ∧ Below w.heap.size w wr) (fun _ i _ => m - (intOf i).toNat)
  case atStart => exact ⟨0, Nat.zero_le _, rfl, R0, B0⟩
  case round =>
    obtain ⟨k, hk, rfl, R, hB⟩ := hrel
    by_cases hlt : k < m
    · have C := CL.out k hlt wr hB
      obtain ⟨⟨v0, hc⟩, hfz⟩ : (∃ v, wr.cell? ⟨w.heap.size, k, none⟩ = some v) ∧ wr.frozen? ⟨w.heap.size, k, none⟩ = false := ⟨⟨_, R.cell (i := k) hlt⟩, R.frozen k⟩
      have h2 := R.set k (.int .u8 (fn k))
      rw [each1Row_next] at h2
      have H2 := Lib.hid h2
      have HB := Lib.hid hB
      clear h2 hB R
      go_wp2_with (with_reducible refine C.mono ?_; rintro e w' ⟨rfl, rfl⟩)
      exact ⟨⟨k + 1, by omega, by first | rfl | go_num, H2.out, HB.out.setCell (Nat.le_refl _) _⟩, by simp [intOf]; omega⟩
    · obtain rfl : k = m := by omega
      go_wp2
      go_ret
      exact ⟨rfl, R.congr fun i hi => by unfold each1Row; rw [if_pos hi], hB⟩
/-- A list made of its places. -/
def each2Row (fn : Nat → Nat) (k : Nat) (j : Nat) : Value := if j < k then .int .u8 (fn j) else .int .u8 0
theorem each2Row_next {fn : Nat → Nat} {k : Nat} : (fun j => if j = k then Value.int .u8 (fn k) else each2Row fn k j) = each2Row fn (k + 1) := by
  funext j
  unfold each2Row
  by_cases h : j = k
  · subst h; rw [if_pos rfl, if_pos (by omega)]
  · rw [if_neg h]
    by_cases hj : j < k
    · rw [if_pos hj, if_pos (by omega)]
    · rw [if_neg hj, if_neg (by omega)]
set_option maxRecDepth 100000 in
set_option maxHeartbeats 1000000 in
theorem each2_any (m : Nat) (hm : m ≤ 1000) (F : Nat) (c1 c2 : Value) (fn : Nat → Nat) (w : World)
    (hen : ∀ (args : Array Value) (w : World), (callFunc F args).run Try.prog w = .ok (.enter F args) w)
    (CL : Hid (∀ i : Nat, i < m → ∀ wr, Below w.heap.size w wr → Calls Try.prog F #[.int .i64 i, c1, c2] wr fun r w' => r = .returned (.int .u8 (fn i)) ∧ wr = w')) :
    Calls Try.prog 70 #[.int .i64 m, .func (.func F) #[] #[c1, c2]] w fun r w' => r = .returned (.slice (some ⟨w.heap.size, 0, none⟩) m m) ∧ w'.rowIs w.heap.size 5 m (fun i => .int .u8 (fn i)) ∧ Below w.heap.size w w' := by
  have hmk := run_make_row' (P := Try.prog) 39 5 (.int .u8 0) 1 Try.underlying39 (by kernel_rfl) rfl .i64 .i64 m (by omega) (by omega)
  go_enter Try.func70, Try.ntmps70
  go_wp2
  have R0 : (w.alloc (.cells (madeCells #[.int .u8 0] m) 5)).rowIs w.heap.size 5 m (each2Row fn 0) := by
    exact (World.rowIs_made w (.int .u8 0) m 5).congr fun i hi => by unfold each2Row; rw [if_neg (by omega)]
  have B0 : Below w.heap.size w (w.alloc (.cells (madeCells #[.int .u8 0] m) 5)) := (Below.refl _ _).alloc (Nat.le_refl _) _
  go_loopw [6, 11] (fun x i wr => ∃ k : Nat, k ≤ m ∧ i = .int .i64 (k : Nat) ∧ wr.rowIs w.heap.size 5 m (each2Row fn k) ∧ Below w.heap.size w wr) (fun _ i _ => m - (intOf i).toNat)
  case atStart => exact ⟨0, Nat.zero_le _, rfl, R0, B0⟩
  case round =>
    obtain ⟨k, hk, rfl, R, hB⟩ := hrel
    by_cases hlt : k < m
    · have C := CL.out k hlt wr hB
      obtain ⟨⟨v0, hc⟩, hfz⟩ : (∃ v, wr.cell? ⟨w.heap.size, k, none⟩ = some v) ∧ wr.frozen? ⟨w.heap.size, k, none⟩ = false := ⟨⟨_, R.cell (i := k) hlt⟩, R.frozen k⟩
      have h2 := R.set k (.int .u8 (fn k))
      rw [each2Row_next] at h2
      have H2 := Lib.hid h2
      have HB := Lib.hid hB
      clear h2 hB R
      go_wp2_with (with_reducible refine C.mono ?_; rintro e w' ⟨rfl, rfl⟩)
      exact ⟨⟨k + 1, by omega, by first | rfl | go_num, H2.out, HB.out.setCell (Nat.le_refl _) _⟩, by simp [intOf]; omega⟩
    · obtain rfl : k = m := by omega
      go_wp2
      go_ret
      exact ⟨rfl, R.congr fun i hi => by unfold each2Row; rw [if_pos hi], hB⟩
/-- A list made of its places. -/
def each0Row (fn : Nat → Nat) (k : Nat) (j : Nat) : Value := if j < k then .int .u32 (fn j) else .int .u32 0
theorem each0Row_next {fn : Nat → Nat} {k : Nat} : (fun j => if j = k then Value.int .u32 (fn k) else each0Row fn k j) = each0Row fn (k + 1) := by
  funext j
  unfold each0Row
  by_cases h : j = k
  · subst h; rw [if_pos rfl, if_pos (by omega)]
  · rw [if_neg h]
    by_cases hj : j < k
    · rw [if_pos hj, if_pos (by omega)]
    · rw [if_neg hj, if_neg (by omega)]
set_option maxRecDepth 100000 in
set_option maxHeartbeats 1000000 in
theorem each0_any (m : Nat) (hm : m ≤ 1000) (F : Nat) (fn : Nat → Nat) (w : World)
    (hen : ∀ (args : Array Value) (w : World), (callFunc F args).run Try.prog w = .ok (.enter F args) w)
    (CL : Hid (∀ i : Nat, i < m → ∀ wr, Below w.heap.size w wr → Calls Try.prog F #[.int .i64 i] wr fun r w' => r = .returned (.int .u32 (fn i)) ∧ wr = w')) :
    Calls Try.prog 92 #[.int .i64 m, .func (.func F) #[] #[]] w fun r w' => r = .returned (.slice (some ⟨w.heap.size, 0, none⟩) m m) ∧ w'.rowIs w.heap.size 49 m (fun i => .int .u32 (fn i)) ∧ Below w.heap.size w w' := by
  have hmk := run_make_row' (P := Try.prog) 139 49 (.int .u32 0) 4 Try.underlying139 (by kernel_rfl) rfl .i64 .i64 m (by omega) (by omega)
  go_enter Try.func92, Try.ntmps92
  go_wp2
  have R0 : (w.alloc (.cells (madeCells #[.int .u32 0] m) 49)).rowIs w.heap.size 49 m (each0Row fn 0) := by
    exact (World.rowIs_made w (.int .u32 0) m 49).congr fun i hi => by unfold each0Row; rw [if_neg (by omega)]
  have B0 : Below w.heap.size w (w.alloc (.cells (madeCells #[.int .u32 0] m) 49)) := (Below.refl _ _).alloc (Nat.le_refl _) _
  go_loopw [6, 11] (fun x i wr => ∃ k : Nat, k ≤ m ∧ i = .int .i64 (k : Nat) ∧ wr.rowIs w.heap.size 49 m (each0Row fn k) ∧ Below w.heap.size w wr) (fun _ i _ => m - (intOf i).toNat)
  case atStart => exact ⟨0, Nat.zero_le _, rfl, R0, B0⟩
  case round =>
    obtain ⟨k, hk, rfl, R, hB⟩ := hrel
    by_cases hlt : k < m
    · have C := CL.out k hlt wr hB
      obtain ⟨⟨v0, hc⟩, hfz⟩ : (∃ v, wr.cell? ⟨w.heap.size, k, none⟩ = some v) ∧ wr.frozen? ⟨w.heap.size, k, none⟩ = false := ⟨⟨_, R.cell (i := k) hlt⟩, R.frozen k⟩
      have h2 := R.set k (.int .u32 (fn k))
      rw [each0Row_next] at h2
      have H2 := Lib.hid h2
      have HB := Lib.hid hB
      clear h2 hB R
      go_wp2_with (with_reducible refine C.mono ?_; rintro e w' ⟨rfl, rfl⟩)
      exact ⟨⟨k + 1, by omega, by first | rfl | go_num, H2.out, HB.out.setCell (Nat.le_refl _) _⟩, by simp [intOf]; omega⟩
    · obtain rfl : k = m := by omega
      go_wp2
      go_ret
      exact ⟨rfl, R.congr fun i hi => by unfold each0Row; rw [if_pos hi], hB⟩
end Go.Proofs.Ythnllhfdbnnjhaa
