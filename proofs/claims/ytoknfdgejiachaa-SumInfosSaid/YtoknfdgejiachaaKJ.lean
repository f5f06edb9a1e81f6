import Derived.Test.YtoknfdgejiachaaKI
import Derived.Test.YtoknfdgejiachaaD2
namespace Go.Proofs.Ytoknfdgejiachaa
open Go.RowKit Go.Shelf

theorem CellsOf.below {w w' : World} {p : Option Addr} {l : List V3} (h : CellsOf w p l) (hb : Below w.heap.size w w') : CellsOf w' p l := by
  intro i hi
  obtain ⟨B, off, e, c0, c1, c2⟩ := h i hi
  have l0 : B < w.heap.size := lt_of_cell_some c0
  exact ⟨B, off, e, (hb.cell l0).trans c0, (hb.cell l0).trans c1, (hb.cell l0).trans c2⟩
set_option maxHeartbeats 400000 in
theorem first_any (k n : Int) (s : ByteArray) (B off m cap : Nat) (hm : 0 < m) (hm2 : m ≤ 100000) (w : World) (c0 : w.cell? ⟨B, off, none⟩ = some (.int .i64 k)) (c1 : w.cell? ⟨B, off + 1, none⟩ = some (.int .i64 n)) (c2 : w.cell? ⟨B, off + 2, none⟩ = some (.string s)) :
    Calls Try.prog 58 #[.slice (some ⟨B, off, none⟩) m cap] w fun r w' => r = .returned (.agg #[.int .i64 k, .int .i64 n, .string s]) ∧ Below w.heap.size w w' := by
  have hB : B < w.heap.size := lt_of_cell_some c0
  go_enter Try.func58, Try.ntmps58
  go_wp2
  all_goals go_returns
  all_goals exact ⟨rfl, by go_grown⟩
set_option maxHeartbeats 400000 in
theorem last_1 (k n : Int) (s : ByteArray) (B off cap : Nat) (w : World) (c0 : w.cell? ⟨B, off, none⟩ = some (.int .i64 k)) (c1 : w.cell? ⟨B, off + 1, none⟩ = some (.int .i64 n)) (c2 : w.cell? ⟨B, off + 2, none⟩ = some (.string s)) :
    Calls Try.prog 59 #[.slice (some ⟨B, off, none⟩) 1 cap] w fun r w' => r = .returned (.agg #[.int .i64 k, .int .i64 n, .string s]) ∧ Below w.heap.size w w' := by
  have hB : B < w.heap.size := lt_of_cell_some c0
  go_enter Try.func59, Try.ntmps59
  go_wp2
  all_goals go_returns
  all_goals exact ⟨rfl, by go_grown⟩
set_option maxHeartbeats 400000 in
theorem last_2 (k n : Int) (s : ByteArray) (B off cap : Nat) (w : World) (c0 : w.cell? ⟨B, off + 3, none⟩ = some (.int .i64 k)) (c1 : w.cell? ⟨B, off + 4, none⟩ = some (.int .i64 n)) (c2 : w.cell? ⟨B, off + 5, none⟩ = some (.string s)) :
    Calls Try.prog 59 #[.slice (some ⟨B, off, none⟩) 2 cap] w fun r w' => r = .returned (.agg #[.int .i64 k, .int .i64 n, .string s]) ∧ Below w.heap.size w w' := by
  have hB : B < w.heap.size := lt_of_cell_some c0
  have c1' : w.cell? ⟨B, off + 3 + 1, none⟩ = some (.int .i64 n) := c1
  have c2' : w.cell? ⟨B, off + 3 + 2, none⟩ = some (.string s) := c2
  go_enter Try.func59, Try.ntmps59
  go_wp2
  all_goals go_returns
  all_goals exact ⟨rfl, by go_grown⟩
set_option maxHeartbeats 400000 in
theorem truth_yes (w : World) : Calls Try.prog 80 #[.bool true] w fun r w' => r = .returned (val (boolV true)) ∧ Below w.heap.size w w' := by
  go_enter Try.func80, Try.ntmps80
  go_wp2_with (go_at_call 57; refine (of_any 1 _).mono ?_; rintro e w1 ⟨rfl, b1⟩; unfold ofI; obtain ⟨f0, f1, f2, g0, g1, g2, hs⟩ := nul_kept (A := w.heap.size) b1 (by go_cell) (by go_cell) (by go_cell) (by go_cell) (by go_cell) (by go_cell))
  refine bodyPost_ret (v := val (boolV true)) ?_ rfl ⟨rfl, ((((Below.refl _ _).alloc (Nat.le_refl _) _).trans (b1.mono (by simp))).setCell (Nat.le_refl _) _).setCell (Nat.le_refl _) _ |>.setCell (Nat.le_refl _) _⟩
  simp [results, Try.results80, go_sem, f0, f1, f2, boolV, ofV]
set_option maxHeartbeats 400000 in
theorem truth_no (w : World) : Calls Try.prog 80 #[.bool false] w fun r w' => r = .returned (val (boolV false)) ∧ Below w.heap.size w w' := by
  go_enter Try.func80, Try.ntmps80
  go_wp2_with (go_at_call 57; refine (of_any 0 _).mono ?_; rintro e w1 ⟨rfl, b1⟩; unfold ofI; obtain ⟨f0, f1, f2, g0, g1, g2, hs⟩ := nul_kept (A := w.heap.size) b1 (by go_cell) (by go_cell) (by go_cell) (by go_cell) (by go_cell) (by go_cell))
  refine bodyPost_ret (v := val (boolV false)) ?_ rfl ⟨rfl, ((((Below.refl _ _).alloc (Nat.le_refl _) _).trans (b1.mono (by simp))).setCell (Nat.le_refl _) _).setCell (Nat.le_refl _) _ |>.setCell (Nat.le_refl _) _⟩
  simp [results, Try.results80, go_sem, f0, f1, f2, boolV, ofV]
theorem truth_any (b : Bool) (w : World) : Calls Try.prog 80 #[.bool b] w fun r w' => r = .returned (val (boolV b)) ∧ Below w.heap.size w w' := by
  cases b
  · exact truth_no w
  · exact truth_yes w
/-- None of the first k values is null. -/
def FullTo (l : List V3) (k : Nat) : Prop := ∀ i, i < k → ¬ (l.getD i nul).1 = 0
theorem full_next {l : List V3} {k : Nat} {x : V3} (h : FullTo l k) (hx : x = l.getD k nul) (hc : ¬ x.1 = 0) : FullTo l (k + 1) := by
  intro i hi
  by_cases e : i = k
  · subst e; rw [← hx]; exact hc
  · exact h i (by omega)
set_option maxRecDepth 100000 in
set_option maxHeartbeats 1000000 in
theorem anyNull_yes (l : List V3) (p : Option Addr) (cap : Nat) (w : World) (hl : l.length ≤ 100000) (hc : Hid (CellsOf w p l)) (hbad : Hid (¬ FullTo l l.length)) :
    Calls Try.prog 51 #[.slice p l.length cap] w fun r w' => r = .returned (.bool true) ∧ Below w.heap.size w w' := by
  go_enter Try.func51, Try.ntmps51
  go_wp2
  go_loopw [7] (fun i wr => ∃ k : Nat, k ≤ l.length ∧ i = .int .i64 k ∧ FullTo l k ∧ Below w.heap.size w wr) (fun i _ => l.length - (intOf i).toNat)
  case atStart => exact ⟨0, Nat.zero_le _, rfl, (fun i hi => absurd hi (Nat.not_lt_zero i)), Below.refl _ _⟩
  case round =>
    obtain ⟨k, hk, rfl, hg, hB⟩ := hrel
    have HG := Lib.hid hg
    clear hg
    by_cases hlt : k < l.length
    · obtain ⟨B, off, rfl, c0, c1, c2⟩ := cells_below hc.out hB k hlt
      obtain ⟨x, hx⟩ : ∃ x, x = l.getD k nul := ⟨_, rfl⟩
      rw [← hx] at c0 c1 c2
      have HX := Lib.hid hx
      clear hx
      obtain ⟨xk, xn, xs⟩ := x
      have hBr : B < wr.heap.size := lt_of_cell_some c0
      simp only at c0 c1 c2
      by_cases hz : xk = 0
      · subst hz
        go_wp2
        go_ret
        exact ⟨rfl, hB.alloc hB.size _⟩
      · have HN := Lib.hid (full_next (x := (xk, xn, xs)) HG.out HX.out hz)
        have hz' : (xk == 0) = false := by simpa using hz
        clear hz
        go_wp2
        go_roundw
        case rel => exact ⟨k + 1, by omega, by go_num, HN.out, hB.alloc hB.size _⟩
        case measure => simp [intOf]; omega
    · obtain rfl : k = l.length := by omega
      exact absurd HG.out hbad.out
set_option maxRecDepth 100000 in
set_option maxHeartbeats 1000000 in
theorem anyNull_no (l : List V3) (p : Option Addr) (cap : Nat) (w : World) (hl : l.length ≤ 100000) (hc : Hid (CellsOf w p l)) (hf : Hid (FullTo l l.length)) :
    Calls Try.prog 51 #[.slice p l.length cap] w fun r w' => r = .returned (.bool false) ∧ Below w.heap.size w w' := by
  go_enter Try.func51, Try.ntmps51
  go_wp2
  go_loopw [7] (fun i wr => ∃ k : Nat, k ≤ l.length ∧ i = .int .i64 k ∧ Below w.heap.size w wr) (fun i _ => l.length - (intOf i).toNat)
  case atStart => exact ⟨0, Nat.zero_le _, rfl, Below.refl _ _⟩
  case round =>
    obtain ⟨k, hk, rfl, hB⟩ := hrel
    by_cases hlt : k < l.length
    · obtain ⟨B, off, rfl, c0, c1, c2⟩ := cells_below hc.out hB k hlt
      have hz := hf.out k hlt
      generalize l.getD k nul = x at c0 c1 c2 hz
      obtain ⟨xk, xn, xs⟩ := x
      have hBr : B < wr.heap.size := lt_of_cell_some c0
      simp only at c0 c1 c2 hz
      have hz' : (xk == 0) = false := by simpa using hz
      clear hz
      go_wp2
      go_roundw
      case rel => exact ⟨k + 1, by omega, by go_num, hB.alloc hB.size _⟩
      case measure => simp [intOf]; omega
    · obtain rfl : k = l.length := by omega
      go_wp2
      go_ret
      exact ⟨rfl, hB⟩
set_option maxRecDepth 100000 in
set_option maxHeartbeats 1000000 in
theorem mayBe_no (l : List V3) (p : Option Addr) (cap : Nat) (w : World) (hl : l.length ≤ 100000) (hc : Hid (CellsOf w p l)) (hbad : Hid (¬ GoodTo l l.length)) :
    Calls Try.prog 26 #[.slice p l.length cap] w fun r w' => r = .returned (.bool false) ∧ Below w.heap.size w w' := by
  go_enter Try.func26, Try.ntmps26
  go_wp2
  go_loopw [7] (fun i wr => ∃ k : Nat, k ≤ l.length ∧ i = .int .i64 k ∧ GoodTo l k ∧ Below w.heap.size w wr) (fun i _ => l.length - (intOf i).toNat)
  case atStart => exact ⟨0, Nat.zero_le _, rfl, (fun i hi => absurd hi (Nat.not_lt_zero i)), Below.refl _ _⟩
  case round =>
    obtain ⟨k, hk, rfl, hg, hB⟩ := hrel
    have HG := Lib.hid hg
    clear hg
    by_cases hlt : k < l.length
    · obtain ⟨B, off, rfl, c0, c1, c2⟩ := cells_below hc.out hB k hlt
      obtain ⟨x, hx⟩ : ∃ x, x = l.getD k nul := ⟨_, rfl⟩
      rw [← hx] at c0 c1 c2
      have HX := Lib.hid hx
      clear hx
      obtain ⟨xk, xn, xs⟩ := x
      have hBr : B < wr.heap.size := lt_of_cell_some c0
      simp only at c0 c1 c2
      obtain ⟨c, hcc⟩ : ∃ c, checkV xk xn xs = c := ⟨_, rfl⟩
      have HC : Hid (∀ w, Calls Try.prog 50 #[.agg #[.int .i64 xk, .int .i64 xn, .string xs]] w fun r w' => r = .returned (.int .i64 c) ∧ Below w.heap.size w w') := Lib.hid fun w => by rw [← hcc]; exact check_any xk xn xs w
      by_cases hz : c = 0
      · have HN := Lib.hid (good_next (x := (xk, xn, xs)) HG.out HX.out (hcc.trans hz))
        subst hz
        clear hcc
        go_wp2_with (go_at_call 50; refine (HC.out _).mono ?_; rintro e w1 ⟨rfl, b1⟩)
        go_roundw
        case rel => exact ⟨k + 1, by omega, by go_num, HN.out, (hB.alloc hB.size _).trans (b1.mono (by have := hB.size; simp; omega))⟩
        case measure => simp [intOf]; omega
      · have hz' : (c != 0) = true := by simpa using hz
        clear hz hcc
        go_wp2_with (go_at_call 50; refine (HC.out _).mono ?_; rintro e w1 ⟨rfl, b1⟩)
        go_ret
        exact ⟨rfl, (hB.alloc hB.size _).trans (b1.mono (by have := hB.size; simp; omega))⟩
    · obtain rfl : k = l.length := by omega
      exact absurd HG.out hbad.out
set_option maxRecDepth 100000 in
set_option maxHeartbeats 1000000 in
theorem mayBe_ok (l : List V3) (p : Option Addr) (cap : Nat) (w : World) (hl : l.length ≤ 100000) (hc : Hid (CellsOf w p l)) (hg : Hid (GoodTo l l.length)) :
    Calls Try.prog 26 #[.slice p l.length cap] w fun r w' => r = .returned (.bool true) ∧ Below w.heap.size w w' := by
  go_enter Try.func26, Try.ntmps26
  go_wp2
  go_loopw [7] (fun i wr => ∃ k : Nat, k ≤ l.length ∧ i = .int .i64 k ∧ Below w.heap.size w wr) (fun i _ => l.length - (intOf i).toNat)
  case atStart => exact ⟨0, Nat.zero_le _, rfl, Below.refl _ _⟩
  case round =>
    obtain ⟨k, hk, rfl, hB⟩ := hrel
    by_cases hlt : k < l.length
    · obtain ⟨B, off, rfl, c0, c1, c2⟩ := cells_below hc.out hB k hlt
      have hz := hg.out k hlt
      generalize l.getD k nul = x at c0 c1 c2 hz
      obtain ⟨xk, xn, xs⟩ := x
      have hBr : B < wr.heap.size := lt_of_cell_some c0
      simp only at c0 c1 c2 hz
      have HC : Hid (∀ w, Calls Try.prog 50 #[.agg #[.int .i64 xk, .int .i64 xn, .string xs]] w fun r w' => r = .returned (.int .i64 0) ∧ Below w.heap.size w w') := Lib.hid fun w => by rw [← hz]; exact check_any xk xn xs w
      clear hz
      go_wp2_with (go_at_call 50; refine (HC.out _).mono ?_; rintro e w1 ⟨rfl, b1⟩)
      go_roundw
      case rel => exact ⟨k + 1, by omega, by go_num, (hB.alloc hB.size _).trans (b1.mono (by have := hB.size; simp; omega))⟩
      case measure => simp [intOf]; omega
    · obtain rfl : k = l.length := by omega
      go_wp2
      go_ret
      exact ⟨rfl, hB⟩
end Go.Proofs.Ytoknfdgejiachaa
