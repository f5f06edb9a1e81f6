import Derived.Test.YthnllhfdbnnjhaaO6
import Derived.Deep.OwnRows
namespace Go.Proofs.Ythnllhfdbnnjhaa
open Go.RowKit Go.Shelf

/-- A store into a slice of the call's own. -/
theorem ownsRow_set {w : World} {base : Nat} {e : TypeId} {g n cap i : Nat} {xs : List Value} (h : w.ownsRow base e 1 (.slice (some ⟨g, 0, none⟩) n cap) n xs) (v : Value) :
    (w.setCell ⟨g, i, none⟩ v).ownsRow base e 1 (.slice (some ⟨g, 0, none⟩) n cap) n (xs.set i v) := by
  obtain ⟨hx, h⟩ := h
  rcases h with ⟨e0, _⟩ | ⟨g', cap', cur, e0, hb, hg, hn, hm, hs, ht⟩
  · cases e0
  · injection e0 with e1 _ e3
    injection e1 with e1
    injection e1 with e1
    subst e1; subst e3
    refine ⟨by simpa using hx, .inr ⟨g, cap, cur.setIfInBounds i v, rfl, hb, ?_, hn, hm, by simpa using hs, ?_⟩⟩
    · simp [World.setCell, Array.getElem?_modify, hg]
    · rw [Array.toList_setIfInBounds, ← ht, List.take_set]
theorem ownsRow_is {w : World} {base : Nat} {e : TypeId} {v : Value} {n : Nat} {xs : List Value} (h : w.ownsRow base e 1 v n xs) (hn : 0 < n) : ∃ g cap, v = .slice (some ⟨g, 0, none⟩) n cap ∧ base ≤ g ∧ ∀ i, i < n → (∃ y, w.cell? ⟨g, i, none⟩ = some y) ∧ w.frozen? ⟨g, i, none⟩ = false := by
  obtain ⟨hx, h⟩ := h
  rcases h with ⟨_, h0⟩ | ⟨g, cap, cur, e0, hb, hg, hn', hm, hs, ht⟩
  · omega
  · refine ⟨g, cap, e0, hb, fun i hi => ⟨?_, by simp [World.frozen?, hg]⟩⟩
    have hi' : i < cur.size := by omega
    exact ⟨cur[i], by simp [World.cell?, hg, hi']⟩
def u8s (l : List Nat) : List Value := l.map fun (v : Nat) => Value.int .u8 (v : Int)
theorem set_next (r x : Nat) (lw : List Nat) : (u8s (List.replicate (r + 1) 0 ++ lw)).set r (.int .u8 x) = u8s (List.replicate r 0 ++ x :: lw) := by
  unfold u8s
  rw [List.replicate_succ', List.append_assoc, List.map_append, List.map_append]
  rw [List.set_append_right _ _ (by simp)]
  simp
theorem fix_next (r a : Nat) (lw : List Nat) : fixE (r + 1) a ++ lw = fixE r (a / 256) ++ a % 256 :: lw := by simp [fixE]
/-- How far a fixed number's bytes are told. -/
def Fixing (N m r a : Nat) (lw : List Nat) : Prop := fixE m N = fixE r a ++ lw ∧ r + lw.length = m
/-- The row of a fixed number's bytes, all but the first r told. -/
def fixRow (N m r : Nat) (j : Nat) : Value := if j < r then .int .u8 0 else .int .u8 ((fixE m N).getD j 0 : Nat)
theorem fixing_byte {N m r a : Nat} {lw : List Nat} (h : Fixing N m (r + 1) a lw) : (fixE m N).getD r 0 = a % 256 ∧ Fixing N m r (a / 256) (a % 256 :: lw) := by
  obtain ⟨h1, h2⟩ := h
  rw [fix_next] at h1
  refine ⟨?_, h1, by simp; omega⟩
  rw [h1, List.getD_eq_getElem?_getD, List.getElem?_append_right (by simp [fixE_length])]
  simp [fixE_length]
theorem fixRow_next {N m r a : Nat} (h : (fixE m N).getD r 0 = a % 256) : (fun j => if j = r then Value.int .u8 ((a % 256 : Nat) : Int) else fixRow N m (r + 1) j) = fixRow N m r := by
  funext j
  unfold fixRow
  by_cases e : j = r
  · subst e
    rw [if_pos rfl, if_neg (Nat.lt_irrefl _), h]
  · rw [if_neg e]
    by_cases hj : j < r
    · rw [if_pos (by omega), if_pos hj]
    · rw [if_neg (by omega), if_neg hj]
set_option maxRecDepth 100000 in
set_option maxHeartbeats 1000000 in
theorem refFixed_any (N m : Nat) (hm : m ≤ 8) (w : World) (hN : N < 18446744073709551616) :
    Calls Try.prog 36 #[.int .u64 N, .int .i64 m] w fun r w' => r = .returned (.slice (some ⟨w.heap.size, 0, none⟩) m m) ∧ w'.rowIs w.heap.size 5 m (fixRow N m 0) ∧ Below w.heap.size w w' := by
  have hmk := run_make_row' (P := Try.prog) 39 5 (.int .u8 0) 1 Try.underlying39 info5 rfl .i64 .i64 m (by omega) (by omega)
  go_enter Try.func36, Try.ntmps36
  go_wp2
  have R0 : (w.alloc (.cells (madeCells #[.int .u8 0] m) 5)).rowIs w.heap.size 5 m (fixRow N m m) := by
    exact (World.rowIs_made w (.int .u8 0) m 5).congr fun i hi => by unfold fixRow; rw [if_pos hi]
  have B0 : Below w.heap.size w (w.alloc (.cells (madeCells #[.int .u8 0] m) 5)) := (Below.refl _ _).alloc (Nat.le_refl _) _
  go_loopw [0, 6] (fun n i wr => ∃ r a : Nat, ∃ lw, r ≤ m ∧ i = .int .i64 ((r : Int) - 1) ∧ n = .int .u64 (a : Nat) ∧ a < 18446744073709551616 ∧ Hid (Fixing N m r a lw) ∧ wr.rowIs w.heap.size 5 m (fixRow N m r) ∧ Below w.heap.size w wr) (fun _ i _ => (intOf i + 1).toNat)
  case atStart => exact ⟨m, N, [], Nat.le_refl _, by first | rfl | go_num, rfl, hN, Lib.hid ⟨by simp, rfl⟩, R0, B0⟩
  case round =>
    obtain ⟨r, a, lw, hr, rfl, rfl, ha, HF, R, hB⟩ := hrel
    cases r with
    | zero =>
      go_wp2
      go_ret
      exact ⟨rfl, R, hB⟩
    | succ r =>
      have hf := Lib.hid (fixing_byte HF.out)
      have e1 : (((r + 1 : Nat) : Int) - 1) = (r : Int) := by omega
      rw [e1]
      obtain ⟨hc, hfz⟩ : (∃ v, wr.cell? ⟨w.heap.size, r, none⟩ = some v) ∧ wr.frozen? ⟨w.heap.size, r, none⟩ = false := ⟨⟨_, R.cell (i := r) (by omega)⟩, R.frozen r⟩
      obtain ⟨v0, hc⟩ := hc
      have h2 := R.set r (.int .u8 ((a % 256 : Nat) : Int))
      rw [fixRow_next hf.out.1, show ((a % 256 : Nat) : Int) = (a : Int) % 256 by omega] at h2
      have H2 := Lib.hid h2
      clear h2
      go_wp2
      exact ⟨⟨r, a / 256, _, by omega, rfl, by first | rfl | go_num, by omega, Lib.hid hf.out.2, H2.out, hB.setCell (Nat.le_refl _) _⟩, by simp [intOf]⟩
end Go.Proofs.Ythnllhfdbnnjhaa

