/- Package frame: what stands where a head's parts lie. -/
import Derived.Test.YthnllhfdbnnjhaaPG
namespace Go.Proofs.Ythnllhfdbnnjhaa
open Go.RowKit Go.Shelf

theorem But.row {P : Nat} {w w' : World} (h : But P w w') {k : Nat} {o : Obj} (hk : w.heap[k]? = some o) (hn : k ≠ P) : w'.heap[k]? = some o := (h.block k (Array.getElem?_eq_some_iff.1 hk).1 hn).trans hk
theorem row_cell {w : World} {g i : Nat} {cs : Array Value} {t : TypeId} {v : Value} (h : w.heap[g]? = some (.cells cs t (0, 0))) (hi : cs[i]? = some v) : w.cell? ⟨g, i, none⟩ = some v := by
  unfold World.cell?
  simp only [h]
  exact hi
theorem row_frozen {w : World} {g i : Nat} {cs : Array Value} {t : TypeId} (h : w.heap[g]? = some (.cells cs t (0, 0))) : w.frozen? ⟨g, i, none⟩ = false := by simp [World.frozen?, h]
/-- A reader that begins, behind a block that the call made. -/
theorem rest_start (w : World) (o : Obj) (p : Option Addr) (cap : Nat) (l : List Nat) (t : TypeId) (hcap : l.length ≤ cap) (hne : 0 < l.length) (hc : BytesAt w p l) :
    RestP (· < w.heap.size) ((w.alloc o).alloc (.cells #[.slice p l.length cap] t)) (w.heap.size + 1) p cap l := by
  have hb : Below w.heap.size w (w.alloc o) := (Below.refl _ _).alloc (Nat.le_refl _) _
  have := rest_new (· < w.heap.size) (w.alloc o) p cap l t hcap (bytesAt_below hc hb) (fun B off e _ => by
    obtain ⟨B', off', e', c⟩ := hc 0 hne
    rw [e] at e'
    injection e' with e'
    injection e' with e1 e2
    subst e1
    exact lt_of_cell_some c) (by simp)
  rwa [World.size_alloc] at this
set_option maxRecDepth 100000 in
set_option maxHeartbeats 2000000 in
theorem readHead_any (l : List Nat) (p : Option Addr) (cap : Nat) (w : World) (hl : l.length = 64) (hcap : 64 ≤ cap) (hc0 : cap ≤ 9223372036854775807) (hb : ∀ b ∈ l, b < 256) (hc : BytesAt w p l) :
    Calls Try.prog 40 #[.slice p 64 cap] w fun r w' => r = .returned (.agg #[.int .u64 (foldN (l.take 8) : Nat), .int .u64 (foldN ((l.drop 8).take 8) : Nat), .int .i64 (foldN ((l.drop 16).take 4) : Nat), .int .i64 (foldN ((l.drop 20).take 4) : Nat)]) ∧ Below w.heap.size w w' := by
  have HR := rest_start w (.cells #[.int .u64 0, .int .u64 0, .int .i64 0, .int .i64 0] 38) p cap l 109 (by omega) (by omega) hc
  rw [hl] at HR
  have C1 := Lib.hid fun w1 c' p' (hc' : c' ≤ cap) R => num8_any (w.heap.size + 1) p' c' l w w1 (by omega) (by omega) hb (by omega) R
  have C2 := Lib.hid fun w1 c' p' (hc' : c' ≤ cap) R => num8_any (w.heap.size + 1) p' c' (l.drop 8) w w1 (by rw [List.length_drop]; omega) (by omega) (fun b h => hb b (List.mem_of_mem_drop h)) (by omega) R
  have C3 := Lib.hid fun w1 c' p' (hc' : c' ≤ cap) R => num4_any (w.heap.size + 1) p' c' (l.drop 16) w w1 (by rw [List.length_drop]; omega) (by omega) (fun b h => hb b (List.mem_of_mem_drop h)) (by omega) R
  have C4 := Lib.hid fun w1 c' p' (hc' : c' ≤ cap) R => num4_any (w.heap.size + 1) p' c' (l.drop 20) w w1 (by rw [List.length_drop]; omega) (by omega) (fun b h => hb b (List.mem_of_mem_drop h)) (by omega) R
  simp only [List.drop_drop, Nat.reduceAdd] at C2 C3
  have HR := Lib.hid HR
  have HB0 : Hid (Below w.heap.size w ((w.alloc (.cells #[.int .u64 0, .int .u64 0, .int .i64 0, .int .i64 0] 38)).alloc (.cells #[.slice p 64 cap] 109))) := Lib.hid (((Below.refl _ _).alloc (Nat.le_refl _) _).alloc (by simp) _)
  have HG0 : Hid (((w.alloc (.cells #[.int .u64 0, .int .u64 0, .int .i64 0, .int .i64 0] 38)).alloc (.cells #[.slice p 64 cap] 109)).heap[w.heap.size]? = some (.cells #[.int .u64 0, .int .u64 0, .int .i64 0, .int .i64 0] 38 (0, 0))) := Lib.hid ((((Below.refl _ _).alloc (Nat.le_refl _) _).block _ (by simp)).trans (heap_alloc_last w _))
  generalize foldN (l.take 8) = x1 at *
  generalize foldN ((l.drop 8).take 8) = x2 at *
  generalize foldN ((l.drop 16).take 4) = x3 at *
  generalize foldN ((l.drop 20).take 4) = x4 at *
  have hcap0 : cap ≤ cap := Nat.le_refl _
  have HW : Hid (w.heap.size ≠ w.heap.size + 1) := Lib.hid (by omega)
  clear hl hb hc
  go_enter Try.func40, Try.ntmps40
  go_upto_region 2 with fail
  obtain ⟨w0, hw0⟩ : ∃ w0, (w.alloc (.cells #[.int .u64 0, .int .u64 0, .int .i64 0, .int .i64 0] 38)).alloc (.cells #[.slice p 64 cap] 109) = w0 := ⟨_, rfl⟩
  rw [hw0] at HR HB0 HG0 ⊢
  clear hw0
  go_wp2_with (first
    | (go_at_call 55; (with_reducible refine (C1.out _ _ _ hcap0 HR.out).mono ?_); rintro e wa ⟨rfl, hbt, p1, c1, hc1, hr1⟩; have HR1 := Lib.hid hr1; have HB1 := Lib.hid (hbt.below HB0.out (Nat.le_succ _)); have HG1 := Lib.hid (hbt.row HG0.out HW.out); clear hr1 hbt)
    | (go_at_call 55; (with_reducible refine (C2.out _ _ _ hc1 HR1.out).mono ?_); rintro e wb ⟨rfl, hbt, p2, c2, hc2', hr2⟩; have hc2 := Nat.le_trans hc2' hc1; have HR2 := Lib.hid hr2; have HB2 := Lib.hid (hbt.below HB1.out (Nat.le_succ _)); have HG2 := Lib.hid (hbt.row HG1.out HW.out); clear hr2 hbt)
    | (go_at_call 57; (with_reducible refine (C3.out _ _ _ hc2 HR2.out).mono ?_); rintro e wd ⟨rfl, hbt, p3, c3, hc3', hr3⟩; have hc3 := Nat.le_trans hc3' hc2; have HR3 := Lib.hid hr3; have HB3 := Lib.hid (hbt.below HB2.out (Nat.le_succ _)); have HG3 := Lib.hid (hbt.row HG2.out HW.out); clear hr3 hbt)
    | (go_at_call 57; (with_reducible refine (C4.out _ _ _ hc3 HR3.out).mono ?_); rintro e we ⟨rfl, hbt, p4, c4, hc4', hr4⟩; have HB4 := Lib.hid (hbt.below HB3.out (Nat.le_succ _)); have hg4 := hbt.row HG3.out HW.out; have k0 := row_cell (i := 0) hg4 rfl; have k1 := row_cell (i := 1) hg4 rfl; have k2 := row_cell (i := 2) hg4 rfl; have k3 := row_cell (i := 3) hg4 rfl; have f0 := row_frozen (i := 0) hg4; have f1 := row_frozen (i := 1) hg4; have f2 := row_frozen (i := 2) hg4; have f3 := row_frozen (i := 3) hg4; clear hr4 hbt hg4))
  refine bodyPost_ret (v := .agg #[.int .u64 x1, .int .u64 x2, .int .i64 x3, .int .i64 x4]) ?_ rfl ⟨rfl, (((HB4.out.setCell (Nat.le_refl _) _).setCell (Nat.le_refl _) _).setCell (Nat.le_refl _) _).setCell (Nat.le_refl _) _⟩
  simp [results, Try.results40, go_sem, k0, k1, k2, k3]
end Go.Proofs.Ythnllhfdbnnjhaa
