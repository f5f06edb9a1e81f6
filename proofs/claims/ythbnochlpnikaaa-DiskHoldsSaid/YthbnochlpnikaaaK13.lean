/- Write, walked. -/
import Derived.Test.YthbnochlpnikaaaK12
namespace Go.Proofs.Ythbnochlpnikaaa
open Go.RowKit Go.Shelf

set_option maxRecDepth 100000 in
set_option maxHeartbeats 2000000 in
theorem dwrite_any {w : World} {d : Value} {s : DS} {F : Nat → Prop} (k : Int) (p : Option Addr) (l : List Nat) (cap : Nat) (h : RepD w d s F) (hW : Whole s) (hF : Few s) (hin : BytesIn w F p l cap) :
    Calls Try.prog 15 #[d, .int .i64 k, .slice p l.length cap] w fun r w' => r = .returned (.int .i64 (writeS s k (strOf l)).2) ∧ Goes RepD d (writeS s k (strOf l)).1 F w w' := by
  obtain ⟨B, b1, b2, v, rfl, h, rfl⟩ := h
  have hm := hW.many.1
  have hbyte := Lib.hid hin.byte
  have hat := Lib.hid hin.at'
  clear hin
  go_enter Try.func15, Try.ntmps15
  go_wp2_with fail
  refine (odd_any _ _ _ _).mono ?_
  rintro e wa ⟨rfl, a0, Ba⟩
  go_wp2_with fail
  refine (beyond_any _ _ _).mono ?_
  rintro e wb ⟨rfl, a1, a2, Bb⟩
  go_wp2_with fail
  refine (halted_any _ _).mono ?_
  rintro e wc ⟨rfl, Bc⟩
  go_wp2_with fail
  have hB := kbP (kbP Ba Bb) Bc
  refine (refuse3 (q1 := qOdd w.heap.size l.length) (q2 := qBeyond (wa.heap.size + 1) wa.heap.size k s) (q3 := qHalted B s) (h.below hB) hm (qOdd_ok (below_kept (kbP Bb Bc) _ _ a0)) (qBeyond_ok (h.below hB) (below_kept Bc _ _ a2) (below_kept Bc _ _ a1)) (qHalted_ok (h.below hB) hm)).mono ?_
  rintro e wd ⟨rfl, Bd⟩
  rw [ref_write]
  have hC := kbP hB Bd
  have hD := h.below hC
  clear a0 a1 a2
  by_cases h0 : l.length ≠ 64
  · have e : writeS s k (strOf l) = (s, 2) := by unfold writeS; rw [strOf_size, if_pos h0]
    rw [e]
    go_wp2_with fail
    go_ret
    rw [e]
    exact ⟨rfl, goes_at hD (fun j hj => .inl hj) (Below.apart hC _)⟩
  by_cases h1 : k < 0 ∨ (s.many : Int) ≤ k
  · have e : writeS s k (strOf l) = (s, 4) := by unfold writeS; rw [strOf_size, if_neg h0, if_pos h1]
    rw [e]
    go_wp2_with fail
    go_ret
    rw [e]
    exact ⟨rfl, goes_at hD (fun j hj => .inl hj) (Below.apart hC _)⟩
  by_cases h2 : s.left = 0
  · have e : writeS s k (strOf l) = (s, 140) := by unfold writeS; rw [strOf_size, if_neg h0, if_neg h1, if_pos h2]
    rw [e]
    go_wp2_with fail
    go_ret
    rw [e]
    exact ⟨rfl, goes_at hD (fun j hj => .inl hj) (Below.apart hC _)⟩
  obtain ⟨n, rfl⟩ : ∃ n : Nat, k = n := ⟨k.toNat, by omega⟩
  have hn : n < s.many := by omega
  have hl : l.length = 64 := by omega
  have e : writeS s n (strOf l) = (⟨s.many, s.sync, s.loose ++ [(n, strOf l)], doneL s.left⟩, 0) := by
    unfold writeS
    rw [strOf_size, if_neg h0, if_neg h1, if_neg h2, Int.toNat_natCast]
  rw [e]
  have HE := Lib.hid e
  have hlow := Lib.hid h.low
  obtain ⟨c0, -, -, -, -, -⟩ := hD.cell
  have HL := Lib.hid hl
  have H2 := Lib.hid h2
  have H3 := Lib.hid hW.left
  clear e h0 h1 h hl h2
  go_wp2_with fail
  refine (lay_any hD.now hn p l cap (by rw [HL.out]; omega) hbyte.out (Lib.hid (bytesAt_below hat.out hC))).mono ?_
  rintro e w1 ⟨rfl, M1, A1⟩
  rw [layB_all HL.out] at M1
  generalize hcc : strOf l = c at *
  have hcs : c.size = 64 := by rw [← hcc, strOf_size, HL.out]
  have HCC := Lib.hid hcc
  clear hcc
  have x0 : w1.cell? ⟨B, 0, none⟩ = some (.map (some b1)) := (World.cell?_of_block (w := wd) (A1.block B (lt_of_heap hD.cells) (fun e => hD.now.cells hD.cells e.symm))).trans c0
  have x3 : w1.cell? ⟨B, 3, none⟩ = some v := (World.cell?_of_block (w := wd) (A1.block B (lt_of_heap hD.cells) (fun e => hD.now.cells hD.cells e.symm))).trans hD.cell.2.2.2.1
  have hl1 := M1.look hn
  have hl2 := (M1.of_block (w' := w1.drew) rfl).look hn
  have hu : upd (sectorS s) n c n = c := by simp [upd]
  rw [hu] at hl1 hl2
  have hbz : (bV c).size = 64 := by rw [bV_size, hcs]
  have hbf := fold_write (k := n) hcs
  have hbw : (wV n c).size = 65 := wV_size hcs
  have hbs := fold_row 65 hbw
  have lB : B < w1.heap.size := Nat.lt_of_lt_of_le (lt_of_heap hD.cells) A1.size
  have B1 : Below w1.heap.size w1 (w1.alloc (.cells (wV n c) 78)).drew := ((Below.refl _ _).alloc (Nat.le_refl _) _).drew
  have RW : Hid (∀ wx, Below w1.heap.size w1 wx → wx.ownsRow 0 78 65 v s.loose.length (wcs s.loose)) := Lib.hid fun wx hx => ownsRow_kept hD.row (fun j hj => (hx.block j (Nat.lt_of_lt_of_le (hD.row.lt j hj).2 A1.size)).trans (A1.block j (hD.row.lt j hj).2 (fun e => row_apart hD.now hD.row (by rw [hj, e]))))
  have W : Hid (∀ wx w2 v', Below w1.heap.size w1 wx → w2.ownsRow 0 78 65 v' (s.loose.length + 1) (wcs (s.loose ++ [(n, c)])) → wx.grownBy w2 v.ownBlock → (∀ j, v'.ownBlock = some j → v.ownBlock = some j ∨ wx.heap.size ≤ j) → DiskAt (w2.setCell ⟨B, 3, none⟩ v') B b1 b2 v' ⟨s.many, s.sync, s.loose ++ [(n, c)], s.left⟩ ∧ Apart (FootOf B b1 b2 v) w (w2.setCell ⟨B, 3, none⟩ v') ∧ (∀ j, v'.ownBlock = some j → v.ownBlock = some j ∨ w.heap.size ≤ j) ∧ w2.cell? ⟨B, 3, none⟩ = some v ∧ w2.frozen? ⟨B, 3, none⟩ = false) := Lib.hid fun wx w2 v' hx hr hg hj => hD.wrote hC M1 A1 hx hr hg hj hlow.out
  have HN : s.loose.length ≤ 100000 := by have := hF.2; omega
  clear hD M1 A1 hC hF
  go_wp2_with fail
  go_region_law (refine step_append_write rfl (.tmp 31) (.tmp 41) rfl rfl (RW.out _ (by first | exact B1 | exact B1)) rfl hcs (heap_alloc_new w1 _) HN ?_; intro v' w2 hr2 hg2 hj2; obtain ⟨g', cap', rfl⟩ := ownsRow_succ hr2; obtain ⟨D3, A3, J3, x5, f5⟩ := W.out _ _ _ (by first | exact B1 | exact B1) hr2 hg2 hj2; have HD3 := Lib.hid D3; have HA3 := Lib.hid A3; have HJ3 := Lib.hid J3; clear D3 A3 J3 hr2 hg2 hj2)
  all_goals (
    go_wp2_with (go_at_call 44; refine (count_any HD3.out H2.out H3.out).mono ?_; rintro e w5 ⟨rfl, D5, A5⟩)
    go_ret
    rw [HCC.out, HE.out]
    exact ⟨rfl, goes_at D5 HJ3.out (HA3.out.trans A5 (fun j hj => .inl (.inl hj)))⟩)
end Go.Proofs.Ythbnochlpnikaaa
