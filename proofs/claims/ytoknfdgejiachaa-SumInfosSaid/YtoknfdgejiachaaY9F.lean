import Derived.Test.YtoknfdgejiachaaY9
import Derived.Deep.CutRange
namespace Go.Proofs.Ytoknfdgejiachaa
open Go.RowKit Go.Shelf

set_option maxRecDepth 100000 in
set_option maxHeartbeats 4000000 in
theorem refDo_numx1h (o xk xn : Int) (xs : ByteArray) (l : List V3) (p : Option Addr) (cap : Nat) (w : World) (hl : l.length ≤ 100000)
    (hc : Hid (∀ i, i < l.length → ∃ B off, p = some ⟨B, off, none⟩ ∧ w.cell? ⟨B, off + i * 3, none⟩ = some (.int .i64 (l.getD i nul).1) ∧ w.cell? ⟨B, off + i * 3 + 1, none⟩ = some (.int .i64 (l.getD i nul).2.1) ∧ w.cell? ⟨B, off + i * 3 + 2, none⟩ = some (.string (l.getD i nul).2.2))) (hgood : Hid (∀ i, i < l.length → checkV (l.getD i nul).1 (l.getD i nul).2.1 (l.getD i nul).2.2 = 0)) (HL : Hid (l = [(xk, xn, xs)])) (HNo : Hid ((makesE o (l.map (·.1))).2 = 0)) (z13 : (o == 13) = false) (z14 : (o == 14) = false) (z17 : (o == 17) = false) (z18 : (o == 18) = false) (z16 : (o == 16) = false) (z6 : (o == 6) = false) (z19 : (o == 19) = false) (o1 : 12 < o) (HXn : Hid (In64 xn)) (HYn : Hid (In64 xn)) (hn : Hid ([(xk, xn, xs)].any (fun v => v.1 == 0) = false)) (he : Hid (((wholeE o xn xn).2 != 0) = true)) :
    Calls Try.prog 15 #[.int .i64 o, .slice p l.length cap] w fun r w' => r = .returned (.tuple #[val (((nul, (wholeE o xn xn).2) : V3 × Int)).1, .int .i64 (((nul, (wholeE o xn xn).2) : V3 × Int)).2]) ∧ Below w.heap.size w w' := by
  obtain ⟨j0, hi, hz0, hz1, hz2⟩ := info_parts info3
  go_enter Try.func15, Try.ntmps15
  go_wp2
  go_loopw [6, 7, 8] (fun t nl i wr => ∃ k : Nat, k ≤ l.length ∧ i = .int .i64 k ∧ ∃ b, nl = .bool b ∧ GoodTo l k ∧ DoAt w (l.take k) t b wr) (fun _ _ i _ => l.length - (intOf i).toNat)
  case atStart => exact ⟨0, Nat.zero_le _, rfl, false, rfl, (fun i hi => absurd hi (Nat.not_lt_zero i)), World.ownsRow_nil _ _ _ _, rfl, Below.refl _ _⟩
  case round =>
    obtain ⟨k, hk, rfl, b, rfl, hgd, hown, hb, hbel⟩ := hrel
    have HG := Lib.hid hgd
    clear hgd
    have HB := Lib.hid hb
    clear hb
    by_cases hlt : k < l.length
    · obtain ⟨B, off, rfl, c0, c1, c2⟩ := hc.out k hlt
      obtain ⟨x, hx⟩ : ∃ x, x = l.getD k nul := ⟨_, rfl⟩
      rw [← hx] at c0 c1 c2
      have HX := Lib.hid hx
      clear hx
      obtain ⟨xk, xn, xs⟩ := x
      have hB : B < w.heap.size := lt_of_cell_some c0
      have hBr : B < wr.heap.size := by have := hbel.size; simp at this; omega
      simp only at c0 c1 c2
      have r0 : wr.cell? ⟨B, off + k * 3, none⟩ = some (.int .i64 xk) := (hbel.cell (by simp; omega)).trans (by go_cell)
      have r1 : wr.cell? ⟨B, off + k * 3 + 1, none⟩ = some (.int .i64 xn) := (hbel.cell (by simp; omega)).trans (by go_cell)
      have r2 : wr.cell? ⟨B, off + k * 3 + 2, none⟩ = some (.string xs) := (hbel.cell (by simp; omega)).trans (by go_cell)
      have hck : checkV xk xn xs = 0 := by have := hgood.out k hlt; rw [← HX.out] at this; exact this
      have HC : Hid (∀ w, Calls Try.prog 29 #[.agg #[.int .i64 xk, .int .i64 xn, .string xs]] w fun r w' => r = .returned (.int .i64 0) ∧ Below w.heap.size w w') := Lib.hid fun w => by rw [← hck]; exact refCheck_any xk xn xs w
      have HG2 := Lib.hid (good_next (x := (xk, xn, xs)) HG.out HX.out hck)
      clear hck
      have hbs : w.heap.size + 1 ≤ wr.heap.size := by have := hbel.size; simp at this; omega
      go_wp2_with (first | (go_at_call 29; refine (HC.out _).mono ?_; rintro e w1 ⟨rfl, b1⟩; have q0 : w1.cell? ⟨B, off + k * 3, none⟩ = some (.int .i64 xk) := (b1.cell hBr).trans r0; have q1 : w1.cell? ⟨B, off + k * 3 + 1, none⟩ = some (.int .i64 xn) := (b1.cell hBr).trans r1; have q2 : w1.cell? ⟨B, off + k * 3 + 2, none⟩ = some (.string xs) := (b1.cell hBr).trans r2; have hown1 := owns_below hown b1; have hB1 : B < w1.heap.size := Nat.lt_of_lt_of_le hBr b1.size; have hbs1 : w.heap.size + 1 ≤ w1.heap.size := Nat.le_trans hbs b1.size) | (at_builtin; refine wpList_append_own _ rfl _ _ 24 rfl (w.heap.size + 1) 3 j0 (.int .i64 0) 1 8 Try.underlying24 hi hz0 hz1 hz2 rfl (by decide) _ _ _ rfl (hown1.alloc _) ⟨w1.heap.size, 0, none⟩ 1 1 [.int .i64 xk] rfl rfl ?c1 ?c2 ?c3 ?c4 ?c5 ?_))
      case c1 => exact World.news_of_block (heap_alloc_new w1 _)
      case c2 => simp [Value.oneCell']
      case c3 => unfold maxLen; simp; omega
      case c4 => simp; omega
      case c5 => simp; omega
      intro t' w2 hown2 hgrow2 _
      have s0 : w2.cell? ⟨B, off + k * 3, none⟩ = some (.int .i64 xk) := by
        refine hgrow2.cell (v := .int .i64 xk) ?_ (fun e => ?_)
        · go_cell
        · have := (hown.lt _ e.symm).1; simp at this; omega
      have DN := Lib.hid (do_next hlt HX HB hown2 hbel b1 _ hgrow2 (fun j hj => (hown.lt j hj).1))
      cases b
      · go_wp2
        refine ⟨⟨k + 1, by omega, by go_num, xk == 0, rfl, HG2.out, by simpa using DN.out⟩, by simp [intOf]; omega⟩
      · go_wp2
        refine ⟨⟨k + 1, by omega, by go_num, true, rfl, HG2.out, by simpa using DN.out⟩, by simp [intOf]; omega⟩
    · obtain rfl : k = l.length := by omega
      rw [List.take_length] at hown HB
      have HI := Lib.hid (do_ints hl hown)
      have hbs : w.heap.size + 1 ≤ wr.heap.size := by have := hbel.size; simp at this; omega
      clear hk hlt
      obtain rfl := HL.out
      obtain ⟨B, off, rfl, c0, c1, c2⟩ := hc.out 0 (by simp)
      simp only [Nat.zero_mul, Nat.add_zero, List.getD_cons_zero] at c0 c1 c2
      have hB : B < w.heap.size := lt_of_cell_some c0
      have CF : Hid (∀ w1, Below wr.heap.size wr w1 → w1.cell? ⟨B, off, none⟩ = some (.int .i64 xk) ∧ w1.cell? ⟨B, off + 1, none⟩ = some (.int .i64 xn) ∧ w1.cell? ⟨B, off + 2, none⟩ = some (.string xs)) := Lib.hid (do_cells1 hbel hB c0 c1 c2)
      clear c0 c1 c2
      go_wp2_with (go_at_call 10; refine (refMakes_ok o _ _ _ HI.out HNo.out).mono ?_; rintro e w1 ⟨rfl, b1⟩; obtain ⟨k0, k1, k2, f0, f1, f2, hbw⟩ := doRes hbel b1; obtain ⟨c0, c1, c2⟩ := CF.out w1 b1; have hB1 : B < w1.heap.size := Nat.lt_of_lt_of_le hB hbw.size; have hz1 : w.heap.size < w1.heap.size := lt_of_cell_some k0; have hle1 : w.heap.size ≤ w1.heap.size := Nat.le_of_lt hz1)
      go_cut [11, 12] from 55 to 63 (fun x y wx => ∃ A1 A2, x = .pointer (some ⟨A1, 0, none⟩) ∧ y = .pointer (some ⟨A2, 0, none⟩) ∧ DoVals w wx A1 A2 xk xn xs xk xn xs)
      case first =>
        go_region
        all_goals (go_wp2; go_meet; exact ⟨_, _, rfl, rfl, ⟨by go_cell, by go_cell, by go_cell, by go_cell, by go_cell, by go_cell, by go_cell, by go_cell, by go_cell, by go_cell, by go_cell, by go_cell, by go_grown⟩⟩)
      case rest =>
        rename World => w2
        obtain ⟨A1, A2, rfl, rfl, HV⟩ := hcut
        have hb1 := HB.out
        clear CF HI HB HG hbel hbs hown hc hgood
        obtain ⟨a0, a1, a2, b0, b1', b2, k0, k1, k2, f0, f1, f2, hbw⟩ := HV
        have HVV : Hid (∀ w', Below w2.heap.size w2 w' → DoVals w w' A1 A2 xk xn xs xk xn xs) := Lib.hid fun w' hb => DoVals.below ⟨a0, a1, a2, b0, b1', b2, k0, k1, k2, f0, f1, f2, hbw⟩ hb
        obtain rfl : b = false := by rw [hb1]; exact hn.out
        clear hb1
        go_wp2_with (go_at_call 37; refine (refWhole_any o xn xn HXn.out HYn.out _).mono ?_; rintro e w' ⟨rfl, rfl⟩; have he0 := he.out)
        all_goals refine bodyPost_ret (v := .tuple #[val (((nul, (wholeE o xn xn).2) : V3 × Int)).1, .int .i64 (((nul, (wholeE o xn xn).2) : V3 × Int)).2]) ?_ rfl ⟨rfl, ?_⟩
        all_goals first
          | exact ((hbw.setCell (Nat.le_refl _) _).setCell (Nat.le_refl _) _).setCell (Nat.le_refl _) _
          | simp [results, Try.results15, go_sem, k0, k1, k2]
set_option maxRecDepth 100000 in
set_option maxHeartbeats 4000000 in
theorem refDo_num1h (o xk xn : Int) (xs : ByteArray) (l : List V3) (p : Option Addr) (cap : Nat) (w : World) (hl : l.length ≤ 100000)
    (hc : Hid (∀ i, i < l.length → ∃ B off, p = some ⟨B, off, none⟩ ∧ w.cell? ⟨B, off + i * 3, none⟩ = some (.int .i64 (l.getD i nul).1) ∧ w.cell? ⟨B, off + i * 3 + 1, none⟩ = some (.int .i64 (l.getD i nul).2.1) ∧ w.cell? ⟨B, off + i * 3 + 2, none⟩ = some (.string (l.getD i nul).2.2))) (hgood : Hid (∀ i, i < l.length → checkV (l.getD i nul).1 (l.getD i nul).2.1 (l.getD i nul).2.2 = 0)) (HL : Hid (l = [(xk, xn, xs)])) (HNo : Hid ((makesE o (l.map (·.1))).2 = 0)) (z13 : (o == 13) = false) (z14 : (o == 14) = false) (z17 : (o == 17) = false) (z18 : (o == 18) = false) (z16 : (o == 16) = false) (z6 : (o == 6) = false) (z19 : (o == 19) = false) (o1 : 12 < o) (HXn : Hid (In64 xn)) (HYn : Hid (In64 xn)) (hn : Hid ([(xk, xn, xs)].any (fun v => v.1 == 0) = false)) (he : Hid (((wholeE o xn xn).2 != 0) = false)) :
    Calls Try.prog 15 #[.int .i64 o, .slice p l.length cap] w fun r w' => r = .returned (.tuple #[val ((((2, (wholeE o xn xn).1, ⟨#[]⟩), 0) : V3 × Int)).1, .int .i64 ((((2, (wholeE o xn xn).1, ⟨#[]⟩), 0) : V3 × Int)).2]) ∧ Below w.heap.size w w' := by
  obtain ⟨j0, hi, hz0, hz1, hz2⟩ := info_parts info3
  go_enter Try.func15, Try.ntmps15
  go_wp2
  go_loopw [6, 7, 8] (fun t nl i wr => ∃ k : Nat, k ≤ l.length ∧ i = .int .i64 k ∧ ∃ b, nl = .bool b ∧ GoodTo l k ∧ DoAt w (l.take k) t b wr) (fun _ _ i _ => l.length - (intOf i).toNat)
  case atStart => exact ⟨0, Nat.zero_le _, rfl, false, rfl, (fun i hi => absurd hi (Nat.not_lt_zero i)), World.ownsRow_nil _ _ _ _, rfl, Below.refl _ _⟩
  case round =>
    obtain ⟨k, hk, rfl, b, rfl, hgd, hown, hb, hbel⟩ := hrel
    have HG := Lib.hid hgd
    clear hgd
    have HB := Lib.hid hb
    clear hb
    by_cases hlt : k < l.length
    · obtain ⟨B, off, rfl, c0, c1, c2⟩ := hc.out k hlt
      obtain ⟨x, hx⟩ : ∃ x, x = l.getD k nul := ⟨_, rfl⟩
      rw [← hx] at c0 c1 c2
      have HX := Lib.hid hx
      clear hx
      obtain ⟨xk, xn, xs⟩ := x
      have hB : B < w.heap.size := lt_of_cell_some c0
      have hBr : B < wr.heap.size := by have := hbel.size; simp at this; omega
      simp only at c0 c1 c2
      have r0 : wr.cell? ⟨B, off + k * 3, none⟩ = some (.int .i64 xk) := (hbel.cell (by simp; omega)).trans (by go_cell)
      have r1 : wr.cell? ⟨B, off + k * 3 + 1, none⟩ = some (.int .i64 xn) := (hbel.cell (by simp; omega)).trans (by go_cell)
      have r2 : wr.cell? ⟨B, off + k * 3 + 2, none⟩ = some (.string xs) := (hbel.cell (by simp; omega)).trans (by go_cell)
      have hck : checkV xk xn xs = 0 := by have := hgood.out k hlt; rw [← HX.out] at this; exact this
      have HC : Hid (∀ w, Calls Try.prog 29 #[.agg #[.int .i64 xk, .int .i64 xn, .string xs]] w fun r w' => r = .returned (.int .i64 0) ∧ Below w.heap.size w w') := Lib.hid fun w => by rw [← hck]; exact refCheck_any xk xn xs w
      have HG2 := Lib.hid (good_next (x := (xk, xn, xs)) HG.out HX.out hck)
      clear hck
      have hbs : w.heap.size + 1 ≤ wr.heap.size := by have := hbel.size; simp at this; omega
      go_wp2_with (first | (go_at_call 29; refine (HC.out _).mono ?_; rintro e w1 ⟨rfl, b1⟩; have q0 : w1.cell? ⟨B, off + k * 3, none⟩ = some (.int .i64 xk) := (b1.cell hBr).trans r0; have q1 : w1.cell? ⟨B, off + k * 3 + 1, none⟩ = some (.int .i64 xn) := (b1.cell hBr).trans r1; have q2 : w1.cell? ⟨B, off + k * 3 + 2, none⟩ = some (.string xs) := (b1.cell hBr).trans r2; have hown1 := owns_below hown b1; have hB1 : B < w1.heap.size := Nat.lt_of_lt_of_le hBr b1.size; have hbs1 : w.heap.size + 1 ≤ w1.heap.size := Nat.le_trans hbs b1.size) | (at_builtin; refine wpList_append_own _ rfl _ _ 24 rfl (w.heap.size + 1) 3 j0 (.int .i64 0) 1 8 Try.underlying24 hi hz0 hz1 hz2 rfl (by decide) _ _ _ rfl (hown1.alloc _) ⟨w1.heap.size, 0, none⟩ 1 1 [.int .i64 xk] rfl rfl ?c1 ?c2 ?c3 ?c4 ?c5 ?_))
      case c1 => exact World.news_of_block (heap_alloc_new w1 _)
      case c2 => simp [Value.oneCell']
      case c3 => unfold maxLen; simp; omega
      case c4 => simp; omega
      case c5 => simp; omega
      intro t' w2 hown2 hgrow2 _
      have s0 : w2.cell? ⟨B, off + k * 3, none⟩ = some (.int .i64 xk) := by
        refine hgrow2.cell (v := .int .i64 xk) ?_ (fun e => ?_)
        · go_cell
        · have := (hown.lt _ e.symm).1; simp at this; omega
      have DN := Lib.hid (do_next hlt HX HB hown2 hbel b1 _ hgrow2 (fun j hj => (hown.lt j hj).1))
      cases b
      · go_wp2
        refine ⟨⟨k + 1, by omega, by go_num, xk == 0, rfl, HG2.out, by simpa using DN.out⟩, by simp [intOf]; omega⟩
      · go_wp2
        refine ⟨⟨k + 1, by omega, by go_num, true, rfl, HG2.out, by simpa using DN.out⟩, by simp [intOf]; omega⟩
    · obtain rfl : k = l.length := by omega
      rw [List.take_length] at hown HB
      have HI := Lib.hid (do_ints hl hown)
      have hbs : w.heap.size + 1 ≤ wr.heap.size := by have := hbel.size; simp at this; omega
      clear hk hlt
      obtain rfl := HL.out
      obtain ⟨B, off, rfl, c0, c1, c2⟩ := hc.out 0 (by simp)
      simp only [Nat.zero_mul, Nat.add_zero, List.getD_cons_zero] at c0 c1 c2
      have hB : B < w.heap.size := lt_of_cell_some c0
      have CF : Hid (∀ w1, Below wr.heap.size wr w1 → w1.cell? ⟨B, off, none⟩ = some (.int .i64 xk) ∧ w1.cell? ⟨B, off + 1, none⟩ = some (.int .i64 xn) ∧ w1.cell? ⟨B, off + 2, none⟩ = some (.string xs)) := Lib.hid (do_cells1 hbel hB c0 c1 c2)
      clear c0 c1 c2
      go_wp2_with (go_at_call 10; refine (refMakes_ok o _ _ _ HI.out HNo.out).mono ?_; rintro e w1 ⟨rfl, b1⟩; obtain ⟨k0, k1, k2, f0, f1, f2, hbw⟩ := doRes hbel b1; obtain ⟨c0, c1, c2⟩ := CF.out w1 b1; have hB1 : B < w1.heap.size := Nat.lt_of_lt_of_le hB hbw.size; have hz1 : w.heap.size < w1.heap.size := lt_of_cell_some k0; have hle1 : w.heap.size ≤ w1.heap.size := Nat.le_of_lt hz1)
      go_cut [11, 12] from 55 to 63 (fun x y wx => ∃ A1 A2, x = .pointer (some ⟨A1, 0, none⟩) ∧ y = .pointer (some ⟨A2, 0, none⟩) ∧ DoVals w wx A1 A2 xk xn xs xk xn xs)
      case first =>
        go_region
        all_goals (go_wp2; go_meet; exact ⟨_, _, rfl, rfl, ⟨by go_cell, by go_cell, by go_cell, by go_cell, by go_cell, by go_cell, by go_cell, by go_cell, by go_cell, by go_cell, by go_cell, by go_cell, by go_grown⟩⟩)
      case rest =>
        rename World => w2
        obtain ⟨A1, A2, rfl, rfl, HV⟩ := hcut
        have hb1 := HB.out
        clear CF HI HB HG hbel hbs hown hc hgood
        obtain ⟨a0, a1, a2, b0, b1', b2, k0, k1, k2, f0, f1, f2, hbw⟩ := HV
        have HVV : Hid (∀ w', Below w2.heap.size w2 w' → DoVals w w' A1 A2 xk xn xs xk xn xs) := Lib.hid fun w' hb => DoVals.below ⟨a0, a1, a2, b0, b1', b2, k0, k1, k2, f0, f1, f2, hbw⟩ hb
        obtain rfl : b = false := by rw [hb1]; exact hn.out
        clear hb1
        go_wp2_with (go_at_call 37; refine (refWhole_any o xn xn HXn.out HYn.out _).mono ?_; rintro e w' ⟨rfl, rfl⟩; have he0 := he.out)
        all_goals refine bodyPost_ret (v := .tuple #[val ((((2, (wholeE o xn xn).1, ⟨#[]⟩), 0) : V3 × Int)).1, .int .i64 ((((2, (wholeE o xn xn).1, ⟨#[]⟩), 0) : V3 × Int)).2]) ?_ rfl ⟨rfl, ?_⟩
        all_goals first
          | exact ((hbw.setCell (Nat.le_refl _) _).setCell (Nat.le_refl _) _).setCell (Nat.le_refl _) _
          | simp [results, Try.results15, go_sem, k0, k1, k2]
end Go.Proofs.Ytoknfdgejiachaa

