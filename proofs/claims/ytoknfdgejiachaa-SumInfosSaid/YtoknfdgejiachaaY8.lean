import Derived.Test.YtoknfdgejiachaaY7
import Derived.OwnWalk
import Derived.Deep.AppendLies
import Derived.Lib.SmallJoins
import Derived.Laws.AppendOwn
namespace Go.Proofs.Ytoknfdgejiachaa
open Go.RowKit Go.Shelf

/-- A slice that reads as a list of values. -/
def Vals (w : World) (v : Value) (l : List V3) : Prop :=
  ∃ p cap, v = .slice p l.length cap ∧ l.length ≤ 100000 ∧ ∀ i, i < l.length → ∃ B off, p = some ⟨B, off, none⟩ ∧ w.cell? ⟨B, off + i * 3, none⟩ = some (.int .i64 (l.getD i nul).1) ∧ w.cell? ⟨B, off + i * 3 + 1, none⟩ = some (.int .i64 (l.getD i nul).2.1) ∧ w.cell? ⟨B, off + i * 3 + 2, none⟩ = some (.string (l.getD i nul).2.2)
theorem info3 : (Try.prog.info? 3).map (fun i => (i.zero, i.size, i.bytes)) = some (some (.int .i64 0), 1, 8) := by kernel_rfl

/-- What a call has grown leaves an owned row as it was. -/
theorem owns_below {base : Nat} {e : TypeId} {size : Nat} {v : Value} {n : Nat} {xs : List Value} {w w' : World} (h : w.ownsRow base e size v n xs) (hb : Below w.heap.size w w') : w'.ownsRow base e size v n xs :=
  h.kept (row := none) ⟨hb.os, hb.tape, hb.output, hb.size, fun j hj _ => hb.block j hj⟩ (by cases v.ownBlock <;> simp)

/-- What stands behind the loop of Do. -/
def DoAt (w : World) (l : List V3) (t : Value) (nl : Bool) (wr : World) : Prop :=
  wr.ownsRow (w.heap.size + 1) 3 1 t l.length (l.map fun v => .int .i64 v.1) ∧ nl = l.any (fun v => v.1 == 0) ∧ Below (w.heap.size + 1) (w.alloc (vObj 0 0 ⟨#[]⟩)) wr

/-- The result's own cell, as it was made. -/
theorem doRes {w wr w1 : World} (h : Below (w.heap.size + 1) (w.alloc (vObj 0 0 ⟨#[]⟩)) wr) (b1 : Below wr.heap.size wr w1) :
    w1.cell? ⟨w.heap.size, 0, none⟩ = some (.int .i64 0) ∧ w1.cell? ⟨w.heap.size, 1, none⟩ = some (.int .i64 0) ∧ w1.cell? ⟨w.heap.size, 2, none⟩ = some (.string ⟨#[]⟩) ∧ w1.frozen? ⟨w.heap.size, 0, none⟩ = false ∧ w1.frozen? ⟨w.heap.size, 1, none⟩ = false ∧ w1.frozen? ⟨w.heap.size, 2, none⟩ = false ∧ Below w.heap.size w w1 := by
  have hs : w.heap.size < wr.heap.size := by have := h.size; simp at this; omega
  refine ⟨(b1.cell hs).trans ((h.cell (by simp)).trans ?_), (b1.cell hs).trans ((h.cell (by simp)).trans ?_), (b1.cell hs).trans ((h.cell (by simp)).trans ?_), (b1.frozen hs).trans ((h.frozen (by simp)).trans ?_), (b1.frozen hs).trans ((h.frozen (by simp)).trans ?_), (b1.frozen hs).trans ((h.frozen (by simp)).trans ?_), ?_⟩
  · go_cell
  · go_cell
  · go_cell
  · go_cell
  · go_cell
  · go_cell
  · exact (((Below.refl _ _).alloc (Nat.le_refl _) _).trans (h.mono (by omega))).trans (b1.mono (by omega))

/-- One value more. -/
theorem do_next {w wr w1 w2 : World} {l : List V3} {k : Nat} {xk xn : Int} {xs : ByteArray} {t t' : Value} {b : Bool} (hlt : k < l.length) (HX : Hid ((xk, xn, xs) = l.getD k nul)) (HB : Hid (b = (l.take k).any (fun v => v.1 == 0)))
    (hown2 : w2.ownsRow (w.heap.size + 1) 3 1 t' (k + 1) (List.take k (l.map (fun v => Value.int .i64 v.1)) ++ [Value.int .i64 xk]))
    (hbel : Below (w.heap.size + 1) (w.alloc (vObj 0 0 ⟨#[]⟩)) wr) (b1 : Below wr.heap.size wr w1) (o : Obj) (hg : (w1.alloc o).grownBy w2 t.ownBlock) (hr : ∀ j, t.ownBlock = some j → w.heap.size + 1 ≤ j) :
    DoAt w (l.take (k + 1)) t' (b || xk == 0) w2 := by
  have e : l.take (k + 1) = l.take k ++ [(xk, xn, xs)] := by
    rw [List.take_succ_eq_append_getElem hlt, HX.out]
    simp [List.getD_eq_getElem?_getD, hlt]
  refine ⟨?_, ?_, ?_⟩
  · rw [e, List.map_append, List.map_take, List.length_append, List.length_take, Nat.min_eq_left (by omega)]
    exact hown2
  · rw [e, List.any_append, HB.out]
    simp
  · have hs : w.heap.size + 1 ≤ wr.heap.size := by have := hbel.size; simp at this; omega
    have hs1 := b1.size
    exact ((hbel.trans (b1.mono hs)).alloc (by omega) o).grown hg (by simp; omega) hr
/-- The first k values may be. -/
def GoodTo (l : List V3) (k : Nat) : Prop := ∀ i, i < k → checkV (l.getD i nul).1 (l.getD i nul).2.1 (l.getD i nul).2.2 = 0
theorem good_next {l : List V3} {k : Nat} {x : V3} (h : GoodTo l k) (hx : x = l.getD k nul) (hc : checkV x.1 x.2.1 x.2.2 = 0) : GoodTo l (k + 1) := by
  intro i hi
  by_cases e : i = k
  · subst e; rw [← hx]; exact hc
  · exact h i (by omega)
/-- The kinds of values, as a slice. -/
theorem do_ints {w wr : World} {l : List V3} {t : Value} (hl : l.length ≤ 100000) (h : wr.ownsRow (w.heap.size + 1) 3 1 t l.length (l.map fun v => Value.int .i64 v.1)) : Ints wr t (l.map (·.1)) := by
  rcases Joins.ownsRow_forms h with ⟨rfl, h0⟩ | ⟨g, cap, rfl⟩
  · refine ⟨none, 0, ?_, by simpa using hl, ?_⟩
    · simp [h0]
    · intro i hi; simp [h0] at hi
  · refine ⟨_, cap, by simp, by simpa using hl, fun i hi => ⟨g, 0, rfl, ?_⟩⟩
    rw [Nat.zero_add, h.cellAt i (by simpa using hi)]
    simp at hi
    simp [List.getD_eq_getElem?_getD, hi]
set_option maxRecDepth 100000 in
set_option maxHeartbeats 4000000 in
theorem refDo_bad (o : Int) (l : List V3) (p : Option Addr) (cap : Nat) (w : World) (hl : l.length ≤ 100000)
    (hc : Hid (∀ i, i < l.length → ∃ B off, p = some ⟨B, off, none⟩ ∧ w.cell? ⟨B, off + i * 3, none⟩ = some (.int .i64 (l.getD i nul).1) ∧ w.cell? ⟨B, off + i * 3 + 1, none⟩ = some (.int .i64 (l.getD i nul).2.1) ∧ w.cell? ⟨B, off + i * 3 + 2, none⟩ = some (.string (l.getD i nul).2.2))) (hbad : Hid (∃ i, i < l.length ∧ checkV (l.getD i nul).1 (l.getD i nul).2.1 (l.getD i nul).2.2 ≠ 0)) :
    Calls Try.prog 15 #[.int .i64 o, .slice p l.length cap] w fun r w' => r = .returned (.tuple #[val (doE o l).1, .int .i64 (doE o l).2]) ∧ Below w.heap.size w w' := by
  obtain ⟨j0, hi, hz0, hz1, hz2⟩ := info_parts info3
  go_enter Try.func15, Try.ntmps15
  go_wp2
  go_loopw [6, 7, 8] (fun t nl i wr => ∃ k : Nat, k ≤ l.length ∧ i = .int .i64 k ∧ ∃ b, nl = .bool b ∧ GoodTo l k ∧ DoAt w (l.take k) t b wr) (fun _ _ i _ => l.length - (intOf i).toNat)
  case atStart => exact ⟨0, Nat.zero_le _, rfl, false, rfl, (fun i hi => absurd hi (Nat.not_lt_zero i)), World.ownsRow_nil _ _ _ _, rfl, Below.refl _ _⟩
  case round =>
    obtain ⟨k, hk, rfl, b, rfl, hgd, hown, hb, hbel⟩ := hrel
    have HG := Lib.hid hgd
    clear hgd
    have HB := Lib.hid hb
    clear hb
    by_cases hlt : k < l.length
    · obtain ⟨B, off, rfl, c0, c1, c2⟩ := hc.out k hlt
      obtain ⟨x, hx⟩ : ∃ x, x = l.getD k nul := ⟨_, rfl⟩
      rw [← hx] at c0 c1 c2
      have HX := Lib.hid hx
      clear hx
      obtain ⟨xk, xn, xs⟩ := x
      have hB : B < w.heap.size := lt_of_cell_some c0
      have hBr : B < wr.heap.size := by have := hbel.size; simp at this; omega
      simp only at c0 c1 c2
      have r0 : wr.cell? ⟨B, off + k * 3, none⟩ = some (.int .i64 xk) := (hbel.cell (by simp; omega)).trans (by go_cell)
      have r1 : wr.cell? ⟨B, off + k * 3 + 1, none⟩ = some (.int .i64 xn) := (hbel.cell (by simp; omega)).trans (by go_cell)
      have r2 : wr.cell? ⟨B, off + k * 3 + 2, none⟩ = some (.string xs) := (hbel.cell (by simp; omega)).trans (by go_cell)
      by_cases hck : checkV xk xn xs = 0
      · have HC : Hid (∀ w, Calls Try.prog 29 #[.agg #[.int .i64 xk, .int .i64 xn, .string xs]] w fun r w' => r = .returned (.int .i64 0) ∧ Below w.heap.size w w') := Lib.hid fun w => by rw [← hck]; exact refCheck_any xk xn xs w
        have HG2 := Lib.hid (good_next (x := (xk, xn, xs)) HG.out HX.out hck)
        clear hck
        have hbs : w.heap.size + 1 ≤ wr.heap.size := by have := hbel.size; simp at this; omega
        go_wp2_with (first | (go_at_call 29; refine (HC.out _).mono ?_; rintro e w1 ⟨rfl, b1⟩; have q0 : w1.cell? ⟨B, off + k * 3, none⟩ = some (.int .i64 xk) := (b1.cell hBr).trans r0; have q1 : w1.cell? ⟨B, off + k * 3 + 1, none⟩ = some (.int .i64 xn) := (b1.cell hBr).trans r1; have q2 : w1.cell? ⟨B, off + k * 3 + 2, none⟩ = some (.string xs) := (b1.cell hBr).trans r2; have hown1 := owns_below hown b1; have hB1 : B < w1.heap.size := Nat.lt_of_lt_of_le hBr b1.size; have hbs1 : w.heap.size + 1 ≤ w1.heap.size := Nat.le_trans hbs b1.size) | (at_builtin; refine wpList_append_own _ rfl _ _ 24 rfl (w.heap.size + 1) 3 j0 (.int .i64 0) 1 8 Try.underlying24 hi hz0 hz1 hz2 rfl (by decide) _ _ _ rfl (hown1.alloc _) ⟨w1.heap.size, 0, none⟩ 1 1 [.int .i64 xk] rfl rfl ?c1 ?c2 ?c3 ?c4 ?c5 ?_))
        case c1 => exact World.news_of_block (heap_alloc_new w1 _)
        case c2 => simp [Value.oneCell']
        case c3 => unfold maxLen; simp; omega
        case c4 => simp; omega
        case c5 => simp; omega
        intro t' w2 hown2 hgrow2 _
        have s0 : w2.cell? ⟨B, off + k * 3, none⟩ = some (.int .i64 xk) := by
          refine hgrow2.cell (v := .int .i64 xk) ?_ (fun e => ?_)
          · go_cell
          · have := (hown.lt _ e.symm).1; simp at this; omega
        have DN := Lib.hid (do_next hlt HX HB hown2 hbel b1 _ hgrow2 (fun j hj => (hown.lt j hj).1))
        cases b
        · go_wp2
          refine ⟨⟨k + 1, by omega, by go_num, xk == 0, rfl, HG2.out, by simpa using DN.out⟩, by simp [intOf]; omega⟩
        · go_wp2
          refine ⟨⟨k + 1, by omega, by go_num, true, rfl, HG2.out, by simpa using DN.out⟩, by simp [intOf]; omega⟩
      · have HN : Hid ((checkV xk xn xs != 0) = true) := Lib.hid (by simpa using hck)
        have HE : Hid (doE o l = (nul, 2)) := Lib.hid (by
          unfold doE
          rw [if_pos]
          rw [List.any_eq_true]
          exact ⟨l.getD k nul, by simp [List.getD_eq_getElem?_getD, hlt], by rw [← HX.out]; simpa using hck⟩)
        clear hck
        go_wp2_with (go_at_call 29; refine (refCheck_any xk xn xs _).mono ?_; rintro e w1 ⟨rfl, b1⟩; have n0 := HN.out; obtain ⟨k0, k1, k2, f0, f1, f2, hbw⟩ := doRes hbel b1)
        refine bodyPost_ret (v := .tuple #[val (doE o l).1, .int .i64 (doE o l).2]) ?_ rfl ⟨rfl, ?_⟩
        · rw [HE.out]
          simp [results, Try.results15, go_sem, k0, k1, k2]
        · exact ((hbw.setCell (Nat.le_refl _) _).setCell (Nat.le_refl _) _).setCell (Nat.le_refl _) _
    · obtain rfl : k = l.length := by omega
      rw [List.take_length] at hown HB
      have HI := Lib.hid (do_ints hl hown)
      have hbs : w.heap.size + 1 ≤ wr.heap.size := by have := hbel.size; simp at this; omega
      clear hk hlt
      obtain ⟨i, h1, h2⟩ := hbad.out
      exact absurd (HG.out i h1) h2
set_option maxRecDepth 100000 in
set_option maxHeartbeats 4000000 in
theorem refDo_err (o : Int) (l : List V3) (p : Option Addr) (cap : Nat) (w : World) (hl : l.length ≤ 100000)
    (hc : Hid (∀ i, i < l.length → ∃ B off, p = some ⟨B, off, none⟩ ∧ w.cell? ⟨B, off + i * 3, none⟩ = some (.int .i64 (l.getD i nul).1) ∧ w.cell? ⟨B, off + i * 3 + 1, none⟩ = some (.int .i64 (l.getD i nul).2.1) ∧ w.cell? ⟨B, off + i * 3 + 2, none⟩ = some (.string (l.getD i nul).2.2))) (hgood : Hid (∀ i, i < l.length → checkV (l.getD i nul).1 (l.getD i nul).2.1 (l.getD i nul).2.2 = 0)) (HNo : Hid (((makesE o (l.map (·.1))).2 != 0) = true)) :
    Calls Try.prog 15 #[.int .i64 o, .slice p l.length cap] w fun r w' => r = .returned (.tuple #[val (((nul, (makesE o (l.map (·.1))).2) : V3 × Int)).1, .int .i64 (((nul, (makesE o (l.map (·.1))).2) : V3 × Int)).2]) ∧ Below w.heap.size w w' := by
  obtain ⟨j0, hi, hz0, hz1, hz2⟩ := info_parts info3
  go_enter Try.func15, Try.ntmps15
  go_wp2
  go_loopw [6, 7, 8] (fun t nl i wr => ∃ k : Nat, k ≤ l.length ∧ i = .int .i64 k ∧ ∃ b, nl = .bool b ∧ GoodTo l k ∧ DoAt w (l.take k) t b wr) (fun _ _ i _ => l.length - (intOf i).toNat)
  case atStart => exact ⟨0, Nat.zero_le _, rfl, false, rfl, (fun i hi => absurd hi (Nat.not_lt_zero i)), World.ownsRow_nil _ _ _ _, rfl, Below.refl _ _⟩
  case round =>
    obtain ⟨k, hk, rfl, b, rfl, hgd, hown, hb, hbel⟩ := hrel
    have HG := Lib.hid hgd
    clear hgd
    have HB := Lib.hid hb
    clear hb
    by_cases hlt : k < l.length
    · obtain ⟨B, off, rfl, c0, c1, c2⟩ := hc.out k hlt
      obtain ⟨x, hx⟩ : ∃ x, x = l.getD k nul := ⟨_, rfl⟩
      rw [← hx] at c0 c1 c2
      have HX := Lib.hid hx
      clear hx
      obtain ⟨xk, xn, xs⟩ := x
      have hB : B < w.heap.size := lt_of_cell_some c0
      have hBr : B < wr.heap.size := by have := hbel.size; simp at this; omega
      simp only at c0 c1 c2
      have r0 : wr.cell? ⟨B, off + k * 3, none⟩ = some (.int .i64 xk) := (hbel.cell (by simp; omega)).trans (by go_cell)
      have r1 : wr.cell? ⟨B, off + k * 3 + 1, none⟩ = some (.int .i64 xn) := (hbel.cell (by simp; omega)).trans (by go_cell)
      have r2 : wr.cell? ⟨B, off + k * 3 + 2, none⟩ = some (.string xs) := (hbel.cell (by simp; omega)).trans (by go_cell)
      have hck : checkV xk xn xs = 0 := by have := hgood.out k hlt; rw [← HX.out] at this; exact this
      have HC : Hid (∀ w, Calls Try.prog 29 #[.agg #[.int .i64 xk, .int .i64 xn, .string xs]] w fun r w' => r = .returned (.int .i64 0) ∧ Below w.heap.size w w') := Lib.hid fun w => by rw [← hck]; exact refCheck_any xk xn xs w
      have HG2 := Lib.hid (good_next (x := (xk, xn, xs)) HG.out HX.out hck)
      clear hck
      have hbs : w.heap.size + 1 ≤ wr.heap.size := by have := hbel.size; simp at this; omega
      go_wp2_with (first | (go_at_call 29; refine (HC.out _).mono ?_; rintro e w1 ⟨rfl, b1⟩; have q0 : w1.cell? ⟨B, off + k * 3, none⟩ = some (.int .i64 xk) := (b1.cell hBr).trans r0; have q1 : w1.cell? ⟨B, off + k * 3 + 1, none⟩ = some (.int .i64 xn) := (b1.cell hBr).trans r1; have q2 : w1.cell? ⟨B, off + k * 3 + 2, none⟩ = some (.string xs) := (b1.cell hBr).trans r2; have hown1 := owns_below hown b1; have hB1 : B < w1.heap.size := Nat.lt_of_lt_of_le hBr b1.size; have hbs1 : w.heap.size + 1 ≤ w1.heap.size := Nat.le_trans hbs b1.size) | (at_builtin; refine wpList_append_own _ rfl _ _ 24 rfl (w.heap.size + 1) 3 j0 (.int .i64 0) 1 8 Try.underlying24 hi hz0 hz1 hz2 rfl (by decide) _ _ _ rfl (hown1.alloc _) ⟨w1.heap.size, 0, none⟩ 1 1 [.int .i64 xk] rfl rfl ?c1 ?c2 ?c3 ?c4 ?c5 ?_))
      case c1 => exact World.news_of_block (heap_alloc_new w1 _)
      case c2 => simp [Value.oneCell']
      case c3 => unfold maxLen; simp; omega
      case c4 => simp; omega
      case c5 => simp; omega
      intro t' w2 hown2 hgrow2 _
      have s0 : w2.cell? ⟨B, off + k * 3, none⟩ = some (.int .i64 xk) := by
        refine hgrow2.cell (v := .int .i64 xk) ?_ (fun e => ?_)
        · go_cell
        · have := (hown.lt _ e.symm).1; simp at this; omega
      have DN := Lib.hid (do_next hlt HX HB hown2 hbel b1 _ hgrow2 (fun j hj => (hown.lt j hj).1))
      cases b
      · go_wp2
        refine ⟨⟨k + 1, by omega, by go_num, xk == 0, rfl, HG2.out, by simpa using DN.out⟩, by simp [intOf]; omega⟩
      · go_wp2
        refine ⟨⟨k + 1, by omega, by go_num, true, rfl, HG2.out, by simpa using DN.out⟩, by simp [intOf]; omega⟩
    · obtain rfl : k = l.length := by omega
      rw [List.take_length] at hown HB
      have HI := Lib.hid (do_ints hl hown)
      have hbs : w.heap.size + 1 ≤ wr.heap.size := by have := hbel.size; simp at this; omega
      clear hk hlt
      go_wp2_with (go_at_call 10; refine (refMakes_any o _ _ _ HI.out).mono ?_; rintro e w1 ⟨rfl, b1⟩; have n0 := HNo.out; obtain ⟨k0, k1, k2, f0, f1, f2, hbw⟩ := doRes hbel b1)
      refine bodyPost_ret (v := .tuple #[val (nul, (makesE o (l.map (·.1))).2).1, .int .i64 (nul, (makesE o (l.map (·.1))).2).2]) ?_ rfl ⟨rfl, ?_⟩
      · simp [results, Try.results15, go_sem, k0, k1, k2]
      · exact ((hbw.setCell (Nat.le_refl _) _).setCell (Nat.le_refl _) _).setCell (Nat.le_refl _) _
end Go.Proofs.Ytoknfdgejiachaa

