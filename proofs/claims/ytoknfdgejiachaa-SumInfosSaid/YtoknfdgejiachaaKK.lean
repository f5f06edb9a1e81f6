import Derived.Test.YtoknfdgejiachaaKJ
namespace Go.Proofs.Ytoknfdgejiachaa
open Go.RowKit Go.Shelf

/-- A slice that reads as a list of numbers is handed back. -/
def GivesInts (w : World) (l : List Int) (r : Ending) (w' : World) : Prop := ∃ t, r = .returned t ∧ Ints w' t l ∧ Below w.heap.size w w'

set_option maxRecDepth 100000 in
set_option maxHeartbeats 4000000 in
theorem types_any (l : List V3) (p : Option Addr) (cap : Nat) (w : World) (hl : l.length ≤ 100000) (hc : Hid (CellsOf w p l)) :
    Calls Try.prog 27 #[.slice p l.length cap] w (GivesInts w (l.map (·.1))) := by
  obtain ⟨j0, hj, hz0, hz1, hz2⟩ := info_parts info25
  go_enter Try.func27, Try.ntmps27
  go_wp2_with (at_make; refine wpList_make_own _ rfl _ _ 22 rfl w.heap.size 25 j0 (.int .i64 0) 1 Try.underlying22 hj hz0 hz1 .i64 .i64 _ l.length rfl rfl rfl (by rw [hz2]; omega) (by unfold maxLen; omega) (Nat.le_refl _) ?_; intro w0 hown0 hgrow0)
  go_loopw [3, 11] (fun t i wr => ∃ k : Nat, k ≤ l.length ∧ i = .int .i64 k ∧ Row w l k t wr) (fun _ i _ => l.length - (intOf i).toNat)
  case atStart => exact ⟨0, Nat.zero_le _, rfl, hown0, (Below.refl _ _).grown hgrow0 (Nat.le_refl _) (fun j e => by cases e)⟩
  case round =>
    obtain ⟨k, hk, rfl, hrow⟩ := hrel
    have HR := Lib.hid hrow
    have hB := hrow.2
    have hown := hrow.1
    clear hrow
    by_cases hlt : k < l.length
    · obtain ⟨B, off, rfl, d0, d1, d2⟩ := hc.out k hlt
      have hB0 : B < w.heap.size := lt_of_cell_some d0
      have c0 := (hB.cell (p := ⟨B, off + k * 3, none⟩) hB0).trans d0
      have c1 := (hB.cell (p := ⟨B, off + k * 3 + 1, none⟩) hB0).trans d1
      have c2 := (hB.cell (p := ⟨B, off + k * 3 + 2, none⟩) hB0).trans d2
      clear d0 d1 d2
      obtain ⟨x, hx⟩ : ∃ x, x = l.getD k nul := ⟨_, rfl⟩
      rw [← hx] at c0 c1 c2
      have HX := Lib.hid hx
      clear hx
      obtain ⟨xk, xn, xs⟩ := x
      simp only at c0 c1 c2
      have hBr : B < wr.heap.size := lt_of_cell_some c0
      have hbs := hB.size
      go_wp2_with (at_builtin; refine wpList_append_own _ rfl _ _ 22 rfl w.heap.size 25 j0 (.int .i64 0) 1 8 Try.underlying22 hj hz0 hz1 hz2 rfl (by decide) _ _ _ rfl ((hown.alloc _).alloc _) ⟨wr.heap.size + 1, 0, none⟩ 1 1 [.int .i64 xk] rfl rfl ?c1 ?c2 ?c3 ?c4 ?c5 ?_)
      case c1 => exact World.news_of_block (heap_alloc2_new _ _ _)
      case c2 => simp [Value.oneCell']
      case c3 => unfold maxLen; omega
      case c4 => omega
      case c5 => simp; omega
      intro t' w2 hown2 hgrow2 _
      have DN := Lib.hid (row_next hlt HX hown2 (hB.alloc hB.size _) _ hgrow2 (fun j hj => (hown.lt j hj).1))
      clear hown hown2 hgrow2 c0 c1 c2
      go_wp2
      go_roundw
      case rel => exact ⟨k + 1, by omega, by go_num, DN.out⟩
      case measure => simp [intOf]; omega
    · obtain rfl : k = l.length := by omega
      clear hown
      go_wp2
      go_ret
      exact ⟨_, rfl, row_ints hl HR.out, hB⟩

/-- The truth of a value, as Known tells it. -/
def knE (v : V3) : Int := max 0 (knownI v.1 v.2.1 v.2.2)
theorem info92 : (Try.prog.info? 92).map (fun i => (i.zero, i.size, i.bytes)) = some (some (.int .i64 0), 1, 8) := by kernel_rfl
/-- The truths of the first k values, in a slice of the call's own. -/
def RowT (w : World) (l : List V3) (k : Nat) (t : Value) (wr : World) : Prop := wr.ownsRow w.heap.size 92 1 t k (List.take k (l.map fun v => Value.int .i64 (knE v))) ∧ Below w.heap.size w wr
theorem rowT_next {w wr w2 : World} {l : List V3} {k : Nat} {x : V3} {t t' : Value} (hlt : k < l.length) (HX : Hid (x = l.getD k nul))
    (hown2 : w2.ownsRow w.heap.size 92 1 t' (k + 1) (List.take k (l.map (fun v => Value.int .i64 (knE v))) ++ [Value.int .i64 (knE x)]))
    (hb : Below w.heap.size w wr) (o : Obj) (hg : (wr.alloc o).grownBy w2 t.ownBlock) (hr : ∀ j, t.ownBlock = some j → w.heap.size ≤ j) : RowT w l (k + 1) t' w2 := by
  refine ⟨?_, (hb.alloc hb.size o).grown hg (by have := hb.size; simp; omega) hr⟩
  have e : (l.map fun v => Value.int .i64 (knE v)).take (k + 1) = List.take k (l.map (fun v => Value.int .i64 (knE v))) ++ [Value.int .i64 (knE x)] := by
    rw [List.take_succ_eq_append_getElem (by simpa using hlt)]
    have : l[k] = x := by rw [HX.out]; simp [List.getD_eq_getElem?_getD, hlt]
    simp [this]
  rw [e]
  exact hown2
theorem rowT_ints {w wr : World} {l : List V3} {t : Value} (hl : l.length ≤ 100000) (h : RowT w l l.length t wr) : Ints wr t (l.map knE) := by
  obtain ⟨h, -⟩ := h
  rw [List.take_of_length_le (by simp)] at h
  rcases Joins.ownsRow_forms h with ⟨rfl, h0⟩ | ⟨g, cap, rfl⟩
  · refine ⟨none, 0, ?_, by simpa using hl, ?_⟩
    · simp [h0]
    · intro i hi; simp [h0] at hi
  · refine ⟨_, cap, by simp, by simpa using hl, fun i hi => ⟨g, 0, rfl, ?_⟩⟩
    rw [Nat.zero_add, h.cellAt i (by simpa using hi)]
    simp at hi
    simp [List.getD_eq_getElem?_getD, hi]
set_option maxRecDepth 100000 in
set_option maxHeartbeats 4000000 in
theorem truths_any (l : List V3) (p : Option Addr) (cap : Nat) (w : World) (hl : l.length ≤ 100000) (hc : Hid (CellsOf w p l)) :
    Calls Try.prog 81 #[.slice p l.length cap] w (GivesInts w (l.map knE)) := by
  obtain ⟨j0, hj, hz0, hz1, hz2⟩ := info_parts info92
  go_enter Try.func81, Try.ntmps81
  go_wp2_with (at_make; refine wpList_make_own _ rfl _ _ 98 rfl w.heap.size 92 j0 (.int .i64 0) 1 Try.underlying98 hj hz0 hz1 .i64 .i64 _ l.length rfl rfl rfl (by rw [hz2]; omega) (by unfold maxLen; omega) (Nat.le_refl _) ?_; intro w0 hown0 hgrow0)
  go_loopw [3, 13] (fun t i wr => ∃ k : Nat, k ≤ l.length ∧ i = .int .i64 k ∧ RowT w l k t wr) (fun _ i _ => l.length - (intOf i).toNat)
  case atStart => exact ⟨0, Nat.zero_le _, rfl, hown0, (Below.refl _ _).grown hgrow0 (Nat.le_refl _) (fun j e => by cases e)⟩
  case round =>
    obtain ⟨k, hk, rfl, hrow⟩ := hrel
    have HR := Lib.hid hrow
    have hB := hrow.2
    have HO := Lib.hid hrow.1
    clear hrow
    by_cases hlt : k < l.length
    · obtain ⟨B, off, rfl, d0, d1, d2⟩ := hc.out k hlt
      have hB0 : B < w.heap.size := lt_of_cell_some d0
      have c0 := (hB.cell (p := ⟨B, off + k * 3, none⟩) hB0).trans d0
      have c1 := (hB.cell (p := ⟨B, off + k * 3 + 1, none⟩) hB0).trans d1
      have c2 := (hB.cell (p := ⟨B, off + k * 3 + 2, none⟩) hB0).trans d2
      clear d0 d1 d2
      obtain ⟨x, hx⟩ : ∃ x, x = l.getD k nul := ⟨_, rfl⟩
      rw [← hx] at c0 c1 c2
      have HX := Lib.hid hx
      clear hx
      obtain ⟨xk, xn, xs⟩ := x
      simp only at c0 c1 c2
      have hBr : B < wr.heap.size := lt_of_cell_some c0
      have hbs := hB.size
      obtain ⟨y, hy⟩ : ∃ y, knE (xk, xn, xs) = y := ⟨_, rfl⟩
      have HC : Hid (∀ w, Calls Try.prog 94 #[.agg #[.int .i64 xk, .int .i64 xn, .string xs]] w fun r w' => r = .returned (.tuple #[.int .i64 y, .bool (decide (0 ≤ knownI xk xn xs))]) ∧ Below w.heap.size w w') := Lib.hid fun w => by rw [← hy]; exact known_any xk xn xs w
      have HY := Lib.hid hy
      clear hy
      generalize decide (0 ≤ knownI xk xn xs) = z at HC
      go_wp2_with (first
        | (go_at_call 94; refine (HC.out _).mono ?_; rintro e w1 ⟨rfl, b1⟩; have hown1 := owns_below (HO.out.alloc _) b1; have hB1 := (hB.alloc hB.size _).trans (b1.mono (by simp; omega)); have hbs1 := hB1.size)
        | (at_builtin; refine wpList_append_own _ rfl _ _ 98 rfl w.heap.size 92 j0 (.int .i64 0) 1 8 Try.underlying98 hj hz0 hz1 hz2 rfl (by decide) _ _ _ rfl (hown1.alloc _) ⟨w1.heap.size, 0, none⟩ 1 1 [.int .i64 y] rfl rfl ?c1 ?c2 ?c3 ?c4 ?c5 ?_))
      case c1 => exact World.news_of_block (heap_alloc_new w1 _)
      case c2 => simp [Value.oneCell']
      case c3 => unfold maxLen; omega
      case c4 => omega
      case c5 => simp; omega
      intro t' w2 hown2 hgrow2 _
      rw [← HY.out] at hown2
      have DN := Lib.hid (rowT_next hlt HX hown2 hB1 _ hgrow2 (fun j hj => (HO.out.lt j hj).1))
      clear hown1 hown2 hgrow2 c0 c1 c2
      go_wp2
      go_roundw
      case rel => exact ⟨k + 1, by omega, by go_num, DN.out⟩
      case measure => simp [intOf]; omega
    · obtain rfl : k = l.length := by omega
      go_wp2
      go_ret
      exact ⟨_, rfl, rowT_ints hl HR.out, hB⟩
end Go.Proofs.Ytoknfdgejiachaa
