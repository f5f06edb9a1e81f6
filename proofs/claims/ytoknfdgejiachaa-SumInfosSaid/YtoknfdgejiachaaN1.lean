import Derived.Test.YtoknfdgejiachaaKW
import Derived.Test.YtoknfdgejiachaaD2
import Derived.Outline
import Derived.Sort.CutIn
import Derived.Stop.RegionWithIn
import Derived.Deep.Heap
namespace Go.Proofs.Ytoknfdgejiachaa
open Go.RowKit Go.Shelf

set_option maxRecDepth 100000 in
theorem nil37 (w : World) : (binOp .eql 37 (.func (.func 21) #[] #[]) .nilFunc).run Try.prog w = .ok (.bool false) w := by rfl
set_option maxRecDepth 100000 in
theorem nilg37 (w : World) : (eqGuard .eql 37 (.tmp 55) (.const .nilFunc) (.func (.func 21) #[] #[]) .nilFunc).run Try.prog w = .ok () w := by rfl
set_option maxRecDepth 100000 in
set_option maxHeartbeats 1000000 in
theorem infos_long (o m : Int) (p : Option Addr) (n cap : Nat) (w : World) (hn : 4 < n) (hm : n ≤ 9223372036854775807) :
    Calls Try.prog 3 #[.int .i64 o, .slice p n cap, .int .i64 m] w fun r w' => r = .returned (.bool true) ∧ Below w.heap.size w w' := by
  go_enter Try.func3, Try.ntmps3
  go_wp2_with (go_at_call 7; refine (works_of sumOk _ trivial).mono ?_; rintro e w' ⟨rfl, hb⟩; have c1 := (hb.cell (p := ⟨w.heap.size + 1, 0, none⟩) (by simp)).trans (show _ = some (Value.bool false) by go_cell); have f1 := (hb.frozen (p := ⟨w.heap.size + 1, 0, none⟩) (by simp)).trans (show _ = false by go_simp))
  have hb1 : Below w.heap.size w w' := ((((Below.refl _ _).alloc (Nat.le_refl _) _).alloc (by simp) _).trans (hb.mono (by simp; omega)))
  have hs := hb.size
  simp only [World.size_alloc] at hs
  refine bodyPost_ret (v := .bool true) ?_ rfl ⟨rfl, hb1.setCell (by simp) _⟩
  simp [results, Try.f3, go_sem, c1]
set_option maxRecDepth 100000 in
/-- What an operator is: its parts, its comparison with itself, whether it has a name. -/
theorem infoV_parts (o : Int) : ∃ s x f k is, infoV o = info s x f k ∧ isOp o = is ∧ s.toList.isEmpty = !is ∧
    (∀ w, (binOp .neq 27 (info s x f k) (info s x f k)).run Try.prog w = .ok (.bool false) w) := by
  have same : ∀ (s : ByteArray) (x f k : Int) (w : World), (binOp .neq 27 (info s x f k) (info s x f k)).run Try.prog w = .ok (.bool false) w := by
    intro s x f k w
    go_simp
    all_goals try simp
  by_cases h : 1 ≤ o ∧ o ≤ 20
  · have e1 : infoV o = info (oname o.toNat) (manyE o) (ofE o) (makeE o) := by unfold infoV; rw [if_neg (by omega)]
    have e2 : isOp o = true := by unfold isOp; simpa using h
    refine ⟨_, _, _, _, _, e1, e2, ?_, same _ _ _ _⟩
    obtain ⟨n, hn⟩ : ∃ n : Nat, n = o.toNat - 1 := ⟨_, rfl⟩
    have hn' : o.toNat = n + 1 := by omega
    rw [hn']
    rcases (show n = 0 ∨ n = 1 ∨ n = 2 ∨ n = 3 ∨ n = 4 ∨ n = 5 ∨ n = 6 ∨ n = 7 ∨ n = 8 ∨ n = 9 ∨ n = 10 ∨ n = 11 ∨ n = 12 ∨ n = 13 ∨ n = 14 ∨ n = 15 ∨ n = 16 ∨ n = 17 ∨ n = 18 ∨ n = 19 by omega) with rfl | rfl | rfl | rfl | rfl | rfl | rfl | rfl | rfl | rfl | rfl | rfl | rfl | rfl | rfl | rfl | rfl | rfl | rfl | rfl
    all_goals exact (show (oname _).toList.isEmpty = false by kernel_rfl)
  · have e1 : infoV o = info ⟨#[]⟩ 0 0 0 := by unfold infoV; rw [if_pos (by omega)]
    have e2 : isOp o = false := by unfold isOp; simpa using h
    exact ⟨_, _, _, _, _, e1, e2, by kernel_rfl, same _ _ _ _⟩

/-- The first k types, in a slice of the call's own. -/
def RowTy (w0 : World) (l : List Int) (k : Nat) (t : Value) (wr : World) : Prop := wr.ownsRow w0.heap.size 3 1 t k (List.take k (l.map fun v => Value.int .i64 v)) ∧ Below w0.heap.size w0 wr
theorem rowTy_next {w wr w2 : World} {l : List Int} {k : Nat} {x : Int} {t t' : Value} (hlt : k < l.length) (HX : Hid (x = l.getD k 0))
    (hown2 : w2.ownsRow w.heap.size 3 1 t' (k + 1) (List.take k (l.map (fun v => Value.int .i64 v)) ++ [Value.int .i64 x]))
    (hb : Below w.heap.size w wr) (o : Obj) (hg : (wr.alloc o).grownBy w2 t.ownBlock) (hr : ∀ j, t.ownBlock = some j → w.heap.size ≤ j) : RowTy w l (k + 1) t' w2 := by
  refine ⟨?_, (hb.alloc hb.size o).grown hg (by have := hb.size; simp; omega) hr⟩
  have e : (l.map fun v => Value.int .i64 v).take (k + 1) = List.take k (l.map (fun v => Value.int .i64 v)) ++ [Value.int .i64 x] := by
    rw [List.take_succ_eq_append_getElem (by simpa using hlt)]
    have : l[k] = x := by rw [HX.out]; simp [List.getD_eq_getElem?_getD, hlt]
    simp [this]
  rw [e]
  exact hown2
theorem rowTy_ints {w wr : World} {l : List Int} {t : Value} (hl : l.length ≤ 100000) (h : RowTy w l l.length t wr) : Ints wr t l := by
  obtain ⟨h, -⟩ := h
  rw [List.take_of_length_le (by simp)] at h
  rcases Joins.ownsRow_forms h with ⟨rfl, h0⟩ | ⟨g, cap, rfl⟩
  · refine ⟨none, 0, ?_, by simpa using hl, ?_⟩
    · simp [h0]
    · intro i hi; simp [h0] at hi
  · refine ⟨_, cap, by simp, by simpa using hl, fun i hi => ⟨g, 0, rfl, ?_⟩⟩
    rw [Nat.zero_add, h.cellAt i (by simpa using hi)]
    simp [List.getD_eq_getElem?_getD, hi]

/-- A slice of types. -/
abbrev CellsI (w : World) (p : Option Addr) (l : List Int) : Prop := ∀ i, i < l.length → ∃ B off, p = some ⟨B, off, none⟩ ∧ w.cell? ⟨B, off + i, none⟩ = some (.int .i64 (l.getD i 0))
theorem cellsI_below {w w' : World} {p : Option Addr} {l : List Int} (h : CellsI w p l) (hb : Below w.heap.size w w') : CellsI w' p l := fun i hi => by
  obtain ⟨B, off, e, c⟩ := h i hi
  exact ⟨B, off, e, (hb.cell (lt_of_cell_some c)).trans c⟩
/-- The cells of an Info. -/
abbrev Box4 (W : World) (b : Nat) (s : ByteArray) (x f k : Int) : Prop := W.cell? ⟨b, 0, none⟩ = some (.string s) ∧ W.cell? ⟨b, 1, none⟩ = some (.int .i64 x) ∧ W.cell? ⟨b, 2, none⟩ = some (.int .i64 f) ∧ W.cell? ⟨b, 3, none⟩ = some (.int .i64 k)
theorem box4_new (W : World) (s : ByteArray) (x f k : Int) : Box4 (W.alloc (.cells #[.string s, .int .i64 x, .int .i64 f, .int .i64 k] 27)) W.heap.size s x f k := ⟨by go_cell, by go_cell, by go_cell, by go_cell⟩
theorem box4_below {W W' : World} {b : Nat} {s : ByteArray} {x f k : Int} (h : Box4 W b s x f k) (hb : Below W.heap.size W W') : Box4 W' b s x f k :=
  have l := lt_of_cell_some h.1
  ⟨(hb.cell l).trans h.1, (hb.cell (p := ⟨b, 1, none⟩) l).trans h.2.1, (hb.cell (p := ⟨b, 2, none⟩) l).trans h.2.2.1, (hb.cell (p := ⟨b, 3, none⟩) l).trans h.2.2.2⟩
attribute [local go_sem] Oper.semAt_some
theorem ol_len {pre : List (Fin 20)} (h : pre <+: ol) : pre = ol.take pre.length := List.prefix_iff_eq_take.1 h
theorem ol_more {pre : List (Fin 20)} {x : Fin 20} (h : pre = ol.take pre.length) (hx : x.val = pre.length) : pre ++ [x] = ol.take (pre ++ [x]).length := by
  have hl : pre.length < 20 := by have := x.isLt; omega
  rw [List.length_append]
  show pre ++ [x] = ol.take (pre.length + 1)
  rw [ol_take pre.length hl]
  have e : (⟨pre.length, hl⟩ : Fin 20) = x := Fin.ext hx.symm
  rw [e]
  exact congrArg (· ++ [x]) h
theorem ol_miss {pre : List (Fin 20)} {x : Fin 20} (hx : ¬ x.val = pre.length) : ¬ (pre ++ [x] = ol.take (pre ++ [x]).length) := by
  intro h
  have h1 : (pre ++ [x])[pre.length]? = some x := by simp
  rw [h] at h1
  have h2 : (ol.take (pre ++ [x]).length)[pre.length]? = ol[pre.length]? := by rw [List.getElem?_take]; simp
  rw [h2] at h1
  unfold ol at h1
  rw [List.getElem?_ofFn] at h1
  split at h1
  · injection h1 with h1
    exact hx (by rw [← h1]; rfl)
  · cases h1
theorem neq_info (s : ByteArray) (x f k : Int) (w : World) : (binOp .neq 27 (info s x f k) (info s x f k)).run Try.prog w = .ok (.bool false) w := by
  go_simp
  all_goals try simp
theorem kpC_set {n : Nat} (W : World) {p : Addr} (v : Value) (h : p.block < n) : KpC n W (W.setCell p v) :=
  ⟨by simp, fun k o hk hq _ => (Deep.blk_setCell_other W p v k (by omega)).trans hq⟩
/-- What the four cells of the function hold. -/
structure Four (W : World) (bM bR bT bN : Nat) (many τ v : Int) : Prop where
  m : W.cell? ⟨bM, 0, none⟩ = some (.int .i64 many)
  r : W.cell? ⟨bR, 0, none⟩ = some (.bool false)
  rf : W.frozen? ⟨bR, 0, none⟩ = false
  t : W.cell? ⟨bT, 0, none⟩ = some (.int .i64 τ)
  n : W.cell? ⟨bN, 0, none⟩ = some (.int .i64 v)
  nf : W.frozen? ⟨bN, 0, none⟩ = false
theorem Four.below {W W' : World} {bM bR bT bN : Nat} {many τ v : Int} (h : Four W bM bR bT bN many τ v) (b : Below W.heap.size W W') : Four W' bM bR bT bN many τ v :=
  ⟨(b.cell (lt_of_cell_some h.m)).trans h.m, (b.cell (lt_of_cell_some h.r)).trans h.r, (b.frozen (lt_of_cell_some h.r)).trans h.rf, (b.cell (lt_of_cell_some h.t)).trans h.t, (b.cell (lt_of_cell_some h.n)).trans h.n, (b.frozen (lt_of_cell_some h.n)).trans h.nf⟩
theorem Four.put {W : World} {bM bR bT bN : Nat} {many τ v : Int} (h : Four W bM bR bT bN many τ v) (d1 : bM ≠ bN) (d2 : bR ≠ bN) (d3 : bT ≠ bN) (u : Int) : Four (W.setCell ⟨bN, 0, none⟩ (.int .i64 u)) bM bR bT bN many τ u := by
  obtain ⟨hm, hr, hrf, ht, hn, hnf⟩ := h
  exact ⟨by go_cell, by go_cell, by go_simp, by go_cell, by go_cell, by go_simp⟩
theorem Four.own {β : Type} {bM bR bT bN : Nat} {many τ : Int} (v : β → Int) : Own (fun (s : β) W => Four W bM bR bT bN many τ (v s)) :=
  fun s A B row hs hg hr => ⟨cell_kept hs.m hg hr, cell_kept hs.r hg hr, (frozen_kept hs.r hg hr).trans hs.rf, cell_kept hs.t hg hr, cell_kept hs.n hg hr, (frozen_kept hs.n hg hr).trans hs.nf⟩
theorem rowAt_below {W W' : World} {b : Nat} {x : Fin 20} (h : RowAt W b x) (hb : Below W.heap.size W W') : RowAt W' b x :=
  have l := lt_of_cell_some h.1
  ⟨(hb.cell l).trans h.1, (hb.cell (p := ⟨b, 1, none⟩) l).trans h.2.1, (hb.cell (p := ⟨b, 2, none⟩) l).trans h.2.2.1, (hb.cell (p := ⟨b, 3, none⟩) l).trans h.2.2.2⟩
theorem rowAt_set {W : World} {b : Nat} {x : Fin 20} (h : RowAt W b x) {c : Nat} (v : Value) (hc : b ≠ c) : RowAt (W.setCell ⟨c, 0, none⟩ v) b x := by
  obtain ⟨z0, z1, z2, z3⟩ := h
  exact ⟨by go_cell, by go_cell, by go_cell, by go_cell⟩
set_option maxRecDepth 100000 in
set_option maxHeartbeats 4000000 in
theorem infos_few (o m : Int) (l : List Int) (p : Option Addr) (cap : Nat) (w : World) (hl : l.length ≤ 4) (hI : Hid (CellsI w p l)) :
    Calls Try.prog 3 #[.int .i64 o, .slice p l.length cap, .int .i64 m] w fun r w' => r = .returned (.bool true) ∧ Below w.heap.size w w' := by
  have hn := nil37
  have hng := nilg37
  obtain ⟨j0, hj, hz0, hz1, hz2⟩ := info_parts info3
  refine (callsIn_wide (n := 5)).1 ?_
  refine callsIn_of_wp_marks Try.func3 rfl trivial ?_ rfl
  simp only [Try.ntmps3, List.size_toArray, List.length_cons, List.length_nil, Nat.reduceAdd, Nat.reduceSub, Array.replicate_succ, Array.replicate_zero, List.push_toArray, List.append_toArray, List.nil_append, List.cons_append]
  refine wpIn_wide.2 ?_
  go_wp2
  have c0 : ((w.alloc (.cells #[.int .i64 m] 3)).alloc (.cells #[.bool false] 4)).cell? ⟨w.heap.size, 0, none⟩ = some (.int .i64 m) := by go_cell
  have c1 : ((w.alloc (.cells #[.int .i64 m] 3)).alloc (.cells #[.bool false] 4)).cell? ⟨w.heap.size + 1, 0, none⟩ = some (.bool false) := by go_cell
  have f1 : ((w.alloc (.cells #[.int .i64 m] 3)).alloc (.cells #[.bool false] 4)).frozen? ⟨w.heap.size + 1, 0, none⟩ = false := by go_simp
  have B0 : Below w.heap.size w ((w.alloc (.cells #[.int .i64 m] 3)).alloc (.cells #[.bool false] 4)) := (((Below.refl _ _).alloc (Nat.le_refl _) _).alloc (by simp) _)
  have S0 : ((w.alloc (.cells #[.int .i64 m] 3)).alloc (.cells #[.bool false] 4)).heap.size = w.heap.size + 2 := by simp
  generalize ((w.alloc (.cells #[.int .i64 m] 3)).alloc (.cells #[.bool false] 4)) = W0 at c0 c1 f1 B0 S0 ⊢
  go_loopw [7, 8] (fun t i wr => ∃ k : Nat, k ≤ l.length ∧ i = .int .i64 k ∧ RowTy W0 l k t wr) (fun _ i _ => l.length - (intOf i).toNat)
  case atStart => exact ⟨0, Nat.zero_le _, rfl, World.ownsRow_nil _ _ _ _, Below.refl _ _⟩
  case round =>
    obtain ⟨k, hk, rfl, hrow⟩ := hrel
    have HR := Lib.hid hrow
    have hB := hrow.2
    have hown := hrow.1
    clear hrow
    by_cases hlt : k < l.length
    · obtain ⟨B, off, rfl, d0⟩ := hI.out k hlt
      have hB0 : B < W0.heap.size := by have := lt_of_cell_some d0; simp only at this; omega
      have hd0 := (B0.cell (p := ⟨B, off + k, none⟩) (lt_of_cell_some d0)).trans d0
      have cc := (hB.cell (p := ⟨B, off + k, none⟩) hB0).trans hd0
      obtain ⟨x, hx⟩ : ∃ x, x = l.getD k 0 := ⟨_, rfl⟩
      rw [← hx] at cc
      have HX := Lib.hid hx
      clear hx d0 hd0
      have hBr : B < wr.heap.size := lt_of_cell_some cc
      have hbs := hB.size
      go_wp2_with (at_builtin; refine wpList_append_own _ rfl _ _ 24 rfl W0.heap.size 3 j0 (.int .i64 0) 1 8 Try.underlying24 hj hz0 hz1 hz2 rfl (by decide) _ _ _ rfl (hown.alloc _) ⟨wr.heap.size, 0, none⟩ 1 1 [.int .i64 x] rfl rfl ?c1 ?c2 ?c3 ?c4 ?c5 ?_)
      case c1 => exact World.news_of_block (heap_alloc_new wr _)
      case c2 => simp [Value.oneCell']
      case c3 => unfold maxLen; omega
      case c4 => omega
      case c5 => simp; omega
      intro t' w2 hown2 hgrow2 _
      rw [← S0] at hown2
      have DN := Lib.hid (rowTy_next hlt HX hown2 hB _ hgrow2 (fun j hj => (hown.lt j hj).1))
      go_wp2
      refine ⟨⟨k + 1, by omega, by go_num, DN.out⟩, by simp [intOf]; omega⟩
    · obtain rfl : k = l.length := by omega
      have HN := Lib.hid (rowTy_ints (by omega) HR.out)
      have c0' := (hB.cell (p := ⟨w.heap.size, 0, none⟩) (by simp; omega)).trans c0
      have c1' := (hB.cell (p := ⟨w.heap.size + 1, 0, none⟩) (by simp; omega)).trans c1
      have f1' := (hB.frozen (p := ⟨w.heap.size + 1, 0, none⟩) (by simp; omega)).trans f1
      have HB := Lib.hid (B0.trans (hB.mono (by omega)))
      have hS : w.heap.size + 2 ≤ wr.heap.size := by have := hB.size; omega
      have HI : Hid (CellsI wr p l) := Lib.hid (cellsI_below hI.out HB.out)
      clear HR hB hown hlt hk c0 c1 f1 B0 S0
      obtain ⟨⟨tt, te⟩, hmk⟩ : ∃ d, makesE o l = d := ⟨_, rfl⟩
      have C1 : Hid (∀ w1, Below wr.heap.size wr w1 → Calls Try.prog 9 #[.int .i64 o, .slice p l.length cap] w1 fun r w' => r = .returned (.tuple #[.int .i64 tt, .int .i64 te]) ∧ Below w1.heap.size w1 w') := Lib.hid fun w1 h => by
        have := makes_any o l _ hl w1 ⟨p, cap, rfl, by omega, cellsI_below HI.out h⟩
        rw [hmk] at this
        exact this
      have C2 : Hid (∀ w1, Below wr.heap.size wr w1 → Calls Try.prog 10 #[.int .i64 o, u7] w1 fun r w' => r = .returned (.tuple #[.int .i64 tt, .int .i64 te]) ∧ Below w1.heap.size w1 w') := Lib.hid fun w1 h => by
        have := refMakes_any o l u7 w1 (ints_below HN.out h)
        rw [hmk] at this
        exact this
      clear hmk HN HI
      have hL : w.heap.size < wr.heap.size := by omega
      obtain ⟨s, x, f, k, is, e1, e2, hs, hsame⟩ := infoV_parts o
      have I1 : Hid (∀ w1, Calls Try.prog 8 #[.int .i64 o] w1 fun r w' => r = .returned (.tuple #[info s x f k, .bool is]) ∧ Below w1.heap.size w1 w') := Lib.hid fun w1 => by rw [← e1, ← e2]; exact info_any o w1
      have I2 : Hid (∀ w1, Calls Try.prog 12 #[.int .i64 o] w1 fun r w' => r = .returned (info s x f k) ∧ Below w1.heap.size w1 w') := Lib.hid fun w1 => by rw [← e1]; exact refInfo_any o w1
      have ee1 : (tt != tt) = false := by simp
      have ee2 : (te != te) = false := by simp
      clear e1 e2
      have b0 : Below wr.heap.size wr wr := Below.refl _ _
      go_upto_region 12 with (first
        | (go_at_call 8; refine (I1.out _).mono ?_; rintro e wa ⟨rfl, ba⟩; replace b0 := Below.alloc ba ba.size (.cells #[.string s, .int .i64 x, .int .i64 f, .int .i64 k] 27); have bx := box4_new wa s x f k)
        | (go_at_call 9; refine (C1.out _ b0).mono ?_; rintro e wb ⟨rfl, bb⟩; replace b0 := b0.trans (bb.mono b0.size); replace bx := box4_below bx bb)
        | (go_at_call 10; refine (C2.out _ b0).mono ?_; rintro e wd ⟨rfl, bd⟩; replace b0 := b0.trans (bd.mono b0.size); replace bx := box4_below bx bd)
        | (go_at_call 11; refine (opsF_any _).mono ?_; rintro e w' ⟨rfl, rfl⟩))
      generalize wa.heap.size = A at bx ⊢
      clear ba bb bd I1 C1 C2
      obtain ⟨x0, x1, x2, x3⟩ := bx
      have lx : A < wd.heap.size := lt_of_cell_some x0
      go_cut [80] from 55 to 80 (fun v wx => v = .bool false ∧ Below wd.heap.size wd wx)
      case first =>
        have MK : Hid (∀ w', Below wd.heap.size wd w' → w'.cell? ⟨A, 0, none⟩ = some (.string s) ∧ w'.cell? ⟨A, 1, none⟩ = some (.int .i64 x) ∧ w'.cell? ⟨A, 2, none⟩ = some (.int .i64 f) ∧ w'.cell? ⟨A, 3, none⟩ = some (.int .i64 k) ∧ Below wd.heap.size wd w') := Lib.hid fun w' hb => ⟨(hb.cell lx).trans x0, (hb.cell lx).trans x1, (hb.cell lx).trans x2, (hb.cell lx).trans x3, hb⟩
        cases is
        all_goals (simp only [Bool.not_true, Bool.not_false] at hs)
        all_goals go_region_held3 (fun w' => w'.cell? ⟨A, 0, none⟩ = some (.string s) ∧ w'.cell? ⟨A, 1, none⟩ = some (.int .i64 x) ∧ w'.cell? ⟨A, 2, none⟩ = some (.int .i64 f) ∧ w'.cell? ⟨A, 3, none⟩ = some (.int .i64 k) ∧ Below wd.heap.size wd w')
          (first | exact MK.out _ ((Below.refl _ _).drew) | (obtain ⟨_, _, _, _, hBB⟩ := ‹_ ∧ _ ∧ _ ∧ _ ∧ Below _ _ _›; first | exact MK.out _ hBB | exact MK.out _ (hBB.trans (hb.mono hBB.size))))
          (first | (go_at_call 13; refine (num_any _ _).mono ?_; rintro e w' ⟨rfl, rfl⟩) | (go_at_call 12; refine (I2.out _).mono ?_; rintro e w' ⟨rfl, hb⟩))
        all_goals obtain ⟨_, _, _, _, hBB⟩ := ‹_ ∧ _ ∧ _ ∧ _ ∧ Below _ _ _›
        all_goals (go_wp2_with fail; go_meet; exact ⟨rfl, hBB⟩)
      case rest =>
        obtain ⟨rfl, hBd⟩ := hcut
        have bc : Below wr.heap.size wr wc := b0.trans (hBd.mono b0.size)
        have c0 := (bc.cell (p := ⟨w.heap.size, 0, none⟩) (by simp; omega)).trans c0'
        have c1 := (bc.cell (p := ⟨w.heap.size + 1, 0, none⟩) (by simp; omega)).trans c1'
        have f1 := (bc.frozen (p := ⟨w.heap.size + 1, 0, none⟩) (by simp; omega)).trans f1'
        have Bw : Below w.heap.size w wc := HB.out.trans (bc.mono HB.out.size)
        have hS' : w.heap.size + 2 ≤ wc.heap.size := by have := bc.size; omega
        clear x0 x1 x2 x3 lx b0 hBd bc c0' c1' f1' HB hS ee1 ee2 hs hsame I2 hn hng hj hz0 hz1 hz2 hI hL
        obtain ⟨N0, hN0⟩ : ∃ N0, wc.heap.size = N0 := ⟨_, rfl⟩
        go_wp2
        refine (wpIn_wide (n := 5)).1 ?_
        refine wpIn_loop_rounds 3 ?_
        rw [roundsIn_succ]
        gi_upto_region 17 with fail
        gi_cut [17] from 20 (fun v W => v = .pointer (some ⟨N0 + 1, 0, none⟩) ∧ Four W w.heap.size (w.heap.size + 1) N0 (N0 + 1) m 0 0 ∧ Below w.heap.size w W ∧ W.heap.size = N0 + 2)
        case first =>
          subst hN0
          have l0 : w.heap.size < wc.heap.size := by omega
          have l1 : w.heap.size + 1 < wc.heap.size := by omega
          gi_wp2
          gi_meet
          exact ⟨rfl, ⟨by go_cell, by go_cell, by go_simp, by go_cell, by go_cell, by go_simp⟩, (Bw.alloc Bw.size _).alloc (by simp; omega) _, by simp⟩
        case rest =>
          obtain ⟨rfl, F0, B0, S0⟩ := hcut
          rw [hN0] at hS'
          clear c0 c1 f1 Bw hN0
          gi_wp2
          rename World => W0
          refine range_norm 4 (fun D W => Four W w.heap.size (w.heap.size + 1) N0 (N0 + 1) m 0 (min 20 (max 1 m)) ∧ W.heap[D]? = some (.deferred (some [])) ∧ N0 + 2 ≤ D ∧ Below w.heap.size w W) (fun _ _ h => h) ?_ ?_
          · refine' wpIn_rangeFunc_ownH (n := 5) rfl (by decide) (gf := 21) (lb := #[]) rfl trivial (enters_of Try.func21 (by kernel_rfl) rfl)
              (ops_stops (5 - 1) (by decide) _) kpC_t kpC_b (Below.refl _ _) (fun _ => rfl)
              (fun pre W => ((Four W w.heap.size (w.heap.size + 1) N0 (N0 + 1) m 0 pre.length ∧ (pre = ol.take pre.length ∧ (pre = [] ∨ (pre.length : Int) < m))) ∧ Below w.heap.size w W))
              (fun c pre W => (((c = .exit 4 ∧ (Four W w.heap.size (w.heap.size + 1) N0 (N0 + 1) m 0 pre.length ∧ (1 ≤ pre.length ∧ pre.length ≤ 20 ∧ m ≤ (pre.length : Int) ∧ (pre.length = 1 ∨ (pre.length : Int) - 1 < m)))) ∨ (c = .ret ∧ ¬ pre = ol.take pre.length)) ∧ Below w.heap.size w W))
              (OwnFrom.and (OwnFrom.and (Own.from (Four.own (fun pre : List (Fin 20) => (pre.length : Int))) _) (ownFrom_pure _ (fun pre : List (Fin 20) => pre = ol.take pre.length ∧ (pre = [] ∨ (pre.length : Int) < m)))) (ownFrom_below (by omega) (by omega)))
              (fun c => OwnFrom.and (fun s A C row hs hg hr => hs.imp (fun h => ⟨h.1, Own.from (Four.own (fun pre : List (Fin 20) => (pre.length : Int))) _ s A C row h.2.1 hg hr, h.2.2⟩) id) (ownFrom_below (by omega) (by omega)))
              ⟨⟨F0, rfl, .inl rfl⟩, B0⟩
              (fun x a' W => ∃ b, N0 + 2 ≤ b ∧ a' = { tmps := #[.int .i64 o, .slice p l.length cap, .int .i64 m, undef, undef, .pointer (some ⟨w.heap.size, 0, none⟩), .pointer (some ⟨w.heap.size + 1, 0, none⟩), u7, .int .i64 l.length, .pointer (some ⟨A, 0, none⟩), .bool is, .int .i64 tt, .int .i64 te, .int .i64 tt, .int .i64 te, .func (.func 21) #[] #[], .pointer (some ⟨N0, 0, none⟩), .pointer (some ⟨(N0 + 1), 0, none⟩), .int .i64 (1 + (x.val : Int)), .pointer (some ⟨b, 0, none⟩), u20, u21, u22, u23, u24, u25, u26, u27, u28, u29, u30, u31, u32, u33, u34, u35, u36, u37, u38, u39, u40, u41, u42, u43, u44, u45, u46, u47, u48, u49, u50, u51, u52, u53, u54, u55, u56, u57, u58, u59, u60, u61, u62, u63, u64, u65, u66, u67, u68, u69, u70, u71, u72, u73, u74, u75, u76, u77, u78, u79, u80, u81, u82, u83, u84, .func (.func 21) #[] #[], .int .i64 (1 + (x.val : Int)), info (oname (x.val + 1)) (manyE (1 + (x.val : Int))) (ofE (1 + (x.val : Int))) (makeE (1 + (x.val : Int))), u88, u89, u90, u91, u92, u93, u94, u95, u96, u97, u98, u99, u100, u101, u102, u103, u104, u105, u106, u107, u108, u109, u110, u111, u112, u113, u114, u115, u116, u117, u118, u119, u120, u121, u122, u123, u124, u125, u126, u127, u128], defers := [] } ∧ RowAt W b x)
              (fun x a' s A C row ⟨b, hb, e, hr⟩ hg hw => ⟨b, hb, e, Own.from RowAt.own _ s A C row hr hg hw⟩) ?assign ?body ?done ?stop
            case assign =>
              rintro lq pre x W K ⟨⟨y, hne⟩, hB1⟩ hK
              have hl : W0.heap.size ≤ W.heap.size := by have h9 : N0 + 1 < W.heap.size := lt_of_cell_some y.n; omega
              have hK' := hK ({ tmps := #[.int .i64 o, .slice p l.length cap, .int .i64 m, undef, undef, .pointer (some ⟨w.heap.size, 0, none⟩), .pointer (some ⟨w.heap.size + 1, 0, none⟩), u7, .int .i64 l.length, .pointer (some ⟨A, 0, none⟩), .bool is, .int .i64 tt, .int .i64 te, .int .i64 tt, .int .i64 te, .func (.func 21) #[] #[], .pointer (some ⟨N0, 0, none⟩), .pointer (some ⟨(N0 + 1), 0, none⟩), .int .i64 (1 + (x.val : Int)), .pointer (some ⟨W.heap.size, 0, none⟩), u20, u21, u22, u23, u24, u25, u26, u27, u28, u29, u30, u31, u32, u33, u34, u35, u36, u37, u38, u39, u40, u41, u42, u43, u44, u45, u46, u47, u48, u49, u50, u51, u52, u53, u54, u55, u56, u57, u58, u59, u60, u61, u62, u63, u64, u65, u66, u67, u68, u69, u70, u71, u72, u73, u74, u75, u76, u77, u78, u79, u80, u81, u82, u83, u84, .func (.func 21) #[] #[], .int .i64 (1 + (x.val : Int)), info (oname (x.val + 1)) (manyE (1 + (x.val : Int))) (ofE (1 + (x.val : Int))) (makeE (1 + (x.val : Int))), u88, u89, u90, u91, u92, u93, u94, u95, u96, u97, u98, u99, u100, u101, u102, u103, u104, u105, u106, u107, u108, u109, u110, u111, u112, u113, u114, u115, u116, u117, u118, u119, u120, u121, u122, u123, u124, u125, u126, u127, u128], defers := [] }) (W.alloc (.cells #[.string (oname (x.val + 1)), .int .i64 (manyE (1 + (x.val : Int))), .int .i64 (ofE (1 + (x.val : Int))), .int .i64 (makeE (1 + (x.val : Int)))] 27)) ((KeepsOthers.alloc _ _).from _) (KpC.of_below ((Below.refl _ _).alloc (Nat.le_refl _) _)) ⟨⟨Own.alloc (Four.own (fun pre : List (Fin 20) => (pre.length : Int))) (s := pre) _ y, hne⟩, hB1.alloc hB1.size _⟩ ⟨_, by omega, rfl, by go_cell, by go_cell, by go_cell, by go_cell⟩
              clear hK
              gi_wp2
              exact hK'
            case body =>
              rintro lq pre x a' W hl _ ⟨⟨y, hpre, hm⟩, hB1⟩ ⟨b, hb, rfl, z⟩ hlen
              have hxl := x.isLt
              obtain ⟨v, hv⟩ : ∃ v : Int, (pre.length : Int) = v := ⟨_, rfl⟩
              have hv0 : 0 ≤ v := by omega
              have hv1 : v < 20 := by omega
              rw [hv] at y
              have F1 := Four.put y (by omega) (by omega) (by omega) (v + 1)
              have z1 := rowAt_set z (c := (N0 + 1)) (.int .i64 (v + 1)) (by omega)
              have K1 : KeepsOthers W (W.setCell ⟨(N0 + 1), 0, none⟩ (.int .i64 (v + 1))) := KeepsOthers.setCell _ _ _
              have P1 : KpC W0.heap.size W (W.setCell ⟨(N0 + 1), 0, none⟩ (.int .i64 (v + 1))) := kpC_set W _ (by show (N0 + 1) < _; omega)
              have B1 : Below w.heap.size w (W.setCell ⟨(N0 + 1), 0, none⟩ (.int .i64 (v + 1))) := hB1.setCell (p := ⟨(N0 + 1), 0, none⟩) (by first | omega | (simp <;> omega)) _
              obtain ⟨ym, yr, yrf, yt, yn, ynf⟩ := y
              gi_upto_region 22 with fail
              generalize W.setCell ⟨(N0 + 1), 0, none⟩ (.int .i64 (v + 1)) = W1 at F1 z1 K1 P1 B1 ⊢
              clear ym yr yrf yt yn ynf z
              obtain ⟨fm, fr, frf, ft, fn, fnf⟩ := F1
              have F1 : Four W1 w.heap.size (w.heap.size + 1) N0 (N0 + 1) m 0 (v + 1) := ⟨fm, fr, frf, ft, fn, fnf⟩
              by_cases hx : x.val = pre.length
              · have e1 : (1 + (x.val : Int)) = v + 1 := by omega
                have hM := ol_more hpre hx
                have hlen' : (((pre ++ [x]).length : Nat) : Int) = v + 1 := by simp; omega
                have hV : infoV (v + 1) = info (oname (x.val + 1)) (manyE (v + 1)) (ofE (v + 1)) (makeE (v + 1)) := by
                  unfold infoV
                  rw [if_neg (by omega), show (v + 1).toNat = x.val + 1 by omega]
                obtain ⟨z0, z1, z2, z3⟩ := z1
                rw [e1] at z1 z2 z3
                simp only [e1]
                generalize oname (x.val + 1) = s at z0 hV ⊢
                generalize (manyE (v + 1) : Int) = a1 at z1 hV ⊢
                generalize ofE (v + 1) = a2 at z2 hV ⊢
                generalize makeE (v + 1) = a3 at z3 hV ⊢
                have hsame := neq_info s a1 a2 a3
                have lb : b < W1.heap.size := lt_of_cell_some z0
                have C : Hid (∀ w1, Calls Try.prog 12 #[.int .i64 (v + 1)] w1 fun r w' => r = .returned (info s a1 a2 a3) ∧ Below w1.heap.size w1 w') := Lib.hid fun w1 => by rw [← hV]; exact refInfo_any (v + 1) w1
                clear hV
                gi_cut [102] from 20 (fun c W2 => c = .bool false ∧ Below W1.heap.size W1 W2)
                case first =>
                  gi_region_with (refine ⟨trivial, ?_⟩; gi_at_call 12; refine (CallsIn.inRound lq (callsIn_wide.2 (C.out _))).mono ?_; rintro e w2 ⟨rfl, b2⟩; have b3 : Below W1.heap.size W1 w2 := ((Below.refl _ _).drew).trans b2; have g0 := (b3.cell lb).trans z0; have g1 := (b3.cell (p := ⟨b, 1, none⟩) lb).trans z1; have g2 := (b3.cell (p := ⟨b, 2, none⟩) lb).trans z2; have g3 := (b3.cell (p := ⟨b, 3, none⟩) lb).trans z3)
                  all_goals (gi_wp2; gi_meet; exact ⟨by first | rfl | (simp; omega), b3⟩)
                case rest =>
                  obtain ⟨rfl, b4⟩ := hcut
                  rename World => W2
                  have F2 := F1.below b4
                  have K2 : KeepsOthers W W2 := K1.trans (keepsB b4)
                  have P2 : KpC W0.heap.size W W2 := kpC_t P1 (KpC.of_below b4)
                  have B2 : Below w.heap.size w W2 := B1.trans (b4.mono B1.size)
                  clear fm fr frf ft fn fnf z0 z1 z2 z3 F1 K1 P1 B1 b4
                  have F3 := F2
                  rw [← hlen'] at F3
                  obtain ⟨fm, fr, frf, ft, fn, fnf⟩ := F2
                  obtain hmn | hmn : m ≤ v + 1 ∨ v + 1 < m := by omega
                  · have H4 : Hid (1 ≤ (pre ++ [x]).length ∧ (pre ++ [x]).length ≤ 20 ∧ m ≤ ((pre ++ [x]).length : Int) ∧ ((pre ++ [x]).length = 1 ∨ ((pre ++ [x]).length : Int) - 1 < m)) := Lib.hid (by
                      have h9 : pre.length = 0 ∨ (pre.length : Int) < m := hm.imp (congrArg List.length) id
                      refine ⟨by omega, by omega, by omega, by omega⟩)
                    clear hm hlen' hv hlen hpre
                    gi_wp2
                    exact ⟨K2.from _, .inl ⟨rfl, F3, H4.out⟩, B2⟩
                  · have H5 : Hid (pre ++ [x] = [] ∨ ((pre ++ [x]).length : Int) < m) := Lib.hid (.inr (by omega))
                    have hd : decide (m ≤ v + 1) = false := by simp; omega
                    clear hm hlen' hv hlen hpre
                    gi_wp2
                    exact ⟨K2.from _, P2, ⟨F3, hM, H5.out⟩, B2⟩
              · have hN := ol_miss hx
                clear z1
                obtain ⟨z, hz⟩ : ∃ z : Int, 1 + (x.val : Int) = z := ⟨_, rfl⟩
                have hz1 : ¬ z = v + 1 := by omega
                have hz2 : (z == v + 1) = false := by simpa using hz1
                have hz3 : (z != v + 1) = true := by simpa using hz1
                have hz4 : decide (z = v + 1) = false := by simpa using hz1
                simp only [hz]
                gi_cut [102] from 20 (fun c W2 => c = .bool true ∧ Below W1.heap.size W1 W2)
                case first =>
                  gi_region_with (refine ⟨trivial, ?_⟩)
                  all_goals (gi_wp2; gi_meet; exact ⟨rfl, (Below.refl _ _).drew⟩)
                case rest =>
                  obtain ⟨rfl, b4⟩ := hcut
                  rename World => W2
                  have F2 := F1.below b4
                  have K2 : KeepsOthers W W2 := K1.trans (keepsB b4)
                  have B2 : Below w.heap.size w W2 := B1.trans (b4.mono B1.size)
                  clear fm fr frf ft fn fnf F1 K1 P1 B1 b4
                  obtain ⟨fm, fr, frf, ft, fn, fnf⟩ := F2
                  gi_wp2
                  exact ⟨(K2.trans (KeepsOthers.setCell _ _ _)).from _, .inr ⟨rfl, hN⟩, B2.setCell (p := ⟨w.heap.size + 1, 0, none⟩) (by first | omega | (simp <;> omega)) _⟩
            case done =>
              rintro D ys W hD rfl ⟨⟨y, hpre, hm⟩, hB1⟩ hK
              have y' : Four W w.heap.size (w.heap.size + 1) N0 (N0 + 1) m 0 20 := y
              have hm' : (20 : Int) < m := by
                rcases hm with h | h
                · cases h
                · exact h
              have e : min 20 (max 1 m) = (20 : Int) := by omega
              exact ⟨.inl rfl, D, rfl, by rw [e]; exact y', hK, by omega, hB1⟩
            case stop =>
              rintro D c pre W hD hSp ⟨⟨rfl, y, h1, h4, hm, ho⟩ | ⟨rfl, hno⟩, hB1⟩ hK
              · have e : min 20 (max 1 m) = (pre.length : Int) := by omega
                exact wpIn_exit ⟨.inr rfl, D, rfl, by rw [e]; exact y, hK, by omega, hB1⟩
              · exact absurd (ol_len hSp) hno
          · rintro D1 W1 ⟨⟨ym, yr, yrf, yt, yn, ynf⟩, hD1, hS1, hB1⟩
            clear F0 B0
            obtain ⟨N1, hN1⟩ : ∃ N1, W1.heap.size = N1 := ⟨_, rfl⟩
            have l0 : w.heap.size < W1.heap.size := lt_of_cell_some ym
            have l1 : w.heap.size + 1 < W1.heap.size := lt_of_cell_some yr
            have hlD : D1 < W1.heap.size := (Array.getElem?_eq_some_iff.1 hD1).1
            gi_wp2
            rw [roundsIn_succ]
            gi_upto_region 17 with fail
            gi_cut [17] from 20 (fun v W => v = .pointer (some ⟨N1 + 1, 0, none⟩) ∧ Four W w.heap.size (w.heap.size + 1) N1 (N1 + 1) m 1 0 ∧ Below w.heap.size w W ∧ W.heap[D1]? = some (.deferred (some [])) ∧ W.heap.size = N1 + 2)
            case first =>
              subst hN1
              gi_wp2
              gi_meet
              exact ⟨rfl, ⟨by go_cell, by go_cell, by go_simp, by go_cell, by go_cell, by go_simp⟩, (hB1.alloc hB1.size _).alloc (by simp; omega) _, ((KeepsOthers.alloc _ _).trans (KeepsOthers.alloc _ _)).same _ _ hD1 rfl, by simp⟩
            case rest =>
              obtain ⟨rfl, F2, B2, M2, S2⟩ := hcut
              rw [hN1] at l0 l1 hlD
              clear ym yr yrf yt yn ynf hD1 hB1 hN1
              gi_wp2
              rename World => WR
              refine range_norm 4 (fun D W => Four W w.heap.size (w.heap.size + 1) N1 (N1 + 1) m 1 20 ∧ W.heap[D]? = some (.deferred (some [])) ∧ W.heap[D1]? = some (.deferred (some [])) ∧ D1 < D ∧ Below w.heap.size w W) (fun _ _ h => h) ?_ ?_
              · refine' wpIn_rangeFunc_ownH (n := 5) rfl (by decide) (gf := 21) (lb := #[]) rfl trivial (enters_of Try.func21 (by kernel_rfl) rfl)
                  (ops_stops (5 - 1) (by decide) _) kpC_t kpC_b (Below.refl _ _) (fun _ => rfl)
                  (fun pre W => ((Four W w.heap.size (w.heap.size + 1) N1 (N1 + 1) m 1 pre.length ∧ pre = ol.take pre.length) ∧ (Below w.heap.size w W ∧ W.heap[D1]? = some (.deferred (some [])))))
                  (fun c pre W => ((c = .ret ∧ ¬ pre = ol.take pre.length) ∧ Below w.heap.size w W))
                  (OwnFrom.and (OwnFrom.and (Own.from (Four.own (fun pre : List (Fin 20) => (pre.length : Int))) _) (ownFrom_pure _ (fun pre : List (Fin 20) => pre = ol.take pre.length))) (OwnFrom.and (ownFrom_below (Nat.le_refl _) (by omega)) (ownFrom_mark (by omega))))
                  (fun c => OwnFrom.and (ownFrom_pure _ (fun pre : List (Fin 20) => c = .ret ∧ ¬ pre = ol.take pre.length)) (ownFrom_below (Nat.le_refl _) (by omega)))
                  ⟨⟨F2, rfl⟩, B2, M2⟩
                  (fun x a' W => ∃ b, N1 + 2 ≤ b ∧ a' = { tmps := #[.int .i64 o, .slice p l.length cap, .int .i64 m, undef, undef, .pointer (some ⟨w.heap.size, 0, none⟩), .pointer (some ⟨w.heap.size + 1, 0, none⟩), u7, .int .i64 l.length, .pointer (some ⟨A, 0, none⟩), .bool is, .int .i64 tt, .int .i64 te, .int .i64 tt, .int .i64 te, .func (.func 21) #[] #[], .pointer (some ⟨N1, 0, none⟩), .pointer (some ⟨(N1 + 1), 0, none⟩), .int .i64 (1 + (x.val : Int)), .pointer (some ⟨b, 0, none⟩), u20, u21, u22, u23, u24, u25, u26, u27, u28, u29, u30, u31, u32, u33, u34, u35, u36, u37, u38, u39, u40, u41, u42, u43, u44, u45, u46, u47, u48, u49, u50, u51, u52, u53, u54, u55, u56, u57, u58, u59, u60, u61, u62, u63, u64, u65, u66, u67, u68, u69, u70, u71, u72, u73, u74, u75, u76, u77, u78, u79, u80, u81, u82, u83, u84, .func (.func 21) #[] #[], .int .i64 (1 + (x.val : Int)), info (oname (x.val + 1)) (manyE (1 + (x.val : Int))) (ofE (1 + (x.val : Int))) (makeE (1 + (x.val : Int))), u88, u89, u90, u91, u92, u93, u94, u95, u96, u97, u98, u99, u100, u101, u102, u103, u104, u105, u106, u107, u108, u109, u110, u111, u112, u113, u114, u115, u116, u117, u118, u119, u120, u121, u122, u123, u124, u125, u126, u127, u128], defers := [] } ∧ RowAt W b x)
                  (fun x a' s A C row ⟨b, hb, e, hr⟩ hg hw => ⟨b, hb, e, Own.from RowAt.own _ s A C row hr hg hw⟩) ?assign2 ?body2 ?done2 ?stop2
                case assign2 =>
                  rintro lq pre x W K ⟨⟨y, hne⟩, hB1, hD1⟩ hK
                  have hl : WR.heap.size ≤ W.heap.size := by have h9 : N1 + 1 < W.heap.size := lt_of_cell_some y.n; omega
                  have hK' := hK ({ tmps := #[.int .i64 o, .slice p l.length cap, .int .i64 m, undef, undef, .pointer (some ⟨w.heap.size, 0, none⟩), .pointer (some ⟨w.heap.size + 1, 0, none⟩), u7, .int .i64 l.length, .pointer (some ⟨A, 0, none⟩), .bool is, .int .i64 tt, .int .i64 te, .int .i64 tt, .int .i64 te, .func (.func 21) #[] #[], .pointer (some ⟨N1, 0, none⟩), .pointer (some ⟨(N1 + 1), 0, none⟩), .int .i64 (1 + (x.val : Int)), .pointer (some ⟨W.heap.size, 0, none⟩), u20, u21, u22, u23, u24, u25, u26, u27, u28, u29, u30, u31, u32, u33, u34, u35, u36, u37, u38, u39, u40, u41, u42, u43, u44, u45, u46, u47, u48, u49, u50, u51, u52, u53, u54, u55, u56, u57, u58, u59, u60, u61, u62, u63, u64, u65, u66, u67, u68, u69, u70, u71, u72, u73, u74, u75, u76, u77, u78, u79, u80, u81, u82, u83, u84, .func (.func 21) #[] #[], .int .i64 (1 + (x.val : Int)), info (oname (x.val + 1)) (manyE (1 + (x.val : Int))) (ofE (1 + (x.val : Int))) (makeE (1 + (x.val : Int))), u88, u89, u90, u91, u92, u93, u94, u95, u96, u97, u98, u99, u100, u101, u102, u103, u104, u105, u106, u107, u108, u109, u110, u111, u112, u113, u114, u115, u116, u117, u118, u119, u120, u121, u122, u123, u124, u125, u126, u127, u128], defers := [] }) (W.alloc (.cells #[.string (oname (x.val + 1)), .int .i64 (manyE (1 + (x.val : Int))), .int .i64 (ofE (1 + (x.val : Int))), .int .i64 (makeE (1 + (x.val : Int)))] 27)) ((KeepsOthers.alloc _ _).from _) (KpC.of_below ((Below.refl _ _).alloc (Nat.le_refl _) _)) ⟨⟨Own.alloc (Four.own (fun pre : List (Fin 20) => (pre.length : Int))) (s := pre) _ y, hne⟩, hB1.alloc hB1.size _, (KeepsOthers.alloc _ _).same _ _ hD1 rfl⟩ ⟨_, by omega, rfl, by go_cell, by go_cell, by go_cell, by go_cell⟩
                  clear hK
                  gi_wp2
                  exact hK'
                case body2 =>
                  rintro lq pre x a' W hl _ ⟨⟨y, hpre⟩, hB1, hD1⟩ ⟨b, hb, rfl, z⟩ hlen
                  have hxl := x.isLt
                  obtain ⟨v, hv⟩ : ∃ v : Int, (pre.length : Int) = v := ⟨_, rfl⟩
                  have hv0 : 0 ≤ v := by omega
                  have hv1 : v < 20 := by omega
                  rw [hv] at y
                  have F1 := Four.put y (by omega) (by omega) (by omega) (v + 1)
                  have z1 := rowAt_set z (c := (N1 + 1)) (.int .i64 (v + 1)) (by omega)
                  have K1 : KeepsOthers W (W.setCell ⟨(N1 + 1), 0, none⟩ (.int .i64 (v + 1))) := KeepsOthers.setCell _ _ _
                  have P1 : KpC WR.heap.size W (W.setCell ⟨(N1 + 1), 0, none⟩ (.int .i64 (v + 1))) := kpC_set W _ (by show (N1 + 1) < _; omega)
                  have B1 : Below w.heap.size w (W.setCell ⟨(N1 + 1), 0, none⟩ (.int .i64 (v + 1))) := hB1.setCell (p := ⟨(N1 + 1), 0, none⟩) (by first | omega | (simp <;> omega)) _
                  obtain ⟨ym, yr, yrf, yt, yn, ynf⟩ := y
                  gi_upto_region 22 with fail
                  generalize W.setCell ⟨(N1 + 1), 0, none⟩ (.int .i64 (v + 1)) = W1 at F1 z1 K1 P1 B1 ⊢
                  clear ym yr yrf yt yn ynf z
                  obtain ⟨fm, fr, frf, ft, fn, fnf⟩ := F1
                  have F1 : Four W1 w.heap.size (w.heap.size + 1) N1 (N1 + 1) m 1 (v + 1) := ⟨fm, fr, frf, ft, fn, fnf⟩
                  by_cases hx : x.val = pre.length
                  · have e1 : (1 + (x.val : Int)) = v + 1 := by omega
                    have hM := ol_more hpre hx
                    have hlen' : (((pre ++ [x]).length : Nat) : Int) = v + 1 := by simp; omega
                    have hV : infoV (v + 1) = info (oname (x.val + 1)) (manyE (v + 1)) (ofE (v + 1)) (makeE (v + 1)) := by
                      unfold infoV
                      rw [if_neg (by omega), show (v + 1).toNat = x.val + 1 by omega]
                    obtain ⟨z0, z1, z2, z3⟩ := z1
                    rw [e1] at z1 z2 z3
                    simp only [e1]
                    generalize oname (x.val + 1) = s at z0 hV ⊢
                    generalize (manyE (v + 1) : Int) = a1 at z1 hV ⊢
                    generalize ofE (v + 1) = a2 at z2 hV ⊢
                    generalize makeE (v + 1) = a3 at z3 hV ⊢
                    have hsame := neq_info s a1 a2 a3
                    have lb : b < W1.heap.size := lt_of_cell_some z0
                    have C : Hid (∀ w1, Calls Try.prog 12 #[.int .i64 (v + 1)] w1 fun r w' => r = .returned (info s a1 a2 a3) ∧ Below w1.heap.size w1 w') := Lib.hid fun w1 => by rw [← hV]; exact refInfo_any (v + 1) w1
                    clear hV
                    gi_cut [102] from 20 (fun c W2 => c = .bool false ∧ Below W1.heap.size W1 W2)
                    case first =>
                      gi_region_with (refine ⟨trivial, ?_⟩; gi_at_call 12; refine (CallsIn.inRound lq (callsIn_wide.2 (C.out _))).mono ?_; rintro e w2 ⟨rfl, b2⟩; have b3 : Below W1.heap.size W1 w2 := ((Below.refl _ _).drew).trans b2; have g0 := (b3.cell lb).trans z0; have g1 := (b3.cell (p := ⟨b, 1, none⟩) lb).trans z1; have g2 := (b3.cell (p := ⟨b, 2, none⟩) lb).trans z2; have g3 := (b3.cell (p := ⟨b, 3, none⟩) lb).trans z3)
                      all_goals (gi_wp2; gi_meet; exact ⟨by first | rfl | (simp; omega), b3⟩)
                    case rest =>
                      obtain ⟨rfl, b4⟩ := hcut
                      rename World => W2
                      have F2 := F1.below b4
                      have K2 : KeepsOthers W W2 := K1.trans (keepsB b4)
                      have P2 : KpC WR.heap.size W W2 := kpC_t P1 (KpC.of_below b4)
                      have B2 : Below w.heap.size w W2 := B1.trans (b4.mono B1.size)
                      clear fm fr frf ft fn fnf z0 z1 z2 z3 F1 K1 P1 B1 b4
                      have F3 := F2
                      rw [← hlen'] at F3
                      obtain ⟨fm, fr, frf, ft, fn, fnf⟩ := F2
                      gi_wp2
                      exact ⟨K2.from _, P2, ⟨F3, hM⟩, B2, K2.same _ _ hD1 rfl⟩
                  · have hN := ol_miss hx
                    clear z1
                    obtain ⟨z, hz⟩ : ∃ z : Int, 1 + (x.val : Int) = z := ⟨_, rfl⟩
                    have hz1 : ¬ z = v + 1 := by omega
                    have hz2 : (z == v + 1) = false := by simpa using hz1
                    have hz3 : (z != v + 1) = true := by simpa using hz1
                    have hz4 : decide (z = v + 1) = false := by simpa using hz1
                    simp only [hz]
                    gi_cut [102] from 20 (fun c W2 => c = .bool true ∧ Below W1.heap.size W1 W2)
                    case first =>
                      gi_region_with (refine ⟨trivial, ?_⟩)
                      all_goals (gi_wp2; gi_meet; exact ⟨rfl, (Below.refl _ _).drew⟩)
                    case rest =>
                      obtain ⟨rfl, b4⟩ := hcut
                      rename World => W2
                      have F2 := F1.below b4
                      have K2 : KeepsOthers W W2 := K1.trans (keepsB b4)
                      have B2 : Below w.heap.size w W2 := B1.trans (b4.mono B1.size)
                      clear fm fr frf ft fn fnf F1 K1 P1 B1 b4
                      obtain ⟨fm, fr, frf, ft, fn, fnf⟩ := F2
                      gi_wp2
                      exact ⟨(K2.trans (KeepsOthers.setCell _ _ _)).from _, ⟨rfl, hN⟩, B2.setCell (p := ⟨w.heap.size + 1, 0, none⟩) (by first | omega | (simp <;> omega)) _⟩
                case done2 =>
                  rintro D ys W hD rfl ⟨⟨y, hpre⟩, hB1, hD1⟩ hK
                  exact ⟨.inl rfl, D, rfl, y, hK, hD1, by omega, hB1⟩
                case stop2 =>
                  rintro D c pre W hD hSp ⟨⟨rfl, hno⟩, hB1⟩ hK
                  exact absurd (ol_len hSp) hno
              · rintro D2 W3 ⟨⟨ym, yr, yrf, yt, yn, ynf⟩, hD2, hD1, hDD, hB1⟩
                clear F2 B2 M2
                gi_wp2
                rw [roundsIn_succ]
                gi_wp2
                go_wp2_with (go_at_call 7; refine (works_of sumOk _ trivial).mono ?_; rintro e w5 ⟨rfl, b5⟩; obtain ⟨zr, zrf⟩ := res_keep yr yrf b5)
                have hle5 : W3.heap.size ≤ w5.heap.size := (kbA b5).size
                have hb5 : Below w.heap.size w (w5.setCell ⟨w.heap.size + 1, 0, none⟩ (.bool true)) := (hB1.trans ((kbA b5).mono hB1.size)).setCell (p := ⟨w.heap.size + 1, 0, none⟩) (by first | omega | (simp <;> omega)) _
                have c0 : (w5.setCell ⟨w.heap.size + 1, 0, none⟩ (.bool true)).cell? ⟨w.heap.size + 1, 0, none⟩ = some (.bool true) := by go_cell
                have m2 : (w5.setCell ⟨w.heap.size + 1, 0, none⟩ (.bool true)).heap[D2]? = some (.deferred (some [])) := (KeepsOthers.setCell _ _ _).same _ _ (((kbA b5).block D2 (Array.getElem?_eq_some_iff.1 hD2).1).trans hD2) rfl
                have m1 : (w5.setCell ⟨w.heap.size + 1, 0, none⟩ (.bool true)).heap[D1]? = some (.deferred (some [])) := (KeepsOthers.setCell _ _ _).same _ _ (((kbA b5).block D1 (Array.getElem?_eq_some_iff.1 hD1).1).trans hD1) rfl
                generalize w5.setCell ⟨w.heap.size + 1, 0, none⟩ (.bool true) = W5 at hb5 c0 m2 m1 ⊢
                have c1 := cell_kept c0 (grownBy_putObj' W5 D2 (.deferred none)) (fun r e => by cases e; exact ⟨_, m2, rfl⟩)
                have m1' : (W5.putObj D2 (.deferred none)).heap[D1]? = some (.deferred (some [])) := by rw [World.putObj_heap_other (by omega)]; exact m1
                have c2 := cell_kept c1 (grownBy_putObj' _ D1 (.deferred none)) (fun r e => by cases e; exact ⟨_, m1', rfl⟩)
                have hb6 := hb5.trans (belowK_b (w := w) (Nat.le_refl _) W5 D2 _ (.deferred none) (by omega) m2 rfl rfl)
                have hb7 := hb6.trans (belowK_b (w := w) (Nat.le_refl _) _ D1 _ (.deferred none) (by omega) m1' rfl rfl)
                refine ⟨by simp, .inl ⟨_, _, rfl, run_takeDeferred m2, ?_⟩⟩
                refine ⟨by simp, .inl ⟨_, _, rfl, run_takeDeferred m1', ?_⟩⟩
                refine ⟨.bool true, ?_, rfl, hb7⟩
                simp [results, Try.f3, go_sem, c2]
theorem infos_any (o m : Int) (l : List Int) (p : Option Addr) (cap : Nat) (w : World) (hm : l.length ≤ 9223372036854775807) (hI : Hid (CellsI w p l)) :
    Calls Try.prog 3 #[.int .i64 o, .slice p l.length cap, .int .i64 m] w fun r w' => r = .returned (.bool true) ∧ Below w.heap.size w w' := by
  by_cases h : l.length ≤ 4
  · exact infos_few o m l p cap w h hI
  · exact infos_long o m p l.length cap w (by omega) hm
end Go.Proofs.Ytoknfdgejiachaa
