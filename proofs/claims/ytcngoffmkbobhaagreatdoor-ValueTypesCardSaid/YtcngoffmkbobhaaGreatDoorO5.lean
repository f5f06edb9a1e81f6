import Derived.Test.YtcngoffmkbobhaaGreatDoorO3
import Derived.Test.YtcngoffmkbobhaaGreatDoorT17
namespace Go.Proofs.YtcngoffmkbobhaaGreatDoor
open Go.RowKit Go.Shelf
attribute [local go_sem] Oper.semAt_some

set_option maxRecDepth 100000 in
theorem nil57 (w : World) : (binOp .eql 57 (.func (.func 58) #[] #[]) .nilFunc).run Tryz.prog w = .ok (.bool false) w := by rfl
set_option maxRecDepth 100000 in
theorem nilg57 (w : World) : (eqGuard .eql 57 (.tmp 9) (.const .nilFunc) (.func (.func 58) #[] #[]) .nilFunc).run Tryz.prog w = .ok () w := by rfl
theorem tn1 (w : World) : Calls Tryz.prog 32 #[.int .i64 1] w fun r w' => r = .returned (.string (tname 1)) ∧ Below w.heap.size w w' := typeName_any 1 (by decide) w
theorem tn2 (w : World) : Calls Tryz.prog 32 #[.int .i64 2] w fun r w' => r = .returned (.string (tname 2)) ∧ Below w.heap.size w w' := typeName_any 2 (by decide) w
theorem tn3 (w : World) : Calls Tryz.prog 32 #[.int .i64 3] w fun r w' => r = .returned (.string (tname 3)) ∧ Below w.heap.size w w' := typeName_any 3 (by decide) w
theorem tn4 (w : World) : Calls Tryz.prog 32 #[.int .i64 4] w fun r w' => r = .returned (.string (tname 4)) ∧ Below w.heap.size w w' := typeName_any 4 (by decide) w

/-- A range over a function that is left at its end or by a break: one way on. -/
theorem range_norm {F : Fence} {n : Nat} {P : Program} {g : Operand} {ps : Array Tmp} {assign body : Code} {Q : Exit → Act → World → Prop} {a : Act} {w : World} (id : Nat) (R : Nat → World → Prop)
    (hex : ∀ a W, Q .normal a W → Q (.exit id) a W)
    (h : (Code.rangeFunc g ps assign body).wpIn F n P (fun e a' W => (e = .normal ∨ e = .exit id) ∧ ∃ D, a' = { a with defers := { target := .collected D, args := #[] } :: a.defers } ∧ R D W) a w)
    (hfin : ∀ D W, R D W → Q .normal { a with defers := { target := .collected D, args := #[] } :: a.defers } W) :
    (Code.rangeFunc g ps assign body).wpIn F n P Q a w :=
  wpIn_mono h (by
    rintro e a' W ⟨rfl | rfl, D, rfl, hR⟩
    · exact hfin D W hR
    · exact hex _ _ (hfin D W hR))
theorem keepsB {W W' : World} (h : Below W.heap.size W W') : KeepsOthers W W' :=
  ⟨h.size, fun k o hk _ => (h.block k (Array.getElem?_eq_some_iff.1 hk).1).trans hk⟩

/-- What the four cells of the function hold. -/
structure Four (W : World) (bM bR bT bN : Nat) (many τ v : Int) : Prop where
  m : W.cell? ⟨bM, 0, none⟩ = some (.int .i64 many)
  r : W.cell? ⟨bR, 0, none⟩ = some (.bool false)
  rf : W.frozen? ⟨bR, 0, none⟩ = false
  t : W.cell? ⟨bT, 0, none⟩ = some (.int .i64 τ)
  n : W.cell? ⟨bN, 0, none⟩ = some (.int .i64 v)
  nf : W.frozen? ⟨bN, 0, none⟩ = false
theorem Four.below {W W' : World} {bM bR bT bN : Nat} {many τ v : Int} (h : Four W bM bR bT bN many τ v) (b : Below W.heap.size W W') : Four W' bM bR bT bN many τ v :=
  ⟨(b.cell (lt_of_cell_some h.m)).trans h.m, (b.cell (lt_of_cell_some h.r)).trans h.r, (b.frozen (lt_of_cell_some h.r)).trans h.rf, (b.cell (lt_of_cell_some h.t)).trans h.t, (b.cell (lt_of_cell_some h.n)).trans h.n, (b.frozen (lt_of_cell_some h.n)).trans h.nf⟩
theorem Four.put {W : World} {bM bR bT bN : Nat} {many τ v : Int} (h : Four W bM bR bT bN many τ v) (d1 : bM ≠ bN) (d2 : bR ≠ bN) (d3 : bT ≠ bN) (u : Int) : Four (W.setCell ⟨bN, 0, none⟩ (.int .i64 u)) bM bR bT bN many τ u := by
  obtain ⟨hm, hr, hrf, ht, hn, hnf⟩ := h
  exact ⟨by go_cell, by go_cell, by go_simp, by go_cell, by go_cell, by go_simp⟩
theorem Four.own {β : Type} {bM bR bT bN : Nat} {many τ : Int} (v : β → Int) : Own (fun (s : β) W => Four W bM bR bT bN many τ (v s)) :=
  fun s A B row hs hg hr => ⟨cell_kept hs.m hg hr, cell_kept hs.r hg hr, (frozen_kept hs.r hg hr).trans hs.rf, cell_kept hs.t hg hr, cell_kept hs.n hg hr, (frozen_kept hs.n hg hr).trans hs.nf⟩
theorem ownFrom_mark {β : Type} {B D : Nat} (hD : D < B) : OwnFrom B (fun (_ : β) W => W.heap[D]? = some (.deferred (some []))) :=
  fun _ A C row hs hg hr => (hg.block D (Array.getElem?_eq_some_iff.1 hs).1 (fun e => by have := (hr D e.symm).1; omega)).trans hs
theorem tl_len {pre : List (Fin 4)} (h : pre <+: tl) : pre = tl.take pre.length := List.prefix_iff_eq_take.1 h
theorem tl_more {pre : List (Fin 4)} {x : Fin 4} (h : pre = tl.take pre.length) (hx : x.val = pre.length) : pre ++ [x] = tl.take (pre ++ [x]).length := by
  have hl : pre.length < 4 := by have := x.isLt; omega
  rw [List.length_append]
  show pre ++ [x] = tl.take (pre.length + 1)
  rw [tl_take pre.length hl]
  have e : (⟨pre.length, hl⟩ : Fin 4) = x := Fin.ext hx.symm
  rw [e]
  exact congrArg (· ++ [x]) h
theorem tl_miss {pre : List (Fin 4)} {x : Fin 4} (hx : ¬ x.val = pre.length) : ¬ (pre ++ [x] = tl.take (pre ++ [x]).length) := by
  intro h
  have hl : pre.length < (pre ++ [x]).length := by simp
  have h1 : (pre ++ [x])[pre.length]? = some x := by simp
  rw [h] at h1
  have h2 : (tl.take (pre ++ [x]).length)[pre.length]? = tl[pre.length]? := by rw [List.getElem?_take]; simp
  rw [h2] at h1
  have h3 : ∀ i : Nat, ∀ y : Fin 4, tl[i]? = some y → y.val = i := by
    intro i y hy
    match i, hy with
    | 0, hy => injection hy with hy; rw [← hy]; rfl
    | 1, hy => injection hy with hy; rw [← hy]; rfl
    | 2, hy => injection hy with hy; rw [← hy]; rfl
    | 3, hy => injection hy with hy; rw [← hy]; rfl
    | i + 4, hy => cases hy
  exact hx (h3 _ _ h1)
theorem kbA {w w1 : World} {o : Obj} (h1 : Below (w.alloc o).heap.size (w.alloc o) w1) : Below w.heap.size w w1 := ((Below.refl _ _).alloc (Nat.le_refl _) o).trans (h1.mono (by simp))
theorem res_keep {W w5 : World} {o : Obj} {b : Nat} {v : Value} (h : W.cell? ⟨b, 0, none⟩ = some v) (hf : W.frozen? ⟨b, 0, none⟩ = false) (b5 : Below (W.alloc o).heap.size (W.alloc o) w5) : w5.cell? ⟨b, 0, none⟩ = some v ∧ w5.frozen? ⟨b, 0, none⟩ = false :=
  ⟨((kbA b5).cell (lt_of_cell_some h)).trans h, ((kbA b5).frozen (lt_of_cell_some h)).trans hf⟩

set_option maxRecDepth 100000 in
set_option maxHeartbeats 4000000 in
theorem types_walk (many : Int) (w : World) (WK : Hid (∀ w', Below w.heap.size w w' → Calls Tryz.prog 9 #[] w' fun r w2 => r = .returned (.bool true) ∧ Below w'.heap.size w' w2)) :
    Calls Tryz.prog 7 #[.int .i64 many] w fun r w' => r = .returned (.bool true) ∧ Below w.heap.size w w' := by
  have hn := nil57
  have hng := nilg57
  refine (callsIn_wide (n := 4)).1 ?_
  refine callsIn_of_wp_marks Tryz.func7 rfl trivial ?_ rfl
  simp only [Tryz.ntmps7, List.size_toArray, List.length_cons, List.length_nil, Nat.reduceAdd, Nat.reduceSub, Array.replicate_succ, Array.replicate_zero, List.push_toArray, List.append_toArray, List.nil_append, List.cons_append]
  gi_wp2_with (refine ⟨trivial, ?_⟩; gi_at_call 31; refine (callsIn_wide.2 (typesF_any _)).mono ?_; rintro e w' ⟨rfl, rfl⟩)
  refine wpIn_loop_rounds 3 ?_
  rw [roundsIn_succ]
  gi_wp2
  have F0 : Four ((((w.alloc (Obj.cells #[Value.int IntKind.i64 many] 3)).alloc (Obj.cells #[Value.bool false] 4)).alloc (Obj.cells #[Value.int IntKind.i64 0] 3)).alloc (Obj.cells #[Value.int IntKind.i64 0] 3)) w.heap.size (w.heap.size + 1) (w.heap.size + 1 + 1) (w.heap.size + 1 + 1 + 1) many 0 0 := ⟨by go_cell, by go_cell, by go_simp, by go_cell, by go_cell, by go_simp⟩
  have B0 : Below w.heap.size w ((((w.alloc (Obj.cells #[Value.int IntKind.i64 many] 3)).alloc (Obj.cells #[Value.bool false] 4)).alloc (Obj.cells #[Value.int IntKind.i64 0] 3)).alloc (Obj.cells #[Value.int IntKind.i64 0] 3)) := ((((Below.refl _ _).alloc (Nat.le_refl _) _).alloc (by simp) _).alloc (by simp; omega) _).alloc (by simp; omega) _
  have S0 : ((((w.alloc (Obj.cells #[Value.int IntKind.i64 many] 3)).alloc (Obj.cells #[Value.bool false] 4)).alloc (Obj.cells #[Value.int IntKind.i64 0] 3)).alloc (Obj.cells #[Value.int IntKind.i64 0] 3)).heap.size = w.heap.size + 4 := by simp
  generalize ((((w.alloc (Obj.cells #[Value.int IntKind.i64 many] 3)).alloc (Obj.cells #[Value.bool false] 4)).alloc (Obj.cells #[Value.int IntKind.i64 0] 3)).alloc (Obj.cells #[Value.int IntKind.i64 0] 3)) = W0 at F0 B0 S0 ⊢
  refine range_norm 2 (fun D W => Four W w.heap.size (w.heap.size + 1) (w.heap.size + 1 + 1) (w.heap.size + 1 + 1 + 1) many 0 (min 4 (max 1 many)) ∧ W.heap[D]? = some (.deferred (some [])) ∧ w.heap.size + 4 ≤ D ∧ Below w.heap.size w W) (fun _ _ h => h) ?_ ?_
  · refine' wpIn_rangeFunc_ownF (n := 4) rfl (by decide) (gf := 58) (lb := #[]) rfl trivial (enters_of Tryz.func58 (by kernel_rfl) rfl)
      (types_stops Fence.wide (4 - 1) trivial rfl (by decide) (Below w.heap.size) _) belowK_t (belowK_b (by omega)) (Below.refl _ _) (fun _ => rfl)
      (fun pre W => ((Four W w.heap.size (w.heap.size + 1) (w.heap.size + 1 + 1) (w.heap.size + 1 + 1 + 1) many 0 pre.length ∧ (pre = tl.take pre.length ∧ (pre = [] ∨ (pre.length : Int) < many))) ∧ Below w.heap.size w W))
      (fun c pre W => (((c = .exit 2 ∧ (Four W w.heap.size (w.heap.size + 1) (w.heap.size + 1 + 1) (w.heap.size + 1 + 1 + 1) many 0 pre.length ∧ (1 ≤ pre.length ∧ pre.length ≤ 4 ∧ many ≤ (pre.length : Int) ∧ (pre.length = 1 ∨ (pre.length : Int) - 1 < many)))) ∨ (c = .ret ∧ ¬ pre = tl.take pre.length)) ∧ Below w.heap.size w W))
      (OwnFrom.and (OwnFrom.and (Own.from (Four.own (fun pre : List (Fin 4) => (pre.length : Int))) _) (ownFrom_pure _ (fun pre : List (Fin 4) => pre = tl.take pre.length ∧ (pre = [] ∨ (pre.length : Int) < many)))) (ownFrom_below (Nat.le_refl _) (by omega)))
      (fun c => OwnFrom.and (fun s A C row hs hg hr => hs.imp (fun h => ⟨h.1, Own.from (Four.own (fun pre : List (Fin 4) => (pre.length : Int))) _ s A C row h.2.1 hg hr, h.2.2⟩) id) (ownFrom_below (Nat.le_refl _) (by omega)))
      ⟨⟨F0, rfl, .inl rfl⟩, B0⟩ _ ?assign ?body ?done ?stop
    case assign =>
      intro l x W K hK
      gi_wp2
      exact hK
    case body =>
      rintro l pre x W ⟨⟨y, hpre, hm⟩, hB1⟩ hlen
      have hxl := x.isLt
      rcases (show pre.length = 0 ∨ pre.length = 1 ∨ pre.length = 2 ∨ pre.length = 3 by omega) with hj | hj | hj | hj
      · have hF : Four W w.heap.size (w.heap.size + 1) (w.heap.size + 1 + 1) (w.heap.size + 1 + 1 + 1) many 0 0 := by rw [hj] at y; exact y
        have hM := tl_more (x := x) hpre
        have hN := tl_miss (pre := pre) (x := x)
        have hlen' : (pre ++ [x]).length = 1 := by simp [hj]
        obtain ⟨ym, yr, yrf, yt, yn, ynf⟩ := hF
        by_cases hx : x.val = 0
        · have e1 : (1 + (x.val : Int)) = 1 := by omega
          have e2 : tname (x.val + 1) = tname 1 := by rw [hx]
          have hpre' := hM (by omega)
          clear hM hN y
          simp only [e1, e2]
          by_cases hmn : many ≤ 1
          · gi_wp2_with (refine ⟨trivial, ?_⟩; gi_at_call 32; refine (CallsIn.inRound l (callsIn_wide.2 (tn1 _))).mono ?_; rintro e w2 ⟨rfl, b2⟩; obtain ⟨zm, zr, zrf, zt, zn, znf⟩ := (Four.put ⟨ym, yr, yrf, yt, yn, ynf⟩ (by omega) (by omega) (by omega) 1).below b2)
            exact ⟨((KeepsOthers.setCell _ _ _).trans (keepsB b2)), .inl ⟨rfl, (by rw [hlen']; exact ⟨zm, zr, zrf, zt, zn, znf⟩), by rw [hlen']; have h9 : pre.length = 0 ∨ (pre.length : Int) < many := hm.imp (congrArg List.length) id; omega⟩, ((hB1.setCell (p := ⟨(w.heap.size + 1 + 1 + 1), 0, none⟩) (by first | omega | (simp <;> omega)) _).trans (b2.mono (by have := hB1.size; first | omega | (simp <;> omega))))⟩
          · gi_wp2_with (refine ⟨trivial, ?_⟩; gi_at_call 32; refine (CallsIn.inRound l (callsIn_wide.2 (tn1 _))).mono ?_; rintro e w2 ⟨rfl, b2⟩; obtain ⟨zm, zr, zrf, zt, zn, znf⟩ := (Four.put ⟨ym, yr, yrf, yt, yn, ynf⟩ (by omega) (by omega) (by omega) 1).below b2)
            exact ⟨((KeepsOthers.setCell _ _ _).trans (keepsB b2)), (((Below.refl w.heap.size W).setCell (p := ⟨(w.heap.size + 1 + 1 + 1), 0, none⟩) (by first | omega | (simp <;> omega)) _).trans (b2.mono (by have := hB1.size; first | omega | (simp <;> omega)))), ⟨(by rw [hlen']; exact ⟨zm, zr, zrf, zt, zn, znf⟩), hpre', .inr (by rw [hlen']; omega)⟩, ((hB1.setCell (p := ⟨(w.heap.size + 1 + 1 + 1), 0, none⟩) (by first | omega | (simp <;> omega)) _).trans (b2.mono (by have := hB1.size; first | omega | (simp <;> omega))))⟩
        · have hN' := hN (by omega)
          clear hM hN y
          obtain ⟨z, hz⟩ : ∃ z : Int, 1 + (x.val : Int) = z := ⟨_, rfl⟩
          have hz1 : ¬ z = 1 := by omega
          have hz2 : (z == 1) = false := by simpa using hz1
          simp only [hz]
          gi_wp2
          refine ⟨trivial, ?_⟩
          gi_wp2
          exact ⟨((KeepsOthers.setCell _ _ _).trans (KeepsOthers.setCell _ _ _)), .inr ⟨rfl, hN'⟩, ((hB1.setCell (p := ⟨(w.heap.size + 1 + 1 + 1), 0, none⟩) (by first | omega | (simp <;> omega)) _).setCell (p := ⟨(w.heap.size + 1), 0, none⟩) (by first | omega | (simp <;> omega)) _)⟩
      · have hF : Four W w.heap.size (w.heap.size + 1) (w.heap.size + 1 + 1) (w.heap.size + 1 + 1 + 1) many 0 1 := by rw [hj] at y; exact y
        have hM := tl_more (x := x) hpre
        have hN := tl_miss (pre := pre) (x := x)
        have hlen' : (pre ++ [x]).length = 2 := by simp [hj]
        obtain ⟨ym, yr, yrf, yt, yn, ynf⟩ := hF
        by_cases hx : x.val = 1
        · have e1 : (1 + (x.val : Int)) = 2 := by omega
          have e2 : tname (x.val + 1) = tname 2 := by rw [hx]
          have hpre' := hM (by omega)
          clear hM hN y
          simp only [e1, e2]
          by_cases hmn : many ≤ 2
          · gi_wp2_with (refine ⟨trivial, ?_⟩; gi_at_call 32; refine (CallsIn.inRound l (callsIn_wide.2 (tn2 _))).mono ?_; rintro e w2 ⟨rfl, b2⟩; obtain ⟨zm, zr, zrf, zt, zn, znf⟩ := (Four.put ⟨ym, yr, yrf, yt, yn, ynf⟩ (by omega) (by omega) (by omega) 2).below b2)
            exact ⟨((KeepsOthers.setCell _ _ _).trans (keepsB b2)), .inl ⟨rfl, (by rw [hlen']; exact ⟨zm, zr, zrf, zt, zn, znf⟩), by rw [hlen']; have h9 : pre.length = 0 ∨ (pre.length : Int) < many := hm.imp (congrArg List.length) id; omega⟩, ((hB1.setCell (p := ⟨(w.heap.size + 1 + 1 + 1), 0, none⟩) (by first | omega | (simp <;> omega)) _).trans (b2.mono (by have := hB1.size; first | omega | (simp <;> omega))))⟩
          · gi_wp2_with (refine ⟨trivial, ?_⟩; gi_at_call 32; refine (CallsIn.inRound l (callsIn_wide.2 (tn2 _))).mono ?_; rintro e w2 ⟨rfl, b2⟩; obtain ⟨zm, zr, zrf, zt, zn, znf⟩ := (Four.put ⟨ym, yr, yrf, yt, yn, ynf⟩ (by omega) (by omega) (by omega) 2).below b2)
            exact ⟨((KeepsOthers.setCell _ _ _).trans (keepsB b2)), (((Below.refl w.heap.size W).setCell (p := ⟨(w.heap.size + 1 + 1 + 1), 0, none⟩) (by first | omega | (simp <;> omega)) _).trans (b2.mono (by have := hB1.size; first | omega | (simp <;> omega)))), ⟨(by rw [hlen']; exact ⟨zm, zr, zrf, zt, zn, znf⟩), hpre', .inr (by rw [hlen']; omega)⟩, ((hB1.setCell (p := ⟨(w.heap.size + 1 + 1 + 1), 0, none⟩) (by first | omega | (simp <;> omega)) _).trans (b2.mono (by have := hB1.size; first | omega | (simp <;> omega))))⟩
        · have hN' := hN (by omega)
          clear hM hN y
          obtain ⟨z, hz⟩ : ∃ z : Int, 1 + (x.val : Int) = z := ⟨_, rfl⟩
          have hz1 : ¬ z = 2 := by omega
          have hz2 : (z == 2) = false := by simpa using hz1
          simp only [hz]
          gi_wp2
          refine ⟨trivial, ?_⟩
          gi_wp2
          exact ⟨((KeepsOthers.setCell _ _ _).trans (KeepsOthers.setCell _ _ _)), .inr ⟨rfl, hN'⟩, ((hB1.setCell (p := ⟨(w.heap.size + 1 + 1 + 1), 0, none⟩) (by first | omega | (simp <;> omega)) _).setCell (p := ⟨(w.heap.size + 1), 0, none⟩) (by first | omega | (simp <;> omega)) _)⟩
      · have hF : Four W w.heap.size (w.heap.size + 1) (w.heap.size + 1 + 1) (w.heap.size + 1 + 1 + 1) many 0 2 := by rw [hj] at y; exact y
        have hM := tl_more (x := x) hpre
        have hN := tl_miss (pre := pre) (x := x)
        have hlen' : (pre ++ [x]).length = 3 := by simp [hj]
        obtain ⟨ym, yr, yrf, yt, yn, ynf⟩ := hF
        by_cases hx : x.val = 2
        · have e1 : (1 + (x.val : Int)) = 3 := by omega
          have e2 : tname (x.val + 1) = tname 3 := by rw [hx]
          have hpre' := hM (by omega)
          clear hM hN y
          simp only [e1, e2]
          by_cases hmn : many ≤ 3
          · gi_wp2_with (refine ⟨trivial, ?_⟩; gi_at_call 32; refine (CallsIn.inRound l (callsIn_wide.2 (tn3 _))).mono ?_; rintro e w2 ⟨rfl, b2⟩; obtain ⟨zm, zr, zrf, zt, zn, znf⟩ := (Four.put ⟨ym, yr, yrf, yt, yn, ynf⟩ (by omega) (by omega) (by omega) 3).below b2)
            exact ⟨((KeepsOthers.setCell _ _ _).trans (keepsB b2)), .inl ⟨rfl, (by rw [hlen']; exact ⟨zm, zr, zrf, zt, zn, znf⟩), by rw [hlen']; have h9 : pre.length = 0 ∨ (pre.length : Int) < many := hm.imp (congrArg List.length) id; omega⟩, ((hB1.setCell (p := ⟨(w.heap.size + 1 + 1 + 1), 0, none⟩) (by first | omega | (simp <;> omega)) _).trans (b2.mono (by have := hB1.size; first | omega | (simp <;> omega))))⟩
          · gi_wp2_with (refine ⟨trivial, ?_⟩; gi_at_call 32; refine (CallsIn.inRound l (callsIn_wide.2 (tn3 _))).mono ?_; rintro e w2 ⟨rfl, b2⟩; obtain ⟨zm, zr, zrf, zt, zn, znf⟩ := (Four.put ⟨ym, yr, yrf, yt, yn, ynf⟩ (by omega) (by omega) (by omega) 3).below b2)
            exact ⟨((KeepsOthers.setCell _ _ _).trans (keepsB b2)), (((Below.refl w.heap.size W).setCell (p := ⟨(w.heap.size + 1 + 1 + 1), 0, none⟩) (by first | omega | (simp <;> omega)) _).trans (b2.mono (by have := hB1.size; first | omega | (simp <;> omega)))), ⟨(by rw [hlen']; exact ⟨zm, zr, zrf, zt, zn, znf⟩), hpre', .inr (by rw [hlen']; omega)⟩, ((hB1.setCell (p := ⟨(w.heap.size + 1 + 1 + 1), 0, none⟩) (by first | omega | (simp <;> omega)) _).trans (b2.mono (by have := hB1.size; first | omega | (simp <;> omega))))⟩
        · have hN' := hN (by omega)
          clear hM hN y
          obtain ⟨z, hz⟩ : ∃ z : Int, 1 + (x.val : Int) = z := ⟨_, rfl⟩
          have hz1 : ¬ z = 3 := by omega
          have hz2 : (z == 3) = false := by simpa using hz1
          simp only [hz]
          gi_wp2
          refine ⟨trivial, ?_⟩
          gi_wp2
          exact ⟨((KeepsOthers.setCell _ _ _).trans (KeepsOthers.setCell _ _ _)), .inr ⟨rfl, hN'⟩, ((hB1.setCell (p := ⟨(w.heap.size + 1 + 1 + 1), 0, none⟩) (by first | omega | (simp <;> omega)) _).setCell (p := ⟨(w.heap.size + 1), 0, none⟩) (by first | omega | (simp <;> omega)) _)⟩
      · have hF : Four W w.heap.size (w.heap.size + 1) (w.heap.size + 1 + 1) (w.heap.size + 1 + 1 + 1) many 0 3 := by rw [hj] at y; exact y
        have hM := tl_more (x := x) hpre
        have hN := tl_miss (pre := pre) (x := x)
        have hlen' : (pre ++ [x]).length = 4 := by simp [hj]
        obtain ⟨ym, yr, yrf, yt, yn, ynf⟩ := hF
        by_cases hx : x.val = 3
        · have e1 : (1 + (x.val : Int)) = 4 := by omega
          have e2 : tname (x.val + 1) = tname 4 := by rw [hx]
          have hpre' := hM (by omega)
          clear hM hN y
          simp only [e1, e2]
          by_cases hmn : many ≤ 4
          · gi_wp2_with (refine ⟨trivial, ?_⟩; gi_at_call 32; refine (CallsIn.inRound l (callsIn_wide.2 (tn4 _))).mono ?_; rintro e w2 ⟨rfl, b2⟩; obtain ⟨zm, zr, zrf, zt, zn, znf⟩ := (Four.put ⟨ym, yr, yrf, yt, yn, ynf⟩ (by omega) (by omega) (by omega) 4).below b2)
            exact ⟨((KeepsOthers.setCell _ _ _).trans (keepsB b2)), .inl ⟨rfl, (by rw [hlen']; exact ⟨zm, zr, zrf, zt, zn, znf⟩), by rw [hlen']; have h9 : pre.length = 0 ∨ (pre.length : Int) < many := hm.imp (congrArg List.length) id; omega⟩, ((hB1.setCell (p := ⟨(w.heap.size + 1 + 1 + 1), 0, none⟩) (by first | omega | (simp <;> omega)) _).trans (b2.mono (by have := hB1.size; first | omega | (simp <;> omega))))⟩
          · gi_wp2_with (refine ⟨trivial, ?_⟩; gi_at_call 32; refine (CallsIn.inRound l (callsIn_wide.2 (tn4 _))).mono ?_; rintro e w2 ⟨rfl, b2⟩; obtain ⟨zm, zr, zrf, zt, zn, znf⟩ := (Four.put ⟨ym, yr, yrf, yt, yn, ynf⟩ (by omega) (by omega) (by omega) 4).below b2)
            exact ⟨((KeepsOthers.setCell _ _ _).trans (keepsB b2)), (((Below.refl w.heap.size W).setCell (p := ⟨(w.heap.size + 1 + 1 + 1), 0, none⟩) (by first | omega | (simp <;> omega)) _).trans (b2.mono (by have := hB1.size; first | omega | (simp <;> omega)))), ⟨(by rw [hlen']; exact ⟨zm, zr, zrf, zt, zn, znf⟩), hpre', .inr (by rw [hlen']; omega)⟩, ((hB1.setCell (p := ⟨(w.heap.size + 1 + 1 + 1), 0, none⟩) (by first | omega | (simp <;> omega)) _).trans (b2.mono (by have := hB1.size; first | omega | (simp <;> omega))))⟩
        · have hN' := hN (by omega)
          clear hM hN y
          obtain ⟨z, hz⟩ : ∃ z : Int, 1 + (x.val : Int) = z := ⟨_, rfl⟩
          have hz1 : ¬ z = 4 := by omega
          have hz2 : (z == 4) = false := by simpa using hz1
          simp only [hz]
          gi_wp2
          refine ⟨trivial, ?_⟩
          gi_wp2
          exact ⟨((KeepsOthers.setCell _ _ _).trans (KeepsOthers.setCell _ _ _)), .inr ⟨rfl, hN'⟩, ((hB1.setCell (p := ⟨(w.heap.size + 1 + 1 + 1), 0, none⟩) (by first | omega | (simp <;> omega)) _).setCell (p := ⟨(w.heap.size + 1), 0, none⟩) (by first | omega | (simp <;> omega)) _)⟩
    case done =>
      rintro D ys W hD rfl ⟨⟨y, hpre, hm⟩, hB1⟩ hK
      have y' : Four W w.heap.size (w.heap.size + 1) (w.heap.size + 1 + 1) (w.heap.size + 1 + 1 + 1) many 0 4 := y
      have hm' : (4 : Int) < many := by
        rcases hm with h | h
        · cases h
        · exact h
      have e : min 4 (max 1 many) = (4 : Int) := by omega
      exact ⟨.inl rfl, D, rfl, by rw [e]; exact y', hK, by omega, hB1⟩
    case stop =>
      rintro D c pre W hD hSp ⟨⟨rfl, y, h1, h4, hm, ho⟩ | ⟨rfl, hno⟩, hB1⟩ hK
      · have e : min 4 (max 1 many) = (pre.length : Int) := by omega
        exact wpIn_exit ⟨.inr rfl, D, rfl, by rw [e]; exact y, hK, by omega, hB1⟩
      · exact absurd (tl_len hSp) hno
  · rintro D1 W1 ⟨⟨ym, yr, yrf, yt, yn, ynf⟩, hD1, hS1, hB1⟩
    gi_wp2
    rw [roundsIn_succ]
    gi_wp2
    have l0 : w.heap.size < W1.heap.size := lt_of_cell_some ym
    have l1 : w.heap.size + 1 < W1.heap.size := lt_of_cell_some yr
    have F2 : Four ((W1.alloc (Obj.cells #[Value.int IntKind.i64 1] 3)).alloc (Obj.cells #[Value.int IntKind.i64 0] 3)) w.heap.size (w.heap.size + 1) W1.heap.size (W1.heap.size + 1) many 1 0 := ⟨by go_cell, by go_cell, by go_simp, by go_cell, by go_cell, by go_simp⟩
    have B2 : Below w.heap.size w ((W1.alloc (Obj.cells #[Value.int IntKind.i64 1] 3)).alloc (Obj.cells #[Value.int IntKind.i64 0] 3)) := (hB1.alloc hB1.size _).alloc (by simp <;> omega) _
    have M2 : ((W1.alloc (Obj.cells #[Value.int IntKind.i64 1] 3)).alloc (Obj.cells #[Value.int IntKind.i64 0] 3)).heap[D1]? = some (.deferred (some [])) := ((KeepsOthers.alloc _ _).trans (KeepsOthers.alloc _ _)).same _ _ hD1 rfl
    have S2 : ((W1.alloc (Obj.cells #[Value.int IntKind.i64 1] 3)).alloc (Obj.cells #[Value.int IntKind.i64 0] 3)).heap.size = W1.heap.size + 2 := by simp
    have hlD : D1 < W1.heap.size := (Array.getElem?_eq_some_iff.1 hD1).1
    generalize ((W1.alloc (Obj.cells #[Value.int IntKind.i64 1] 3)).alloc (Obj.cells #[Value.int IntKind.i64 0] 3)) = W2 at F2 B2 M2 S2 ⊢
    clear ym yr yrf yt yn ynf hD1 hB1 F0 B0
    generalize W1.heap.size = N1 at F2 S2 l0 l1 hlD ⊢
    refine range_norm 2 (fun D W => Four W w.heap.size (w.heap.size + 1) N1 (N1 + 1) many 1 4 ∧ W.heap[D]? = some (.deferred (some [])) ∧ W.heap[D1]? = some (.deferred (some [])) ∧ D1 < D ∧ Below w.heap.size w W) (fun _ _ h => h) ?_ ?_
    · refine' wpIn_rangeFunc_ownF (n := 4) rfl (by decide) (gf := 58) (lb := #[]) rfl trivial (enters_of Tryz.func58 (by kernel_rfl) rfl)
        (types_stops Fence.wide (4 - 1) trivial rfl (by decide) (Below w.heap.size) _) belowK_t (belowK_b (by omega)) (Below.refl _ _) (fun _ => rfl)
        (fun pre W => ((Four W w.heap.size (w.heap.size + 1) N1 (N1 + 1) many 1 pre.length ∧ pre = tl.take pre.length) ∧ (Below w.heap.size w W ∧ W.heap[D1]? = some (.deferred (some [])))))
        (fun c pre W => ((c = .ret ∧ ¬ pre = tl.take pre.length) ∧ Below w.heap.size w W))
        (OwnFrom.and (OwnFrom.and (Own.from (Four.own (fun pre : List (Fin 4) => (pre.length : Int))) _) (ownFrom_pure _ (fun pre : List (Fin 4) => pre = tl.take pre.length))) (OwnFrom.and (ownFrom_below (Nat.le_refl _) (by omega)) (ownFrom_mark (by omega))))
        (fun c => OwnFrom.and (ownFrom_pure _ (fun pre : List (Fin 4) => c = .ret ∧ ¬ pre = tl.take pre.length)) (ownFrom_below (Nat.le_refl _) (by omega)))
        ⟨⟨F2, rfl⟩, B2, M2⟩ _ ?assign2 ?body2 ?done2 ?stop2
      case assign2 =>
        intro l x W K hK
        gi_wp2
        exact hK
      case body2 =>
        rintro l pre x W ⟨⟨y, hpre⟩, hB1, hD1⟩ hlen
        have hxl := x.isLt
        rcases (show pre.length = 0 ∨ pre.length = 1 ∨ pre.length = 2 ∨ pre.length = 3 by omega) with hj | hj | hj | hj
        · have hF : Four W w.heap.size (w.heap.size + 1) N1 (N1 + 1) many 1 0 := by rw [hj] at y; exact y
          have hM := tl_more (x := x) hpre
          have hN := tl_miss (pre := pre) (x := x)
          have hlen' : (pre ++ [x]).length = 1 := by simp [hj]
          obtain ⟨ym, yr, yrf, yt, yn, ynf⟩ := hF
          by_cases hx : x.val = 0
          · have e1 : (1 + (x.val : Int)) = 1 := by omega
            have e2 : tname (x.val + 1) = tname 1 := by rw [hx]
            have hpre' := hM (by omega)
            clear hM hN y
            simp only [e1, e2]
            gi_wp2_with (refine ⟨trivial, ?_⟩; gi_at_call 32; refine (CallsIn.inRound l (callsIn_wide.2 (tn1 _))).mono ?_; rintro e w2 ⟨rfl, b2⟩; obtain ⟨zm, zr, zrf, zt, zn, znf⟩ := (Four.put ⟨ym, yr, yrf, yt, yn, ynf⟩ (by omega) (by omega) (by omega) 1).below b2)
            exact ⟨((KeepsOthers.setCell _ _ _).trans (keepsB b2)), (((Below.refl w.heap.size W).setCell (p := ⟨(N1 + 1), 0, none⟩) (by first | omega | (simp <;> omega)) _).trans (b2.mono (by have := hB1.size; first | omega | (simp <;> omega)))), ⟨(by rw [hlen']; exact ⟨zm, zr, zrf, zt, zn, znf⟩), hpre'⟩, ((hB1.setCell (p := ⟨(N1 + 1), 0, none⟩) (by first | omega | (simp <;> omega)) _).trans (b2.mono (by have := hB1.size; first | omega | (simp <;> omega)))), (((KeepsOthers.setCell _ _ _).trans (keepsB b2))).same _ _ hD1 rfl⟩
          · have hN' := hN (by omega)
            clear hM hN y
            obtain ⟨z, hz⟩ : ∃ z : Int, 1 + (x.val : Int) = z := ⟨_, rfl⟩
            have hz1 : ¬ z = 1 := by omega
            have hz2 : (z == 1) = false := by simpa using hz1
            simp only [hz]
            gi_wp2
            refine ⟨trivial, ?_⟩
            gi_wp2
            exact ⟨((KeepsOthers.setCell _ _ _).trans (KeepsOthers.setCell _ _ _)), ⟨rfl, hN'⟩, ((hB1.setCell (p := ⟨(N1 + 1), 0, none⟩) (by first | omega | (simp <;> omega)) _).setCell (p := ⟨(w.heap.size + 1), 0, none⟩) (by first | omega | (simp <;> omega)) _)⟩
        · have hF : Four W w.heap.size (w.heap.size + 1) N1 (N1 + 1) many 1 1 := by rw [hj] at y; exact y
          have hM := tl_more (x := x) hpre
          have hN := tl_miss (pre := pre) (x := x)
          have hlen' : (pre ++ [x]).length = 2 := by simp [hj]
          obtain ⟨ym, yr, yrf, yt, yn, ynf⟩ := hF
          by_cases hx : x.val = 1
          · have e1 : (1 + (x.val : Int)) = 2 := by omega
            have e2 : tname (x.val + 1) = tname 2 := by rw [hx]
            have hpre' := hM (by omega)
            clear hM hN y
            simp only [e1, e2]
            gi_wp2_with (refine ⟨trivial, ?_⟩; gi_at_call 32; refine (CallsIn.inRound l (callsIn_wide.2 (tn2 _))).mono ?_; rintro e w2 ⟨rfl, b2⟩; obtain ⟨zm, zr, zrf, zt, zn, znf⟩ := (Four.put ⟨ym, yr, yrf, yt, yn, ynf⟩ (by omega) (by omega) (by omega) 2).below b2)
            exact ⟨((KeepsOthers.setCell _ _ _).trans (keepsB b2)), (((Below.refl w.heap.size W).setCell (p := ⟨(N1 + 1), 0, none⟩) (by first | omega | (simp <;> omega)) _).trans (b2.mono (by have := hB1.size; first | omega | (simp <;> omega)))), ⟨(by rw [hlen']; exact ⟨zm, zr, zrf, zt, zn, znf⟩), hpre'⟩, ((hB1.setCell (p := ⟨(N1 + 1), 0, none⟩) (by first | omega | (simp <;> omega)) _).trans (b2.mono (by have := hB1.size; first | omega | (simp <;> omega)))), (((KeepsOthers.setCell _ _ _).trans (keepsB b2))).same _ _ hD1 rfl⟩
          · have hN' := hN (by omega)
            clear hM hN y
            obtain ⟨z, hz⟩ : ∃ z : Int, 1 + (x.val : Int) = z := ⟨_, rfl⟩
            have hz1 : ¬ z = 2 := by omega
            have hz2 : (z == 2) = false := by simpa using hz1
            simp only [hz]
            gi_wp2
            refine ⟨trivial, ?_⟩
            gi_wp2
            exact ⟨((KeepsOthers.setCell _ _ _).trans (KeepsOthers.setCell _ _ _)), ⟨rfl, hN'⟩, ((hB1.setCell (p := ⟨(N1 + 1), 0, none⟩) (by first | omega | (simp <;> omega)) _).setCell (p := ⟨(w.heap.size + 1), 0, none⟩) (by first | omega | (simp <;> omega)) _)⟩
        · have hF : Four W w.heap.size (w.heap.size + 1) N1 (N1 + 1) many 1 2 := by rw [hj] at y; exact y
          have hM := tl_more (x := x) hpre
          have hN := tl_miss (pre := pre) (x := x)
          have hlen' : (pre ++ [x]).length = 3 := by simp [hj]
          obtain ⟨ym, yr, yrf, yt, yn, ynf⟩ := hF
          by_cases hx : x.val = 2
          · have e1 : (1 + (x.val : Int)) = 3 := by omega
            have e2 : tname (x.val + 1) = tname 3 := by rw [hx]
            have hpre' := hM (by omega)
            clear hM hN y
            simp only [e1, e2]
            gi_wp2_with (refine ⟨trivial, ?_⟩; gi_at_call 32; refine (CallsIn.inRound l (callsIn_wide.2 (tn3 _))).mono ?_; rintro e w2 ⟨rfl, b2⟩; obtain ⟨zm, zr, zrf, zt, zn, znf⟩ := (Four.put ⟨ym, yr, yrf, yt, yn, ynf⟩ (by omega) (by omega) (by omega) 3).below b2)
            exact ⟨((KeepsOthers.setCell _ _ _).trans (keepsB b2)), (((Below.refl w.heap.size W).setCell (p := ⟨(N1 + 1), 0, none⟩) (by first | omega | (simp <;> omega)) _).trans (b2.mono (by have := hB1.size; first | omega | (simp <;> omega)))), ⟨(by rw [hlen']; exact ⟨zm, zr, zrf, zt, zn, znf⟩), hpre'⟩, ((hB1.setCell (p := ⟨(N1 + 1), 0, none⟩) (by first | omega | (simp <;> omega)) _).trans (b2.mono (by have := hB1.size; first | omega | (simp <;> omega)))), (((KeepsOthers.setCell _ _ _).trans (keepsB b2))).same _ _ hD1 rfl⟩
          · have hN' := hN (by omega)
            clear hM hN y
            obtain ⟨z, hz⟩ : ∃ z : Int, 1 + (x.val : Int) = z := ⟨_, rfl⟩
            have hz1 : ¬ z = 3 := by omega
            have hz2 : (z == 3) = false := by simpa using hz1
            simp only [hz]
            gi_wp2
            refine ⟨trivial, ?_⟩
            gi_wp2
            exact ⟨((KeepsOthers.setCell _ _ _).trans (KeepsOthers.setCell _ _ _)), ⟨rfl, hN'⟩, ((hB1.setCell (p := ⟨(N1 + 1), 0, none⟩) (by first | omega | (simp <;> omega)) _).setCell (p := ⟨(w.heap.size + 1), 0, none⟩) (by first | omega | (simp <;> omega)) _)⟩
        · have hF : Four W w.heap.size (w.heap.size + 1) N1 (N1 + 1) many 1 3 := by rw [hj] at y; exact y
          have hM := tl_more (x := x) hpre
          have hN := tl_miss (pre := pre) (x := x)
          have hlen' : (pre ++ [x]).length = 4 := by simp [hj]
          obtain ⟨ym, yr, yrf, yt, yn, ynf⟩ := hF
          by_cases hx : x.val = 3
          · have e1 : (1 + (x.val : Int)) = 4 := by omega
            have e2 : tname (x.val + 1) = tname 4 := by rw [hx]
            have hpre' := hM (by omega)
            clear hM hN y
            simp only [e1, e2]
            gi_wp2_with (refine ⟨trivial, ?_⟩; gi_at_call 32; refine (CallsIn.inRound l (callsIn_wide.2 (tn4 _))).mono ?_; rintro e w2 ⟨rfl, b2⟩; obtain ⟨zm, zr, zrf, zt, zn, znf⟩ := (Four.put ⟨ym, yr, yrf, yt, yn, ynf⟩ (by omega) (by omega) (by omega) 4).below b2)
            exact ⟨((KeepsOthers.setCell _ _ _).trans (keepsB b2)), (((Below.refl w.heap.size W).setCell (p := ⟨(N1 + 1), 0, none⟩) (by first | omega | (simp <;> omega)) _).trans (b2.mono (by have := hB1.size; first | omega | (simp <;> omega)))), ⟨(by rw [hlen']; exact ⟨zm, zr, zrf, zt, zn, znf⟩), hpre'⟩, ((hB1.setCell (p := ⟨(N1 + 1), 0, none⟩) (by first | omega | (simp <;> omega)) _).trans (b2.mono (by have := hB1.size; first | omega | (simp <;> omega)))), (((KeepsOthers.setCell _ _ _).trans (keepsB b2))).same _ _ hD1 rfl⟩
          · have hN' := hN (by omega)
            clear hM hN y
            obtain ⟨z, hz⟩ : ∃ z : Int, 1 + (x.val : Int) = z := ⟨_, rfl⟩
            have hz1 : ¬ z = 4 := by omega
            have hz2 : (z == 4) = false := by simpa using hz1
            simp only [hz]
            gi_wp2
            refine ⟨trivial, ?_⟩
            gi_wp2
            exact ⟨((KeepsOthers.setCell _ _ _).trans (KeepsOthers.setCell _ _ _)), ⟨rfl, hN'⟩, ((hB1.setCell (p := ⟨(N1 + 1), 0, none⟩) (by first | omega | (simp <;> omega)) _).setCell (p := ⟨(w.heap.size + 1), 0, none⟩) (by first | omega | (simp <;> omega)) _)⟩
      case done2 =>
        rintro D ys W hD rfl ⟨⟨y, hpre⟩, hB1, hD1⟩ hK
        exact ⟨.inl rfl, D, rfl, y, hK, hD1, by omega, hB1⟩
      case stop2 =>
        rintro D c pre W hD hSp ⟨⟨rfl, hno⟩, hB1⟩ hK
        exact absurd (tl_len hSp) hno
    · rintro D2 W3 ⟨⟨ym, yr, yrf, yt, yn, ynf⟩, hD2, hD1, hDD, hB1⟩
      gi_wp2
      rw [roundsIn_succ]
      gi_wp2_with (refine ⟨trivial, ?_⟩; gi_at_call 9; refine (callsIn_wide.2 (WK.out _ (hB1.alloc hB1.size _))).mono ?_; rintro e w5 ⟨rfl, b5⟩; obtain ⟨zr, zrf⟩ := res_keep yr yrf b5)
      have hle5 : W3.heap.size ≤ w5.heap.size := (kbA b5).size
      have hb5 : Below w.heap.size w (w5.setCell ⟨w.heap.size + 1, 0, none⟩ (.bool true)) := (hB1.trans ((kbA b5).mono hB1.size)).setCell (p := ⟨w.heap.size + 1, 0, none⟩) (by first | omega | (simp <;> omega)) _
      have c0 : (w5.setCell ⟨w.heap.size + 1, 0, none⟩ (.bool true)).cell? ⟨w.heap.size + 1, 0, none⟩ = some (.bool true) := by go_cell
      have m2 : (w5.setCell ⟨w.heap.size + 1, 0, none⟩ (.bool true)).heap[D2]? = some (.deferred (some [])) := (KeepsOthers.setCell _ _ _).same _ _ (((kbA b5).block D2 (Array.getElem?_eq_some_iff.1 hD2).1).trans hD2) rfl
      have m1 : (w5.setCell ⟨w.heap.size + 1, 0, none⟩ (.bool true)).heap[D1]? = some (.deferred (some [])) := (KeepsOthers.setCell _ _ _).same _ _ (((kbA b5).block D1 (Array.getElem?_eq_some_iff.1 hD1).1).trans hD1) rfl
      generalize w5.setCell ⟨w.heap.size + 1, 0, none⟩ (.bool true) = W5 at hb5 c0 m2 m1 ⊢
      have c1 := cell_kept c0 (grownBy_putObj' W5 D2 (.deferred none)) (fun r e => by cases e; exact ⟨_, m2, rfl⟩)
      have m1' : (W5.putObj D2 (.deferred none)).heap[D1]? = some (.deferred (some [])) := by rw [World.putObj_heap_other (by omega)]; exact m1
      have c2 := cell_kept c1 (grownBy_putObj' _ D1 (.deferred none)) (fun r e => by cases e; exact ⟨_, m1', rfl⟩)
      have hb6 := hb5.trans (belowK_b (w := w) (Nat.le_refl _) W5 D2 _ (.deferred none) (by omega) m2 rfl rfl)
      have hb7 := hb6.trans (belowK_b (w := w) (Nat.le_refl _) _ D1 _ (.deferred none) (by omega) m1' rfl rfl)
      refine ⟨by simp, .inl ⟨_, _, rfl, run_takeDeferred m2, ?_⟩⟩
      refine ⟨by simp, .inl ⟨_, _, rfl, run_takeDeferred m1', ?_⟩⟩
      refine ⟨.bool true, ?_, rfl, hb7⟩
      simp [results, Tryz.f7, go_sem, c2]
theorem types_any (many : Int) (w : World) (hw : Base w) :
    Calls Tryz.prog 7 #[.int .i64 many] w fun r w' => r = .returned (.bool true) ∧ Below w.heap.size w w' :=
  types_walk many w (Lib.hid fun w' hb => works_any w' (hw.below hb))
end Go.Proofs.YtcngoffmkbobhaaGreatDoor
