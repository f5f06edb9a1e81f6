import Derived.Test.YtoknfdgejiachaaKU
namespace Go.Proofs.Ytoknfdgejiachaa
open Go.RowKit Go.Shelf

/-- What the call of Do holds in memory: the operator, the sum under way, the result. -/
structure DoIn (w w' : World) (A : Nat) (s : Value) (o : Int) : Prop where
  a : w'.cell? ⟨A, 0, none⟩ = some (.int .i64 o)
  k0 : w'.cell? ⟨w.heap.size + 1, 0, none⟩ = some s
  k1 : w'.cell? ⟨w.heap.size + 1, 1, none⟩ = some (.int .i64 o)
  n : NulAt w' w.heap.size
  hw : Below w.heap.size w w'
theorem DoIn.below {w w' w2 : World} {A : Nat} {s : Value} {o : Int} (h : DoIn w w' A s o) (hb : Below w'.heap.size w' w2) : DoIn w w2 A s o :=
  ⟨(hb.cell (lt_of_cell_some h.a)).trans h.a, (hb.cell (lt_of_cell_some h.k0)).trans h.k0, (hb.cell (lt_of_cell_some h.k1)).trans h.k1, nul_kept hb h.n.1 h.n.2.1 h.n.2.2.1 h.n.2.2.2.1 h.n.2.2.2.2.1 h.n.2.2.2.2.2.1, h.hw.trans (hb.mono h.hw.size)⟩
theorem DoIn.drew {w w' : World} {A : Nat} {s : Value} {o : Int} (h : DoIn w w' A s o) : DoIn w w'.drew A s o := h.below (Below.refl _ _).drew
theorem DoIn.start {w : World} {A : Nat} {s : Value} {o : Int} (a : w.cell? ⟨A, 0, none⟩ = some (.int .i64 o)) : DoIn w ((w.alloc (vObj 0 0 ⟨#[]⟩)).alloc (.cells #[s, .int .i64 o] 67)) A s o :=
  have hA := lt_of_cell_some a
  have hb : Below w.heap.size w ((w.alloc (vObj 0 0 ⟨#[]⟩)).alloc (.cells #[s, .int .i64 o] 67)) := ((Below.refl _ _).alloc (Nat.le_refl _) _).alloc (by simp) _
  ⟨(hb.cell hA).trans a, by go_cell, by go_cell, ⟨by go_cell, by go_cell, by go_cell, by go_cell, by go_cell, by go_cell, by simp; omega⟩, hb⟩
set_option maxRecDepth 100000 in
set_option maxHeartbeats 2000000 in
theorem doC_bad (o : Int) (l : List V3) (p : Option Addr) (cap A B : Nat) (w : World) (hl : l.length ≤ 100000) (hc : Hid (CellsOf w p l)) (hbad : Hid (¬ GoodTo l l.length))
    (ca : w.cell? ⟨A, 0, none⟩ = some (.int .i64 o)) (cb : w.cell? ⟨B, 0, none⟩ = some (.slice p l.length cap)) :
    Calls Try.prog 24 #[.pointer (some ⟨B, 0, none⟩), .pointer (some ⟨A, 0, none⟩)] w fun r w' => r = .panicked (gaveUp 2) ∧ Below w.heap.size w w' := by
  have D0 := Lib.hid (DoIn.start (s := .slice p l.length cap) ca)
  have hA := lt_of_cell_some ca
  have hB := lt_of_cell_some cb
  have CM := Lib.hid (mayBe_no l p cap _ hl (Lib.hid (cells_below hc.out D0.out.hw)) hbad)
  go_enter Try.func24, Try.ntmps24
  go_wp2_with (first
    | (go_at_call 26; refine CM.out.mono ?_; rintro e wa ⟨rfl, hb⟩)
    | (go_at_call 25; with_reducible refine (need_no _ _).mono ?_; rintro e w' ⟨rfl, rfl⟩))
  exact ⟨rfl, rfl, (D0.out.below hb).hw⟩
set_option maxRecDepth 100000 in
set_option maxHeartbeats 4000000 in
theorem doC_err (o q : Int) (l : List V3) (p : Option Addr) (cap A B : Nat) (w : World) (hl : l.length ≤ 100000) (hc : Hid (CellsOf w p l)) (hgood : Hid (GoodTo l l.length))
    (ca : w.cell? ⟨A, 0, none⟩ = some (.int .i64 o)) (cb : w.cell? ⟨B, 0, none⟩ = some (.slice p l.length cap))
    (MD : Hid (∀ (t : Value) (w' : World), Ints w' t (l.map (·.1)) → Calls Try.prog 20 #[.int .i64 o, t] w' fun r w2 => r = .panicked (gaveUp q) ∧ Below w'.heap.size w' w2)) :
    Calls Try.prog 24 #[.pointer (some ⟨B, 0, none⟩), .pointer (some ⟨A, 0, none⟩)] w fun r w' => r = .panicked (gaveUp q) ∧ Below w.heap.size w w' := by
  have D0 := Lib.hid (DoIn.start (s := .slice p l.length cap) ca)
  have hA := lt_of_cell_some ca
  have hB := lt_of_cell_some cb
  have CM := Lib.hid (mayBe_ok l p cap _ hl (Lib.hid (cells_below hc.out D0.out.hw)) hgood)
  go_enter Try.func24, Try.ntmps24
  go_wp2_with (first
    | (go_at_call 26; refine CM.out.mono ?_; rintro e wa ⟨rfl, hb⟩; have D1 := Lib.hid (D0.out.below hb))
    | (go_at_call 25; with_reducible refine (need_ok _ _).mono ?_; rintro e w' ⟨rfl, rfl⟩))
  have TT := Lib.hid (types_any l p cap wa.drew hl (Lib.hid (cells_below hc.out D1.out.drew.hw)))
  refine wp_region_held_drew (S := fun w' => w'.cell? ⟨A, 0, none⟩ = some (.int .i64 o) ∧ w'.cell? ⟨w.heap.size + 1, 0, none⟩ = some (.slice p l.length cap)) (by kernel_rfl) ⟨D1.out.drew.a, D1.out.drew.k0⟩ (fun H0 => ?_)
  refine wpAnyH_take (i := 0) (oi := { dst := some 11, op := Go.Op.load 30 (Go.Operand.tmp 1), type := 30, pos := "sum.go:79", after := #[], guard := none }) (v := ?_) rfl (by kernel_rfl) (by kernel_rfl) (by kernel_rfl) (fun _ _ _ h => h) (Or.inl ⟨by rfl, ?_⟩) H0 ?_
  rotate_left
  focus (intro w hSw; (try dsimp only at hSw); go_simp; (try with_reducible rfl))
  simp only [Act.put, List.setIfInBounds_toArray, List.set_cons_zero, List.set_cons_succ]
  refine wpAnyH_take (i := 1) (oi := { dst := some 12, op := Go.Op.fieldAddr 67 (Go.Operand.tmp 3) 0, type := 0, pos := "sum.go:79", after := #[], guard := none }) (v := ?_) rfl (by kernel_rfl) (by kernel_rfl) (by kernel_rfl) (fun _ _ _ h => h) (Or.inl ⟨by rfl, ?_⟩) H0 ?_
  rotate_left
  focus (intro w hSw; (try dsimp only at hSw); go_simp; (try with_reducible rfl))
  simp only [Act.put, List.setIfInBounds_toArray, List.set_cons_zero, List.set_cons_succ]
  refine wpAnyH_take (i := 2) (oi := { dst := some 13, op := Go.Op.load 65 (Go.Operand.tmp 12), type := 65, pos := "sum.go:79", after := #[{ on := 1, ground := Go.Ground.data }], guard := none }) (v := ?_) rfl (by kernel_rfl) (by kernel_rfl) (by kernel_rfl) (fun _ _ _ h => h) (Or.inl ⟨by rfl, ?_⟩) H0 ?_
  rotate_left
  focus (intro w hSw; (try dsimp only at hSw); go_simp; (try with_reducible rfl))
  simp only [Act.put, List.setIfInBounds_toArray, List.set_cons_zero, List.set_cons_succ]
  refine wpAnyH_ready (rs := [3]) (by kernel_rfl) (by simp) ?_
  refine AllReadyH.cons (o := { dst := some 14, op := Go.Op.call { callee := Go.Callee.value (Go.Operand.func 27), args := #[Go.Operand.tmp 13], argTypes := #[65] }, type := 22, pos := "sum.go:79", after := #[{ on := 2, ground := Go.Ground.data }], guard := none }) rfl (fun K hK => ?_) AllReadyH.nil
  go_simp
  (go_at_call 27; refine TT.out.mono ?_; rintro e wt ⟨t, rfl, hI, hb2⟩; have D2 := Lib.hid (D1.out.drew.below hb2); have HI := Lib.hid hI; clear hI)
  try go_wp2_with fail
  refine hK.out _ _ ⟨D2.out.a, D2.out.k0⟩ (fun H1 => ?_)
  clear hK K H0
  try simp only [Act.put, List.setIfInBounds_toArray, List.set_cons_zero, List.set_cons_succ]
  refine wpAnyH_ready (rs := [4]) (by kernel_rfl) (by simp) ?_
  refine AllReadyH.cons (o := { dst := some 15, op := Go.Op.call { callee := Go.Callee.value (Go.Operand.func 20), args := #[Go.Operand.tmp 11, Go.Operand.tmp 14], argTypes := #[30, 22] }, type := 25, pos := "sum.go:79", after := #[{ on := 0, ground := Go.Ground.data }, { on := 3, ground := Go.Ground.data }, { on := 3, ground := Go.Ground.chain }], guard := none }) rfl (fun K hK => ?_) AllReadyH.nil
  go_simp
  refine (MD.out _ _ HI.out).mono ?_
  rintro e wm ⟨rfl, hb3⟩
  exact ⟨rfl, rfl, (D2.out.below hb3).hw⟩
set_option maxRecDepth 100000 in
set_option maxHeartbeats 4000000 in
theorem doC_go (o m : Int) (E : V3 × Int) (l : List V3) (p : Option Addr) (cap A B : Nat) (w : World) (hl : l.length ≤ 100000) (hc : Hid (CellsOf w p l)) (hgood : Hid (GoodTo l l.length))
    (ca : w.cell? ⟨A, 0, none⟩ = some (.int .i64 o)) (cb : w.cell? ⟨B, 0, none⟩ = some (.slice p l.length cap))
    (MD : Hid (∀ (t : Value) (w' : World), Ints w' t (l.map (·.1)) → Calls Try.prog 20 #[.int .i64 o, t] w' fun r w2 => r = .returned (.int .i64 m) ∧ Below w'.heap.size w' w2))
    (WY : Hid (∀ w', Below w.heap.size w w' → Calls Try.prog 28 #[.agg #[.slice p l.length cap, .int .i64 o]] w' fun r w2 => r = endV E ∧ Below w'.heap.size w' w2)) :
    Calls Try.prog 24 #[.pointer (some ⟨B, 0, none⟩), .pointer (some ⟨A, 0, none⟩)] w fun r w' => r = endV E ∧ Below w.heap.size w w' := by
  have D0 := Lib.hid (DoIn.start (s := .slice p l.length cap) ca)
  have hA := lt_of_cell_some ca
  have hB := lt_of_cell_some cb
  have CM := Lib.hid (mayBe_ok l p cap _ hl (Lib.hid (cells_below hc.out D0.out.hw)) hgood)
  go_enter Try.func24, Try.ntmps24
  go_wp2_with (first
    | (go_at_call 26; refine CM.out.mono ?_; rintro e wa ⟨rfl, hb⟩; have D1 := Lib.hid (D0.out.below hb))
    | (go_at_call 25; with_reducible refine (need_ok _ _).mono ?_; rintro e w' ⟨rfl, rfl⟩))
  have TT := Lib.hid (types_any l p cap wa.drew hl (Lib.hid (cells_below hc.out D1.out.drew.hw)))
  refine wp_region_held_drew (S := fun w' => w'.cell? ⟨A, 0, none⟩ = some (.int .i64 o) ∧ w'.cell? ⟨w.heap.size + 1, 0, none⟩ = some (.slice p l.length cap)) (by kernel_rfl) ⟨D1.out.drew.a, D1.out.drew.k0⟩ (fun H0 => ?_)
  refine wpAnyH_take (i := 0) (oi := { dst := some 11, op := Go.Op.load 30 (Go.Operand.tmp 1), type := 30, pos := "sum.go:79", after := #[], guard := none }) (v := ?_) rfl (by kernel_rfl) (by kernel_rfl) (by kernel_rfl) (fun _ _ _ h => h) (Or.inl ⟨by rfl, ?_⟩) H0 ?_
  rotate_left
  focus (intro w hSw; (try dsimp only at hSw); go_simp; (try with_reducible rfl))
  simp only [Act.put, List.setIfInBounds_toArray, List.set_cons_zero, List.set_cons_succ]
  refine wpAnyH_take (i := 1) (oi := { dst := some 12, op := Go.Op.fieldAddr 67 (Go.Operand.tmp 3) 0, type := 0, pos := "sum.go:79", after := #[], guard := none }) (v := ?_) rfl (by kernel_rfl) (by kernel_rfl) (by kernel_rfl) (fun _ _ _ h => h) (Or.inl ⟨by rfl, ?_⟩) H0 ?_
  rotate_left
  focus (intro w hSw; (try dsimp only at hSw); go_simp; (try with_reducible rfl))
  simp only [Act.put, List.setIfInBounds_toArray, List.set_cons_zero, List.set_cons_succ]
  refine wpAnyH_take (i := 2) (oi := { dst := some 13, op := Go.Op.load 65 (Go.Operand.tmp 12), type := 65, pos := "sum.go:79", after := #[{ on := 1, ground := Go.Ground.data }], guard := none }) (v := ?_) rfl (by kernel_rfl) (by kernel_rfl) (by kernel_rfl) (fun _ _ _ h => h) (Or.inl ⟨by rfl, ?_⟩) H0 ?_
  rotate_left
  focus (intro w hSw; (try dsimp only at hSw); go_simp; (try with_reducible rfl))
  simp only [Act.put, List.setIfInBounds_toArray, List.set_cons_zero, List.set_cons_succ]
  refine wpAnyH_ready (rs := [3]) (by kernel_rfl) (by simp) ?_
  refine AllReadyH.cons (o := { dst := some 14, op := Go.Op.call { callee := Go.Callee.value (Go.Operand.func 27), args := #[Go.Operand.tmp 13], argTypes := #[65] }, type := 22, pos := "sum.go:79", after := #[{ on := 2, ground := Go.Ground.data }], guard := none }) rfl (fun K hK => ?_) AllReadyH.nil
  go_simp
  (go_at_call 27; refine TT.out.mono ?_; rintro e wt ⟨t, rfl, hI, hb2⟩; have D2 := Lib.hid (D1.out.drew.below hb2); have HI := Lib.hid hI; clear hI)
  try go_wp2_with fail
  refine hK.out _ _ ⟨D2.out.a, D2.out.k0⟩ (fun H1 => ?_)
  clear hK K H0
  try simp only [Act.put, List.setIfInBounds_toArray, List.set_cons_zero, List.set_cons_succ]
  refine wpAnyH_ready (rs := [4]) (by kernel_rfl) (by simp) ?_
  refine AllReadyH.cons (o := { dst := some 15, op := Go.Op.call { callee := Go.Callee.value (Go.Operand.func 20), args := #[Go.Operand.tmp 11, Go.Operand.tmp 14], argTypes := #[30, 22] }, type := 25, pos := "sum.go:79", after := #[{ on := 0, ground := Go.Ground.data }, { on := 3, ground := Go.Ground.data }, { on := 3, ground := Go.Ground.chain }], guard := none }) rfl (fun K hK => ?_) AllReadyH.nil
  go_simp
  (refine (MD.out _ _ HI.out).mono ?_; rintro e wm ⟨rfl, hb3⟩; have D3 := Lib.hid (D2.out.below hb3))
  try go_wp2_with fail
  refine hK.out _ _ ⟨D3.out.a, D3.out.k0⟩ (fun H2 => ?_)
  clear hK K H1
  try simp only [Act.put, List.setIfInBounds_toArray, List.set_cons_zero, List.set_cons_succ]
  refine wpAnyH_done (by kernel_rfl) ?_ _
  clear H2
  obtain ⟨x0, x1, x2, x3, x4, x5, x6⟩ := D3.out.n
  have x7 := D3.out.k0
  have x8 := D3.out.k1
  have WZ := WY.out _ D3.out.hw
  by_cases hq : E.2 = 0
  · rw [endV_ok hq] at WZ
    have WZ := Lib.hid WZ
    have HQ := Lib.hid hq
    clear hq
    go_wp2_with (go_at_call 28; refine WZ.out.mono ?_; rintro e wz ⟨rfl, hb4⟩; have D4 := Lib.hid (D3.out.below hb4); obtain ⟨y0, y1, y2, y3, y4, y5, y6⟩ := D4.out.n)
    refine bodyPost_ret (v := val E.1) ?_ rfl ⟨(endV_ok HQ.out).symm, ((D4.out.hw.setCell (Nat.le_refl _) _).setCell (Nat.le_refl _) _).setCell (Nat.le_refl _) _⟩
    simp [results, Try.results24, go_sem, y0, y1, y2]
  · rw [endV_no hq] at WZ
    have WZ := Lib.hid WZ
    have HQ := Lib.hid hq
    clear hq
    go_wp2_with (go_at_call 28; refine WZ.out.mono ?_; rintro e wz ⟨rfl, hb4⟩; have D4 := Lib.hid (D3.out.below hb4))
    exact ⟨rfl, (endV_no HQ.out).symm, D4.out.hw⟩
end Go.Proofs.Ytoknfdgejiachaa
