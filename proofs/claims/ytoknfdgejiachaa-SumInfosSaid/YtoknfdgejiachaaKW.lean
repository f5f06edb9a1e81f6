import Derived.Test.YtoknfdgejiachaaKV
namespace Go.Proofs.Ytoknfdgejiachaa
open Go.RowKit Go.Shelf

theorem val_boxes {w w1 : World} (b1 : Below ((w.alloc (vObj 0 0 ⟨#[]⟩)).alloc (.cells #[.int .i64 0] 31)).heap.size ((w.alloc (vObj 0 0 ⟨#[]⟩)).alloc (.cells #[.int .i64 0] 31)) w1) :
    NulAt w1 w.heap.size ∧ (w1.cell? ⟨w.heap.size + 1, 0, none⟩ = some (.int .i64 0) ∧ w1.frozen? ⟨w.heap.size + 1, 0, none⟩ = false ∧ w.heap.size + 1 < w1.heap.size) ∧ Below w.heap.size w w1 :=
  ⟨nul_kept b1 (by go_cell) (by go_cell) (by go_cell) (by go_cell) (by go_cell) (by go_cell), ⟨(b1.cell (by simp)).trans (by go_cell), (b1.frozen (by simp)).trans (by go_cell), by have := b1.size; simp at this; omega⟩, (((Below.refl _ _).alloc (Nat.le_refl _) _).alloc (by simp) _).trans (b1.mono (by simp; omega))⟩
set_option maxRecDepth 10000 in
set_option maxHeartbeats 1000000 in
theorem caughtV_ok (v : V3) (caps : Array Value) (w : World) (C : Hid (∀ w', Below w.heap.size w w' → Calls Try.prog 24 caps w' fun r w2 => r = .returned (val v) ∧ Below w'.heap.size w' w2)) :
    Calls Try.prog 23 #[.func (.func 24) #[] caps] w fun r w' => r = .returned (.tuple #[val v, .int .i64 0]) ∧ Below w.heap.size w w' := by
  have hmf : ∀ (fn : Fn) (first cap : Array Value) (w : World), (Instr.makeFunc fn first cap).run Try.prog w = .ok (.func fn first cap) w := fun _ _ _ _ => rfl
  obtain ⟨vk, vn, vs⟩ := v
  go_enter_defers Try.func23, Try.ntmps23
  go_wp2_with (go_at_call 24; refine (C.out _ (((Below.refl _ _).alloc (Nat.le_refl _) _).alloc (by simp) _)).mono ?_; rintro e wz ⟨rfl, b1⟩; obtain ⟨⟨f0, f1, f2, g0, g1, g2, hs⟩, ⟨k0, kf, hs2⟩, hb⟩ := val_boxes b1)
  refine leaves_cons (f := 49) (args := #[.pointer (some ⟨w.heap.size + 1, 0, none⟩)]) (by simp) (by simp [go_sem]) ?_
  refine (catch_idle49 (w.heap.size + 1) _).mono ?_
  rintro e u' w'' ⟨rfl, rfl, rfl⟩
  have hfin : Below w.heap.size w ((((wz.setCell ⟨w.heap.size, 0, none⟩ (.int .i64 vk)).setCell ⟨w.heap.size, 1, none⟩ (.int .i64 vn)).setCell ⟨w.heap.size, 2, none⟩ (.string vs)).setCell ⟨w.heap.size + 1, 0, none⟩ (.int .i64 0)) := (((hb.setCell (by simp) _).setCell (by simp) _).setCell (by simp) _).setCell (by simp) _
  simp [Leaves, settle, results, Try.results23, go_sem, f0, f1, f2, k0, hfin]
set_option maxRecDepth 10000 in
set_option maxHeartbeats 1000000 in
theorem caughtV_no (n : Int) (caps : Array Value) (w : World) (C : Hid (∀ w', Below w.heap.size w w' → Calls Try.prog 24 caps w' fun r w2 => r = .panicked (gaveUp n) ∧ Below w'.heap.size w' w2)) :
    Calls Try.prog 23 #[.func (.func 24) #[] caps] w fun r w' => r = .returned (.tuple #[val nul, .int .i64 n]) ∧ Below w.heap.size w w' := by
  have hmf : ∀ (fn : Fn) (first cap : Array Value) (w : World), (Instr.makeFunc fn first cap).run Try.prog w = .ok (.func fn first cap) w := fun _ _ _ _ => rfl
  go_enter_defers Try.func23, Try.ntmps23
  go_wp2_with (go_at_call 24; refine (C.out _ (((Below.refl _ _).alloc (Nat.le_refl _) _).alloc (by simp) _)).mono ?_; rintro e wz ⟨rfl, b1⟩; obtain ⟨⟨f0, f1, f2, g0, g1, g2, hs⟩, ⟨k0, kf, hs2⟩, hb⟩ := val_boxes b1)
  refine leaves_cons (f := 49) (args := #[.pointer (some ⟨w.heap.size + 1, 0, none⟩)]) (by simp) (by simp [go_sem]) ?_
  refine (catch_panic49 (w.heap.size + 1) 0 n _ hs2 k0 kf).mono ?_
  rintro e u' w'' ⟨rfl, rfl, rfl⟩
  have hfin : Below w.heap.size w ((wz.setCell ⟨w.heap.size + 1, 0, none⟩ (.int .i64 n)).alloc (.cells #[.int .i64 n] 80)) := (hb.setCell (by simp) _).alloc (by simp; omega) _
  simp [Leaves, settle, results, Try.results23, go_sem, f0, f1, f2, k0, hs, hs2, hfin]
theorem op_zero (o : Int) (a b : V3) : (opE o a b).2 ≠ 0 → (opE o a b).1 = nul := by
  unfold opE numV
  repeat' split
  all_goals first | (intro _; rfl) | (intro h; exact absurd rfl h)
theorem do_zero (o : Int) (l : List V3) : (doE o l).2 ≠ 0 → (doE o l).1 = nul := by
  unfold doE
  repeat' split
  · intro _; rfl
  · intro _; rfl
  · exact op_zero _ _ _
theorem doC_any (o : Int) (l : List V3) (p : Option Addr) (cap A B : Nat) (w : World) (hl : l.length ≤ 4) (hc : CellsOf w p l) (hf : Fits l)
    (ca : w.cell? ⟨A, 0, none⟩ = some (.int .i64 o)) (cb : w.cell? ⟨B, 0, none⟩ = some (.slice p l.length cap)) :
    Calls Try.prog 24 #[.pointer (some ⟨B, 0, none⟩), .pointer (some ⟨A, 0, none⟩)] w fun r w' => r = endV (doE o l) ∧ Below w.heap.size w w' := by
  have hl2 : l.length ≤ 100000 := by omega
  by_cases hg : GoodTo l l.length
  · have hany : l.any (fun v => decide (checkV v.1 v.2.1 v.2.2 ≠ 0)) = false := by
      rw [List.any_eq_false]
      intro x hx
      obtain ⟨i, hi, rfl⟩ := List.getElem_of_mem hx
      have := hg i hi
      rw [List.getD_eq_getElem?_getD, List.getElem?_eq_getElem hi] at this
      simpa using this
    have e0 : doE o l = if (makesE o (l.map (·.1))).2 ≠ 0 then (nul, (makesE o (l.map (·.1))).2) else opE o (l.headD nul) (l.getLastD nul) := by
      unfold doE
      rw [hany]
      rfl
    have MD : ∀ (t : Value) (w' : World), Ints w' t (l.map (·.1)) → Calls Try.prog 20 #[.int .i64 o, t] w' fun r w2 => r = endN (makesE o (l.map (·.1))) ∧ Below w'.heap.size w' w2 := fun t w' hI => made_any o _ t w' hI (by simpa using hl)
    by_cases hm : (makesE o (l.map (·.1))).2 ≠ 0
    · rw [e0, if_pos hm, endV_no hm]
      rw [endN_no hm] at MD
      exact doC_err o _ l p cap A B w hl2 (Lib.hid hc) (Lib.hid hg) ca cb (Lib.hid MD)
    · have hm : (makesE o (l.map (·.1))).2 = 0 := by omega
      rw [e0, if_neg (by omega)]
      rw [endN_ok hm] at MD
      exact doC_go o _ _ l p cap A B w hl2 (Lib.hid hc) (Lib.hid hg) ca cb (Lib.hid MD) (Lib.hid fun w' hb => done_any o l p cap w' (cells_below hc hb) hf hg hm)
  · have hex : ∃ i, i < l.length ∧ checkV (l.getD i nul).1 (l.getD i nul).2.1 (l.getD i nul).2.2 ≠ 0 := by
      apply Classical.byContradiction
      intro hx
      exact hg fun i hi => Classical.byContradiction fun hy => hx ⟨i, hi, hy⟩
    obtain ⟨i, hi, hb⟩ := hex
    have e0 : doE o l = (nul, 2) := by
      unfold doE
      rw [if_pos]
      rw [List.any_eq_true]
      exact ⟨_, getD_mem hi, by simpa using hb⟩
    rw [e0, endV_no (by decide)]
    exact doC_bad o l p cap A B w hl2 (Lib.hid hc) (Lib.hid hg) ca cb
set_option maxHeartbeats 1000000 in
theorem does_any (o : Int) (l : List V3) (v : Value) (w : World) (hV : Vals w v l) (hf : Fits l) (hl : l.length ≤ 4) :
    Calls Try.prog 14 #[.int .i64 o, v] w fun r w' => r = .returned (.tuple #[val (doE o l).1, .int .i64 (doE o l).2]) ∧ Below w.heap.size w w' := by
  obtain ⟨p, c, rfl, hl2, hc⟩ := hV
  have hb0 : Below w.heap.size w (((w.alloc (.cells #[.int .i64 o] 30)).alloc (.cells #[.slice p l.length c] 42)).alloc (vObj 0 0 ⟨#[]⟩)) := (((Below.refl _ _).alloc (Nat.le_refl _) _).alloc (by simp) _).alloc (by simp; omega) _
  have z0 : (((w.alloc (.cells #[.int .i64 o] 30)).alloc (.cells #[.slice p l.length c] 42)).alloc (vObj 0 0 ⟨#[]⟩)).cell? ⟨w.heap.size, 0, none⟩ = some (.int .i64 o) := by go_cell
  have z1 : (((w.alloc (.cells #[.int .i64 o] 30)).alloc (.cells #[.slice p l.length c] 42)).alloc (vObj 0 0 ⟨#[]⟩)).cell? ⟨w.heap.size + 1, 0, none⟩ = some (.slice p l.length c) := by go_cell
  have zn : NulAt (((w.alloc (.cells #[.int .i64 o] 30)).alloc (.cells #[.slice p l.length c] 42)).alloc (vObj 0 0 ⟨#[]⟩)) (w.heap.size + 1 + 1) := ⟨by go_cell, by go_cell, by go_cell, by go_cell, by go_cell, by go_cell, by simp⟩
  obtain ⟨W, hW⟩ : ∃ W, ((w.alloc (.cells #[.int .i64 o] 30)).alloc (.cells #[.slice p l.length c] 42)).alloc (vObj 0 0 ⟨#[]⟩) = W := ⟨_, rfl⟩
  rw [hW] at hb0 z0 z1 zn
  have CC : ∀ w', Below W.heap.size W w' → Calls Try.prog 24 #[.pointer (some ⟨w.heap.size + 1, 0, none⟩), .pointer (some ⟨w.heap.size, 0, none⟩)] w' fun r w2 => r = endV (doE o l) ∧ Below w'.heap.size w' w2 := fun w' h =>
    doC_any o l p c _ _ w' hl (cells_below (cells_below hc hb0) h) hf ((h.cell (lt_of_cell_some z0)).trans z0) ((h.cell (lt_of_cell_some z1)).trans z1)
  have CF : Calls Try.prog 23 #[.func (.func 24) #[] #[.pointer (some ⟨w.heap.size + 1, 0, none⟩), .pointer (some ⟨w.heap.size, 0, none⟩)]] W fun r w' => r = .returned (.tuple #[val (doE o l).1, .int .i64 (doE o l).2]) ∧ Below W.heap.size W w' := by
    by_cases h : (doE o l).2 = 0
    · rw [h]
      rw [endV_ok h] at CC
      exact caughtV_ok _ _ _ (Lib.hid CC)
    · rw [do_zero o l h]
      rw [endV_no h] at CC
      exact caughtV_no _ _ _ (Lib.hid CC)
  generalize doE o l = E at CF ⊢
  obtain ⟨⟨ek, en, es⟩, e2⟩ := E
  have HCF := Lib.hid CF
  have HW := Lib.hid hW
  have HB := Lib.hid hb0
  have HN : Hid (∀ wz, Below W.heap.size W wz → NulAt wz (w.heap.size + 1 + 1)) := Lib.hid fun wz h => nul_kept h zn.1 zn.2.1 zn.2.2.1 zn.2.2.2.1 zn.2.2.2.2.1 zn.2.2.2.2.2.1
  clear CC CF hW hb0 z0 z1 zn hc
  have hmf : ∀ (fn : Fn) (first cap : Array Value) (w : World), (Instr.makeFunc fn first cap).run Try.prog w = .ok (.func fn first cap) w := fun _ _ _ _ => rfl
  go_enter Try.func14, Try.ntmps14
  go_wp2_with (go_at_call 23; rw [HW.out]; refine HCF.out.mono ?_; rintro e wz ⟨rfl, hb⟩; obtain ⟨f0, f1, f2, g0, g1, g2, hs⟩ := HN.out _ hb)
  have hB2 : Below w.heap.size w wz := HB.out.trans (hb.mono HB.out.size)
  refine bodyPost_ret (v := .tuple #[val (ek, en, es), .int .i64 e2]) ?_ rfl ⟨rfl, ((hB2.setCell (by simp; omega) _).setCell (by simp; omega) _).setCell (by simp; omega) _⟩
  simp [results, Try.results14, go_sem, f0, f1, f2]
/-- What package sum answers. -/
theorem sumOk : SumOk (fun _ => True) :=
  ⟨fun _ _ => trivial, fun o l v w _ hI hl => makes_any o l v hl w hI, fun o l v w _ hV hf hl => does_any o l v w hV hf hl⟩
end Go.Proofs.Ytoknfdgejiachaa
