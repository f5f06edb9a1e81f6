import Derived.Test.YtoknfdgejiachaaL1
namespace Go.Proofs.Ytoknfdgejiachaa
open Go.RowKit Go.Shelf

set_option maxRecDepth 100000 in
set_option maxHeartbeats 4000000 in
theorem works_of {Bs : World → Prop} (S : SumOk Bs) (w : World) (hw : Bs w) :
    Calls Try.prog 7 #[] w fun r w' => r = .returned (.bool true) ∧ Below w.heap.size w w' := by
  have HS : Hid (∀ w', Below w.heap.size w w' → Bs w') := Lib.hid fun w' hb => S.below hw hb
  have hL : Boxes w [] := fun x hx => by cases hx
  have hB : Below w.heap.size w w := Below.refl _ _
  clear hw
  go_enter Try.func7, Try.ntmps7
  replace hL := hL.push nul
  replace hB := hB.alloc hB.size (vObj 0 0 ⟨#[]⟩)
  go_wp2_with fail
  refine (lawOf_any 2 _).mono ?_
  rintro e w1 ⟨rfl, b⟩
  replace hL := hL.below b
  replace hB := hB.trans (b.mono hB.size)
  clear b
  go_wp2_with fail
  refine (lawOf_any 3 _).mono ?_
  rintro e w1 ⟨rfl, b⟩
  replace hL := hL.below b
  replace hB := hB.trans (b.mono hB.size)
  clear b
  go_wp2_with fail
  refine (S.w1 _ (HS.out _ hB)).mono ?_
  rintro e r1 ⟨rfl, b⟩
  replace hL := hL.below b
  replace hB := hB.trans (b.mono hB.size)
  clear b
  have hL := hL.push (2, 5, ⟨#[]⟩)
  replace hB := hB.alloc hB.size (vObj ((2, 5, ⟨#[]⟩) : V3).1 ((2, 5, ⟨#[]⟩) : V3).2.1 ((2, 5, ⟨#[]⟩) : V3).2.2)
  go_wp2_with fail
  refine (lawOf_any (-7) _).mono ?_
  rintro e w1 ⟨rfl, b⟩
  replace hL := hL.below b
  replace hB := hB.trans (b.mono hB.size)
  clear b
  go_wp2_with fail
  refine (lawOf_any 2 _).mono ?_
  rintro e w1 ⟨rfl, b⟩
  replace hL := hL.below b
  replace hB := hB.trans (b.mono hB.size)
  clear b
  go_wp2_with fail
  refine (S.w2 _ (HS.out _ hB)).mono ?_
  rintro e r2 ⟨rfl, b⟩
  replace hL := hL.below b
  replace hB := hB.trans (b.mono hB.size)
  clear b
  have hL := hL.push (2, -3, ⟨#[]⟩)
  replace hB := hB.alloc hB.size (vObj ((2, -3, ⟨#[]⟩) : V3).1 ((2, -3, ⟨#[]⟩) : V3).2.1 ((2, -3, ⟨#[]⟩) : V3).2.2)
  go_wp2_with fail
  refine (lawOf_any (-7) _).mono ?_
  rintro e w1 ⟨rfl, b⟩
  replace hL := hL.below b
  replace hB := hB.trans (b.mono hB.size)
  clear b
  go_wp2_with fail
  refine (lawOf_any 2 _).mono ?_
  rintro e w1 ⟨rfl, b⟩
  replace hL := hL.below b
  replace hB := hB.trans (b.mono hB.size)
  clear b
  go_wp2_with fail
  refine (S.w3 _ (HS.out _ hB)).mono ?_
  rintro e r3 ⟨rfl, b⟩
  replace hL := hL.below b
  replace hB := hB.trans (b.mono hB.size)
  clear b
  have hL := hL.push (2, -1, ⟨#[]⟩)
  replace hB := hB.alloc hB.size (vObj ((2, -1, ⟨#[]⟩) : V3).1 ((2, -1, ⟨#[]⟩) : V3).2.1 ((2, -1, ⟨#[]⟩) : V3).2.2)
  go_wp2_with fail
  refine (lawOf_any 1 _).mono ?_
  rintro e w1 ⟨rfl, b⟩
  replace hL := hL.below b
  replace hB := hB.trans (b.mono hB.size)
  clear b
  go_wp2_with fail
  refine (lawOf_any 0 _).mono ?_
  rintro e w1 ⟨rfl, b⟩
  replace hL := hL.below b
  replace hB := hB.trans (b.mono hB.size)
  clear b
  go_wp2_with fail
  refine (S.w4 _ (HS.out _ hB)).mono ?_
  rintro e r4 ⟨rfl, b⟩
  replace hL := hL.below b
  replace hB := hB.trans (b.mono hB.size)
  clear b
  have hL := hL.push nul
  replace hB := hB.alloc hB.size (vObj (nul : V3).1 (nul : V3).2.1 (nul : V3).2.2)
  go_wp2_with fail
  refine (lawOf_any 9223372036854775807 _).mono ?_
  rintro e w1 ⟨rfl, b⟩
  replace hL := hL.below b
  replace hB := hB.trans (b.mono hB.size)
  clear b
  go_wp2_with fail
  refine (lawOf_any 1 _).mono ?_
  rintro e w1 ⟨rfl, b⟩
  replace hL := hL.below b
  replace hB := hB.trans (b.mono hB.size)
  clear b
  go_wp2_with fail
  refine (S.w5 _ (HS.out _ hB)).mono ?_
  rintro e r5 ⟨rfl, b⟩
  replace hL := hL.below b
  replace hB := hB.trans (b.mono hB.size)
  clear b
  have hL := hL.push nul
  replace hB := hB.alloc hB.size (vObj (nul : V3).1 (nul : V3).2.1 (nul : V3).2.2)
  obtain ⟨c0, c1, c2⟩ := hL (w.heap.size, nul) (by simp)
  simp only at c0 c1 c2
  have hlt : w.heap.size < (r5.alloc (vObj 0 0 ⟨#[]⟩)).heap.size := lt_of_cell_some c0
  go_wp2_with fail
  go_cut [12, 13] from 55 to 61 (fun x y wx => ∃ A, x = .pointer (some ⟨A, 0, none⟩) ∧ y = .int .i64 0 ∧ Boxes wx ((A, nul) :: [(r5.heap.size, nul), (r4.heap.size, nul), (r3.heap.size, (2, -1, ⟨#[]⟩)), (r2.heap.size, (2, -3, ⟨#[]⟩)), (r1.heap.size, (2, 5, ⟨#[]⟩)), (w.heap.size, nul)]) ∧ Below w.heap.size w wx)
  case first =>
    generalize r5.alloc (Obj.cells #[Value.int .i64 0, Value.int .i64 0, Value.string ⟨#[]⟩] 45) = W at *
    have MK : Hid (∀ w', Below W.heap.size W w' → w'.cell? ⟨w.heap.size, 0, none⟩ = some (.int .i64 0) ∧ w'.cell? ⟨w.heap.size, 1, none⟩ = some (.int .i64 0) ∧ w'.cell? ⟨w.heap.size, 2, none⟩ = some (.string ⟨#[]⟩) ∧ Below W.heap.size W w') := Lib.hid fun w' hb => ⟨(hb.cell hlt).trans c0, (hb.cell hlt).trans c1, (hb.cell hlt).trans c2, hb⟩
    have HW : Hid (∀ w', Below W.heap.size W w' → Bs w') := Lib.hid fun w' hb => HS.out _ (hB.trans (hb.mono hB.size))
    have sW := Nat.le_refl W.heap.size
    go_region_with ((first
      | (go_at_call 16; refine (lawOf_any 1 _).mono ?_; rintro e wa ⟨rfl, b⟩
         have B1 : Below W.heap.size W wa := Below.trans (by go_grown) (b.mono (by simp))
         have s1 : W.heap.size ≤ wa.heap.size := B1.size
         have hlt1 : w.heap.size < wa.heap.size := Nat.lt_of_lt_of_le hlt s1
         obtain ⟨c0, c1, c2, -⟩ := MK.out _ B1
         try (have hN := nul_first b; have hN0 := hN; obtain ⟨p0, p1, p2, p3, p4, p5, p6⟩ := hN0))
      | (go_at_call 14; refine (S.w6c _ _ (HW.out _ (B1.trans (by go_grown))) (by go_cell) (by go_cell) (by go_cell) (by go_cell) (by go_cell) (by go_cell)).mono ?_; rintro e wb ⟨rfl, b⟩
         have B2 : Below W.heap.size W wb := Below.trans (B1.trans (by go_grown)) (b.mono (by simp; omega))
         have s2 : W.heap.size ≤ wb.heap.size := B2.size
         first
           | (have hX := nul_late b; obtain ⟨q0, q1, q2, q3, q4, q5, q6⟩ := hX)
           | (have hX := nul_mid b; obtain ⟨q0, q1, q2, q3, q4, q5, q6⟩ := hX)
           | (have hX := nul_far hN b; obtain ⟨q0, q1, q2, q3, q4, q5, q6⟩ := hX)
           | skip)))
    all_goals (go_wp2_with fail; go_meet; exact ⟨_, rfl, rfl, meet_box hL hB (by go_grown) (by go_cell) (by go_cell) (by go_cell)⟩)
  case rest =>
    rename World => w5x
    obtain ⟨A5, rfl, rfl, hL', hB'⟩ := hcut
    clear hL hB c0 c1 c2 hlt
    have hL := hL'
    have hB := hB'
    clear hL' hB'
    obtain ⟨c0, c1, c2⟩ := hL (w.heap.size, nul) (by simp)
    simp only at c0 c1 c2
    have hlt : w.heap.size < w5x.heap.size := lt_of_cell_some c0
    go_wp2_with fail
    go_cut [14, 15] from 62 to 68 (fun x y wx => ∃ A, x = .pointer (some ⟨A, 0, none⟩) ∧ y = .int .i64 0 ∧ Boxes wx ((A, (1, 1, ⟨#[]⟩)) :: [(A5, nul), (r5.heap.size, nul), (r4.heap.size, nul), (r3.heap.size, (2, -1, ⟨#[]⟩)), (r2.heap.size, (2, -3, ⟨#[]⟩)), (r1.heap.size, (2, 5, ⟨#[]⟩)), (w.heap.size, nul)]) ∧ Below w.heap.size w wx)
    case first =>
      obtain ⟨W, rfl⟩ : ∃ W, W = w5x := ⟨_, rfl⟩
      have MK : Hid (∀ w', Below W.heap.size W w' → w'.cell? ⟨w.heap.size, 0, none⟩ = some (.int .i64 0) ∧ w'.cell? ⟨w.heap.size, 1, none⟩ = some (.int .i64 0) ∧ w'.cell? ⟨w.heap.size, 2, none⟩ = some (.string ⟨#[]⟩) ∧ Below W.heap.size W w') := Lib.hid fun w' hb => ⟨(hb.cell hlt).trans c0, (hb.cell hlt).trans c1, (hb.cell hlt).trans c2, hb⟩
      have HW : Hid (∀ w', Below W.heap.size W w' → Bs w') := Lib.hid fun w' hb => HS.out _ (hB.trans (hb.mono hB.size))
      have sW := Nat.le_refl W.heap.size
      go_region_with ((first
        | (go_at_call 17; refine (refOf_1 _).mono ?_; rintro e wa ⟨rfl, b⟩
           have B1 : Below W.heap.size W wa := Below.trans (by go_grown) (b.mono (by simp))
           have s1 : W.heap.size ≤ wa.heap.size := B1.size
           have hlt1 : w.heap.size < wa.heap.size := Nat.lt_of_lt_of_le hlt s1
           obtain ⟨c0, c1, c2, -⟩ := MK.out _ B1
           try (have hN := nul_first b; have hN0 := hN; obtain ⟨p0, p1, p2, p3, p4, p5, p6⟩ := hN0))
        | (go_at_call 14; refine (S.w7c _ _ (HW.out _ (B1.trans (by go_grown))) (by go_cell) (by go_cell) (by go_cell) (by go_cell) (by go_cell) (by go_cell)).mono ?_; rintro e wb ⟨rfl, b⟩
           have B2 : Below W.heap.size W wb := Below.trans (B1.trans (by go_grown)) (b.mono (by simp; omega))
           have s2 : W.heap.size ≤ wb.heap.size := B2.size
           first
             | (have hX := nul_late b; obtain ⟨q0, q1, q2, q3, q4, q5, q6⟩ := hX)
             | (have hX := nul_mid b; obtain ⟨q0, q1, q2, q3, q4, q5, q6⟩ := hX)
             | (have hX := nul_far hN b; obtain ⟨q0, q1, q2, q3, q4, q5, q6⟩ := hX)
             | skip)))
      all_goals (go_wp2_with fail; go_meet; exact ⟨_, rfl, rfl, meet_box hL hB (by go_grown) (by go_cell) (by go_cell) (by go_cell)⟩)
    case rest =>
      rename World => w6x
      obtain ⟨A6, rfl, rfl, hL', hB'⟩ := hcut
      clear hL hB c0 c1 c2 hlt
      have hL := hL'
      have hB := hB'
      clear hL' hB'
      go_wp2_with fail
      refine (lawOf_any 1 _).mono ?_
      rintro e w1 ⟨rfl, b⟩
      replace hL := hL.below b
      replace hB := hB.trans (b.mono hB.size)
      clear b
      go_wp2_with fail
      refine (S.w8 _ (HS.out _ hB)).mono ?_
      rintro e r7 ⟨rfl, b⟩
      replace hL := hL.below b
      replace hB := hB.trans (b.mono hB.size)
      clear b
      have hL := hL.push nul
      replace hB := hB.alloc hB.size (vObj (nul : V3).1 (nul : V3).2.1 (nul : V3).2.2)
      go_wp2_with fail
      refine (S.w9c _ _ (HS.out _ (hB.alloc hB.size _)) (by go_cell) (by go_cell)).mono ?_
      rintro e r8 ⟨rfl, b⟩
      replace hL := (hL.alloc _).below b
      replace hB := (hB.alloc hB.size _).trans (b.mono (hB.alloc hB.size _).size)
      clear b
      obtain ⟨p0, p1, p2⟩ := hL (r1.heap.size, (2, 5, ⟨#[]⟩)) (by simp)
      obtain ⟨q0, q1, q2⟩ := hL (r2.heap.size, (2, -3, ⟨#[]⟩)) (by simp)
      obtain ⟨s0, s1, s2⟩ := hL (r3.heap.size, (2, -1, ⟨#[]⟩)) (by simp)
      obtain ⟨t0, t1, t2⟩ := hL (w.heap.size, nul) (by simp)
      obtain ⟨x0, x1, x2⟩ := hL (A5, nul) (by simp)
      obtain ⟨y0, y1, y2⟩ := hL (A6, (1, 1, ⟨#[]⟩)) (by simp)
      simp only at p0 p1 p2 q0 q1 q2 s0 s1 s2 t0 t1 t2 x0 x1 x2 y0 y1 y2
      go_wp2_with fail
      have lp : r1.heap.size < r8.heap.size := lt_of_cell_some p0
      have lq : r2.heap.size < r8.heap.size := lt_of_cell_some q0
      have ls : r3.heap.size < r8.heap.size := lt_of_cell_some s0
      have lt : w.heap.size < r8.heap.size := lt_of_cell_some t0
      have lx : A5 < r8.heap.size := lt_of_cell_some x0
      have ly : A6 < r8.heap.size := lt_of_cell_some y0
      have MK : Hid (∀ w', Below r8.heap.size r8 w' → w'.cell? ⟨r1.heap.size, 0, none⟩ = some (.int .i64 2) ∧ w'.cell? ⟨r1.heap.size, 1, none⟩ = some (.int .i64 5) ∧ w'.cell? ⟨r1.heap.size, 2, none⟩ = some (.string ⟨#[]⟩) ∧ w'.cell? ⟨r2.heap.size, 0, none⟩ = some (.int .i64 2) ∧ w'.cell? ⟨r2.heap.size, 1, none⟩ = some (.int .i64 (-3)) ∧ w'.cell? ⟨r2.heap.size, 2, none⟩ = some (.string ⟨#[]⟩) ∧ w'.cell? ⟨r3.heap.size, 0, none⟩ = some (.int .i64 2) ∧ w'.cell? ⟨r3.heap.size, 1, none⟩ = some (.int .i64 (-1)) ∧ w'.cell? ⟨r3.heap.size, 2, none⟩ = some (.string ⟨#[]⟩) ∧ w'.cell? ⟨w.heap.size, 0, none⟩ = some (.int .i64 0) ∧ w'.cell? ⟨w.heap.size, 1, none⟩ = some (.int .i64 0) ∧ w'.cell? ⟨w.heap.size, 2, none⟩ = some (.string ⟨#[]⟩) ∧ w'.cell? ⟨A5, 0, none⟩ = some (.int .i64 0) ∧ w'.cell? ⟨A5, 1, none⟩ = some (.int .i64 0) ∧ w'.cell? ⟨A5, 2, none⟩ = some (.string ⟨#[]⟩) ∧ w'.cell? ⟨A6, 0, none⟩ = some (.int .i64 1) ∧ w'.cell? ⟨A6, 1, none⟩ = some (.int .i64 1) ∧ w'.cell? ⟨A6, 2, none⟩ = some (.string ⟨#[]⟩) ∧ Below r8.heap.size r8 w') := Lib.hid fun w' hb => ⟨(hb.cell (p := ⟨r1.heap.size, 0, none⟩) lp).trans p0, (hb.cell (p := ⟨r1.heap.size, 1, none⟩) lp).trans p1, (hb.cell (p := ⟨r1.heap.size, 2, none⟩) lp).trans p2, (hb.cell (p := ⟨r2.heap.size, 0, none⟩) lq).trans q0, (hb.cell (p := ⟨r2.heap.size, 1, none⟩) lq).trans q1, (hb.cell (p := ⟨r2.heap.size, 2, none⟩) lq).trans q2, (hb.cell (p := ⟨r3.heap.size, 0, none⟩) ls).trans s0, (hb.cell (p := ⟨r3.heap.size, 1, none⟩) ls).trans s1, (hb.cell (p := ⟨r3.heap.size, 2, none⟩) ls).trans s2, (hb.cell (p := ⟨w.heap.size, 0, none⟩) lt).trans t0, (hb.cell (p := ⟨w.heap.size, 1, none⟩) lt).trans t1, (hb.cell (p := ⟨w.heap.size, 2, none⟩) lt).trans t2, (hb.cell (p := ⟨A5, 0, none⟩) lx).trans x0, (hb.cell (p := ⟨A5, 1, none⟩) lx).trans x1, (hb.cell (p := ⟨A5, 2, none⟩) lx).trans x2, (hb.cell (p := ⟨A6, 0, none⟩) ly).trans y0, (hb.cell (p := ⟨A6, 1, none⟩) ly).trans y1, (hb.cell (p := ⟨A6, 2, none⟩) ly).trans y2, hb⟩
      have ep : ∀ w, (binOp .eql 45 (.agg #[.int .i64 2, .int .i64 5, .string ⟨#[]⟩]) (.agg #[.int .i64 2, .int .i64 5, .string ⟨#[]⟩])).run Try.prog w = .ok (.bool true) w := fun _ => by kernel_rfl
      have eq : ∀ w, (binOp .eql 45 (.agg #[.int .i64 2, .int .i64 (-3), .string ⟨#[]⟩]) (.agg #[.int .i64 2, .int .i64 (-3), .string ⟨#[]⟩])).run Try.prog w = .ok (.bool true) w := fun _ => by kernel_rfl
      have es : ∀ w, (binOp .eql 45 (.agg #[.int .i64 2, .int .i64 (-1), .string ⟨#[]⟩]) (.agg #[.int .i64 2, .int .i64 (-1), .string ⟨#[]⟩])).run Try.prog w = .ok (.bool true) w := fun _ => by kernel_rfl
      have ex : ∀ w, (binOp .eql 45 (.agg #[.int .i64 0, .int .i64 0, .string ⟨#[]⟩]) (.agg #[.int .i64 0, .int .i64 0, .string ⟨#[]⟩])).run Try.prog w = .ok (.bool true) w := fun _ => by kernel_rfl
      have ey : ∀ w, (binOp .eql 45 (.agg #[.int .i64 1, .int .i64 1, .string ⟨#[]⟩]) (.agg #[.int .i64 1, .int .i64 1, .string ⟨#[]⟩])).run Try.prog w = .ok (.bool true) w := fun _ => by kernel_rfl
      go_region_held3 (fun w' => w'.cell? ⟨r1.heap.size, 0, none⟩ = some (.int .i64 2) ∧ w'.cell? ⟨r1.heap.size, 1, none⟩ = some (.int .i64 5) ∧ w'.cell? ⟨r1.heap.size, 2, none⟩ = some (.string ⟨#[]⟩) ∧ w'.cell? ⟨r2.heap.size, 0, none⟩ = some (.int .i64 2) ∧ w'.cell? ⟨r2.heap.size, 1, none⟩ = some (.int .i64 (-3)) ∧ w'.cell? ⟨r2.heap.size, 2, none⟩ = some (.string ⟨#[]⟩) ∧ w'.cell? ⟨r3.heap.size, 0, none⟩ = some (.int .i64 2) ∧ w'.cell? ⟨r3.heap.size, 1, none⟩ = some (.int .i64 (-1)) ∧ w'.cell? ⟨r3.heap.size, 2, none⟩ = some (.string ⟨#[]⟩) ∧ w'.cell? ⟨w.heap.size, 0, none⟩ = some (.int .i64 0) ∧ w'.cell? ⟨w.heap.size, 1, none⟩ = some (.int .i64 0) ∧ w'.cell? ⟨w.heap.size, 2, none⟩ = some (.string ⟨#[]⟩) ∧ w'.cell? ⟨A5, 0, none⟩ = some (.int .i64 0) ∧ w'.cell? ⟨A5, 1, none⟩ = some (.int .i64 0) ∧ w'.cell? ⟨A5, 2, none⟩ = some (.string ⟨#[]⟩) ∧ w'.cell? ⟨A6, 0, none⟩ = some (.int .i64 1) ∧ w'.cell? ⟨A6, 1, none⟩ = some (.int .i64 1) ∧ w'.cell? ⟨A6, 2, none⟩ = some (.string ⟨#[]⟩) ∧ Below r8.heap.size r8 w')
        (first | exact MK.out _ ((Below.refl _ _).drew) | (obtain ⟨_, _, _, _, _, _, _, _, _, _, _, _, _, _, _, _, _, _, hBB⟩ := ‹_ ∧ _ ∧ _ ∧ _ ∧ _ ∧ _ ∧ _ ∧ _ ∧ _ ∧ _ ∧ _ ∧ _ ∧ _ ∧ _ ∧ _ ∧ _ ∧ _ ∧ _ ∧ Below _ _ _›; first | exact MK.out _ hBB | exact MK.out _ (hBB.trans (hb.mono hBB.size))))
        (first | (go_at_call 13; refine (num_any _ _).mono ?_; rintro e w' ⟨rfl, rfl⟩) | (go_at_call 16; refine (lawOf_any _ _).mono ?_; rintro e w' ⟨rfl, hb⟩) | (go_at_call 17; refine (refOf_1 _).mono ?_; rintro e w' ⟨rfl, hb⟩))
      all_goals obtain ⟨_, _, _, _, _, _, _, _, _, _, _, _, _, _, _, _, _, _, hBB⟩ := ‹_ ∧ _ ∧ _ ∧ _ ∧ _ ∧ _ ∧ _ ∧ _ ∧ _ ∧ _ ∧ _ ∧ _ ∧ _ ∧ _ ∧ _ ∧ _ ∧ _ ∧ _ ∧ Below _ _ _›
      all_goals (go_wp2; go_ret; exact ⟨rfl, hB.trans (hBB.mono hB.size)⟩)
end Go.Proofs.Ytoknfdgejiachaa

