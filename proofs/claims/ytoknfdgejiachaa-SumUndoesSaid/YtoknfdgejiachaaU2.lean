import Derived.Test.YtoknfdgejiachaaU1
import Derived.Test.YtoknfdgejiachaaL2
namespace Go.Proofs.Ytoknfdgejiachaa
open Go.RowKit Go.Shelf

theorem num_same (e : Int) (w : World) : Calls Try.prog 13 #[.int .i64 e] w fun r w' => r = .returned (.int .i64 e) ∧ w' = w := (num_any e w).mono fun _ _ h => ⟨h.1, h.2.symm⟩
/-- Do of two values whose answer is known. -/
theorem SumOk.got {Bs : World → Prop} (S : SumOk Bs) (o : Int) (x y r : V3) (e : Int) (B : Nat) (w : World) (h : Bs w) (hx : x.2.2.size ≤ 100000 ∧ In64 x.2.1) (hy : y.2.2.size ≤ 100000 ∧ In64 y.2.1) (hd : doE o [x, y] = (r, e))
    (c0 : w.cell? ⟨B, 0, none⟩ = some (.int .i64 x.1)) (c1 : w.cell? ⟨B, 1, none⟩ = some (.int .i64 x.2.1)) (c2 : w.cell? ⟨B, 2, none⟩ = some (.string x.2.2))
    (c3 : w.cell? ⟨B, 3, none⟩ = some (.int .i64 y.1)) (c4 : w.cell? ⟨B, 4, none⟩ = some (.int .i64 y.2.1)) (c5 : w.cell? ⟨B, 5, none⟩ = some (.string y.2.2)) :
    Calls Try.prog 14 #[.int .i64 o, .slice (some ⟨B, 0, none⟩) 2 2] w fun r' w' => r' = .returned (.tuple #[val r, .int .i64 e]) ∧ Below w.heap.size w w' := by
  have := S.do2c o x y B w h hx hy c0 c1 c2 c3 c4 c5
  rw [hd] at this
  exact this

set_option maxRecDepth 100000 in
set_option maxHeartbeats 8000000 in
theorem undoes_of {Bs : World → Prop} (S : SumOk Bs) (m n se : Int) (sv dv : V3) (w : World) (hw : Bs w) (ha : In64 m) (hb : In64 n)
    (D1 : Hid (doE 1 [ofN m, ofN n] = (sv, se))) (D2 : Hid (doE 2 [sv, ofN n] = (dv, 0))) (fs : sv.2.2.size ≤ 100000 ∧ In64 sv.2.1)
    (HV : Hid ((se = 0 ∧ dv = ofN m) ∨ (se == 0) = false))
    (qv rv : V3) (qe re : Int) (D4 : Hid (doE 4 [ofN m, ofN n] = (qv, qe))) (D5 : Hid (doE 5 [ofN m, ofN n] = (rv, re)))
    (HQ : Hid ((n = 0 ∧ qe = 121 ∧ re = 121) ∨ ((n == 0) = false ∧ n = -1 ∧ qe = 122) ∨ ((n == 0) = false ∧ qe = 0 ∧ re = 0 ∧ ∃ q r p, qv = ofN q ∧ rv = ofN r ∧ In64 q ∧ In64 r ∧ In64 p ∧ doE 3 [ofN q, ofN n] = (ofN p, 0) ∧ doE 1 [ofN p, ofN r] = (ofN m, 0)))) :
    Calls Try.prog 6 #[.int .i64 m, .int .i64 n] w fun r w' => r = .returned (.bool true) ∧ Below w.heap.size w w' := by
  have HS : Hid (∀ w', Below w.heap.size w w' → Bs w') := Lib.hid fun w' hb => S.below hw hb
  have hL : Boxes w [] := fun x hx => by cases hx
  have hB : Below w.heap.size w w := Below.refl _ _
  have FA := Lib.hid ha
  have FB := Lib.hid hb
  have FS := Lib.hid fs
  clear hw fs ha hb
  go_enter Try.func6, Try.ntmps6
  go_wp2_with fail
  refine (lawOf_any m _).mono ?_
  rintro e w1 ⟨rfl, b⟩
  replace hL := hL.below b
  replace hB := hB.trans (b.mono hB.size)
  clear b
  go_wp2_with fail
  refine (lawOf_any n _).mono ?_
  rintro e w1 ⟨rfl, b⟩
  replace hL := hL.below b
  replace hB := hB.trans (b.mono hB.size)
  clear b
  go_wp2_with fail
  refine (S.got 1 (ofN m) (ofN n) sv se _ _ (HS.out _ (hB.alloc hB.size _)) (fits_n FA.out) (fits_n FB.out) D1.out (by go_cell) (by go_cell) (by go_cell) (by go_cell) (by go_cell) (by go_cell)).mono ?_
  rintro e r1 ⟨rfl, b⟩
  replace hL := (hL.alloc _).below b
  replace hB := (hB.alloc hB.size _).trans (b.mono (hB.alloc hB.size _).size)
  clear b
  replace hL := hL.push sv
  replace hB := hB.alloc hB.size (vObj (sv : V3).1 (sv : V3).2.1 (sv : V3).2.2)
  obtain ⟨c0, c1, c2⟩ := hL (r1.heap.size, sv) (by simp)
  simp only at c0 c1 c2
  have hlt : r1.heap.size < (r1.alloc (vObj sv.1 sv.2.1 sv.2.2)).heap.size := lt_of_cell_some c0
  obtain ⟨nb, hnb⟩ : ∃ nb, nb = r1.heap.size := ⟨_, rfl⟩
  go_wp2_with fail
  go_cut [7, 8] from 26 to 33 (fun x y wx => ∃ A, x = .pointer (some ⟨A, 0, none⟩) ∧ y = .int .i64 0 ∧ Boxes wx ((A, dv) :: [(r1.heap.size, sv)]) ∧ Below w.heap.size w wx)
  case first =>
    clear hnb nb
    generalize r1.alloc (Obj.cells #[Value.int .i64 sv.1, Value.int .i64 sv.2.1, Value.string sv.2.2] 45) = W at *
    have MK : Hid (∀ w', Below W.heap.size W w' → w'.cell? ⟨r1.heap.size, 0, none⟩ = some (.int .i64 (sv : V3).1) ∧ w'.cell? ⟨r1.heap.size, 1, none⟩ = some (.int .i64 (sv : V3).2.1) ∧ w'.cell? ⟨r1.heap.size, 2, none⟩ = some (.string (sv : V3).2.2) ∧ Below W.heap.size W w') := Lib.hid fun w' hb => ⟨(hb.cell hlt).trans c0, (hb.cell hlt).trans c1, (hb.cell hlt).trans c2, hb⟩
    have HW : Hid (∀ w', Below W.heap.size W w' → Bs w') := Lib.hid fun w' hb => HS.out _ (hB.trans (hb.mono hB.size))
    have sW := Nat.le_refl W.heap.size
    go_region_with ((first
      | (go_at_call 16; refine (lawOf_any n _).mono ?_; rintro e wa ⟨rfl, b⟩
         have B1 : Below W.heap.size W wa := Below.trans (by go_grown) (b.mono (by simp))
         have s1 : W.heap.size ≤ wa.heap.size := B1.size
         have hlt1 : r1.heap.size < wa.heap.size := Nat.lt_of_lt_of_le hlt s1
         obtain ⟨c0, c1, c2, -⟩ := MK.out _ B1
         try (have hN := nul_first b; have hN0 := hN; obtain ⟨p0, p1, p2, p3, p4, p5, p6⟩ := hN0))
      | (go_at_call 14; refine (S.got 2 sv (ofN n) dv 0 _ _ (HW.out _ (B1.trans (by go_grown))) FS.out (fits_n FB.out) D2.out (by go_cell) (by go_cell) (by go_cell) (by go_cell) (by go_cell) (by go_cell)).mono ?_; rintro e wb ⟨rfl, b⟩
         have B2 : Below W.heap.size W wb := Below.trans (B1.trans (by go_grown)) (b.mono (by simp; omega))
         have s2 : W.heap.size ≤ wb.heap.size := B2.size
         first
           | (have hX := nul_late b; obtain ⟨q0, q1, q2, q3, q4, q5, q6⟩ := hX)
           | (have hX := nul_mid b; obtain ⟨q0, q1, q2, q3, q4, q5, q6⟩ := hX)
           | (have hX := nul_far hN b; obtain ⟨q0, q1, q2, q3, q4, q5, q6⟩ := hX)
           | skip)))
    all_goals (go_wp2_with fail; go_meet; exact ⟨_, rfl, rfl, meet_box hL hB (by go_grown) (by go_cell) (by go_cell) (by go_cell)⟩)
  case rest =>
    rename World => w2
    obtain ⟨Aw2, rfl, rfl, hL', hB'⟩ := hcut
    clear hL hB c0 c1 c2 hlt hnb nb
    have hL := hL'
    have hB := hB'
    clear hL' hB'
    obtain ⟨p0, p1, p2⟩ := hL (Aw2, dv) (by simp)
    simp only at p0 p1 p2
    have lp : Aw2 < w2.heap.size := lt_of_cell_some p0
    go_wp2_with fail
    go_cut [47] from 34 to 47 (fun x wx => x = .bool false ∧ Below w.heap.size w wx)
    case first =>
      rcases HV.out with ⟨e1, e2⟩ | e1
      · subst e1 e2
        have MK : Hid (∀ w', Below w2.heap.size w2 w' → w'.cell? ⟨Aw2, 0, none⟩ = some (.int .i64 2) ∧ w'.cell? ⟨Aw2, 1, none⟩ = some (.int .i64 m) ∧ w'.cell? ⟨Aw2, 2, none⟩ = some (.string ⟨#[]⟩) ∧ Below w2.heap.size w2 w') := Lib.hid fun w' hb => ⟨(hb.cell lp).trans p0, (hb.cell lp).trans p1, (hb.cell lp).trans p2, hb⟩
        have en := neq_same 2 m ⟨#[]⟩
        go_region_held3 (fun w' => w'.cell? ⟨Aw2, 0, none⟩ = some (.int .i64 2) ∧ w'.cell? ⟨Aw2, 1, none⟩ = some (.int .i64 m) ∧ w'.cell? ⟨Aw2, 2, none⟩ = some (.string ⟨#[]⟩) ∧ Below w2.heap.size w2 w')
          (first | exact MK.out _ ((Below.refl _ _).drew) | (obtain ⟨_, _, _, hBB⟩ := ‹_ ∧ _ ∧ _ ∧ Below _ _ _›; first | exact MK.out _ hBB | exact MK.out _ (hBB.trans (hb.mono hBB.size))))
          (first | (go_at_call 13; refine (num_any _ _).mono ?_; rintro e w' ⟨rfl, rfl⟩) | (go_at_call 16; refine (lawOf_any _ _).mono ?_; rintro e w' ⟨rfl, hb⟩))
        all_goals obtain ⟨_, _, _, hBB⟩ := ‹_ ∧ _ ∧ _ ∧ Below _ _ _›
        all_goals (go_wp2_with fail; go_meet; exact ⟨rfl, hB.trans (hBB.mono hB.size)⟩)
      · go_quiet ((go_at_call 13; exact Calls.quiet_of_same (num_same _ _)))
        go_wp2_with fail
        go_meet
        exact ⟨rfl, below_drewN hB _⟩
    case rest =>
      rename World => w3
      obtain ⟨rfl, hB'⟩ := hcut
      clear hL hB p0 p1 p2 lp HV
      have hL : Boxes w3 [] := fun x hx => by cases hx
      have hB := hB'
      clear hB'
      go_wp2_with fail
      refine (lawOf_any m _).mono ?_
      rintro e w1 ⟨rfl, b⟩
      replace hL := hL.below b
      replace hB := hB.trans (b.mono hB.size)
      clear b
      go_wp2_with fail
      refine (lawOf_any n _).mono ?_
      rintro e w1 ⟨rfl, b⟩
      replace hL := hL.below b
      replace hB := hB.trans (b.mono hB.size)
      clear b
      go_wp2_with fail
      refine (S.got 4 (ofN m) (ofN n) qv qe _ _ (HS.out _ (hB.alloc hB.size _)) (fits_n FA.out) (fits_n FB.out) D4.out (by go_cell) (by go_cell) (by go_cell) (by go_cell) (by go_cell) (by go_cell)).mono ?_
      rintro e r4 ⟨rfl, b⟩
      replace hL := (hL.alloc _).below b
      replace hB := (hB.alloc hB.size _).trans (b.mono (hB.alloc hB.size _).size)
      clear b
      replace hL := hL.push qv
      replace hB := hB.alloc hB.size (vObj (qv : V3).1 (qv : V3).2.1 (qv : V3).2.2)
      go_wp2_with fail
      refine (lawOf_any m _).mono ?_
      rintro e w1 ⟨rfl, b⟩
      replace hL := hL.below b
      replace hB := hB.trans (b.mono hB.size)
      clear b
      go_wp2_with fail
      refine (lawOf_any n _).mono ?_
      rintro e w1 ⟨rfl, b⟩
      replace hL := hL.below b
      replace hB := hB.trans (b.mono hB.size)
      clear b
      go_wp2_with fail
      refine (S.got 5 (ofN m) (ofN n) rv re _ _ (HS.out _ (hB.alloc hB.size _)) (fits_n FA.out) (fits_n FB.out) D5.out (by go_cell) (by go_cell) (by go_cell) (by go_cell) (by go_cell) (by go_cell)).mono ?_
      rintro e r5 ⟨rfl, b⟩
      replace hL := (hL.alloc _).below b
      replace hB := (hB.alloc hB.size _).trans (b.mono (hB.alloc hB.size _).size)
      clear b
      replace hL := hL.push rv
      replace hB := hB.alloc hB.size (vObj (rv : V3).1 (rv : V3).2.1 (rv : V3).2.2)
      rcases HQ.out with ⟨e0, e1, e2⟩ | ⟨e0, e1, e2⟩ | ⟨e0, e1, e2, q, r, p, e3, e4, iq, ir, ip, d3, d1⟩
      · subst e0 e1 e2
        clear HQ
        go_wp2_with (first | (go_at_call 13; refine (num_any _ _).mono ?_; rintro e w' ⟨rfl, rfl⟩) | (go_at_call 7; refine (works_of S _ (HS.out _ hB)).mono ?_; rintro e w' ⟨rfl, hb⟩))
        go_ret
        exact ⟨rfl, hB.trans (hb.mono hB.size)⟩
      · subst e1 e2
        clear HQ
        go_wp2_with (first | (go_at_call 13; refine (num_any _ _).mono ?_; rintro e w' ⟨rfl, rfl⟩) | (go_at_call 7; refine (works_of S _ (HS.out _ hB)).mono ?_; rintro e w' ⟨rfl, hb⟩))
        go_ret
        exact ⟨rfl, hB.trans (hb.mono hB.size)⟩
      · subst e1 e2 e3 e4
        have IQ := Lib.hid iq
        have IR := Lib.hid ir
        have IP := Lib.hid ip
        have D3 := Lib.hid d3
        have D1b := Lib.hid d1
        clear iq ir ip d3 d1 HQ
        go_upto_region 11 with (go_at_call 13; refine (num_any _ _).mono ?_; rintro e w' ⟨rfl, rfl⟩)
        obtain ⟨c0, c1, c2⟩ := hL (r4.heap.size, (ofN q)) (by simp)
        simp only at c0 c1 c2
        have hlt : r4.heap.size < (r5.alloc (vObj 2 r ⟨#[]⟩)).heap.size := lt_of_cell_some c0
        obtain ⟨nb, hnb⟩ : ∃ nb, nb = r4.heap.size := ⟨_, rfl⟩
        go_wp2_with fail
        go_cut [13, 14] from 92 to 99 (fun x y wx => ∃ A, x = .pointer (some ⟨A, 0, none⟩) ∧ y = .int .i64 0 ∧ Boxes wx ((A, (ofN p)) :: [(r5.heap.size, ofN r), (r4.heap.size, ofN q)]) ∧ Below w.heap.size w wx)
        case first =>
          clear hnb nb
          generalize r5.alloc (Obj.cells #[Value.int .i64 2, Value.int .i64 r, Value.string ⟨#[]⟩] 45) = W at *
          have MK : Hid (∀ w', Below W.heap.size W w' → w'.cell? ⟨r4.heap.size, 0, none⟩ = some (.int .i64 ((ofN q) : V3).1) ∧ w'.cell? ⟨r4.heap.size, 1, none⟩ = some (.int .i64 ((ofN q) : V3).2.1) ∧ w'.cell? ⟨r4.heap.size, 2, none⟩ = some (.string ((ofN q) : V3).2.2) ∧ Below W.heap.size W w') := Lib.hid fun w' hb => ⟨(hb.cell hlt).trans c0, (hb.cell hlt).trans c1, (hb.cell hlt).trans c2, hb⟩
          have HW : Hid (∀ w', Below W.heap.size W w' → Bs w') := Lib.hid fun w' hb => HS.out _ (hB.trans (hb.mono hB.size))
          have sW := Nat.le_refl W.heap.size
          go_region_with ((first
            | (go_at_call 16; refine (lawOf_any n _).mono ?_; rintro e wa ⟨rfl, b⟩
               have B1 : Below W.heap.size W wa := Below.trans (by go_grown) (b.mono (by simp))
               have s1 : W.heap.size ≤ wa.heap.size := B1.size
               have hlt1 : r4.heap.size < wa.heap.size := Nat.lt_of_lt_of_le hlt s1
               obtain ⟨c0, c1, c2, -⟩ := MK.out _ B1
               try (have hN := nul_first b; have hN0 := hN; obtain ⟨p0, p1, p2, p3, p4, p5, p6⟩ := hN0))
            | (go_at_call 14; refine (S.got 3 (ofN q) (ofN n) (ofN p) 0 _ _ (HW.out _ (B1.trans (by go_grown))) (fits_n IQ.out) (fits_n FB.out) D3.out (by go_cell) (by go_cell) (by go_cell) (by go_cell) (by go_cell) (by go_cell)).mono ?_; rintro e wb ⟨rfl, b⟩
               have B2 : Below W.heap.size W wb := Below.trans (B1.trans (by go_grown)) (b.mono (by simp; omega))
               have s2 : W.heap.size ≤ wb.heap.size := B2.size
               first
                 | (have hX := nul_late b; obtain ⟨q0, q1, q2, q3, q4, q5, q6⟩ := hX)
                 | (have hX := nul_mid b; obtain ⟨q0, q1, q2, q3, q4, q5, q6⟩ := hX)
                 | (have hX := nul_far hN b; obtain ⟨q0, q1, q2, q3, q4, q5, q6⟩ := hX)
                 | skip)))
          all_goals (go_wp2_with fail; go_meet; exact ⟨_, rfl, rfl, meet_box hL hB (by go_grown) (by go_cell) (by go_cell) (by go_cell)⟩)
        case rest =>
          rename World => w4
          obtain ⟨Aw4, rfl, rfl, hL', hB'⟩ := hcut
          clear hL hB c0 c1 c2 hlt hnb nb
          have hL := hL'
          have hB := hB'
          clear hL' hB'
          obtain ⟨p0, p1, p2⟩ := hL (Aw4, ofN p) (by simp)
          obtain ⟨q0, q1, q2⟩ := hL (r5.heap.size, ofN r) (by simp)
          simp only at p0 p1 p2 q0 q1 q2
          go_wp2_with fail
          refine (S.got 1 (ofN p) (ofN r) (ofN m) 0 _ _ (HS.out _ (hB.alloc hB.size _)) (fits_n IP.out) (fits_n IR.out) D1b.out (by go_cell) (by go_cell) (by go_cell) (by go_cell) (by go_cell) (by go_cell)).mono ?_
          rintro e r6 ⟨rfl, b⟩
          clear p0 p1 p2 q0 q1 q2
          replace hL := (hL.alloc _).below b
          replace hB := (hB.alloc hB.size _).trans (b.mono (hB.alloc hB.size _).size)
          clear b
          replace hL := hL.push (ofN m)
          replace hB := hB.alloc hB.size (vObj ((ofN m) : V3).1 ((ofN m) : V3).2.1 ((ofN m) : V3).2.2)
          obtain ⟨p0, p1, p2⟩ := hL (r6.heap.size, ofN m) (by simp)
          simp only at p0 p1 p2
          have lp : r6.heap.size < (r6.alloc (vObj 2 m ⟨#[]⟩)).heap.size := lt_of_cell_some p0
          go_wp2_with fail
          generalize r6.alloc (Obj.cells #[Value.int .i64 2, Value.int .i64 m, Value.string ⟨#[]⟩] 45) = W at *
          have MK : Hid (∀ w', Below W.heap.size W w' → w'.cell? ⟨r6.heap.size, 0, none⟩ = some (.int .i64 2) ∧ w'.cell? ⟨r6.heap.size, 1, none⟩ = some (.int .i64 m) ∧ w'.cell? ⟨r6.heap.size, 2, none⟩ = some (.string ⟨#[]⟩) ∧ Below W.heap.size W w') := Lib.hid fun w' hb => ⟨(hb.cell lp).trans p0, (hb.cell lp).trans p1, (hb.cell lp).trans p2, hb⟩
          have HW : Hid (∀ w', Below W.heap.size W w' → Bs w') := Lib.hid fun w' hb => HS.out _ (hB.trans (hb.mono hB.size))
          have en := eql_same 2 m ⟨#[]⟩
          go_region_held3 (fun w' => w'.cell? ⟨r6.heap.size, 0, none⟩ = some (.int .i64 2) ∧ w'.cell? ⟨r6.heap.size, 1, none⟩ = some (.int .i64 m) ∧ w'.cell? ⟨r6.heap.size, 2, none⟩ = some (.string ⟨#[]⟩) ∧ Below W.heap.size W w')
            (first | exact MK.out _ ((Below.refl _ _).drew) | (obtain ⟨_, _, _, hBB⟩ := ‹_ ∧ _ ∧ _ ∧ Below _ _ _›; first | exact MK.out _ hBB | exact MK.out _ (hBB.trans (hb.mono hBB.size))))
            (first | (go_at_call 13; refine (num_any _ _).mono ?_; rintro e w' ⟨rfl, rfl⟩) | (go_at_call 16; refine (lawOf_any _ _).mono ?_; rintro e w' ⟨rfl, hb⟩) | (go_at_call 7; refine (works_of S _ (HW.out _ (‹_ ∧ _ ∧ _ ∧ Below _ _ _›).2.2.2)).mono ?_; rintro e w' ⟨rfl, hb⟩))
          all_goals obtain ⟨_, _, _, hBB⟩ := ‹_ ∧ _ ∧ _ ∧ Below _ _ _›
          all_goals (go_wp2; go_ret; exact ⟨rfl, hB.trans (hBB.mono hB.size)⟩)
end Go.Proofs.Ytoknfdgejiachaa

