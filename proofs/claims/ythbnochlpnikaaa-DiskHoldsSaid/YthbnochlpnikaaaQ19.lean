/- DiskHolds, walked. -/
import Derived.Test.YthbnochlpnikaaaQ20
namespace Go.Proofs.Ythbnochlpnikaaa
open Go.RowKit Go.Shelf

theorem conv_sec {w : World} {B c : Nat} (hc : c < 256) (h : BytesAt w (some ⟨B, 0, none⟩) (List.replicate 64 c)) : (convert 47 9 (.slice (some ⟨B, 0, none⟩) 64 64)).run Try.prog w = .ok (.string (secS c)) w := by
  have := conv_at w (some ⟨B, 0, none⟩) 64 (List.replicate 64 c) (fun b hb => by rw [List.mem_replicate] at hb; omega) h
  rw [List.length_replicate] at this
  exact this
theorem few_crash {s : DS} (h1 : s.sync.length ≤ 100) (h2 : s.loose.length ≤ 100) (tear : Int) (keep : List Bool) : Few (crashS s tear keep).1 := by
  unfold crashS
  split
  · exact few_small s h1 h2
  · have h3 := crashF_length keep s.loose s.sync tear.toNat (tornS s keep) (tornS s keep + 1).toNat
    have h4 := (tornS_range s keep).2.1
    exact ⟨by simp only; omega, by simp⟩
set_option maxRecDepth 100000 in
set_option maxHeartbeats 2000000 in
theorem holds_main {Rep : DiskRep} (S : DiskOk Rep) (N : Nat) (hN : 1 ≤ N ∧ N ≤ 12) (L0 L1 : List (Nat × Nat)) (p0 p1 : Option Addr) (c0 c1 : Nat) (kp : Option Addr) (keep : List Bool) (kc : Nat) (w : World) (hl0 : L0.length ≤ 20) (hl1 : L1.length ≤ 20) (hkl : keep.length ≤ 40)
    (hb0 : ∀ x ∈ L0, x.1 < 256 ∧ x.2 < 256) (hb1 : ∀ x ∈ L1, x.1 < 256 ∧ x.2 < 256) (P0 : Hid (PairsAt w p0 L0)) (P1 : Hid (PairsAt w p1 L1)) (HK : Hid (BoolsAt w kp keep)) (hkn : kp = none → kc = 0) (hkc : keep.length ≤ kc ∧ kc ≤ 9223372036854775807) :
    Calls Try.prog 4 #[.int .i64 N, .agg #[.slice p0 L0.length c0, .slice p1 L1.length c1], .slice kp keep.length kc] w fun r w' => r = .returned (.bool true) ∧ Below w.heap.size w w' := by
  have WK := Lib.hid (fun w => works_any S w)
  have NM := Lib.hid num_any
  have HB0 := Lib.hid hb0
  have HB1 := Lib.hid hb1
  clear hb0 hb1
  obtain ⟨hN1, hN12⟩ := hN
  have hmb : ∀ w, (Instr.makeSlice 23 (.int .i64 N) (.int .i64 N)).run Try.prog w = .ok (.slice (some ⟨w.heap.size, 0, none⟩) N N) (w.alloc (.cells (madeCells #[.bool false] N) 4)) := fun w => run_make_row' (P := Try.prog) 23 4 (.bool false) 1 Try.underlying23 infoB rfl .i64 .i64 N (by omega) (by omega) w
  have hmk : ∀ w, (Instr.makeSlice 47 (.int .i64 N) (.int .i64 N)).run Try.prog w = .ok (.slice (some ⟨w.heap.size, 0, none⟩) N N) (w.alloc (.cells (madeCells #[.int .u8 0] N) 5)) := fun w => makeN w N (by omega)
  generalize hW0 : w.alloc (.cells #[.slice p0 L0.length c0, .slice p1 L1.length c1] 46) = w0
  have B0 : Below w.heap.size w w0 := by subst hW0; exact (Below.refl _ _).alloc (Nat.le_refl _) _
  have x0 : w0.cell? ⟨w.heap.size, 0, none⟩ = some (.slice p0 L0.length c0) := by subst hW0; go_cell
  have x1 : w0.cell? ⟨w.heap.size, 1, none⟩ = some (.slice p1 L1.length c1) := by subst hW0; go_cell
  have hsz : w.heap.size < w0.heap.size := by subst hW0; simp
  have KA : Hid (∀ w', Below w0.heap.size w0 w' → w'.cell? ⟨w.heap.size, 0, none⟩ = some (.slice p0 L0.length c0) ∧ w'.cell? ⟨w.heap.size, 1, none⟩ = some (.slice p1 L1.length c1)) := Lib.hid fun w' h => ⟨(h.cell (p := ⟨w.heap.size, 0, none⟩) hsz).trans x0, (h.cell (p := ⟨w.heap.size, 1, none⟩) hsz).trans x1⟩
  have Q0 := Lib.hid (P0.out.below B0)
  have Q1 := Lib.hid (P1.out.below B0)
  have QK := Lib.hid (HK.out.below B0)
  have HBB := Lib.hid B0
  have NW := Lib.hid (heldX_new S N w0 (by omega))
  clear B0 P0 P1
  go_enter Try.func4, Try.ntmps4
  go_wp2_with fail
  clear hW0 x0 x1
  refine NW.out.mono ?_
  rintro e wa ⟨d, rfl, hd, hba⟩
  have HBA := Lib.hid hba
  have hsa := hba.size
  have A0 : Ahead Rep w0 d N wa.heap.size (wa.heap.size + 1) (atN N L0) 0 ((wa.alloc (.cells (madeCells #[.int .u8 0] N) 5)).alloc (.cells (madeCells #[.int .u8 0] N) 5)) := by
    have hb1 : Below wa.heap.size wa (wa.alloc (.cells (madeCells #[.int .u8 0] N) 5)) := (Below.refl _ _).alloc (Nat.le_refl _) _
    have hz : (wa.alloc (.cells (madeCells #[.int .u8 0] N) 5)).heap.size = wa.heap.size + 1 := by simp
    have r2 := World.rowIs_made (wa.alloc (.cells (madeCells #[.int .u8 0] N) 5)) (.int .u8 0) N 5
    rw [hz] at r2
    refine ⟨(hd.wide S (fun k hk => ?_)).below S (hb1.alloc (by simp) _), (hba.alloc hsa _).alloc (by simp; omega) _, ?_, ?_⟩
    · rcases hk with h | h <;> exact .inr (.inl (by omega))
    · exact ((World.rowIs_made wa (.int .u8 0) N 5).alloc _).congr fun i hi => rfl
    · exact r2.congr fun i hi => rfl
  have HA0 := Lib.hid A0
  clear A0 hd hba
  have HL0 : Hid ((atN N L0).length = L0.length) := Lib.hid (atN_length N L0)
  have HL1 : Hid ((atN N L1).length = L1.length) := Lib.hid (atN_length N L1)
  obtain ⟨gw, hgw⟩ : ∃ g, g = wa.heap.size := ⟨_, rfl⟩
  rw [← hgw] at HA0
  go_wp2_with fail
  rw [← hgw]
  have hg0 : w0.heap.size ≤ gw := by omega
  generalize (wa.alloc (.cells (madeCells #[.int .u8 0] N) 5)).alloc (.cells (madeCells #[.int .u8 0] N) 5) = wb at *
  clear hgw hsa
  go_loopw [11] (fun i wr => ∃ k : Nat, k ≤ L0.length ∧ i = .int .i64 k ∧ Hid (Ahead Rep w0 d N gw (gw + 1) (atN N L0) k wr)) (fun i _ => (L0.length - intOf i).toNat)
  case atStart => exact ⟨0, Nat.zero_le _, by first | rfl | go_num, HA0⟩
  case round =>
    obtain ⟨k, hk, rfl, HA⟩ := hrel
    obtain ⟨x0, x1⟩ := KA.out wr HA.out.below
    by_cases hlt : k < L0.length
    · obtain ⟨x, hxx⟩ : ∃ x, L0[k]? = some x := ⟨_, List.getElem?_eq_getElem hlt⟩
      obtain ⟨B, off, rfl, e1, e2⟩ := Q0.out.below HA.out.below k x hxx
      obtain ⟨hx1, hx2⟩ := HB0.out x (List.mem_of_getElem? hxx)
      have HXX := Lib.hid (atN_get (N := N) hxx)
      have HX0 := Lib.hid hxx
      clear hxx
      rw [show off + 2 * k = off + k * 2 by omega] at e1
      rw [show off + (2 * k + 1) = off + k * 2 + 1 by omega] at e2
      have hrem : (x.1 : Int) % (N : Int) = ((x.1 % N : Nat) : Int) := rfl
      have han : x.1 % N < N := Nat.mod_lt _ hN1
      generalize x.1 % N = a at *
      go_wp2_with fail
      rw [hrem]
      have HR := Lib.hid hrem
      clear hrem
      refine (sec_any x.2 hx2 wr).mono ?_
      rintro e ws ⟨rfl, hs⟩
      have hsb := Lib.hid hs.2
      have WR := Lib.hid (heldX_write S (a : Int) x.2 HA.out.held hsb.out (fun j hj => by
        rcases hj with h | h
        · rw [h]; exact HA.out.was.lt
        · rw [h]; exact HA.out.now.lt) HA.out.below (whole_run (A0 := []) (by omega) (fun x hx => by cases hx) (fun y hy => atN_lt hN1 L0 y (List.mem_of_mem_take hy))) (few_small _ (by simp) (by rw [wrs_length]; have := HL0.out; simp; omega)) hx2 (sec_at hs))
      rw [write_run HXX.out han] at WR
      clear hs
      go_wp2_with fail
      refine WR.out.mono ?_
      rintro e wx ⟨rfl, hB⟩
      obtain ⟨x0, x1⟩ := KA.out wx hB.below
      have e3 : wx.cell? ⟨B, off + k * 2 + 1, none⟩ = some (.int .u8 x.2) := by
        obtain ⟨B', off', e, -, e4⟩ := Q0.out.below hB.below k x HX0.out
        injection e with e
        injection e with e5 e6
        subst e5 e6
        rw [show off + k * 2 + 1 = off + (2 * k + 1) by omega]
        exact e4
      have hBl : B < w0.heap.size := by
        obtain ⟨B', off', e, -, e4⟩ := Q0.out k x HX0.out
        injection e with e
        injection e with e5 e6
        subst e5
        exact lt_of_cell_some e4
      have NX := Lib.hid (HA.out.next S HXX.out hsb.out hg0 (by omega) (by omega) hB)
      have r1 : wx.rowIs gw 5 N (fun j => .int .u8 (valN ((atN N L0).take k) j)) := (HA.out.was.of_block (hsb.out.block gw HA.out.was.lt)).of_block (hB.same gw (.inl rfl))
      have r2 : wx.rowIs (gw + 1) 5 N (fun j => .int .u8 (valN ((atN N L0).take k) j)) := (HA.out.now.of_block (hsb.out.block (gw + 1) HA.out.now.lt)).of_block (hB.same (gw + 1) (.inr rfl))
      obtain ⟨v1, y1⟩ : ∃ v, wx.cell? ⟨gw, a, none⟩ = some v := ⟨_, r1.cell han⟩
      obtain ⟨v2, y2⟩ : ∃ v, wx.cell? ⟨gw + 1, a, none⟩ = some v := ⟨_, r2.cell han⟩
      have z1 := r1.frozen a
      have z2 := r2.frozen a
      clear r1 r2 WR hB
      have hi1 : (0 : Int) ≤ (a : Int) := by omega
      have hi2 : (a : Int) < (N : Int) := by omega
      have hi3 : (0 : Int) ≤ (k : Int) := by omega
      have hi4 : (k : Int) < (L0.length : Int) := by omega
      go_wp2_with (go_at_call 12; (with_reducible refine (NM.out _ _).mono ?_); rintro e wn ⟨rfl, rfl⟩)
      go_region_held3 (fun w' => w'.cell? ⟨w.heap.size, 0, none⟩ = some (.slice (some ⟨B, off, none⟩) L0.length c0) ∧ w'.cell? ⟨B, off + k * 2 + 1, none⟩ = some (.int .u8 x.2))
        (first
          | assumption
          | exact ⟨x0, e3⟩
          | (refine two_set ?_ ?_ ?_; (focus assumption); (focus (simp; omega)); (focus (simp; omega))))
        (fail)
      all_goals (go_wp2_with fail; exact ⟨⟨k + 1, hlt, by first | rfl | go_num, Lib.hid (NX.out.drew S)⟩, by simp [intOf]; omega⟩)
    · obtain rfl : k = L0.length := by omega
      have HT : Hid ((atN N L0).take L0.length = atN N L0) := Lib.hid (by rw [← HL0.out]; exact List.take_length)
      have hA := HA.out
      have hheld := hA.held
      have hwas := hA.was
      have hnow := hA.now
      rw [HT.out] at hheld
      have hwas' : wr.rowIs gw 5 N (fun j => .int .u8 (valN (atN N L0) j)) := by rw [← HT.out]; exact hwas
      have hnow' : wr.rowIs (gw + 1) 5 N (fun j => .int .u8 (valN (atN N L0) j)) := by rw [← HT.out]; exact hnow
      have lt1 := hwas.lt
      have lt2 := hnow.lt
      have WH : Hid (∀ k, Whole ⟨N, wrs (atN N L0), wrs ((atN N L1).take k), -1⟩) := Lib.hid fun k => whole_run (by omega) (atN_lt hN1 L0) (fun y hy => atN_lt hN1 L1 y (List.mem_of_mem_take hy))
      have SY := heldX_sync S hheld (fun j hj => by rcases hj with h | h <;> rw [h] <;> assumption) hA.below (whole_run (A0 := []) (by omega) (fun x hx => by cases hx) (atN_lt hN1 L0)) (few_small _ (by simp) (by rw [wrs_length]; have := HL0.out; simp; omega))
      rw [syncS_ok (by simp)] at SY
      have HSY := Lib.hid SY
      have HWAS := Lib.hid hwas'
      have HNOW := Lib.hid hnow'
      clear SY hA hheld hwas hnow hwas' hnow'
      go_wp2_with fail
      refine HSY.out.mono ?_
      rintro e wy ⟨rfl, hB⟩
      have hsy := hB.size
      have LT0 : Later Rep w0 d N gw (gw + 1) wy.heap.size (atN N L0) (atN N L1) keep (.slice none 0 0) 0 (wy.alloc (.cells (madeCells #[.bool false] N) 4)) := by
        have hb1 : Below wy.heap.size wy (wy.alloc (.cells (madeCells #[.bool false] N) 4)) := (Below.refl _ _).alloc (Nat.le_refl _) _
        refine ⟨(hB.held.wide S (fun k hk => ?_)).below S hb1, below_any hB.below hb1, ((HWAS.out.of_block (hB.same gw (.inl rfl))).of_block (hb1.block gw (by omega))), ?_, ?_, World.ownsRow_nil _ _ _ _⟩
        · rcases hk with h | h | h | h
          · exact .inl (.inl h)
          · exact .inl (.inr h)
          · exact .inr (.inl (by omega))
          · cases h
        · exact ((HNOW.out.of_block (hB.same (gw + 1) (.inr rfl))).of_block (hb1.block (gw + 1) (by omega))).congr fun i hi => by simp
        · exact (World.rowIs_made wy (.bool false) N 4).congr fun i hi => rfl
      have HLT0 := Lib.hid LT0
      clear LT0 hB HSY
      obtain ⟨gk, hgk⟩ : ∃ g, g = wy.heap.size := ⟨_, rfl⟩
      rw [← hgk] at HLT0
      go_wp2_with fail
      rw [← hgk]
      have hg2 : gw + 1 < gk := by omega
      generalize wy.alloc (.cells (madeCells #[.bool false] N) 4) = wb2 at *
      clear hgk hsy lt1 lt2
      go_loopw [15, 16] (fun va i wr => ∃ k : Nat, k ≤ L1.length ∧ i = .int .i64 k ∧ Hid (Later Rep w0 d N gw (gw + 1) gk (atN N L0) (atN N L1) keep va k wr)) (fun _ i _ => (L1.length - intOf i).toNat)
      case atStart => exact ⟨0, Nat.zero_le _, by first | rfl | go_num, HLT0⟩
      case round =>
        obtain ⟨k, hk, rfl, HL⟩ := hrel
        obtain ⟨x0, x1⟩ := KA.out _ HL.out.below
        by_cases hlt : k < L1.length
        · obtain ⟨x, hxx⟩ : ∃ x, L1[k]? = some x := ⟨_, List.getElem?_eq_getElem hlt⟩
          obtain ⟨B, off, rfl, e1, e2⟩ := Q1.out.below HL.out.below k x hxx
          obtain ⟨hx1, hx2⟩ := HB1.out x (List.mem_of_getElem? hxx)
          have HXX := Lib.hid (atN_get (N := N) hxx)
          have HX0 := Lib.hid hxx
          clear hxx
          rw [show off + 2 * k = off + k * 2 by omega] at e1
          rw [show off + (2 * k + 1) = off + k * 2 + 1 by omega] at e2
          have hrem : (x.1 : Int) % (N : Int) = ((x.1 % N : Nat) : Int) := rfl
          have han : x.1 % N < N := Nat.mod_lt _ hN1
          generalize x.1 % N = a at *
          go_wp2_with fail
          rw [hrem]
          have HR := Lib.hid hrem
          clear hrem
          refine (sec_any x.2 hx2 _).mono ?_
          rintro e ws ⟨rfl, hs⟩
          have hsb := Lib.hid hs.2
          have hXl : ∀ j, (j = gw ∨ j = gw + 1 ∨ j = gk ∨ u15.ownBlock = some j) → j < _ := fun j hj => by
            rcases hj with h | h | h | h
            · rw [h]; exact HL.out.was.lt
            · rw [h]; exact HL.out.now.lt
            · rw [h]; exact HL.out.kept.lt
            · exact (HL.out.all.lt j h).2
          have WR := heldX_write S (a : Int) x.2 HL.out.held hsb.out hXl HL.out.below (WH.out k) (few_small _ (by simp only [wrs_length]; have := HL0.out; omega) (by simp only [wrs_length]; have := HL1.out; simp; omega)) hx2 (sec_at hs)
          rw [write_run HXX.out han] at WR
          have HWR := Lib.hid WR
          clear hs hXl WR
          go_wp2_with fail
          refine HWR.out.mono ?_
          rintro e wx ⟨rfl, hB⟩
          obtain ⟨x0, x1⟩ := KA.out wx hB.below
          have e3 : wx.cell? ⟨B, off + k * 2 + 1, none⟩ = some (.int .u8 x.2) := by
            obtain ⟨B', off', e, -, e4⟩ := Q1.out.below hB.below k x HX0.out
            injection e with e
            injection e with e5 e6
            subst e5 e6
            rw [show off + k * 2 + 1 = off + (2 * k + 1) by omega]
            exact e4
          have r2 : wx.rowIs (gw + 1) 5 N (fun j => .int .u8 (valN (atN N L0 ++ (atN N L1).take k) j)) := (HL.out.now.of_block (hsb.out.block (gw + 1) HL.out.now.lt)).of_block (hB.same (gw + 1) (.inr (.inl rfl)))
          obtain ⟨v2, y2⟩ : ∃ v, wx.cell? ⟨gw + 1, a, none⟩ = some v := ⟨_, r2.cell han⟩
          have z2 := r2.frozen a
          clear r2 HWR
          have HBX := Lib.hid hB
          clear hB
          have hall := HL.out.all
          have hsx := HBX.out.size
          have hss := hsb.out.size
          have hgl := HL.out.kept.lt
          have hown0 : ((wx.setCell ⟨gw + 1, a, none⟩ (.int .u8 x.2)).alloc (.cells #[.bool true] 4)).ownsRow (gk + 1) 4 1 u15 k (List.replicate k (.bool true)) := by
            refine ownsRow_kept hall (fun j hj => ?_)
            have hjl := hall.lt j hj
            rw [Below.heap_alloc _ _ _ (by rw [setCell_size]; omega), Below.heap_setCell _ _ _ _ (by show j ≠ gw + 1; omega), HBX.out.same j (.inr (.inr (.inr hj))), hsb.out.block j hjl.2]
          have hbt : ((wx.setCell ⟨gw + 1, a, none⟩ (.int .u8 x.2)).alloc (.cells #[.bool true] 4)).cell? ⟨wx.heap.size, 0, none⟩ = some (.bool true) := by go_cell
          have hzz : ((wx.setCell ⟨gw + 1, a, none⟩ (.int .u8 x.2)).alloc (.cells #[.bool true] 4)).heap.size = wx.heap.size + 1 := by simp [setCell_size]
          have HZZ := Lib.hid hzz
          have HBT := Lib.hid hbt
          have HOW := Lib.hid hown0
          clear hall hown0 hbt hzz
          go_wp2_with (first
            | (go_at_call 12; (with_reducible refine (NM.out _ _).mono ?_); rintro e wn ⟨rfl, rfl⟩)
            | (at_builtin; refine wpList_append_true rfl (.tmp 146) (.tmp 147) rfl rfl HOW.out rfl HBT.out (by omega) (by rw [HZZ.out]; omega) ?_))
          intro va' wz hown hgr hfr
          have MID := HL.out.mid hsb.out hg0 (by omega) hg2 HBX.out hgr
          have NX := HL.out.next S HXX.out hsb.out hg0 (by omega) hg2 HBX.out hown hgr (fun j hj => by
            rcases hfr j hj with h | h
            · exact .inl h
            · exact .inr (by omega))
          simp only at NX
          have y3 := MID.2.cell (i := a) han
          have z3 := MID.2.frozen a
          have HMB := Lib.hid MID.1
          clear MID hown hgr hfr x0 x1 y2 z2 e1 e2 e3
          have hi1 : (0 : Int) ≤ (a : Int) := by omega
          have hi2 : (a : Int) < (N : Int) := by omega
          cases hkb : keptB (atN N L1) keep a k with
          | true =>
            rw [hkb] at y3 NX
            rw [Bool.true_or] at NX
            have HNX := Lib.hid NX
            clear NX hkb
            go_wp2_with fail
            go_roundw
            case rel => exact ⟨k + 1, hlt, by first | rfl | go_num, HNX⟩
            case measure => simp [intOf]; omega
          | false =>
            rw [hkb] at y3 NX
            rw [Bool.false_or] at NX
            by_cases hkk : k < keep.length
            · obtain ⟨b, hb⟩ : ∃ b, keep[k]? = some b := ⟨_, List.getElem?_eq_getElem hkk⟩
              rw [List.getD_eq_getElem?_getD, hb] at NX
              simp only [Option.getD_some] at NX
              obtain ⟨C, coff, rfl, d1⟩ := QK.out.below HMB.out k b hb
              have HNX := Lib.hid NX
              clear NX hkb hb
              go_wp2_with fail
              go_roundw
              case rel => exact ⟨k + 1, hlt, by first | rfl | go_num, HNX⟩
              case measure => simp [intOf]; omega
            · rw [List.getD_eq_getElem?_getD, List.getElem?_eq_none (by omega)] at NX
              simp only [Option.getD_none] at NX
              have HNX := Lib.hid NX
              clear NX hkb
              go_wp2_with fail
              go_roundw
              case rel => exact ⟨k + 1, hlt, by first | rfl | go_num, HNX⟩
              case measure => simp [intOf]; omega
        · obtain rfl : k = L1.length := by omega
          have HT1 : Hid ((atN N L1).take L1.length = atN N L1) := Lib.hid (by rw [← HL1.out]; exact List.take_length)
          obtain ⟨hheld, hbel, hwas, hnow, hkept, hall⟩ := HL.out
          rw [HT1.out] at hheld
          have hnow' : wr.rowIs (gw + 1) 5 N (fun j => .int .u8 (valN (atN N L0 ++ atN N L1) j)) := by rw [← HT1.out]; exact hnow
          have hW1 := WH.out L1.length
          rw [HT1.out] at hW1
          have HF1 : Few ⟨N, wrs (atN N L0), wrs (atN N L1), -1⟩ := few_small _ (by simp only [wrs_length]; have := HL0.out; omega) (by simp only [wrs_length]; have := HL1.out; omega)
          obtain ⟨F, hR, hF⟩ := hheld
          have HQK := Lib.hid (QK.out.below hbel)
          have SD : Hid (∀ (w' : World), Below wr.heap.size wr w' → Rep w' d ⟨N, wrs (atN N L0), wrs (atN N L1), -1⟩ F) := Lib.hid fun w' b => S.keep _ _ _ _ _ hR b.size (fun k hk => b.block k (S.low _ _ _ _ hR k hk))
          have HKB : Hid (keep ≠ [] → ∀ B off, kp = some ⟨B, off, none⟩ → ¬ F B) := Lib.hid fun ne B off e f => by
            have h0 : 0 < keep.length := List.length_pos_iff.2 ne
            obtain ⟨B', off', e', c'⟩ := QK.out 0 _ (List.getElem?_eq_getElem h0)
            rw [e] at e'
            injection e' with e'
            injection e' with e1 e2
            subst e1
            have h1 := lt_of_cell_some c'
            have h2 := (hF _ f).1
            simp only at h1
            omega
          go_wp2_with fail
          refine (S.copy _ d _ F hR hW1 HF1).mono ?_
          rintro e wc ⟨c, F', rfl, hR2, hF2, hbc⟩
          have C1 := S.crash wc d _ F keep.length kp keep kc (SD.out wc hbc) hW1 HF1 (by omega) ⟨HQK.out.below hbc, hkn, hkc, HKB.out⟩
          rw [crash_err (by omega)] at C1
          have HC1 := Lib.hid C1
          clear C1
          go_wp2_with fail
          refine HC1.out.mono ?_
          rintro e wd ⟨rfl, hg⟩
          obtain ⟨F1, hON⟩ := once_made S hR hF hbel hwas hnow' hkept hall hR2 hF2 hbc hg
          have ON := Lib.hid hON
          obtain ⟨pa, ca, hva, hca1, hca2, hna, hBA, hbo⟩ := ownsRow_bools hON.all.1
          subst hva
          have C2 := S.crash wd c _ F' 0 pa (List.replicate L1.length true) ca hON.rc hW1 HF1 (by simp; omega) ⟨hBA, hna, by simp; omega, fun ne B off e f => by
            have h1 := hON.f2 _ f
            have h2 := hON.all.2 B (hbo B off e)
            omega⟩
          rw [List.length_replicate] at C2
          rw [show (crashS ⟨N, wrs (atN N L0), wrs (atN N L1), -1⟩ 0 (List.replicate L1.length true)).2 = 0 by have := crash_all_err (n := N) (A0 := atN N L0) (A1 := atN N L1); rw [HL1.out] at this; exact this] at C2
          have HC2 := Lib.hid C2
          clear C2 hON hBA hbo hna hca1 hca2 hg hR hF hbel hwas hnow' hkept hall hR2 hF2 hbc HC1 hnow x0 x1
          go_wp2_with fail
          refine HC2.out.mono ?_
          rintro e we ⟨rfl, hg⟩
          have TW0 := Lib.hid (ON.out.next S hg)
          clear hg HC2 ON SD HKB HQK
          go_wp2_with (go_at_call 12; (with_reducible refine (NM.out _ _).mono ?_); rintro e wn ⟨rfl, rfl⟩)
          have WS1 := Lib.hid (hW1.crash keep.length keep)
          have WS2 := Lib.hid (hW1.crash 0 (List.replicate L1.length true))
          have FS1 : Hid (Few (crashS ⟨N, wrs (atN N L0), wrs (atN N L1), -1⟩ keep.length keep).1) := Lib.hid (few_crash (by simp only [wrs_length]; have := HL0.out; omega) (by simp only [wrs_length]; have := HL1.out; omega) _ _)
          have FS2 : Hid (Few (crashS ⟨N, wrs (atN N L0), wrs (atN N L1), -1⟩ 0 (List.replicate L1.length true)).1) := Lib.hid (few_crash (by simp only [wrs_length]; have := HL0.out; omega) (by simp only [wrs_length]; have := HL1.out; omega) _ _)
          clear hW1
          go_loopw [21] (fun i wr => ∃ k : Nat, k ≤ N ∧ i = .int .i64 k ∧ Hid (Twice Rep w0 N gw (gw + 1) gk (atN N L0) (atN N L1) keep d c (crashS ⟨N, wrs (atN N L0), wrs (atN N L1), -1⟩ keep.length keep).1 (crashS ⟨N, wrs (atN N L0), wrs (atN N L1), -1⟩ 0 (List.replicate L1.length true)).1 L1.length wr)) (fun i _ => (N - intOf i).toNat)
          case atStart => exact ⟨0, Nat.zero_le _, by first | rfl | go_num, TW0⟩
          case round =>
            obtain ⟨k, hk, rfl, TW⟩ := hrel
            by_cases hltk : k < N
            · obtain ⟨FD, hRD⟩ := TW.out.rd
              have R1 := S.read wr d _ FD k hRD WS1.out FS1.out
              rw [read_any (by omega) hltk] at R1
              have HR1 := Lib.hid R1
              clear R1 hRD
              go_wp2_with fail
              refine HR1.out.mono ?_
              rintro e wx ⟨t1, l1, rfl, hr1, hlb1, hl1⟩
              obtain ⟨FC, hRC⟩ := (TW.out.keep S hr1.2).rc
              have R2 := S.read wx c _ FC k hRC WS2.out FS2.out
              rw [show readS (crashS ⟨N, wrs (atN N L0), wrs (atN N L1), -1⟩ 0 (List.replicate L1.length true)).1 k = (secS (valN (atN N L0 ++ atN N L1) k), 0) by have := read_all (A0 := atN N L0) (A1 := atN N L1) hltk; rw [HL1.out] at this; exact this] at R2
              have HR2 := Lib.hid R2
              have HH1 := Lib.hid hr1
              have HLB1 := Lib.hid hlb1
              have HL1S := Lib.hid hl1
              clear R2 hRC HR1 hr1 hlb1 hl1
              go_wp2_with fail
              refine HR2.out.mono ?_
              rintro e wy ⟨t2, l2, rfl, hr2, hlb2, hl2⟩
              replace hl2 : strOf l2 = secS (valN (atN N L0 ++ atN N L1) k) := hl2
              have HXY : Hid (Below wr.heap.size wr wy) := Lib.hid (below_any HH1.out.2 hr2.2)
              have TY := TW.out.keep S HXY.out
              obtain ⟨pp1, cc1, rfl, -, -, hb1, -⟩ := HH1.out.at'
              obtain ⟨pp2, cc2, rfl, -, -, hb2, -⟩ := hr2.at'
              have KN : Hid (∀ w', Below wy.heap.size wy w' → w'.cell? ⟨gw + 1, k, none⟩ = some (.int .u8 (valN (atN N L0 ++ atN N L1) k))) := Lib.hid fun w' b => (TY.keep S b).now.cell hltk
              have KW : Hid (∀ w', Below wy.heap.size wy w' → w'.cell? ⟨gw, k, none⟩ = some (.int .u8 (valN (atN N L0) k))) := Lib.hid fun w' b => (TY.keep S b).was.cell hltk
              have KK : Hid (∀ w', Below wy.heap.size wy w' → w'.cell? ⟨gk, k, none⟩ = some (.bool (keptB (atN N L1) keep k L1.length))) := Lib.hid fun w' b => (TY.keep S b).kept.cell hltk
              have CY : Hid (∀ w', Below wy.heap.size wy w' → (convert 47 9 (.slice pp2 l2.length cc2)).run Try.prog w' = .ok (.string (secS (valN (atN N L0 ++ atN N L1) k))) w') := Lib.hid fun w' b => by
                rw [← hl2]
                exact conv_later hb2 hlb2 b cc2
              have CX0 : Hid (∀ w', Below wy.heap.size wy w' → (convert 47 9 (.slice pp1 l1.length cc1)).run Try.prog w' = .ok (.string (strOf l1)) w') := Lib.hid fun w' b => conv_later hb1 HLB1.out (below_any hr2.2 b) cc1
              have hv1 : valN (atN N L0) k < 256 := valN_byte (atN_byte (fun x hx => (HB0.out x hx).2)) k
              have hv2 : valN (atN N L0 ++ atN N L1) k < 256 := valN_byte (fun x hx => by
                rcases List.mem_append.1 hx with h | h
                · exact atN_byte (fun x hx => (HB0.out x hx).2) x h
                · exact atN_byte (fun x hx => (HB1.out x hx).2) x h) k
              have RK2 : Hid (keptB (atN N L1) keep k L1.length = false → strOf l1 = secS (valN (atN N L0) k)) := Lib.hid fun h => by
                have := read_kept (n := N) (A0 := atN N L0) (A1 := atN N L1) (keep := keep) (by omega) hltk (by rw [HL1.out]; exact h)
                rw [HL1S.out, this]
              clear hb1 hb2 hr2 hlb2 hl2 TY HR2 HH1 HLB1 HL1S
              have SN := Lib.hid (sec_any (valN (atN N L0 ++ atN N L1) k) hv2)
              have SW := Lib.hid (sec_any (valN (atN N L0) k) hv1)
              have hq : ∀ (x : ByteArray), (x.toList == x.toList) = true := fun x => by simp
              have hq2 : ∀ (x : ByteArray), (x.toList != x.toList) = false := fun x => by simp
              have hi1 : (0 : Int) ≤ (k : Int) := by omega
              have hi2 : (k : Int) < (N : Int) := by omega
              have hw00 : IntKind.i64.wrap (0 : Int) = 0 := by decide
              cases hkb : keptB (atN N L1) keep k L1.length with
              | true =>
                rw [hkb] at KK
                clear RK2 hkb
                generalize valN (atN N L0 ++ atN N L1) k = V2 at *
                generalize valN (atN N L0) k = V1 at *
                go_wp2_with fail
                refine wp_region_held_drew (S := fun w' => Below wy.heap.size wy w') (by kernel_rfl) ((Below.refl _ _).drew) (fun H0 => ?_)
                refine wpAnyH_take (i := 0) (oi := { dst := some 207, op := Go.Op.move (Go.Operand.tmp 23), type := 30, pos := "law.go:196", after := #[], guard := none }) (v := ?_) rfl (by kernel_rfl) (by kernel_rfl) (by kernel_rfl) (fun _ _ _ h => h) (Or.inl ⟨by rfl, ?_⟩) H0 ?_
                rotate_left
                focus (intro w' hSw; (try dsimp only at hSw); go_simp; (try with_reducible rfl))
                simp only [Act.put, List.setIfInBounds_toArray, List.set_cons_zero, List.set_cons_succ]
                refine wpAnyH_take (i := 2) (oi := { dst := some 209, op := Go.Op.move (Go.Operand.tmp 25), type := 30, pos := "law.go:196", after := #[], guard := none }) (v := ?_) rfl (by kernel_rfl) (by kernel_rfl) (by kernel_rfl) (fun _ _ _ h => h) (Or.inl ⟨by rfl, ?_⟩) H0 ?_
                rotate_left
                focus (intro w' hSw; (try dsimp only at hSw); go_simp; (try with_reducible rfl))
                simp only [Act.put, List.setIfInBounds_toArray, List.set_cons_zero, List.set_cons_succ]
                refine wpAnyH_ready (rs := [1]) (by kernel_rfl) (by simp) ?_
                refine AllReadyH.cons (o := { dst := some 208, op := Go.Op.call { callee := Go.Callee.value (Go.Operand.func 12), args := #[Go.Operand.tmp 207], argTypes := #[30] }, type := 3, pos := "law.go:196", after := #[{ on := 0, ground := Go.Ground.data }], guard := none }) rfl (fun K hK => ?_) ?_
                rotate_left
                exact AllReadyH.nil
                go_simp
                (go_at_call 12; (with_reducible refine (NM.out _ _).mono ?_); rintro e wn ⟨rfl, rfl⟩)
                try go_wp2_with fail
                refine hK.out _ _ H0 (fun Hn => ?_)
                clear hK K
                try simp only [Act.put, List.setIfInBounds_toArray, List.set_cons_zero, List.set_cons_succ]
                clear Hn
                refine wpAnyH_ready (rs := [3]) (by kernel_rfl) (by simp) ?_
                refine AllReadyH.cons (o := { dst := some 210, op := Go.Op.call { callee := Go.Callee.value (Go.Operand.func 12), args := #[Go.Operand.tmp 209], argTypes := #[30] }, type := 3, pos := "law.go:196", after := #[{ on := 2, ground := Go.Ground.data }, { on := 1, ground := Go.Ground.chain }], guard := none }) rfl (fun K hK => ?_) ?_
                rotate_left
                exact AllReadyH.nil
                go_simp
                (go_at_call 12; (with_reducible refine (NM.out _ _).mono ?_); rintro e wn ⟨rfl, rfl⟩)
                try go_wp2_with fail
                refine hK.out _ _ H0 (fun Hn => ?_)
                clear hK K
                try simp only [Act.put, List.setIfInBounds_toArray, List.set_cons_zero, List.set_cons_succ]
                clear Hn
                refine wpAnyH_take (i := 4) (oi := { dst := some 211, op := Go.Op.binOp Go.BinOp.add 3 (Go.Operand.tmp 208) (Go.Operand.tmp 210) 3, type := 3, pos := "law.go:196", after := #[{ on := 1, ground := Go.Ground.data }, { on := 3, ground := Go.Ground.data }], guard := none }) (v := ?_) rfl (by kernel_rfl) (by kernel_rfl) (by kernel_rfl) (fun _ _ _ h => h) (Or.inl ⟨by rfl, ?_⟩) H0 ?_
                rotate_left
                focus (intro w' hSw; (try dsimp only at hSw); go_simp; (try with_reducible rfl))
                simp only [Act.put, List.setIfInBounds_toArray, List.set_cons_zero, List.set_cons_succ]
                refine wpAnyH_take (i := 5) (oi := { dst := some 212, op := Go.Op.binOp Go.BinOp.neq 3 (Go.Operand.tmp 211) (Go.Operand.const (Go.Value.int Go.IntKind.i64 0)) 3, type := 4, pos := "law.go:196", after := #[{ on := 4, ground := Go.Ground.data }], guard := none }) (v := ?_) rfl (by kernel_rfl) (by kernel_rfl) (by kernel_rfl) (fun _ _ _ h => h) (Or.inl ⟨by rfl, ?_⟩) H0 ?_
                rotate_left
                focus (intro w' hSw; (try dsimp only at hSw); go_simp; (try with_reducible rfl))
                simp only [Act.put, List.setIfInBounds_toArray, List.set_cons_zero, List.set_cons_succ]
                refine wpAnyH_take (i := 6) (oi := { dst := some 213, op := Go.Op.move (Go.Operand.tmp 212), type := 4, pos := "law.go:196", after := #[{ on := 5, ground := Go.Ground.data }, { on := 3, ground := Go.Ground.chain }], guard := none }) (v := ?_) rfl (by kernel_rfl) (by kernel_rfl) (by kernel_rfl) (fun _ _ _ h => h) (Or.inl ⟨by rfl, ?_⟩) H0 ?_
                rotate_left
                focus (intro w' hSw; (try dsimp only at hSw); go_simp; (try with_reducible rfl))
                simp only [Act.put, List.setIfInBounds_toArray, List.set_cons_zero, List.set_cons_succ]
                refine wpAnyH_take (i := 7) (oi := { dst := some 214, op := Go.Op.move (Go.Operand.tmp 24), type := 47, pos := "law.go:196", after := #[{ on := 6, ground := Go.Ground.guard }], guard := some (6, false) }) (v := ?_) rfl (by kernel_rfl) (by kernel_rfl) (by kernel_rfl) (fun _ _ _ h => h) (Or.inl ⟨by rfl, ?_⟩) H0 ?_
                rotate_left
                focus (intro w' hSw; (try dsimp only at hSw); go_simp; (try with_reducible rfl))
                simp only [Act.put, List.setIfInBounds_toArray, List.set_cons_zero, List.set_cons_succ]
                refine wpAnyH_take (i := 8) (oi := { dst := some 215, op := Go.Op.convert 47 9 (Go.Operand.tmp 214), type := 9, pos := "law.go:196", after := #[{ on := 7, ground := Go.Ground.data }, { on := 6, ground := Go.Ground.guard }], guard := some (6, false) }) (v := ?_) rfl (by kernel_rfl) (by kernel_rfl) (by kernel_rfl) (fun _ _ _ h => h) (Or.inl ⟨by rfl, ?_⟩) H0 ?_
                rotate_left
                focus (intro w' hSw; (try dsimp only at hSw); have hv := CY.out _ hSw; go_simp; (try with_reducible rfl))
                simp only [Act.put, List.setIfInBounds_toArray, List.set_cons_zero, List.set_cons_succ]
                refine wpAnyH_take (i := 9) (oi := { dst := some 216, op := Go.Op.move (Go.Operand.tmp 10), type := 47, pos := "law.go:196", after := #[{ on := 6, ground := Go.Ground.guard }], guard := some (6, false) }) (v := ?_) rfl (by kernel_rfl) (by kernel_rfl) (by kernel_rfl) (fun _ _ _ h => h) (Or.inl ⟨by rfl, ?_⟩) H0 ?_
                rotate_left
                focus (intro w' hSw; (try dsimp only at hSw); go_simp; (try with_reducible rfl))
                simp only [Act.put, List.setIfInBounds_toArray, List.set_cons_zero, List.set_cons_succ]
                refine wpAnyH_take (i := 10) (oi := { dst := some 217, op := Go.Op.move (Go.Operand.tmp 21), type := 3, pos := "law.go:196", after := #[{ on := 6, ground := Go.Ground.guard }], guard := some (6, false) }) (v := ?_) rfl (by kernel_rfl) (by kernel_rfl) (by kernel_rfl) (fun _ _ _ h => h) (Or.inl ⟨by rfl, ?_⟩) H0 ?_
                rotate_left
                focus (intro w' hSw; (try dsimp only at hSw); go_simp; (try with_reducible rfl))
                simp only [Act.put, List.setIfInBounds_toArray, List.set_cons_zero, List.set_cons_succ]
                refine wpAnyH_take (i := 11) (oi := { dst := some 218, op := Go.Op.indexAddr 47 (Go.Operand.tmp 216) (Go.Operand.tmp 217), type := 0, pos := "law.go:196", after := #[{ on := 9, ground := Go.Ground.data }, { on := 10, ground := Go.Ground.data }, { on := 6, ground := Go.Ground.guard }], guard := some (6, false) }) (v := ?_) rfl (by kernel_rfl) (by kernel_rfl) (by kernel_rfl) (fun _ _ _ h => h) (Or.inl ⟨by rfl, ?_⟩) H0 ?_
                rotate_left
                focus (intro w' hSw; (try dsimp only at hSw); go_simp; (try with_reducible rfl))
                simp only [Act.put, List.setIfInBounds_toArray, List.set_cons_zero, List.set_cons_succ]
                refine wpAnyH_take (i := 12) (oi := { dst := some 219, op := Go.Op.load 5 (Go.Operand.tmp 218), type := 5, pos := "law.go:196", after := #[{ on := 11, ground := Go.Ground.data }, { on := 6, ground := Go.Ground.guard }], guard := some (6, false) }) (v := ?_) rfl (by kernel_rfl) (by kernel_rfl) (by kernel_rfl) (fun _ _ _ h => h) (Or.inl ⟨by rfl, ?_⟩) H0 ?_
                rotate_left
                focus (intro w' hSw; (try dsimp only at hSw); have hv := KN.out _ hSw; go_simp; (try with_reducible rfl))
                simp only [Act.put, List.setIfInBounds_toArray, List.set_cons_zero, List.set_cons_succ]
                have HX : Hid (Below wr.heap.size wr wy.drew) := Lib.hid (HXY.out.drew)
                refine wpAnyH_ready (rs := [13]) (by kernel_rfl) (by simp) ?_
                refine AllReadyH.cons (o := { dst := some 220, op := Go.Op.call { callee := Go.Callee.value (Go.Operand.func 16), args := #[Go.Operand.tmp 219], argTypes := #[5] }, type := 47, pos := "law.go:196", after := #[{ on := 12, ground := Go.Ground.data }, { on := 6, ground := Go.Ground.chain }, { on := 6, ground := Go.Ground.guard }], guard := some (6, false) }) rfl (fun K hK => ?_) ?_
                rotate_left
                exact AllReadyH.nil
                go_simp
                (go_at_call 16; (with_reducible refine (SN.out _).mono ?_); rintro e ws1 ⟨rfl, hs⟩)
                try go_wp2_with fail
                refine hK.out _ _ (kbT H0 hs.2) (fun Gs => ?_)
                clear hK K
                try simp only [Act.put, List.setIfInBounds_toArray, List.set_cons_zero, List.set_cons_succ]
                have HX := Lib.hid (below_any HX.out hs.2)
                refine wpAnyH_turn (S' := fun w' => Below (ws1).heap.size (ws1) w') (fun w' h => kbT Gs h) _ _ _ _ ?_
                have H1 := Below.refl (ws1).heap.size (ws1)
                have BS0 := sec_at hs
                have BN : Hid (BytesAt ws1 (some ⟨wy.heap.size, 0, none⟩) (List.replicate 64 V2)) := Lib.hid BS0
                have Y1 : Hid (Below wy.heap.size wy ws1) := Lib.hid Gs
                clear hs BS0
                refine wpAnyH_take (i := 14) (oi := { dst := some 221, op := Go.Op.convert 47 9 (Go.Operand.tmp 220), type := 9, pos := "law.go:196", after := #[{ on := 13, ground := Go.Ground.data }, { on := 6, ground := Go.Ground.guard }], guard := some (6, false) }) (v := ?_) rfl (by kernel_rfl) (by kernel_rfl) (by kernel_rfl) (fun _ _ _ h => h) (Or.inl ⟨by rfl, ?_⟩) H1 ?_
                rotate_left
                focus (intro w' hSw; (try dsimp only at hSw); have hv := conv_sec hv2 (bytesAt_below BN.out hSw); go_simp; (try with_reducible rfl))
                simp only [Act.put, List.setIfInBounds_toArray, List.set_cons_zero, List.set_cons_succ]
                refine wpAnyH_take (i := 15) (oi := { dst := some 222, op := Go.Op.binOp Go.BinOp.neq 9 (Go.Operand.tmp 215) (Go.Operand.tmp 221) 9, type := 4, pos := "law.go:196", after := #[{ on := 8, ground := Go.Ground.data }, { on := 14, ground := Go.Ground.data }, { on := 6, ground := Go.Ground.guard }], guard := some (6, false) }) (v := ?_) rfl (by kernel_rfl) (by kernel_rfl) (by kernel_rfl) (fun _ _ _ h => h) (Or.inl ⟨by rfl, ?_⟩) H1 ?_
                rotate_left
                focus (intro w' hSw; (try dsimp only at hSw); go_simp; (try with_reducible rfl))
                simp only [Act.put, List.setIfInBounds_toArray, List.set_cons_zero, List.set_cons_succ]
                refine wpAnyH_take (i := 16) (oi := { dst := some 223, op := Go.Op.pick (Go.Operand.tmp 213) (Go.Operand.const (Go.Value.bool true)) (Go.Operand.tmp 222), type := 4, pos := "law.go:196", after := #[{ on := 6, ground := Go.Ground.data }, { on := 15, ground := Go.Ground.data }], guard := none }) (v := ?_) rfl (by kernel_rfl) (by kernel_rfl) (by kernel_rfl) (fun _ _ _ h => h) (Or.inl ⟨by rfl, ?_⟩) H1 ?_
                rotate_left
                focus (intro w' hSw; (try dsimp only at hSw); go_simp; (try with_reducible rfl))
                simp only [Act.put, List.setIfInBounds_toArray, List.set_cons_zero, List.set_cons_succ]
                refine wpAnyH_take (i := 17) (oi := { dst := some 224, op := Go.Op.move (Go.Operand.tmp 223), type := 4, pos := "law.go:196", after := #[{ on := 16, ground := Go.Ground.data }, { on := 13, ground := Go.Ground.chain }], guard := none }) (v := ?_) rfl (by kernel_rfl) (by kernel_rfl) (by kernel_rfl) (fun _ _ _ h => h) (Or.inl ⟨by rfl, ?_⟩) H1 ?_
                rotate_left
                focus (intro w' hSw; (try dsimp only at hSw); go_simp; (try with_reducible rfl))
                simp only [Act.put, List.setIfInBounds_toArray, List.set_cons_zero, List.set_cons_succ]
                refine wpAnyH_take (i := 18) (oi := { dst := some 225, op := Go.Op.move (Go.Operand.tmp 14), type := 23, pos := "law.go:196", after := #[{ on := 17, ground := Go.Ground.guard }], guard := some (17, false) }) (v := ?_) rfl (by kernel_rfl) (by kernel_rfl) (by kernel_rfl) (fun _ _ _ h => h) (Or.inl ⟨by rfl, ?_⟩) H1 ?_
                rotate_left
                focus (intro w' hSw; (try dsimp only at hSw); go_simp; (try with_reducible rfl))
                simp only [Act.put, List.setIfInBounds_toArray, List.set_cons_zero, List.set_cons_succ]
                refine wpAnyH_take (i := 19) (oi := { dst := some 226, op := Go.Op.move (Go.Operand.tmp 21), type := 3, pos := "law.go:196", after := #[{ on := 17, ground := Go.Ground.guard }], guard := some (17, false) }) (v := ?_) rfl (by kernel_rfl) (by kernel_rfl) (by kernel_rfl) (fun _ _ _ h => h) (Or.inl ⟨by rfl, ?_⟩) H1 ?_
                rotate_left
                focus (intro w' hSw; (try dsimp only at hSw); go_simp; (try with_reducible rfl))
                simp only [Act.put, List.setIfInBounds_toArray, List.set_cons_zero, List.set_cons_succ]
                refine wpAnyH_take (i := 20) (oi := { dst := some 227, op := Go.Op.indexAddr 23 (Go.Operand.tmp 225) (Go.Operand.tmp 226), type := 0, pos := "law.go:196", after := #[{ on := 18, ground := Go.Ground.data }, { on := 19, ground := Go.Ground.data }, { on := 17, ground := Go.Ground.guard }], guard := some (17, false) }) (v := ?_) rfl (by kernel_rfl) (by kernel_rfl) (by kernel_rfl) (fun _ _ _ h => h) (Or.inl ⟨by rfl, ?_⟩) H1 ?_
                rotate_left
                focus (intro w' hSw; (try dsimp only at hSw); go_simp; (try with_reducible rfl))
                simp only [Act.put, List.setIfInBounds_toArray, List.set_cons_zero, List.set_cons_succ]
                refine wpAnyH_take (i := 21) (oi := { dst := some 228, op := Go.Op.load 4 (Go.Operand.tmp 227), type := 4, pos := "law.go:196", after := #[{ on := 20, ground := Go.Ground.data }, { on := 17, ground := Go.Ground.guard }], guard := some (17, false) }) (v := ?_) rfl (by kernel_rfl) (by kernel_rfl) (by kernel_rfl) (fun _ _ _ h => h) (Or.inl ⟨by rfl, ?_⟩) H1 ?_
                rotate_left
                focus (intro w' hSw; (try dsimp only at hSw); have hv := KK.out _ (below_any Y1.out hSw); go_simp; (try with_reducible rfl))
                simp only [Act.put, List.setIfInBounds_toArray, List.set_cons_zero, List.set_cons_succ]
                refine wpAnyH_take (i := 22) (oi := { dst := some 229, op := Go.Op.unOp Go.UnOp.not 4 (Go.Operand.tmp 228), type := 4, pos := "law.go:196", after := #[{ on := 21, ground := Go.Ground.data }, { on := 17, ground := Go.Ground.guard }], guard := some (17, false) }) (v := ?_) rfl (by kernel_rfl) (by kernel_rfl) (by kernel_rfl) (fun _ _ _ h => h) (Or.inl ⟨by rfl, ?_⟩) H1 ?_
                rotate_left
                focus (intro w' hSw; (try dsimp only at hSw); go_simp; (try with_reducible rfl))
                simp only [Act.put, List.setIfInBounds_toArray, List.set_cons_zero, List.set_cons_succ]
                refine wpAnyH_take (i := 23) (oi := { dst := some 230, op := Go.Op.move (Go.Operand.tmp 229), type := 4, pos := "law.go:196", after := #[{ on := 22, ground := Go.Ground.data }, { on := 17, ground := Go.Ground.chain }, { on := 17, ground := Go.Ground.guard }], guard := some (17, false) }) (v := ?_) rfl (by kernel_rfl) (by kernel_rfl) (by kernel_rfl) (fun _ _ _ h => h) (Or.inl ⟨by rfl, ?_⟩) H1 ?_
                rotate_left
                focus (intro w' hSw; (try dsimp only at hSw); go_simp; (try with_reducible rfl))
                simp only [Act.put, List.setIfInBounds_toArray, List.set_cons_zero, List.set_cons_succ]
                refine wpAnyH_take (i := 24) (oi := { dst := some 231, op := Go.Op.move (Go.Operand.tmp 22), type := 47, pos := "law.go:196", after := #[{ on := 23, ground := Go.Ground.guard }], guard := some (23, true) }) (v := undef) rfl (by kernel_rfl) (by kernel_rfl) (by kernel_rfl) (fun _ _ _ h => h) (Or.inr ⟨by rfl, rfl⟩) H1 ?_
                simp only [Act.put, List.setIfInBounds_toArray, List.set_cons_zero, List.set_cons_succ]
                refine wpAnyH_take (i := 25) (oi := { dst := some 232, op := Go.Op.convert 47 9 (Go.Operand.tmp 231), type := 9, pos := "law.go:196", after := #[{ on := 24, ground := Go.Ground.data }, { on := 23, ground := Go.Ground.guard }], guard := some (23, true) }) (v := undef) rfl (by kernel_rfl) (by kernel_rfl) (by kernel_rfl) (fun _ _ _ h => h) (Or.inr ⟨by rfl, rfl⟩) H1 ?_
                simp only [Act.put, List.setIfInBounds_toArray, List.set_cons_zero, List.set_cons_succ]
                refine wpAnyH_take (i := 26) (oi := { dst := some 233, op := Go.Op.move (Go.Operand.tmp 9), type := 47, pos := "law.go:196", after := #[{ on := 23, ground := Go.Ground.guard }], guard := some (23, true) }) (v := undef) rfl (by kernel_rfl) (by kernel_rfl) (by kernel_rfl) (fun _ _ _ h => h) (Or.inr ⟨by rfl, rfl⟩) H1 ?_
                simp only [Act.put, List.setIfInBounds_toArray, List.set_cons_zero, List.set_cons_succ]
                refine wpAnyH_take (i := 27) (oi := { dst := some 234, op := Go.Op.move (Go.Operand.tmp 21), type := 3, pos := "law.go:196", after := #[{ on := 23, ground := Go.Ground.guard }], guard := some (23, true) }) (v := undef) rfl (by kernel_rfl) (by kernel_rfl) (by kernel_rfl) (fun _ _ _ h => h) (Or.inr ⟨by rfl, rfl⟩) H1 ?_
                simp only [Act.put, List.setIfInBounds_toArray, List.set_cons_zero, List.set_cons_succ]
                refine wpAnyH_take (i := 28) (oi := { dst := some 235, op := Go.Op.indexAddr 47 (Go.Operand.tmp 233) (Go.Operand.tmp 234), type := 0, pos := "law.go:196", after := #[{ on := 26, ground := Go.Ground.data }, { on := 27, ground := Go.Ground.data }, { on := 23, ground := Go.Ground.guard }], guard := some (23, true) }) (v := undef) rfl (by kernel_rfl) (by kernel_rfl) (by kernel_rfl) (fun _ _ _ h => h) (Or.inr ⟨by rfl, rfl⟩) H1 ?_
                simp only [Act.put, List.setIfInBounds_toArray, List.set_cons_zero, List.set_cons_succ]
                refine wpAnyH_take (i := 29) (oi := { dst := some 236, op := Go.Op.load 5 (Go.Operand.tmp 235), type := 5, pos := "law.go:196", after := #[{ on := 28, ground := Go.Ground.data }, { on := 23, ground := Go.Ground.guard }], guard := some (23, true) }) (v := undef) rfl (by kernel_rfl) (by kernel_rfl) (by kernel_rfl) (fun _ _ _ h => h) (Or.inr ⟨by rfl, rfl⟩) H1 ?_
                simp only [Act.put, List.setIfInBounds_toArray, List.set_cons_zero, List.set_cons_succ]
                refine wpAnyH_take (i := 30) (oi := { dst := some 237, op := Go.Op.call { callee := Go.Callee.value (Go.Operand.func 16), args := #[Go.Operand.tmp 236], argTypes := #[5] }, type := 47, pos := "law.go:196", after := #[{ on := 29, ground := Go.Ground.data }, { on := 23, ground := Go.Ground.chain }, { on := 23, ground := Go.Ground.guard }], guard := some (23, true) }) (v := undef) rfl (by kernel_rfl) (by kernel_rfl) (by kernel_rfl) (fun _ _ _ h => h) (Or.inr ⟨by rfl, rfl⟩) H1 ?_
                simp only [Act.put, List.setIfInBounds_toArray, List.set_cons_zero, List.set_cons_succ]
                refine wpAnyH_take (i := 31) (oi := { dst := some 238, op := Go.Op.convert 47 9 (Go.Operand.tmp 237), type := 9, pos := "law.go:196", after := #[{ on := 30, ground := Go.Ground.data }, { on := 23, ground := Go.Ground.guard }], guard := some (23, true) }) (v := undef) rfl (by kernel_rfl) (by kernel_rfl) (by kernel_rfl) (fun _ _ _ h => h) (Or.inr ⟨by rfl, rfl⟩) H1 ?_
                simp only [Act.put, List.setIfInBounds_toArray, List.set_cons_zero, List.set_cons_succ]
                refine wpAnyH_take (i := 32) (oi := { dst := some 239, op := Go.Op.binOp Go.BinOp.neq 9 (Go.Operand.tmp 232) (Go.Operand.tmp 238) 9, type := 4, pos := "law.go:196", after := #[{ on := 25, ground := Go.Ground.data }, { on := 31, ground := Go.Ground.data }, { on := 23, ground := Go.Ground.guard }], guard := some (23, true) }) (v := undef) rfl (by kernel_rfl) (by kernel_rfl) (by kernel_rfl) (fun _ _ _ h => h) (Or.inr ⟨by rfl, rfl⟩) H1 ?_
                simp only [Act.put, List.setIfInBounds_toArray, List.set_cons_zero, List.set_cons_succ]
                refine wpAnyH_take (i := 33) (oi := { dst := some 240, op := Go.Op.pick (Go.Operand.tmp 230) (Go.Operand.tmp 239) (Go.Operand.const (Go.Value.bool false)), type := 4, pos := "law.go:196", after := #[{ on := 23, ground := Go.Ground.data }, { on := 32, ground := Go.Ground.data }, { on := 17, ground := Go.Ground.guard }], guard := some (17, false) }) (v := ?_) rfl (by kernel_rfl) (by kernel_rfl) (by kernel_rfl) (fun _ _ _ h => h) (Or.inl ⟨by rfl, ?_⟩) H1 ?_
                rotate_left
                focus (intro w' hSw; (try dsimp only at hSw); go_simp; (try with_reducible rfl))
                simp only [Act.put, List.setIfInBounds_toArray, List.set_cons_zero, List.set_cons_succ]
                refine wpAnyH_take (i := 34) (oi := { dst := some 241, op := Go.Op.pick (Go.Operand.tmp 224) (Go.Operand.const (Go.Value.bool true)) (Go.Operand.tmp 240), type := 4, pos := "law.go:196", after := #[{ on := 17, ground := Go.Ground.data }, { on := 33, ground := Go.Ground.data }], guard := none }) (v := ?_) rfl (by kernel_rfl) (by kernel_rfl) (by kernel_rfl) (fun _ _ _ h => h) (Or.inl ⟨by rfl, ?_⟩) H1 ?_
                rotate_left
                focus (intro w' hSw; (try dsimp only at hSw); go_simp; (try with_reducible rfl))
                simp only [Act.put, List.setIfInBounds_toArray, List.set_cons_zero, List.set_cons_succ]
                refine wpAnyH_done (by kernel_rfl) ?_ _
                go_wp2_with fail
                go_roundw
                case rel => exact ⟨k + 1, hltk, by first | rfl | go_num, Lib.hid (TW.out.keep S HX.out)⟩
                case measure => simp [intOf]; omega
              | false =>
                have CX := CX0
                rw [RK2.out hkb] at CX
                rw [hkb] at KK
                clear RK2 hkb CX0
                generalize valN (atN N L0 ++ atN N L1) k = V2 at *
                generalize valN (atN N L0) k = V1 at *
                go_wp2_with fail
                refine wp_region_held_drew (S := fun w' => Below wy.heap.size wy w') (by kernel_rfl) ((Below.refl _ _).drew) (fun H0 => ?_)
                refine wpAnyH_take (i := 0) (oi := { dst := some 207, op := Go.Op.move (Go.Operand.tmp 23), type := 30, pos := "law.go:196", after := #[], guard := none }) (v := ?_) rfl (by kernel_rfl) (by kernel_rfl) (by kernel_rfl) (fun _ _ _ h => h) (Or.inl ⟨by rfl, ?_⟩) H0 ?_
                rotate_left
                focus (intro w' hSw; (try dsimp only at hSw); go_simp; (try with_reducible rfl))
                simp only [Act.put, List.setIfInBounds_toArray, List.set_cons_zero, List.set_cons_succ]
                refine wpAnyH_take (i := 2) (oi := { dst := some 209, op := Go.Op.move (Go.Operand.tmp 25), type := 30, pos := "law.go:196", after := #[], guard := none }) (v := ?_) rfl (by kernel_rfl) (by kernel_rfl) (by kernel_rfl) (fun _ _ _ h => h) (Or.inl ⟨by rfl, ?_⟩) H0 ?_
                rotate_left
                focus (intro w' hSw; (try dsimp only at hSw); go_simp; (try with_reducible rfl))
                simp only [Act.put, List.setIfInBounds_toArray, List.set_cons_zero, List.set_cons_succ]
                refine wpAnyH_ready (rs := [1]) (by kernel_rfl) (by simp) ?_
                refine AllReadyH.cons (o := { dst := some 208, op := Go.Op.call { callee := Go.Callee.value (Go.Operand.func 12), args := #[Go.Operand.tmp 207], argTypes := #[30] }, type := 3, pos := "law.go:196", after := #[{ on := 0, ground := Go.Ground.data }], guard := none }) rfl (fun K hK => ?_) ?_
                rotate_left
                exact AllReadyH.nil
                go_simp
                (go_at_call 12; (with_reducible refine (NM.out _ _).mono ?_); rintro e wn ⟨rfl, rfl⟩)
                try go_wp2_with fail
                refine hK.out _ _ H0 (fun Hn => ?_)
                clear hK K
                try simp only [Act.put, List.setIfInBounds_toArray, List.set_cons_zero, List.set_cons_succ]
                clear Hn
                refine wpAnyH_ready (rs := [3]) (by kernel_rfl) (by simp) ?_
                refine AllReadyH.cons (o := { dst := some 210, op := Go.Op.call { callee := Go.Callee.value (Go.Operand.func 12), args := #[Go.Operand.tmp 209], argTypes := #[30] }, type := 3, pos := "law.go:196", after := #[{ on := 2, ground := Go.Ground.data }, { on := 1, ground := Go.Ground.chain }], guard := none }) rfl (fun K hK => ?_) ?_
                rotate_left
                exact AllReadyH.nil
                go_simp
                (go_at_call 12; (with_reducible refine (NM.out _ _).mono ?_); rintro e wn ⟨rfl, rfl⟩)
                try go_wp2_with fail
                refine hK.out _ _ H0 (fun Hn => ?_)
                clear hK K
                try simp only [Act.put, List.setIfInBounds_toArray, List.set_cons_zero, List.set_cons_succ]
                clear Hn
                refine wpAnyH_take (i := 4) (oi := { dst := some 211, op := Go.Op.binOp Go.BinOp.add 3 (Go.Operand.tmp 208) (Go.Operand.tmp 210) 3, type := 3, pos := "law.go:196", after := #[{ on := 1, ground := Go.Ground.data }, { on := 3, ground := Go.Ground.data }], guard := none }) (v := ?_) rfl (by kernel_rfl) (by kernel_rfl) (by kernel_rfl) (fun _ _ _ h => h) (Or.inl ⟨by rfl, ?_⟩) H0 ?_
                rotate_left
                focus (intro w' hSw; (try dsimp only at hSw); go_simp; (try with_reducible rfl))
                simp only [Act.put, List.setIfInBounds_toArray, List.set_cons_zero, List.set_cons_succ]
                refine wpAnyH_take (i := 5) (oi := { dst := some 212, op := Go.Op.binOp Go.BinOp.neq 3 (Go.Operand.tmp 211) (Go.Operand.const (Go.Value.int Go.IntKind.i64 0)) 3, type := 4, pos := "law.go:196", after := #[{ on := 4, ground := Go.Ground.data }], guard := none }) (v := ?_) rfl (by kernel_rfl) (by kernel_rfl) (by kernel_rfl) (fun _ _ _ h => h) (Or.inl ⟨by rfl, ?_⟩) H0 ?_
                rotate_left
                focus (intro w' hSw; (try dsimp only at hSw); go_simp; (try with_reducible rfl))
                simp only [Act.put, List.setIfInBounds_toArray, List.set_cons_zero, List.set_cons_succ]
                refine wpAnyH_take (i := 6) (oi := { dst := some 213, op := Go.Op.move (Go.Operand.tmp 212), type := 4, pos := "law.go:196", after := #[{ on := 5, ground := Go.Ground.data }, { on := 3, ground := Go.Ground.chain }], guard := none }) (v := ?_) rfl (by kernel_rfl) (by kernel_rfl) (by kernel_rfl) (fun _ _ _ h => h) (Or.inl ⟨by rfl, ?_⟩) H0 ?_
                rotate_left
                focus (intro w' hSw; (try dsimp only at hSw); go_simp; (try with_reducible rfl))
                simp only [Act.put, List.setIfInBounds_toArray, List.set_cons_zero, List.set_cons_succ]
                refine wpAnyH_take (i := 7) (oi := { dst := some 214, op := Go.Op.move (Go.Operand.tmp 24), type := 47, pos := "law.go:196", after := #[{ on := 6, ground := Go.Ground.guard }], guard := some (6, false) }) (v := ?_) rfl (by kernel_rfl) (by kernel_rfl) (by kernel_rfl) (fun _ _ _ h => h) (Or.inl ⟨by rfl, ?_⟩) H0 ?_
                rotate_left
                focus (intro w' hSw; (try dsimp only at hSw); go_simp; (try with_reducible rfl))
                simp only [Act.put, List.setIfInBounds_toArray, List.set_cons_zero, List.set_cons_succ]
                refine wpAnyH_take (i := 8) (oi := { dst := some 215, op := Go.Op.convert 47 9 (Go.Operand.tmp 214), type := 9, pos := "law.go:196", after := #[{ on := 7, ground := Go.Ground.data }, { on := 6, ground := Go.Ground.guard }], guard := some (6, false) }) (v := ?_) rfl (by kernel_rfl) (by kernel_rfl) (by kernel_rfl) (fun _ _ _ h => h) (Or.inl ⟨by rfl, ?_⟩) H0 ?_
                rotate_left
                focus (intro w' hSw; (try dsimp only at hSw); have hv := CY.out _ hSw; go_simp; (try with_reducible rfl))
                simp only [Act.put, List.setIfInBounds_toArray, List.set_cons_zero, List.set_cons_succ]
                refine wpAnyH_take (i := 9) (oi := { dst := some 216, op := Go.Op.move (Go.Operand.tmp 10), type := 47, pos := "law.go:196", after := #[{ on := 6, ground := Go.Ground.guard }], guard := some (6, false) }) (v := ?_) rfl (by kernel_rfl) (by kernel_rfl) (by kernel_rfl) (fun _ _ _ h => h) (Or.inl ⟨by rfl, ?_⟩) H0 ?_
                rotate_left
                focus (intro w' hSw; (try dsimp only at hSw); go_simp; (try with_reducible rfl))
                simp only [Act.put, List.setIfInBounds_toArray, List.set_cons_zero, List.set_cons_succ]
                refine wpAnyH_take (i := 10) (oi := { dst := some 217, op := Go.Op.move (Go.Operand.tmp 21), type := 3, pos := "law.go:196", after := #[{ on := 6, ground := Go.Ground.guard }], guard := some (6, false) }) (v := ?_) rfl (by kernel_rfl) (by kernel_rfl) (by kernel_rfl) (fun _ _ _ h => h) (Or.inl ⟨by rfl, ?_⟩) H0 ?_
                rotate_left
                focus (intro w' hSw; (try dsimp only at hSw); go_simp; (try with_reducible rfl))
                simp only [Act.put, List.setIfInBounds_toArray, List.set_cons_zero, List.set_cons_succ]
                refine wpAnyH_take (i := 11) (oi := { dst := some 218, op := Go.Op.indexAddr 47 (Go.Operand.tmp 216) (Go.Operand.tmp 217), type := 0, pos := "law.go:196", after := #[{ on := 9, ground := Go.Ground.data }, { on := 10, ground := Go.Ground.data }, { on := 6, ground := Go.Ground.guard }], guard := some (6, false) }) (v := ?_) rfl (by kernel_rfl) (by kernel_rfl) (by kernel_rfl) (fun _ _ _ h => h) (Or.inl ⟨by rfl, ?_⟩) H0 ?_
                rotate_left
                focus (intro w' hSw; (try dsimp only at hSw); go_simp; (try with_reducible rfl))
                simp only [Act.put, List.setIfInBounds_toArray, List.set_cons_zero, List.set_cons_succ]
                refine wpAnyH_take (i := 12) (oi := { dst := some 219, op := Go.Op.load 5 (Go.Operand.tmp 218), type := 5, pos := "law.go:196", after := #[{ on := 11, ground := Go.Ground.data }, { on := 6, ground := Go.Ground.guard }], guard := some (6, false) }) (v := ?_) rfl (by kernel_rfl) (by kernel_rfl) (by kernel_rfl) (fun _ _ _ h => h) (Or.inl ⟨by rfl, ?_⟩) H0 ?_
                rotate_left
                focus (intro w' hSw; (try dsimp only at hSw); have hv := KN.out _ hSw; go_simp; (try with_reducible rfl))
                simp only [Act.put, List.setIfInBounds_toArray, List.set_cons_zero, List.set_cons_succ]
                have HX : Hid (Below wr.heap.size wr wy.drew) := Lib.hid (HXY.out.drew)
                refine wpAnyH_ready (rs := [13]) (by kernel_rfl) (by simp) ?_
                refine AllReadyH.cons (o := { dst := some 220, op := Go.Op.call { callee := Go.Callee.value (Go.Operand.func 16), args := #[Go.Operand.tmp 219], argTypes := #[5] }, type := 47, pos := "law.go:196", after := #[{ on := 12, ground := Go.Ground.data }, { on := 6, ground := Go.Ground.chain }, { on := 6, ground := Go.Ground.guard }], guard := some (6, false) }) rfl (fun K hK => ?_) ?_
                rotate_left
                exact AllReadyH.nil
                go_simp
                (go_at_call 16; (with_reducible refine (SN.out _).mono ?_); rintro e ws1 ⟨rfl, hs⟩)
                try go_wp2_with fail
                refine hK.out _ _ (kbT H0 hs.2) (fun Gs => ?_)
                clear hK K
                try simp only [Act.put, List.setIfInBounds_toArray, List.set_cons_zero, List.set_cons_succ]
                have HX := Lib.hid (below_any HX.out hs.2)
                refine wpAnyH_turn (S' := fun w' => Below (ws1).heap.size (ws1) w') (fun w' h => kbT Gs h) _ _ _ _ ?_
                have H1 := Below.refl (ws1).heap.size (ws1)
                have BS0 := sec_at hs
                have BN : Hid (BytesAt ws1 (some ⟨wy.heap.size, 0, none⟩) (List.replicate 64 V2)) := Lib.hid BS0
                have Y1 : Hid (Below wy.heap.size wy ws1) := Lib.hid Gs
                clear hs BS0
                refine wpAnyH_take (i := 14) (oi := { dst := some 221, op := Go.Op.convert 47 9 (Go.Operand.tmp 220), type := 9, pos := "law.go:196", after := #[{ on := 13, ground := Go.Ground.data }, { on := 6, ground := Go.Ground.guard }], guard := some (6, false) }) (v := ?_) rfl (by kernel_rfl) (by kernel_rfl) (by kernel_rfl) (fun _ _ _ h => h) (Or.inl ⟨by rfl, ?_⟩) H1 ?_
                rotate_left
                focus (intro w' hSw; (try dsimp only at hSw); have hv := conv_sec hv2 (bytesAt_below BN.out hSw); go_simp; (try with_reducible rfl))
                simp only [Act.put, List.setIfInBounds_toArray, List.set_cons_zero, List.set_cons_succ]
                refine wpAnyH_take (i := 15) (oi := { dst := some 222, op := Go.Op.binOp Go.BinOp.neq 9 (Go.Operand.tmp 215) (Go.Operand.tmp 221) 9, type := 4, pos := "law.go:196", after := #[{ on := 8, ground := Go.Ground.data }, { on := 14, ground := Go.Ground.data }, { on := 6, ground := Go.Ground.guard }], guard := some (6, false) }) (v := ?_) rfl (by kernel_rfl) (by kernel_rfl) (by kernel_rfl) (fun _ _ _ h => h) (Or.inl ⟨by rfl, ?_⟩) H1 ?_
                rotate_left
                focus (intro w' hSw; (try dsimp only at hSw); go_simp; (try with_reducible rfl))
                simp only [Act.put, List.setIfInBounds_toArray, List.set_cons_zero, List.set_cons_succ]
                refine wpAnyH_take (i := 16) (oi := { dst := some 223, op := Go.Op.pick (Go.Operand.tmp 213) (Go.Operand.const (Go.Value.bool true)) (Go.Operand.tmp 222), type := 4, pos := "law.go:196", after := #[{ on := 6, ground := Go.Ground.data }, { on := 15, ground := Go.Ground.data }], guard := none }) (v := ?_) rfl (by kernel_rfl) (by kernel_rfl) (by kernel_rfl) (fun _ _ _ h => h) (Or.inl ⟨by rfl, ?_⟩) H1 ?_
                rotate_left
                focus (intro w' hSw; (try dsimp only at hSw); go_simp; (try with_reducible rfl))
                simp only [Act.put, List.setIfInBounds_toArray, List.set_cons_zero, List.set_cons_succ]
                refine wpAnyH_take (i := 17) (oi := { dst := some 224, op := Go.Op.move (Go.Operand.tmp 223), type := 4, pos := "law.go:196", after := #[{ on := 16, ground := Go.Ground.data }, { on := 13, ground := Go.Ground.chain }], guard := none }) (v := ?_) rfl (by kernel_rfl) (by kernel_rfl) (by kernel_rfl) (fun _ _ _ h => h) (Or.inl ⟨by rfl, ?_⟩) H1 ?_
                rotate_left
                focus (intro w' hSw; (try dsimp only at hSw); go_simp; (try with_reducible rfl))
                simp only [Act.put, List.setIfInBounds_toArray, List.set_cons_zero, List.set_cons_succ]
                refine wpAnyH_take (i := 18) (oi := { dst := some 225, op := Go.Op.move (Go.Operand.tmp 14), type := 23, pos := "law.go:196", after := #[{ on := 17, ground := Go.Ground.guard }], guard := some (17, false) }) (v := ?_) rfl (by kernel_rfl) (by kernel_rfl) (by kernel_rfl) (fun _ _ _ h => h) (Or.inl ⟨by rfl, ?_⟩) H1 ?_
                rotate_left
                focus (intro w' hSw; (try dsimp only at hSw); go_simp; (try with_reducible rfl))
                simp only [Act.put, List.setIfInBounds_toArray, List.set_cons_zero, List.set_cons_succ]
                refine wpAnyH_take (i := 19) (oi := { dst := some 226, op := Go.Op.move (Go.Operand.tmp 21), type := 3, pos := "law.go:196", after := #[{ on := 17, ground := Go.Ground.guard }], guard := some (17, false) }) (v := ?_) rfl (by kernel_rfl) (by kernel_rfl) (by kernel_rfl) (fun _ _ _ h => h) (Or.inl ⟨by rfl, ?_⟩) H1 ?_
                rotate_left
                focus (intro w' hSw; (try dsimp only at hSw); go_simp; (try with_reducible rfl))
                simp only [Act.put, List.setIfInBounds_toArray, List.set_cons_zero, List.set_cons_succ]
                refine wpAnyH_take (i := 20) (oi := { dst := some 227, op := Go.Op.indexAddr 23 (Go.Operand.tmp 225) (Go.Operand.tmp 226), type := 0, pos := "law.go:196", after := #[{ on := 18, ground := Go.Ground.data }, { on := 19, ground := Go.Ground.data }, { on := 17, ground := Go.Ground.guard }], guard := some (17, false) }) (v := ?_) rfl (by kernel_rfl) (by kernel_rfl) (by kernel_rfl) (fun _ _ _ h => h) (Or.inl ⟨by rfl, ?_⟩) H1 ?_
                rotate_left
                focus (intro w' hSw; (try dsimp only at hSw); go_simp; (try with_reducible rfl))
                simp only [Act.put, List.setIfInBounds_toArray, List.set_cons_zero, List.set_cons_succ]
                refine wpAnyH_take (i := 21) (oi := { dst := some 228, op := Go.Op.load 4 (Go.Operand.tmp 227), type := 4, pos := "law.go:196", after := #[{ on := 20, ground := Go.Ground.data }, { on := 17, ground := Go.Ground.guard }], guard := some (17, false) }) (v := ?_) rfl (by kernel_rfl) (by kernel_rfl) (by kernel_rfl) (fun _ _ _ h => h) (Or.inl ⟨by rfl, ?_⟩) H1 ?_
                rotate_left
                focus (intro w' hSw; (try dsimp only at hSw); have hv := KK.out _ (below_any Y1.out hSw); go_simp; (try with_reducible rfl))
                simp only [Act.put, List.setIfInBounds_toArray, List.set_cons_zero, List.set_cons_succ]
                refine wpAnyH_take (i := 22) (oi := { dst := some 229, op := Go.Op.unOp Go.UnOp.not 4 (Go.Operand.tmp 228), type := 4, pos := "law.go:196", after := #[{ on := 21, ground := Go.Ground.data }, { on := 17, ground := Go.Ground.guard }], guard := some (17, false) }) (v := ?_) rfl (by kernel_rfl) (by kernel_rfl) (by kernel_rfl) (fun _ _ _ h => h) (Or.inl ⟨by rfl, ?_⟩) H1 ?_
                rotate_left
                focus (intro w' hSw; (try dsimp only at hSw); go_simp; (try with_reducible rfl))
                simp only [Act.put, List.setIfInBounds_toArray, List.set_cons_zero, List.set_cons_succ]
                refine wpAnyH_take (i := 23) (oi := { dst := some 230, op := Go.Op.move (Go.Operand.tmp 229), type := 4, pos := "law.go:196", after := #[{ on := 22, ground := Go.Ground.data }, { on := 17, ground := Go.Ground.chain }, { on := 17, ground := Go.Ground.guard }], guard := some (17, false) }) (v := ?_) rfl (by kernel_rfl) (by kernel_rfl) (by kernel_rfl) (fun _ _ _ h => h) (Or.inl ⟨by rfl, ?_⟩) H1 ?_
                rotate_left
                focus (intro w' hSw; (try dsimp only at hSw); go_simp; (try with_reducible rfl))
                simp only [Act.put, List.setIfInBounds_toArray, List.set_cons_zero, List.set_cons_succ]
                refine wpAnyH_take (i := 24) (oi := { dst := some 231, op := Go.Op.move (Go.Operand.tmp 22), type := 47, pos := "law.go:196", after := #[{ on := 23, ground := Go.Ground.guard }], guard := some (23, true) }) (v := ?_) rfl (by kernel_rfl) (by kernel_rfl) (by kernel_rfl) (fun _ _ _ h => h) (Or.inl ⟨by rfl, ?_⟩) H1 ?_
                rotate_left
                focus (intro w' hSw; (try dsimp only at hSw); go_simp; (try with_reducible rfl))
                simp only [Act.put, List.setIfInBounds_toArray, List.set_cons_zero, List.set_cons_succ]
                refine wpAnyH_take (i := 25) (oi := { dst := some 232, op := Go.Op.convert 47 9 (Go.Operand.tmp 231), type := 9, pos := "law.go:196", after := #[{ on := 24, ground := Go.Ground.data }, { on := 23, ground := Go.Ground.guard }], guard := some (23, true) }) (v := ?_) rfl (by kernel_rfl) (by kernel_rfl) (by kernel_rfl) (fun _ _ _ h => h) (Or.inl ⟨by rfl, ?_⟩) H1 ?_
                rotate_left
                focus (intro w' hSw; (try dsimp only at hSw); have hv := CX.out _ (below_any Y1.out hSw); go_simp; (try with_reducible rfl))
                simp only [Act.put, List.setIfInBounds_toArray, List.set_cons_zero, List.set_cons_succ]
                refine wpAnyH_take (i := 26) (oi := { dst := some 233, op := Go.Op.move (Go.Operand.tmp 9), type := 47, pos := "law.go:196", after := #[{ on := 23, ground := Go.Ground.guard }], guard := some (23, true) }) (v := ?_) rfl (by kernel_rfl) (by kernel_rfl) (by kernel_rfl) (fun _ _ _ h => h) (Or.inl ⟨by rfl, ?_⟩) H1 ?_
                rotate_left
                focus (intro w' hSw; (try dsimp only at hSw); go_simp; (try with_reducible rfl))
                simp only [Act.put, List.setIfInBounds_toArray, List.set_cons_zero, List.set_cons_succ]
                refine wpAnyH_take (i := 27) (oi := { dst := some 234, op := Go.Op.move (Go.Operand.tmp 21), type := 3, pos := "law.go:196", after := #[{ on := 23, ground := Go.Ground.guard }], guard := some (23, true) }) (v := ?_) rfl (by kernel_rfl) (by kernel_rfl) (by kernel_rfl) (fun _ _ _ h => h) (Or.inl ⟨by rfl, ?_⟩) H1 ?_
                rotate_left
                focus (intro w' hSw; (try dsimp only at hSw); go_simp; (try with_reducible rfl))
                simp only [Act.put, List.setIfInBounds_toArray, List.set_cons_zero, List.set_cons_succ]
                refine wpAnyH_take (i := 28) (oi := { dst := some 235, op := Go.Op.indexAddr 47 (Go.Operand.tmp 233) (Go.Operand.tmp 234), type := 0, pos := "law.go:196", after := #[{ on := 26, ground := Go.Ground.data }, { on := 27, ground := Go.Ground.data }, { on := 23, ground := Go.Ground.guard }], guard := some (23, true) }) (v := ?_) rfl (by kernel_rfl) (by kernel_rfl) (by kernel_rfl) (fun _ _ _ h => h) (Or.inl ⟨by rfl, ?_⟩) H1 ?_
                rotate_left
                focus (intro w' hSw; (try dsimp only at hSw); go_simp; (try with_reducible rfl))
                simp only [Act.put, List.setIfInBounds_toArray, List.set_cons_zero, List.set_cons_succ]
                refine wpAnyH_take (i := 29) (oi := { dst := some 236, op := Go.Op.load 5 (Go.Operand.tmp 235), type := 5, pos := "law.go:196", after := #[{ on := 28, ground := Go.Ground.data }, { on := 23, ground := Go.Ground.guard }], guard := some (23, true) }) (v := ?_) rfl (by kernel_rfl) (by kernel_rfl) (by kernel_rfl) (fun _ _ _ h => h) (Or.inl ⟨by rfl, ?_⟩) H1 ?_
                rotate_left
                focus (intro w' hSw; (try dsimp only at hSw); have hv := KW.out _ (below_any Y1.out hSw); go_simp; (try with_reducible rfl))
                simp only [Act.put, List.setIfInBounds_toArray, List.set_cons_zero, List.set_cons_succ]
                refine wpAnyH_ready (rs := [30]) (by kernel_rfl) (by simp) ?_
                refine AllReadyH.cons (o := { dst := some 237, op := Go.Op.call { callee := Go.Callee.value (Go.Operand.func 16), args := #[Go.Operand.tmp 236], argTypes := #[5] }, type := 47, pos := "law.go:196", after := #[{ on := 29, ground := Go.Ground.data }, { on := 23, ground := Go.Ground.chain }, { on := 23, ground := Go.Ground.guard }], guard := some (23, true) }) rfl (fun K hK => ?_) ?_
                rotate_left
                exact AllReadyH.nil
                go_simp
                (go_at_call 16; (with_reducible refine (SW.out _).mono ?_); rintro e ws2 ⟨rfl, hs⟩)
                try go_wp2_with fail
                refine hK.out _ _ (kbT H1 hs.2) (fun Gs => ?_)
                clear hK K
                try simp only [Act.put, List.setIfInBounds_toArray, List.set_cons_zero, List.set_cons_succ]
                have HX := Lib.hid (below_any HX.out hs.2)
                refine wpAnyH_turn (S' := fun w' => Below (ws2).heap.size (ws2) w') (fun w' h => kbT Gs h) _ _ _ _ ?_
                have H2 := Below.refl (ws2).heap.size (ws2)
                have BS0 := sec_at hs
                have BW : Hid (BytesAt ws2 (some ⟨ws1.heap.size, 0, none⟩) (List.replicate 64 V1)) := Lib.hid BS0
                clear hs BS0
                refine wpAnyH_take (i := 31) (oi := { dst := some 238, op := Go.Op.convert 47 9 (Go.Operand.tmp 237), type := 9, pos := "law.go:196", after := #[{ on := 30, ground := Go.Ground.data }, { on := 23, ground := Go.Ground.guard }], guard := some (23, true) }) (v := ?_) rfl (by kernel_rfl) (by kernel_rfl) (by kernel_rfl) (fun _ _ _ h => h) (Or.inl ⟨by rfl, ?_⟩) H2 ?_
                rotate_left
                focus (intro w' hSw; (try dsimp only at hSw); have hv := conv_sec hv1 (bytesAt_below BW.out hSw); go_simp; (try with_reducible rfl))
                simp only [Act.put, List.setIfInBounds_toArray, List.set_cons_zero, List.set_cons_succ]
                refine wpAnyH_take (i := 32) (oi := { dst := some 239, op := Go.Op.binOp Go.BinOp.neq 9 (Go.Operand.tmp 232) (Go.Operand.tmp 238) 9, type := 4, pos := "law.go:196", after := #[{ on := 25, ground := Go.Ground.data }, { on := 31, ground := Go.Ground.data }, { on := 23, ground := Go.Ground.guard }], guard := some (23, true) }) (v := ?_) rfl (by kernel_rfl) (by kernel_rfl) (by kernel_rfl) (fun _ _ _ h => h) (Or.inl ⟨by rfl, ?_⟩) H2 ?_
                rotate_left
                focus (intro w' hSw; (try dsimp only at hSw); go_simp; (try with_reducible rfl))
                simp only [Act.put, List.setIfInBounds_toArray, List.set_cons_zero, List.set_cons_succ]
                refine wpAnyH_take (i := 33) (oi := { dst := some 240, op := Go.Op.pick (Go.Operand.tmp 230) (Go.Operand.tmp 239) (Go.Operand.const (Go.Value.bool false)), type := 4, pos := "law.go:196", after := #[{ on := 23, ground := Go.Ground.data }, { on := 32, ground := Go.Ground.data }, { on := 17, ground := Go.Ground.guard }], guard := some (17, false) }) (v := ?_) rfl (by kernel_rfl) (by kernel_rfl) (by kernel_rfl) (fun _ _ _ h => h) (Or.inl ⟨by rfl, ?_⟩) H2 ?_
                rotate_left
                focus (intro w' hSw; (try dsimp only at hSw); go_simp; (try with_reducible rfl))
                simp only [Act.put, List.setIfInBounds_toArray, List.set_cons_zero, List.set_cons_succ]
                refine wpAnyH_take (i := 34) (oi := { dst := some 241, op := Go.Op.pick (Go.Operand.tmp 224) (Go.Operand.const (Go.Value.bool true)) (Go.Operand.tmp 240), type := 4, pos := "law.go:196", after := #[{ on := 17, ground := Go.Ground.data }, { on := 33, ground := Go.Ground.data }], guard := none }) (v := ?_) rfl (by kernel_rfl) (by kernel_rfl) (by kernel_rfl) (fun _ _ _ h => h) (Or.inl ⟨by rfl, ?_⟩) H2 ?_
                rotate_left
                focus (intro w' hSw; (try dsimp only at hSw); go_simp; (try with_reducible rfl))
                simp only [Act.put, List.setIfInBounds_toArray, List.set_cons_zero, List.set_cons_succ]
                refine wpAnyH_done (by kernel_rfl) ?_ _
                go_wp2_with fail
                go_roundw
                case rel => exact ⟨k + 1, hltk, by first | rfl | go_num, Lib.hid (TW.out.keep S HX.out)⟩
                case measure => simp [intOf]; omega
            · obtain rfl : k = N := by omega
              go_wp2_with (go_at_call 6; refine (WK.out _).mono ?_; rintro e wf ⟨rfl, hbf⟩; have HBF := Lib.hid (below_any TW.out.below hbf); clear hbf)
              go_ret
              exact ⟨rfl, below_any HBB.out HBF.out⟩
end Go.Proofs.Ythbnochlpnikaaa
