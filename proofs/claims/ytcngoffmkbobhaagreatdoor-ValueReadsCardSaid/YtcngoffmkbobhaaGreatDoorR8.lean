import Derived.Test.YtcngoffmkbobhaaGreatDoorR7
import Derived.BigQuiet
namespace Go.Proofs.YtcngoffmkbobhaaGreatDoor
open Go.RowKit

theorem refDigit_q (c : UInt8) (w : World) : Calls Tryz.prog 57 #[.int .u8 c.toNat] w fun r w' => r = .returned (.int .i64 (dv c)) ∧ w' = w := (refDigit_any c w).mono fun _ _ ⟨h1, h2⟩ => ⟨h1, h2.symm⟩

theorem nib_conv (wr : World) (nq x y : Nat) (hx : x < 16) (hy : y < 16) : (convert 91 9 (.slice (some ⟨wr.heap.size, 0, none⟩) 1 1)).run Tryz.prog ((wr.drewN nq).alloc (.cells #[.int .u8 (16 * (x : Int) + (y : Int))] 5)) = .ok (.string ⟨[(16 * x + y).toUInt8].toArray⟩) ((wr.drewN nq).alloc (.cells #[.int .u8 (16 * (x : Int) + (y : Int))] 5)) := by
  refine run_convert_bytes_back (P := Tryz.prog) _ 91 9 5 ⟨wr.heap.size, 0, none⟩ 1 [(16 * x + y).toUInt8] Tryz.underlying91 Tryz.underlying5 Tryz.underlying9 (fun j hj => ?_)
  obtain rfl : j = 0 := by simpa using hj
  have e : (((16 * x + y).toUInt8).toNat : Int) = 16 * (x : Int) + (y : Int) := by
    have : ((16 * x + y).toUInt8).toNat = (16 * x + y) % 256 := by simp
    rw [this]
    omega
  have e2 : some (Value.int .u8 ((([(16 * x + y).toUInt8] : List UInt8)[0]'hj).toNat : Int)) = some (Value.int .u8 (16 * (x : Int) + (y : Int))) := by simp only [List.getElem_cons_zero, e]
  rw [e2]
  show ((wr.drewN nq).alloc (.cells #[.int .u8 (16 * (x : Int) + (y : Int))] 5)).cell? ⟨wr.heap.size, 0, none⟩ = some (.int .u8 (16 * (x : Int) + (y : Int)))
  have hs : (wr.drewN nq).heap.size = wr.heap.size := by simp
  rw [← hs]
  generalize wr.drewN nq = W
  go_cell
theorem one_join (l : List UInt8) (c : UInt8) : (⟨l.toArray⟩ : ByteArray) ++ (⟨[c].toArray⟩ : ByteArray) = ⟨(l ++ [c]).toArray⟩ := by
  apply Go.WideShapes.bytes_inj
  rw [Go.Joins.data_append]
theorem unhex_two {l : List UInt8} {p x y : Nat} (h : p + 1 < l.length) (hx : dv l[p] = (x : Int)) (hy : dv l[p + 1] = (y : Int)) : unhex (l.drop p) = (unhex (l.drop (p + 2))).map ((16 * x + y).toUInt8 :: ·) := by
  rw [List.drop_eq_getElem_cons (show p < l.length by omega), List.drop_eq_getElem_cons h]
  conv => lhs; unfold unhex
  rw [if_neg (by omega), hx, hy]
  simp
theorem unhex_neg {l : List UInt8} {p : Nat} (h : p + 1 < l.length) (hn : dv l[p] < 0 ∨ dv l[p + 1] < 0) : unhex (l.drop p) = none := by
  rw [List.drop_eq_getElem_cons (show p < l.length by omega), List.drop_eq_getElem_cons h]
  unfold unhex
  rw [if_pos hn]
theorem hexE_none {l : List UInt8} (h : unhex l = none) : hexE l = (110, 0, 0, []) := by
  unfold hexE
  rw [h]
  split <;> rfl
theorem hexE_some {l u : List UInt8} (he : l.length % 2 = 0) (h : unhex l = some u) : hexE l = if u.length ≤ 1000 then (0, 4, 0, u) else (3, 0, 0, []) := by
  unfold hexE
  rw [h, if_pos he]

theorem check_u {u : List UInt8} (h : u.length ≤ 1000) : checkV 4 0 ⟨u.toArray⟩ = 0 := by
  unfold checkV
  rw [if_neg (by rw [Lib.size_eq]; simp; omega)]
  rfl
theorem check_v {u : List UInt8} (h : ¬ u.length ≤ 1000) : checkV 4 0 ⟨u.toArray⟩ = 3 := by
  unfold checkV
  rw [if_pos (by rw [Lib.size_eq]; simp; omega)]

set_option maxRecDepth 100000 in
set_option maxHeartbeats 1000000 in
theorem rp_blob (s t : ByteArray) (w : World) (hs : s.size ≤ 1000000) (h0 : (s.toList == [110, 117, 108, 108]) = false) (h1 : (s.toList == [102, 97, 108, 115, 101]) = false) (h2 : (s.toList == [116, 114, 117, 101]) = false)
    (HW : Hid (∀ w, Calls Tryz.prog 55 #[.string s] w fun r w' => ∃ n, r = .returned (.tuple #[.int .i64 n, .bool false]) ∧ w = w')) (hz : 0 < s.size) (hc : (s[0]'hz).toNat = 120)
    (HQ : Hid (∀ w, Calls Tryz.prog 56 #[.string (s.extract 1 s.size)] w fun r w' => r = .returned (.tuple #[.string t, .bool true]) ∧ w = w')) (ht : t.size ≤ 1000000) (heven : t.size % 2 = 0) :
    Calls Tryz.prog 30 #[.string s] w fun r w' => r = .returned (rdV (hexE t.data.toList)) ∧ Below w.heap.size w w' := by
  have z0 : (0 : Int) < (s.size : Int) := by omega
  have z1 : (1 : Int) ≤ (s.size : Int) := by omega
  have he2 : ((t.size : Int) % 2 == 1) = false := by rw [show (t.size : Int) % 2 = 0 by omega]; rfl
  go_enter Tryz.func30, Tryz.ntmps30
  go_wp2_with (first | (go_at_call 55; refine (HW.out _).mono ?_; rintro e w' ⟨n, rfl, rfl⟩) | (go_at_call 56; refine (HQ.out _).mono ?_; rintro e w' ⟨rfl, rfl⟩))
  go_loopw [10, 11, 12] (fun i _ _ wr => ∃ (p : Nat) (u : List UInt8), p ≤ t.size ∧ p % 2 = 0 ∧ i = .int .i64 p ∧ u.length ≤ p ∧ unhex t.data.toList = (unhex (t.data.toList.drop p)).map (u ++ ·) ∧
      wr.cell? ⟨w.heap.size + 1, 0, none⟩ = some (.int .i64 4) ∧ wr.cell? ⟨w.heap.size + 1, 1, none⟩ = some (.int .i64 0) ∧ wr.cell? ⟨w.heap.size + 1, 2, none⟩ = some (.string ⟨u.toArray⟩) ∧ wr.frozen? ⟨w.heap.size + 1, 2, none⟩ = false ∧ Below (w.alloc (vObj 0 0 ⟨#[]⟩)).heap.size (w.alloc (vObj 0 0 ⟨#[]⟩)) wr) (fun i _ _ _ => t.size - (intOf i).toNat)
  case atStart => exact ⟨0, [], Nat.zero_le _, rfl, rfl, Nat.le_refl _, by simp, by go_cell, by go_cell, by go_cell, by go_simp, (Below.refl _ _).alloc (Nat.le_refl _) _⟩
  case round =>
    obtain ⟨p, u, hp, hp2, rfl, hul, hun, kk0, kk1, kk2, kf2, hB⟩ := hrel
    have HUN := Lib.hid hun
    clear hun
    obtain ⟨rr0, rr1, rr2⟩ := box_facts hB
    obtain ⟨rf0, rf1, rf2⟩ := cold_facts hB
    by_cases hlt : p < t.size
    · have hlt1 : p + 1 < t.size := by omega
      have hi0 : (0 : Int) ≤ (p : Int) := by omega
      have hi1 : (p : Int) < (t.size : Int) := by omega
      have hi2 : (0 : Int) ≤ (p : Int) + 1 := by omega
      have hi3 : (p : Int) + 1 < (t.size : Int) := by omega
      have hi4 : ((p : Int) + 1).toNat = p + 1 := by omega
      have hl : Hid (p + 1 < t.data.toList.length) := by have := Lib.size_eq t; exact (show p + 1 < t.data.toList.length by omega)
      go_wp2
      go_quiet ((go_at_call 57; exact Calls.quiet_of_same (refDigit_q _ _)))
      by_cases ha : dv (t[p]'hlt) < 0
      · have ha' : dv (t.data.toList[p]'(by have := hl.out; omega)) < 0 := ha
        have HN : Hid (hexE t.data.toList = (110, 0, 0, [])) := hexE_none (by rw [HUN.out, unhex_neg hl.out (.inl ha')]; rfl)
        go_wp2
        have q0 : (wr.drewN nq).cell? ⟨w.heap.size, 0, none⟩ = some (.int .i64 0) := by go_cell
        have q1 : (wr.drewN nq).cell? ⟨w.heap.size, 1, none⟩ = some (.int .i64 0) := by go_cell
        have q2 : (wr.drewN nq).cell? ⟨w.heap.size, 2, none⟩ = some (.string ⟨#[]⟩) := by go_cell
        have e0 := put3 q0 q1 q2 (.int .i64 0) (.int .i64 0) (.string ⟨#[]⟩)
        have hBW : Below w.heap.size w ((((wr.drewN nq).setCell ⟨w.heap.size, 0, none⟩ (.int .i64 0)).setCell ⟨w.heap.size, 1, none⟩ (.int .i64 0)).setCell ⟨w.heap.size, 2, none⟩ (.string ⟨#[]⟩)) := (((kb1 (below_drewN hB nq)).setCell (Nat.le_refl _) _).setCell (Nat.le_refl _) _).setCell (Nat.le_refl _) _
        generalize (((wr.drewN nq).setCell ⟨w.heap.size, 0, none⟩ (.int .i64 0)).setCell ⟨w.heap.size, 1, none⟩ (.int .i64 0)).setCell ⟨w.heap.size, 2, none⟩ (.string ⟨#[]⟩) = W at e0 hBW ⊢
        obtain ⟨e0, e1, e2⟩ := e0
        refine bodyPost_ret (v := rdV (110, 0, 0, [])) ?_ rfl ⟨by rw [HN.out], hBW⟩
        simp [results, Tryz.results30, go_sem, e0, e1, e2, rdV]
      by_cases hb : dv (t[p + 1]'hlt1) < 0
      · have hb' : dv (t.data.toList[p + 1]'hl.out) < 0 := hb
        have HN : Hid (hexE t.data.toList = (110, 0, 0, [])) := hexE_none (by rw [HUN.out, unhex_neg hl.out (.inr hb')]; rfl)
        go_wp2
        have q0 : (wr.drewN nq).cell? ⟨w.heap.size, 0, none⟩ = some (.int .i64 0) := by go_cell
        have q1 : (wr.drewN nq).cell? ⟨w.heap.size, 1, none⟩ = some (.int .i64 0) := by go_cell
        have q2 : (wr.drewN nq).cell? ⟨w.heap.size, 2, none⟩ = some (.string ⟨#[]⟩) := by go_cell
        have e0 := put3 q0 q1 q2 (.int .i64 0) (.int .i64 0) (.string ⟨#[]⟩)
        have hBW : Below w.heap.size w ((((wr.drewN nq).setCell ⟨w.heap.size, 0, none⟩ (.int .i64 0)).setCell ⟨w.heap.size, 1, none⟩ (.int .i64 0)).setCell ⟨w.heap.size, 2, none⟩ (.string ⟨#[]⟩)) := (((kb1 (below_drewN hB nq)).setCell (Nat.le_refl _) _).setCell (Nat.le_refl _) _).setCell (Nat.le_refl _) _
        generalize (((wr.drewN nq).setCell ⟨w.heap.size, 0, none⟩ (.int .i64 0)).setCell ⟨w.heap.size, 1, none⟩ (.int .i64 0)).setCell ⟨w.heap.size, 2, none⟩ (.string ⟨#[]⟩) = W at e0 hBW ⊢
        obtain ⟨e0, e1, e2⟩ := e0
        refine bodyPost_ret (v := rdV (110, 0, 0, [])) ?_ rfl ⟨by rw [HN.out], hBW⟩
        simp [results, Tryz.results30, go_sem, e0, e1, e2, rdV]
      · obtain ⟨x, hx, hx16⟩ : ∃ x : Nat, dv (t[p]'hlt) = (x : Int) ∧ x < 16 := by
          rcases dv_lo (t[p]'hlt) with h | ⟨h, h'⟩
          · omega
          · exact ⟨(dv (t[p]'hlt)).toNat, by omega, by omega⟩
        obtain ⟨y, hy, hy16⟩ : ∃ y : Nat, dv (t[p + 1]'hlt1) = (y : Int) ∧ y < 16 := by
          rcases dv_lo (t[p + 1]'hlt1) with h | ⟨h, h'⟩
          · omega
          · exact ⟨(dv (t[p + 1]'hlt1)).toNat, by omega, by omega⟩
        have HX := Lib.hid hx
        have HY := Lib.hid hy
        rw [hx, hy]
        clear hx hy ha hb
        have hx0 : (0 : Int) ≤ (x : Int) := by omega
        have hx1 : (x : Int) ≤ 15 := by omega
        have hy0 : (0 : Int) ≤ (y : Int) := by omega
        have hy1 : (y : Int) ≤ 15 := by omega
        have hcv := nib_conv wr nq x y hx16 hy16
        have HS : Hid (unhex (t.data.toList.drop p) = (unhex (t.data.toList.drop (p + 2))).map ((16 * x + y).toUInt8 :: ·)) := unhex_two hl.out HX.out HY.out
        generalize (16 * x + y).toUInt8 = c at hcv HS
        have HJ := Lib.hid (one_join u c)
        have hlt2 := lt_of_cell_some kk2
        simp only at hlt2
        have bV : Below wr.heap.size wr ((wr.drewN nq).alloc (.cells #[.int .u8 (16 * (x : Int) + (y : Int))] 5)) := (below_drewN (Below.refl _ _) nq).alloc (by simp) _
        have V0 := (bV.cell (p := ⟨w.heap.size + 1, 0, none⟩) hlt2).trans kk0
        have V1 := (bV.cell (p := ⟨w.heap.size + 1, 1, none⟩) hlt2).trans kk1
        have V2 := (bV.cell (p := ⟨w.heap.size + 1, 2, none⟩) hlt2).trans kk2
        have VF := (bV.frozen (p := ⟨w.heap.size + 1, 2, none⟩) hlt2).trans kf2
        have HBV := Lib.hid (hB.trans (bV.mono hB.size))
        clear bV hlt2
        go_wp2
        refine ⟨⟨p + 2, u ++ [c], by omega, by omega, by go_num, by simp; omega, ?_, ?_, ?_, ?_, ?_, ?_⟩, by simp [intOf]; omega⟩
        · rw [HUN.out, HS.out, Option.map_map]
          congr 1
          funext l
          simp
        · go_cell
        · go_cell
        · rw [HJ.out]
          go_cell
        · go_simp
        · exact HBV.out.setCell (by simp) _
    · have HL := Lib.hid (Lib.size_eq t)
      have hge : (t.size : Int) ≤ (p : Int) := by omega
      have hd : t.data.toList.drop p = [] := List.drop_of_length_le (by have := HL.out; omega)
      have HU : Hid (unhex t.data.toList = some u) := Lib.hid (by rw [HUN.out, hd]; simp [unhex])
      clear hd
      have hk2 := lt_of_cell_some kk0
      have hr2 := lt_of_cell_some rr0
      simp only at hk2 hr2
      by_cases hu : u.length ≤ 1000
      · have hck : Hid (checkV 4 0 ⟨u.toArray⟩ = 0) := check_u hu
        have HX : Hid (hexE t.data.toList = (0, 4, 0, u)) := Lib.hid (by rw [hexE_some (by have := HL.out; omega) HU.out, if_pos hu])
        go_wp2_with (go_at_call 12; refine (refCheck_any _ _ _ _).mono ?_; rintro e w1 ⟨rfl, b1⟩; rw [hck.out]; have r0 := (b1.cell (p := ⟨w.heap.size, 0, none⟩) hr2).trans rr0; have r1 := (b1.cell (p := ⟨w.heap.size, 1, none⟩) hr2).trans rr1; have r2 := (b1.cell (p := ⟨w.heap.size, 2, none⟩) hr2).trans rr2; have g0 := (b1.frozen (p := ⟨w.heap.size, 0, none⟩) hr2).trans rf0; have g1 := (b1.frozen (p := ⟨w.heap.size, 1, none⟩) hr2).trans rf1; have g2 := (b1.frozen (p := ⟨w.heap.size, 2, none⟩) hr2).trans rf2; have s0 := (b1.cell (p := ⟨w.heap.size + 1, 0, none⟩) hk2).trans kk0; have s1' := (b1.cell (p := ⟨w.heap.size + 1, 1, none⟩) hk2).trans kk1; have s2 := (b1.cell (p := ⟨w.heap.size + 1, 2, none⟩) hk2).trans kk2)
        have e0 := put3 r0 r1 r2 (.int .i64 4) (.int .i64 0) (.string ⟨u.toArray⟩)
        have hBW : Below w.heap.size w (((w1.setCell ⟨w.heap.size, 0, none⟩ (.int .i64 4)).setCell ⟨w.heap.size, 1, none⟩ (.int .i64 0)).setCell ⟨w.heap.size, 2, none⟩ (.string ⟨u.toArray⟩)) := (((kb1 (hB.trans (b1.mono hB.size))).setCell (Nat.le_refl _) _).setCell (Nat.le_refl _) _).setCell (Nat.le_refl _) _
        generalize ((w1.setCell ⟨w.heap.size, 0, none⟩ (.int .i64 4)).setCell ⟨w.heap.size, 1, none⟩ (.int .i64 0)).setCell ⟨w.heap.size, 2, none⟩ (.string ⟨u.toArray⟩) = W at e0 hBW ⊢
        obtain ⟨e0, e1, e2⟩ := e0
        refine bodyPost_ret (v := rdV (0, 4, 0, u)) ?_ rfl ⟨by rw [HX.out], hBW⟩
        simp [results, Tryz.results30, go_sem, e0, e1, e2, rdV]
      · have hck : Hid (checkV 4 0 ⟨u.toArray⟩ = 3) := check_v hu
        have HX : Hid (hexE t.data.toList = (3, 0, 0, [])) := Lib.hid (by rw [hexE_some (by have := HL.out; omega) HU.out, if_neg hu])
        go_wp2_with (go_at_call 12; refine (refCheck_any _ _ _ _).mono ?_; rintro e w1 ⟨rfl, b1⟩; rw [hck.out]; have r0 := (b1.cell (p := ⟨w.heap.size, 0, none⟩) hr2).trans rr0; have r1 := (b1.cell (p := ⟨w.heap.size, 1, none⟩) hr2).trans rr1; have r2 := (b1.cell (p := ⟨w.heap.size, 2, none⟩) hr2).trans rr2; have g0 := (b1.frozen (p := ⟨w.heap.size, 0, none⟩) hr2).trans rf0; have g1 := (b1.frozen (p := ⟨w.heap.size, 1, none⟩) hr2).trans rf1; have g2 := (b1.frozen (p := ⟨w.heap.size, 2, none⟩) hr2).trans rf2; have s0 := (b1.cell (p := ⟨w.heap.size + 1, 0, none⟩) hk2).trans kk0; have s1' := (b1.cell (p := ⟨w.heap.size + 1, 1, none⟩) hk2).trans kk1; have s2 := (b1.cell (p := ⟨w.heap.size + 1, 2, none⟩) hk2).trans kk2)
        have e0 := put3 r0 r1 r2 (.int .i64 0) (.int .i64 0) (.string ⟨#[]⟩)
        have hBW : Below w.heap.size w (((w1.setCell ⟨w.heap.size, 0, none⟩ (.int .i64 0)).setCell ⟨w.heap.size, 1, none⟩ (.int .i64 0)).setCell ⟨w.heap.size, 2, none⟩ (.string ⟨#[]⟩)) := (((kb1 (hB.trans (b1.mono hB.size))).setCell (Nat.le_refl _) _).setCell (Nat.le_refl _) _).setCell (Nat.le_refl _) _
        generalize ((w1.setCell ⟨w.heap.size, 0, none⟩ (.int .i64 0)).setCell ⟨w.heap.size, 1, none⟩ (.int .i64 0)).setCell ⟨w.heap.size, 2, none⟩ (.string ⟨#[]⟩) = W at e0 hBW ⊢
        obtain ⟨e0, e1, e2⟩ := e0
        refine bodyPost_ret (v := rdV (3, 0, 0, [])) ?_ rfl ⟨by rw [HX.out], hBW⟩
        simp [results, Tryz.results30, go_sem, e0, e1, e2, rdV]
end Go.Proofs.YtcngoffmkbobhaaGreatDoor
