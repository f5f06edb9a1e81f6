/- FrameHeads, walked. -/
import Derived.Test.YthnllhfdbnnjhaaPO
namespace Go.Proofs.Ythnllhfdbnnjhaa
open Go.RowKit Go.Shelf

theorem ne38 (a b c d : Int) (w : World) : (binOp .neq 38 (.agg #[.int .u64 a, .int .u64 b, .int .i64 c, .int .i64 d]) (.agg #[.int .u64 a, .int .u64 b, .int .i64 c, .int .i64 d])).run Try.prog w = .ok (.bool false) w := by
  go_simp
theorem neg38 (x y : Operand) (a b c d : Int) (w : World) : (eqGuard .neq 38 x y (.agg #[.int .u64 a, .int .u64 b, .int .i64 c, .int .i64 d]) (.agg #[.int .u64 a, .int .u64 b, .int .i64 c, .int .i64 d])).run Try.prog w = .ok () w := by
  go_simp
theorem decV_ints (l : List Nat) : ∃ (x1 x2 x3 x4 X : Int), decV l = .agg #[.int .u64 x1, .int .u64 x2, .int .i64 x3, .int .i64 x4] ∧ decX l = X := by
  unfold decV headV
  split
  · exact ⟨_, _, _, _, _, rfl, rfl⟩
  · exact ⟨_, _, _, _, _, rfl, rfl⟩
theorem isHead_enc {S E n c : Nat} (hS1 : S < 2 ^ 64) (hE1 : E < 2 ^ 64) (hh : headOk n c = true) : decV (headL S E n c) = headV S E n c ∧ decX (headL S E n c) = 0 := by
  have hb := head_bounds hh
  obtain ⟨a1, a2, a3, a4⟩ := head_parts S E n c hS1 hE1 (by omega) (by omega)
  have : isHead (headL S E n c) = true := by
    unfold isHead
    rw [a1, a2, a3, a4, headL_length, hh]
    simp
  unfold decV decX
  rw [if_pos this, if_pos this, a1, a2, a3, a4]
  exact ⟨rfl, rfl⟩
theorem dec_none : decV [] = headV 0 0 0 0 ∧ decX [] = 150 := ⟨rfl, rfl⟩
set_option maxRecDepth 100000 in
set_option maxHeartbeats 2000000 in
theorem heads_long (S E : Nat) (n c : Int) (L : Nat) (p : Option Addr) (cap : Nat) (w : World) (hL : L > 100) (hL2 : L ≤ 9223372036854775807) : Calls Try.prog 4 #[headV S E n c, .slice p L cap] w fun r w' => r = .returned (.bool true) ∧ Below w.heap.size w w' := by
  have WKS := Lib.hid works_any
  unfold headV
  go_enter Try.func4, Try.ntmps4
  go_wp2_with (go_at_call 15; refine (WKS.out _).mono ?_; rintro e wz ⟨rfl, hbz⟩)
  go_ret
  exact ⟨rfl, kbA hbz⟩
set_option maxRecDepth 100000 in
set_option maxHeartbeats 4000000 in
theorem heads_ok (S E : Nat) (n c : Nat) (l : List Nat) (p : Option Addr) (cap : Nat) (w : World) (hS1 : S < 2 ^ 64) (hE1 : E < 2 ^ 64) (hh : headOk n c = true) (hl : l.length ≤ 100) (hcap : l.length ≤ cap) (hc0 : cap ≤ 9223372036854775807) (hb : ∀ b ∈ l, b < 256) (hc : BytesAt w p l) :
    Calls Try.prog 4 #[headV S E n c, .slice p l.length cap] w fun r w' => r = .returned (.bool true) ∧ Below w.heap.size w w' := by
  have NM := Lib.hid num_any
  have WKS := Lib.hid works_any
  have CD := Lib.hid fun (w' : World) (hb' : Below w.heap.size w w') => decodeHead_any l p cap w' hcap hc0 hb (bytesAt_below hc hb')
  have CR := Lib.hid fun (w' : World) (hb' : Below w.heap.size w w') => refDecodeHead_any l p cap w' hcap hc0 hb (bytesAt_below hc hb')
  obtain ⟨x1, x2, x3, x4, X, hx, hX⟩ := decV_ints l
  rw [hx, hX] at CD CR
  have C19 := Lib.hid (encodeHead_ok S E n c hS1 hE1 hh)
  have C20 := Lib.hid (refEncodeHead_ok S E n c hS1 hE1 hh)
  have HLB := Lib.hid (headL_byte S E n c)
  have HLL := Lib.hid (headL_length S E n c)
  have hd := isHead_enc hS1 hE1 hh
  generalize headL S E n c = ll at *
  have CE := Lib.hid fun g (w' : World) (h : BytesAt w' (some ⟨g, 0, none⟩) ll) => decodeHead_any ll (some ⟨g, 0, none⟩) 64 w' (by have := HLL.out; omega) (by omega) HLB.out h
  rw [hd.1, hd.2, HLL.out] at CE
  have CV1 := Lib.hid fun g (w' : World) (h : BytesAt w' (some ⟨g, 0, none⟩) ll) => conv_at w' (some ⟨g, 0, none⟩) 64 ll HLB.out h
  have CV2 := Lib.hid fun p cap (w' : World) (h : BytesAt w' p ll) => conv_at w' p cap ll HLB.out h
  rw [HLL.out] at CV1
  generalize strOf ll = sl at *
  have hq : (sl.toList == sl.toList) = true := by simp
  have q1 := fun w => eq38 S E n c S E n c w
  have g1 := fun x y w => eqg38 x y S E n c S E n c w
  rw [decide_eq_true ⟨rfl, rfl, rfl, rfl⟩] at q1
  unfold headV at CE
  have q2 := fun w => ne38 x1 x2 x3 x4 w
  have g2 := fun x y w => neg38 x y x1 x2 x3 x4 w
  have hnX : (X != X) = false := by simp
  have hw0 : IntKind.i64.wrap 0 = 0 := wrap_small (by omega) (by omega)
  have hl3 : (l.length : Int) ≤ 100 := by omega
  unfold headV
  generalize l.length = L at *
  clear hh hx hX hcap hc0 hb hc hd
  go_enter Try.func4, Try.ntmps4
  go_upto_region 7 with (first
    | (go_at_call 19; (with_reducible refine (C19.out _).mono ?_); rintro e wa ⟨g, rfl, hby, -, hb⟩; have B1 := Lib.hid (kbA hb); have c0 : wa.cell? ⟨w.heap.size, 0, none⟩ = some (.int .u64 S) := (hb.cell (by simp)).trans (by go_cell); have c1 : wa.cell? ⟨w.heap.size, 1, none⟩ = some (.int .u64 E) := (hb.cell (by simp)).trans (by go_cell); have c2 : wa.cell? ⟨w.heap.size, 2, none⟩ = some (.int .i64 n) := (hb.cell (by simp)).trans (by go_cell); have c3 : wa.cell? ⟨w.heap.size, 3, none⟩ = some (.int .i64 c) := (hb.cell (by simp)).trans (by go_cell); have BY1 := Lib.hid hby; clear hby; clear hb)
    | (go_at_call 20; (with_reducible refine (C20.out _).mono ?_); rintro e wb ⟨t2, rfl, hr⟩; obtain ⟨p2, c2x, rfl, -, -, hby2, -⟩ := hr.at2; have hb := hr.2; have BY1 := Lib.hid (bytesAt_below BY1.out hb); have BY2 := Lib.hid hby2; clear hr hby2; have c0 := (hb.cell (lt_of_cell_some c0)).trans c0; have c1 := (hb.cell (lt_of_cell_some c1)).trans c1; have c2 := (hb.cell (lt_of_cell_some c2)).trans c2; have c3 := (hb.cell (lt_of_cell_some c3)).trans c3; have B1 := Lib.hid (kbT B1.out hb); clear hb)
    | (go_at_call 21; (with_reducible refine (CD.out _ B1.out).mono ?_); rintro e wd ⟨rfl, hb⟩; have BY1 := Lib.hid (bytesAt_below BY1.out hb); have BY2 := Lib.hid (bytesAt_below BY2.out hb); have c0 := (hb.cell (lt_of_cell_some c0)).trans c0; have c1 := (hb.cell (lt_of_cell_some c1)).trans c1; have c2 := (hb.cell (lt_of_cell_some c2)).trans c2; have c3 := (hb.cell (lt_of_cell_some c3)).trans c3; have B1 := Lib.hid (kbT B1.out hb); clear hb)
    | (go_at_call 22; (with_reducible refine (CR.out _ (B1.out.alloc B1.out.size _)).mono ?_); rintro e wf ⟨rfl, hb⟩; have m0 : wf.cell? ⟨wd.heap.size, 0, none⟩ = some (.int .u64 x1) := (hb.cell (by simp)).trans (by go_cell); have m1 : wf.cell? ⟨wd.heap.size, 1, none⟩ = some (.int .u64 x2) := (hb.cell (by simp)).trans (by go_cell); have m2 : wf.cell? ⟨wd.heap.size, 2, none⟩ = some (.int .i64 x3) := (hb.cell (by simp)).trans (by go_cell); have m3 : wf.cell? ⟨wd.heap.size, 3, none⟩ = some (.int .i64 x4) := (hb.cell (by simp)).trans (by go_cell); have hb := kbA hb; have BY1 := Lib.hid (bytesAt_below BY1.out hb); have BY2 := Lib.hid (bytesAt_below BY2.out hb); have c0 := (hb.cell (lt_of_cell_some c0)).trans c0; have c1 := (hb.cell (lt_of_cell_some c1)).trans c1; have c2 := (hb.cell (lt_of_cell_some c2)).trans c2; have c3 := (hb.cell (lt_of_cell_some c3)).trans c3; have B1 := Lib.hid (kbT B1.out hb); clear hb))
  obtain ⟨wz, hwz⟩ : ∃ wz, wf.alloc (.cells #[.int .u64 x1, .int .u64 x2, .int .i64 x3, .int .i64 x4] 38) = wz := ⟨_, rfl⟩
  have hbz : Below wf.heap.size wf wz := by subst hwz; exact (Below.refl _ _).alloc (Nat.le_refl _) _
  have k0 : wz.cell? ⟨wf.heap.size, 0, none⟩ = some (.int .u64 x1) := by subst hwz; go_cell
  have k1 : wz.cell? ⟨wf.heap.size, 1, none⟩ = some (.int .u64 x2) := by subst hwz; go_cell
  have k2 : wz.cell? ⟨wf.heap.size, 2, none⟩ = some (.int .i64 x3) := by subst hwz; go_cell
  have k3 : wz.cell? ⟨wf.heap.size, 3, none⟩ = some (.int .i64 x4) := by subst hwz; go_cell
  have cv1 := CV1.out g wz (bytesAt_below BY1.out hbz)
  have cv2 := CV2.out p2 c2x wz (bytesAt_below BY2.out hbz)
  have BY1 := Lib.hid (bytesAt_below BY1.out hbz)
  have c0 := (hbz.cell (lt_of_cell_some c0)).trans c0; have c1 := (hbz.cell (lt_of_cell_some c1)).trans c1; have c2 := (hbz.cell (lt_of_cell_some c2)).trans c2; have c3 := (hbz.cell (lt_of_cell_some c3)).trans c3
  have m0 := (hbz.cell (lt_of_cell_some m0)).trans m0
  have m1 := (hbz.cell (lt_of_cell_some m1)).trans m1
  have m2 := (hbz.cell (lt_of_cell_some m2)).trans m2
  have m3 := (hbz.cell (lt_of_cell_some m3)).trans m3
  have B2 := Lib.hid (kbT B1.out hbz)
  rw [hwz]
  clear hwz hbz
  go_wp2_with (first
    | (go_at_call 13; refine (NM.out _ _).mono ?_; rintro e wn ⟨rfl, rfl⟩)
    | (go_at_call 21; (with_reducible refine (CE.out g wz BY1.out).mono ?_); rintro e wy ⟨rfl, hb⟩; have c0 := (hb.cell (lt_of_cell_some c0)).trans c0; have c1 := (hb.cell (lt_of_cell_some c1)).trans c1; have c2 := (hb.cell (lt_of_cell_some c2)).trans c2; have c3 := (hb.cell (lt_of_cell_some c3)).trans c3; have hlt : w.heap.size < wy.heap.size := lt_of_cell_some c0; have B3 := Lib.hid (kbT B2.out hb); clear hb)
    | (go_at_call 15; refine (WKS.out _).mono ?_; rintro e wx ⟨rfl, hbx⟩))
  go_ret
  exact ⟨rfl, kbT B3.out (kbA hbx)⟩
set_option maxRecDepth 100000 in
set_option maxHeartbeats 4000000 in
theorem heads_no (S E : Nat) (n c : Int) (l : List Nat) (p : Option Addr) (cap : Nat) (w : World) (hS1 : S < 2 ^ 64) (hE1 : E < 2 ^ 64) (hh : headOk n c = false) (hl : l.length ≤ 100) (hcap : l.length ≤ cap) (hc0 : cap ≤ 9223372036854775807) (hb : ∀ b ∈ l, b < 256) (hc : BytesAt w p l) :
    Calls Try.prog 4 #[headV S E n c, .slice p l.length cap] w fun r w' => r = .returned (.bool true) ∧ Below w.heap.size w w' := by
  have NM := Lib.hid num_any
  have WKS := Lib.hid works_any
  have CD := Lib.hid fun (w' : World) (hb' : Below w.heap.size w w') => decodeHead_any l p cap w' hcap hc0 hb (bytesAt_below hc hb')
  have CR := Lib.hid fun (w' : World) (hb' : Below w.heap.size w w') => refDecodeHead_any l p cap w' hcap hc0 hb (bytesAt_below hc hb')
  obtain ⟨x1, x2, x3, x4, X, hx, hX⟩ := decV_ints l
  rw [hx, hX] at CD CR
  have C19 := Lib.hid (encodeHead_no S E n c hh)
  have C20 := Lib.hid (refEncodeHead_no S E n c hh)
  have CE := Lib.hid fun (w' : World) => decodeHead_any [] none 0 w' (by simp) (by omega) (by simp) (fun i hi => absurd hi (Nat.not_lt_zero i))
  rw [dec_none.1, dec_none.2] at CE
  have cv1 := fun (w' : World) => conv_at w' none 0 [] (by simp) (fun i hi => absurd hi (Nat.not_lt_zero i))
  simp only [List.length_nil] at cv1 CE
  generalize strOf [] = sl at *
  have hq : (sl.toList == sl.toList) = true := by simp
  unfold headV at CE
  have q2 := fun w => ne38 x1 x2 x3 x4 w
  have g2 := fun x y w => neg38 x y x1 x2 x3 x4 w
  have hnX : (X != X) = false := by simp
  have hw0 : IntKind.i64.wrap 0 = 0 := wrap_small (by omega) (by omega)
  have hl3 : (l.length : Int) ≤ 100 := by omega
  unfold headV
  generalize l.length = L at *
  clear hh hx hX hcap hc0 hb hc 
  go_enter Try.func4, Try.ntmps4
  go_upto_region 7 with (first
    | (go_at_call 19; (with_reducible refine (C19.out _).mono ?_); rintro e wa ⟨rfl, hb⟩; have B1 := Lib.hid (kbA hb); have c0 : wa.cell? ⟨w.heap.size, 0, none⟩ = some (.int .u64 S) := (hb.cell (by simp)).trans (by go_cell); have c1 : wa.cell? ⟨w.heap.size, 1, none⟩ = some (.int .u64 E) := (hb.cell (by simp)).trans (by go_cell); have c2 : wa.cell? ⟨w.heap.size, 2, none⟩ = some (.int .i64 n) := (hb.cell (by simp)).trans (by go_cell); have c3 : wa.cell? ⟨w.heap.size, 3, none⟩ = some (.int .i64 c) := (hb.cell (by simp)).trans (by go_cell); clear hb)
    | (go_at_call 20; (with_reducible refine (C20.out _).mono ?_); rintro e wb ⟨rfl, hb⟩; have c0 := (hb.cell (lt_of_cell_some c0)).trans c0; have c1 := (hb.cell (lt_of_cell_some c1)).trans c1; have c2 := (hb.cell (lt_of_cell_some c2)).trans c2; have c3 := (hb.cell (lt_of_cell_some c3)).trans c3; have B1 := Lib.hid (kbT B1.out hb); clear hb)
    | (go_at_call 21; (with_reducible refine (CD.out _ B1.out).mono ?_); rintro e wd ⟨rfl, hb⟩; have c0 := (hb.cell (lt_of_cell_some c0)).trans c0; have c1 := (hb.cell (lt_of_cell_some c1)).trans c1; have c2 := (hb.cell (lt_of_cell_some c2)).trans c2; have c3 := (hb.cell (lt_of_cell_some c3)).trans c3; have B1 := Lib.hid (kbT B1.out hb); clear hb)
    | (go_at_call 22; (with_reducible refine (CR.out _ (B1.out.alloc B1.out.size _)).mono ?_); rintro e wf ⟨rfl, hb⟩; have m0 : wf.cell? ⟨wd.heap.size, 0, none⟩ = some (.int .u64 x1) := (hb.cell (by simp)).trans (by go_cell); have m1 : wf.cell? ⟨wd.heap.size, 1, none⟩ = some (.int .u64 x2) := (hb.cell (by simp)).trans (by go_cell); have m2 : wf.cell? ⟨wd.heap.size, 2, none⟩ = some (.int .i64 x3) := (hb.cell (by simp)).trans (by go_cell); have m3 : wf.cell? ⟨wd.heap.size, 3, none⟩ = some (.int .i64 x4) := (hb.cell (by simp)).trans (by go_cell); have hb := kbA hb; have c0 := (hb.cell (lt_of_cell_some c0)).trans c0; have c1 := (hb.cell (lt_of_cell_some c1)).trans c1; have c2 := (hb.cell (lt_of_cell_some c2)).trans c2; have c3 := (hb.cell (lt_of_cell_some c3)).trans c3; have B1 := Lib.hid (kbT B1.out hb); clear hb))
  obtain ⟨wz, hwz⟩ : ∃ wz, wf.alloc (.cells #[.int .u64 x1, .int .u64 x2, .int .i64 x3, .int .i64 x4] 38) = wz := ⟨_, rfl⟩
  have hbz : Below wf.heap.size wf wz := by subst hwz; exact (Below.refl _ _).alloc (Nat.le_refl _) _
  have k0 : wz.cell? ⟨wf.heap.size, 0, none⟩ = some (.int .u64 x1) := by subst hwz; go_cell
  have k1 : wz.cell? ⟨wf.heap.size, 1, none⟩ = some (.int .u64 x2) := by subst hwz; go_cell
  have k2 : wz.cell? ⟨wf.heap.size, 2, none⟩ = some (.int .i64 x3) := by subst hwz; go_cell
  have k3 : wz.cell? ⟨wf.heap.size, 3, none⟩ = some (.int .i64 x4) := by subst hwz; go_cell
  have c0 := (hbz.cell (lt_of_cell_some c0)).trans c0; have c1 := (hbz.cell (lt_of_cell_some c1)).trans c1; have c2 := (hbz.cell (lt_of_cell_some c2)).trans c2; have c3 := (hbz.cell (lt_of_cell_some c3)).trans c3
  have m0 := (hbz.cell (lt_of_cell_some m0)).trans m0
  have m1 := (hbz.cell (lt_of_cell_some m1)).trans m1
  have m2 := (hbz.cell (lt_of_cell_some m2)).trans m2
  have m3 := (hbz.cell (lt_of_cell_some m3)).trans m3
  have B2 := Lib.hid (kbT B1.out hbz)
  rw [hwz]
  clear hwz hbz
  go_wp2_with (first
    | (go_at_call 13; refine (NM.out _ _).mono ?_; rintro e wn ⟨rfl, rfl⟩)
    | (go_at_call 21; (with_reducible refine (CE.out wz).mono ?_); rintro e wy ⟨rfl, hb⟩; have c0 := (hb.cell (lt_of_cell_some c0)).trans c0; have c1 := (hb.cell (lt_of_cell_some c1)).trans c1; have c2 := (hb.cell (lt_of_cell_some c2)).trans c2; have c3 := (hb.cell (lt_of_cell_some c3)).trans c3; have hlt : w.heap.size < wy.heap.size := lt_of_cell_some c0; have B3 := Lib.hid (kbT B2.out hb); clear hb)
    | (go_at_call 15; refine (WKS.out _).mono ?_; rintro e wx ⟨rfl, hbx⟩))
  go_ret
  exact ⟨rfl, kbT B3.out (kbA hbx)⟩
/-- FrameHeads answers true. -/
theorem heads_any (S E : Nat) (n c : Int) (l : List Nat) (p : Option Addr) (cap : Nat) (w : World) (hS1 : S < 2 ^ 64) (hE1 : E < 2 ^ 64) (hcap : l.length ≤ cap) (hc0 : cap ≤ 9223372036854775807) (hb : ∀ b ∈ l, b < 256) (hc : BytesAt w p l) :
    Calls Try.prog 4 #[headV S E n c, .slice p l.length cap] w fun r w' => r = .returned (.bool true) ∧ Below w.heap.size w w' := by
  by_cases hl : l.length ≤ 100
  · cases hh : headOk n c with
    | false => exact heads_no S E n c l p cap w hS1 hE1 hh hl hcap hc0 hb hc
    | true =>
      obtain ⟨x1, x2, x3, x4⟩ := head_bounds hh
      obtain ⟨a, rfl⟩ : ∃ a : Nat, n = a := ⟨n.toNat, by omega⟩
      obtain ⟨d, rfl⟩ : ∃ a : Nat, c = a := ⟨c.toNat, by omega⟩
      exact heads_ok S E a d l p cap w hS1 hE1 hh hl hcap hc0 hb hc
  · exact heads_long S E n c l.length p cap w (by omega) (by omega)
end Go.Proofs.Ythnllhfdbnnjhaa
