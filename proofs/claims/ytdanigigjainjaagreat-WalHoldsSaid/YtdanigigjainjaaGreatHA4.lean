/- Parts: PU PV PC R1 R2 R3 W1 W2 W3 W4 Q1. -/
import Derived.Test.YtdanigigjainjaaGreatHA3
import Derived.RangeFuncNested
import Derived.Stop.RegionWithIn
namespace Go.Proofs.YtdanigigjainjaaGreat
open Go.RowKit Go.Shelf
set_option maxRecDepth 100000
set_option maxHeartbeats 1000000

theorem qne1 {a b c : Nat} (h : a = b + 2) (h2 : a < c) (h3 : c = b + 1) : False := by omega
theorem qne0 {a b c : Nat} (h : a = b + 2) (h2 : a < c) (h3 : c = b) : False := by omega
def isFrame (l : List Nat) : Bool := decide (l.length = 576) && frameOk (fI l) (fP l) (fM l) (fN l) 512 && decide (frameS (fE l) (fI l) (fP l) (fM l) (fN l) (fK l) (l.drop 64) = l.take 64)
def zeroFrame : Value := .agg #[.int .u64 0, .int .i64 0, .int .i64 0, .bool false, .int .i64 0, .int .u32 0, .slice none 0 0]
set_option maxRecDepth 100000 in
set_option maxHeartbeats 3000000 in
theorem decode_long (l : List Nat) (p : Option Addr) (cap : Nat) (w : World) (hl : l.length ≠ 576) :
    Calls Tryz.prog 121 #[.slice p l.length cap] w fun r w' => r = .returned (.tuple #[zeroFrame, .int .i64 150]) ∧ Below w.heap.size w w' := by
  generalize l.length = L at *
  have hl2 : (L : Int) ≠ 576 := by omega
  have hl3 : ((L : Int) != 576) = true := by simp [hl2]
  clear hl hl2
  go_enter Tryz.func121, Tryz.ntmps121
  go_wp2
  refine wp_scope_fwd 0 rfl fun J HJ => ?_
  go_wp2
  go_step3
  refine ⟨rfl, HJ.out _ _ ?_⟩
  go_wp2
  simp only [Exit.noGoto_ret]
  refine bodyPost_ret (v := .tuple #[zeroFrame, .int .i64 150]) ?_ rfl ⟨rfl, ?_⟩
  · simp [results, Tryz.results121, go_sem, zeroFrame]
  · exact ((Below.refl _ _).alloc (Nat.le_refl _) _).alloc (by simp) _
set_option maxRecDepth 100000 in
set_option maxHeartbeats 8000000 in
theorem decode_no (l : List Nat) (p : Option Addr) (cap : Nat) (w : World) (hl : l.length = 576) (hcap : 576 ≤ cap) (hc0 : cap ≤ 9223372036854775807) (hb : ∀ b ∈ l, b < 256) (hc : BytesAt w p l) (hh : frameOk (fI l) (fP l) (fM l) (fN l) 512 = false) :
    Calls Tryz.prog 121 #[.slice p 576 cap] w fun r w' => r = .returned (.tuple #[zeroFrame, .int .i64 150]) ∧ Below w.heap.size w w' := by
  obtain ⟨B, off, rfl, hcs⟩ := bytesAt_lt hc (fun h => by subst h; simp at hl)
  have CR := Lib.hid fun (w' : World) (hb' : Below w.heap.size w w') => readFrame_any l B off cap w' hl hcap hc0 hb (bytesAt_below hc hb')
  have CC := Lib.hid fun q c => checkFrame_any (fE l) (fI l) (fP l) (fM l) (fN l) (fK l) q 512 c
  have HT64 : Hid ((l.take 64).length = 64) := Lib.hid (by rw [List.length_take]; omega)
  have HTC : Hid (∀ i, i < (l.take 64).length → w.cell? ⟨B, off + i, none⟩ = some (.int .u8 ((l.take 64).getD i 0 : Nat))) := Lib.hid fun i hi => by
    have hi2 := hi
    rw [List.length_take] at hi2
    rw [hcs i (by omega)]
    simp [List.getD_eq_getElem?_getD, List.getElem?_take, show i < 64 by omega]
  rw [hh] at CC
  simp only [Bool.false_eq_true, if_false] at CC
  clear hh
  unfold frameV at CC
  generalize fE l = x0 at *
  generalize fI l = x1 at *
  generalize fP l = x2 at *
  generalize fM l = xm at *
  generalize fN l = x4 at *
  generalize fK l = x5 at *
  generalize l.drop 64 = dd at *
  generalize l.take 64 = lt at *
  clear hcs hb hc hl
  go_enter Tryz.func121, Tryz.ntmps121
  go_wp2
  refine wp_scope_fwd 0 rfl fun J HJ => ?_
  go_upto_region 3 with fail
  obtain ⟨w0, hw0⟩ : ∃ w0, (w.alloc (.cells #[.int .u64 0, .int .i64 0, .int .i64 0, .bool false, .int .i64 0, .int .u32 0, .slice none 0 0] 156)).alloc (.cells #[.int .u64 0, .int .i64 0, .int .i64 0, .bool false, .int .i64 0, .int .u32 0, .slice none 0 0] 156) = w0 := ⟨_, rfl⟩
  have HB0 : Hid (Below w.heap.size w w0) := Lib.hid (by subst hw0; exact ((Below.refl _ _).alloc (Nat.le_refl _) _).alloc (by simp) _)
  have HG0 : Hid (w0.heap[w.heap.size]? = some (.cells #[.int .u64 0, .int .i64 0, .int .i64 0, .bool false, .int .i64 0, .int .u32 0, .slice none 0 0] 156 (0, 0))) := Lib.hid (by subst hw0; exact (((Below.refl _ _).alloc (Nat.le_refl _) _).block _ (by simp)).trans (heap_alloc_last w _))
  have HG1 : Hid (w0.heap[w.heap.size + 1]? = some (.cells #[.int .u64 0, .int .i64 0, .int .i64 0, .bool false, .int .i64 0, .int .u32 0, .slice none 0 0] 156 (0, 0))) := Lib.hid (by subst hw0; have := heap_alloc_last (w.alloc (.cells #[.int .u64 0, .int .i64 0, .int .i64 0, .bool false, .int .i64 0, .int .u32 0, .slice none 0 0] 156)) (.cells #[.int .u64 0, .int .i64 0, .int .i64 0, .bool false, .int .i64 0, .int .u32 0, .slice none 0 0] 156); rw [World.size_alloc] at this; exact this)
  have HS0 : Hid (w0.heap.size = w.heap.size + 2) := Lib.hid (by subst hw0; simp)
  rw [hw0]
  clear hw0
  go_upto_region 4 with (go_at_call 137; refine (CR.out _ HB0.out).mono ?_; rintro e wa ⟨q, c, rfl, hba, hbyq, hqn, hcm, hc512, hqb⟩; have QNE : Hid (∀ Bz oz, q = some ⟨Bz, oz, none⟩ → Bz = w.heap.size + 1 → False) := Lib.hid (fun Bz oz e hE => qne1 HS0.out (hqb _ e) hE); have QN0 : Hid (∀ Bz oz, q = some ⟨Bz, oz, none⟩ → Bz = w.heap.size → False) := Lib.hid (fun Bz oz e hE => qne0 HS0.out (hqb _ e) hE); have HBYQ := Lib.hid hbyq; have HQN := Lib.hid hqn; have HCM := Lib.hid (And.intro hcm hc512); have HBA := Lib.hid hba; have hg0 := (hba.block _ (by rw [HS0.out]; omega)).trans HG0.out; have hg1 := (hba.block _ (by rw [HS0.out]; omega)).trans HG1.out; have k0 := row_cell (i := 0) hg1 rfl; have k1 := row_cell (i := 1) hg1 rfl; have k2 := row_cell (i := 2) hg1 rfl; have k3 := row_cell (i := 3) hg1 rfl; have k4 := row_cell (i := 4) hg1 rfl; have k5 := row_cell (i := 5) hg1 rfl; have k6 := row_cell (i := 6) hg1 rfl; have f0 := row_frozen (i := 0) hg1; have f1 := row_frozen (i := 1) hg1; have f2 := row_frozen (i := 2) hg1; have f3 := row_frozen (i := 3) hg1; have f4 := row_frozen (i := 4) hg1; have f5 := row_frozen (i := 5) hg1; have f6 := row_frozen (i := 6) hg1; have HGA := Lib.hid hg0; have HSA := Lib.hid hba.size; clear hg0 hg1 hba hbyq hqn hcm hc512 hqb)
  obtain ⟨wb, hwb⟩ : ∃ wb, ((((((wa.setCell ⟨w.heap.size + 1, 0, none⟩ (.int .u64 x0)).setCell ⟨w.heap.size + 1, 1, none⟩ (.int .i64 x1)).setCell ⟨w.heap.size + 1, 2, none⟩ (.int .i64 x2)).setCell ⟨w.heap.size + 1, 3, none⟩ (.bool xm)).setCell ⟨w.heap.size + 1, 4, none⟩ (.int .i64 x4)).setCell ⟨w.heap.size + 1, 5, none⟩ (.int .u32 x5)).setCell ⟨w.heap.size + 1, 6, none⟩ (.slice q 512 c) = wb := ⟨_, rfl⟩
  have m0 : Hid (wb.cell? ⟨w.heap.size + 1, 0, none⟩ = some (.int .u64 x0)) := Lib.hid (by subst hwb; go_cell)
  have m1 : Hid (wb.cell? ⟨w.heap.size + 1, 1, none⟩ = some (.int .i64 x1)) := Lib.hid (by subst hwb; go_cell)
  have m2 : Hid (wb.cell? ⟨w.heap.size + 1, 2, none⟩ = some (.int .i64 x2)) := Lib.hid (by subst hwb; go_cell)
  have m3 : Hid (wb.cell? ⟨w.heap.size + 1, 3, none⟩ = some (.bool xm)) := Lib.hid (by subst hwb; go_cell)
  have m4 : Hid (wb.cell? ⟨w.heap.size + 1, 4, none⟩ = some (.int .i64 x4)) := Lib.hid (by subst hwb; go_cell)
  have m5 : Hid (wb.cell? ⟨w.heap.size + 1, 5, none⟩ = some (.int .u32 x5)) := Lib.hid (by subst hwb; go_cell)
  have m6 : Hid (wb.cell? ⟨w.heap.size + 1, 6, none⟩ = some (.slice q 512 c)) := Lib.hid (by subst hwb; go_cell)
  have HBB : Hid (Below w.heap.size w wb) := Lib.hid (by subst hwb; exact ((((((((HB0.out.trans (HBA.out.mono (by rw [HS0.out]; omega))).setCell (Nat.le_succ _) _).setCell (Nat.le_succ _) _).setCell (Nat.le_succ _) _).setCell (Nat.le_succ _) _).setCell (Nat.le_succ _) _).setCell (Nat.le_succ _) _).setCell (Nat.le_succ _) _))
  have HGB : Hid (wb.heap[w.heap.size]? = some (.cells #[.int .u64 0, .int .i64 0, .int .i64 0, .bool false, .int .i64 0, .int .u32 0, .slice none 0 0] 156 (0, 0))) := Lib.hid (by subst hwb; exact (((((((But.set' _ _ _ _).trans (But.set' _ _ _ _)).trans (But.set' _ _ _ _)).trans (But.set' _ _ _ _)).trans (But.set' _ _ _ _)).trans (But.set' _ _ _ _)).trans (But.set' _ _ _ _)).row HGA.out (by omega))
  have HBQ : Hid (BytesAt wb q dd) := Lib.hid (by
    subst hwb
    intro i hi
    obtain ⟨Bz, oz, e, cz⟩ := HBYQ.out i hi
    refine ⟨Bz, oz, e, (((((((But.set' _ _ _ _).trans (But.set' _ _ _ _)).trans (But.set' _ _ _ _)).trans (But.set' _ _ _ _)).trans (But.set' _ _ _ _)).trans (But.set' _ _ _ _)).trans (But.set' _ _ _ _)).cell cz ?_⟩
    intro hE
    simp only at hE
    exact QNE.out Bz oz e hE)
  have HSB : Hid (w.heap.size + 1 < wb.heap.size) := Lib.hid (lt_of_cell_some m0.out)
  rw [hwb]
  clear hwb k0 k1 k2 k3 k4 k5 k6 f0 f1 f2 f3 f4 f5 f6
  have WK : Hid (∀ w', Below wb.heap.size wb w' → (w'.cell? ⟨w.heap.size + 1, 0, none⟩ = some (.int .u64 x0) ∧ w'.cell? ⟨w.heap.size + 1, 1, none⟩ = some (.int .i64 x1) ∧ w'.cell? ⟨w.heap.size + 1, 2, none⟩ = some (.int .i64 x2) ∧ w'.cell? ⟨w.heap.size + 1, 3, none⟩ = some (.bool xm) ∧ w'.cell? ⟨w.heap.size + 1, 4, none⟩ = some (.int .i64 x4) ∧ w'.cell? ⟨w.heap.size + 1, 5, none⟩ = some (.int .u32 x5) ∧ w'.cell? ⟨w.heap.size + 1, 6, none⟩ = some (.slice q 512 c)) ∧ (∀ i, i < lt.length → w'.cell? ⟨B, off + i, none⟩ = some (.int .u8 (lt.getD i 0 : Nat))) ∧ w'.heap[w.heap.size]? = some (.cells #[.int .u64 0, .int .i64 0, .int .i64 0, .bool false, .int .i64 0, .int .u32 0, .slice none 0 0] 156 (0, 0)) ∧ Below w.heap.size w w') := Lib.hid fun w' h =>
    ⟨⟨(h.cell (lt_of_cell_some m0.out)).trans m0.out, (h.cell (lt_of_cell_some m1.out)).trans m1.out, (h.cell (lt_of_cell_some m2.out)).trans m2.out, (h.cell (lt_of_cell_some m3.out)).trans m3.out, (h.cell (lt_of_cell_some m4.out)).trans m4.out, (h.cell (lt_of_cell_some m5.out)).trans m5.out, (h.cell (lt_of_cell_some m6.out)).trans m6.out⟩, fun i hi => (((kbT HBB.out h)).cell (lt_of_cell_some (HTC.out i hi))).trans (HTC.out i hi), (h.block _ (by have := HSB.out; omega)).trans HGB.out, kbT HBB.out h⟩
  refine wp_region_held_drew (S := fun w' => Below wb.heap.size wb w') (by kernel_rfl) ((Below.refl _ _).drew) (fun H0 => ?_)
  refine wpAnyH_take (i := 0) (oi := { dst := some 10, op := Go.Op.load 156 (Go.Operand.tmp 4), type := 156, pos := "frame.go:81", after := #[], guard := none }) (v := ?_) rfl (by kernel_rfl) (by kernel_rfl) (by kernel_rfl) (fun _ _ _ h => h) (Or.inl ⟨by rfl, ?_⟩) H0 ?_
  rotate_left
  focus (intro w' hSw; (try dsimp only at hSw); obtain ⟨⟨q0, q1, q2, q3, q4, q5, q6⟩, -, -, -⟩ := WK.out _ hSw; go_simp; (try with_reducible rfl))
  simp only [Act.put, List.setIfInBounds_toArray, List.set_cons_zero, List.set_cons_succ]
  refine wpAnyH_ready (rs := [1]) (by kernel_rfl) (by simp) ?_
  refine AllReadyH.cons (o := { dst := some 11, op := Go.Op.call { callee := Go.Callee.value (Go.Operand.func 138), args := #[Go.Operand.tmp 10], argTypes := #[156] }, type := 25, pos := "frame.go:81", after := #[{ on := 0, ground := Go.Ground.data }], guard := none }) rfl (fun K hK => ?_) ?_
  rotate_left
  exact AllReadyH.nil
  go_simp
  (go_at_call 138; (with_reducible refine (CC.out _ _ _).mono ?_); rintro e wd ⟨rfl, hd⟩)
  try go_wp2_with fail
  refine hK.out _ _ (kbT H0 hd) (fun Hd => ?_)
  clear hK K
  try simp only [Act.put, List.setIfInBounds_toArray, List.set_cons_zero, List.set_cons_succ]
  refine wpAnyH_take (i := 2) (oi := { dst := some 12, op := Go.Op.binOp Go.BinOp.neq 25 (Go.Operand.tmp 11) (Go.Operand.const (Go.Value.int Go.IntKind.i64 0)) 25, type := 4, pos := "frame.go:81", after := #[{ on := 1, ground := Go.Ground.data }], guard := none }) (v := ?_) rfl (by kernel_rfl) (by kernel_rfl) (by kernel_rfl) (fun _ _ _ h => h) (Or.inl ⟨by rfl, ?_⟩) Hd ?_
  rotate_left
  focus (intro w' hSw; (try dsimp only at hSw); go_simp; (try with_reducible rfl))
  simp only [Act.put, List.setIfInBounds_toArray, List.set_cons_zero, List.set_cons_succ]
  refine wpAnyH_take (i := 3) (oi := { dst := some 13, op := Go.Op.move (Go.Operand.tmp 12), type := 4, pos := "frame.go:81", after := #[{ on := 2, ground := Go.Ground.data }, { on := 1, ground := Go.Ground.chain }], guard := none }) (v := ?_) rfl (by kernel_rfl) (by kernel_rfl) (by kernel_rfl) (fun _ _ _ h => h) (Or.inl ⟨by rfl, ?_⟩) Hd ?_
  rotate_left
  focus (intro w' hSw; (try dsimp only at hSw); go_simp; (try with_reducible rfl))
  simp only [Act.put, List.setIfInBounds_toArray, List.set_cons_zero, List.set_cons_succ]
  refine wpAnyH_take (i := 4) (oi := { dst := some 14, op := Go.Op.load 156 (Go.Operand.tmp 4), type := 156, pos := "frame.go:81", after := #[{ on := 3, ground := Go.Ground.guard }], guard := some (3, false) }) (v := undef) rfl (by kernel_rfl) (by kernel_rfl) (by kernel_rfl) (fun _ _ _ h => h) (Or.inr ⟨by rfl, rfl⟩) Hd ?_
  simp only [Act.put, List.setIfInBounds_toArray, List.set_cons_zero, List.set_cons_succ]
  refine wpAnyH_take (i := 5) (oi := { dst := some 15, op := Go.Op.call { callee := Go.Callee.value (Go.Operand.func 139), args := #[Go.Operand.tmp 14], argTypes := #[156] }, type := 187, pos := "frame.go:81", after := #[{ on := 4, ground := Go.Ground.data }, { on := 3, ground := Go.Ground.chain }, { on := 3, ground := Go.Ground.guard }], guard := some (3, false) }) (v := undef) rfl (by kernel_rfl) (by kernel_rfl) (by kernel_rfl) (fun _ _ _ h => h) (Or.inr ⟨by rfl, rfl⟩) Hd ?_
  simp only [Act.put, List.setIfInBounds_toArray, List.set_cons_zero, List.set_cons_succ]
  refine wpAnyH_take (i := 6) (oi := { dst := some 16, op := Go.Op.move (Go.Operand.tmp 0), type := 49, pos := "frame.go:81", after := #[{ on := 3, ground := Go.Ground.guard }], guard := some (3, false) }) (v := undef) rfl (by kernel_rfl) (by kernel_rfl) (by kernel_rfl) (fun _ _ _ h => h) (Or.inr ⟨by rfl, rfl⟩) Hd ?_
  simp only [Act.put, List.setIfInBounds_toArray, List.set_cons_zero, List.set_cons_succ]
  refine wpAnyH_take (i := 7) (oi := { dst := some 17, op := Go.Op.slice 49 (Go.Operand.tmp 16) none (some (Go.Operand.const (Go.Value.int Go.IntKind.i64 64))) none, type := 49, pos := "frame.go:81", after := #[{ on := 6, ground := Go.Ground.data }, { on := 3, ground := Go.Ground.guard }], guard := some (3, false) }) (v := undef) rfl (by kernel_rfl) (by kernel_rfl) (by kernel_rfl) (fun _ _ _ h => h) (Or.inr ⟨by rfl, rfl⟩) Hd ?_
  simp only [Act.put, List.setIfInBounds_toArray, List.set_cons_zero, List.set_cons_succ]
  refine wpAnyH_take (i := 8) (oi := { dst := some 18, op := Go.Op.sliceToArrayPointer 187 (Go.Operand.tmp 17), type := 0, pos := "frame.go:81", after := #[{ on := 7, ground := Go.Ground.data }, { on := 3, ground := Go.Ground.guard }], guard := some (3, false) }) (v := undef) rfl (by kernel_rfl) (by kernel_rfl) (by kernel_rfl) (fun _ _ _ h => h) (Or.inr ⟨by rfl, rfl⟩) Hd ?_
  simp only [Act.put, List.setIfInBounds_toArray, List.set_cons_zero, List.set_cons_succ]
  refine wpAnyH_take (i := 9) (oi := { dst := some 19, op := Go.Op.load 187 (Go.Operand.tmp 18), type := 187, pos := "frame.go:81", after := #[{ on := 8, ground := Go.Ground.data }, { on := 3, ground := Go.Ground.guard }], guard := some (3, false) }) (v := undef) rfl (by kernel_rfl) (by kernel_rfl) (by kernel_rfl) (fun _ _ _ h => h) (Or.inr ⟨by rfl, rfl⟩) Hd ?_
  simp only [Act.put, List.setIfInBounds_toArray, List.set_cons_zero, List.set_cons_succ]
  refine wpAnyH_take (i := 10) (oi := { dst := some 20, op := Go.Op.binOp Go.BinOp.neq 187 (Go.Operand.tmp 15) (Go.Operand.tmp 19) 187, type := 4, pos := "frame.go:81", after := #[{ on := 5, ground := Go.Ground.data }, { on := 9, ground := Go.Ground.data }, { on := 3, ground := Go.Ground.guard }], guard := some (3, false) }) (v := undef) rfl (by kernel_rfl) (by kernel_rfl) (by kernel_rfl) (fun _ _ _ h => h) (Or.inr ⟨by rfl, rfl⟩) Hd ?_
  simp only [Act.put, List.setIfInBounds_toArray, List.set_cons_zero, List.set_cons_succ]
  refine wpAnyH_take (i := 11) (oi := { dst := some 21, op := Go.Op.pick (Go.Operand.tmp 13) (Go.Operand.const (Go.Value.bool true)) (Go.Operand.tmp 20), type := 4, pos := "frame.go:81", after := #[{ on := 3, ground := Go.Ground.data }, { on := 10, ground := Go.Ground.data }], guard := none }) (v := ?_) rfl (by kernel_rfl) (by kernel_rfl) (by kernel_rfl) (fun _ _ _ h => h) (Or.inl ⟨by rfl, ?_⟩) Hd ?_
  rotate_left
  focus (intro w' hSw; (try dsimp only at hSw); go_simp; (try with_reducible rfl))
  simp only [Act.put, List.setIfInBounds_toArray, List.set_cons_zero, List.set_cons_succ]
  refine wpAnyH_done (by kernel_rfl) ?_ _
  have hg2 := (WK.out _ Hd).2.2.1
  have HX := Lib.hid (WK.out _ Hd).2.2.2
  have z0 := row_cell (i := 0) hg2 rfl
  have y0 := row_frozen (i := 0) hg2
  have z1 := row_cell (i := 1) hg2 rfl
  have y1 := row_frozen (i := 1) hg2
  have z2 := row_cell (i := 2) hg2 rfl
  have y2 := row_frozen (i := 2) hg2
  have z3 := row_cell (i := 3) hg2 rfl
  have y3 := row_frozen (i := 3) hg2
  have z4 := row_cell (i := 4) hg2 rfl
  have y4 := row_frozen (i := 4) hg2
  have z5 := row_cell (i := 5) hg2 rfl
  have y5 := row_frozen (i := 5) hg2
  have z6 := row_cell (i := 6) hg2 rfl
  have y6 := row_frozen (i := 6) hg2
  clear hg2
  go_wp2
  go_step3
  refine ⟨rfl, HJ.out _ _ ?_⟩
  go_wp2
  simp only [Exit.noGoto_ret]
  refine bodyPost_ret (v := .tuple #[zeroFrame, .int .i64 150]) ?_ rfl ⟨rfl, ?_⟩
  · simp [results, Tryz.results121, go_sem, zeroFrame, z0, z1, z2, z3, z4, z5, z6]
  · exact (((((((HX.out.setCell (Nat.le_refl _) _).setCell (Nat.le_refl _) _).setCell (Nat.le_refl _) _).setCell (Nat.le_refl _) _).setCell (Nat.le_refl _) _).setCell (Nat.le_refl _) _).setCell (Nat.le_refl _) _)
set_option maxRecDepth 100000 in
set_option maxHeartbeats 8000000 in
theorem decode_other (l : List Nat) (p : Option Addr) (cap : Nat) (w : World) (hl : l.length = 576) (hcap : 576 ≤ cap) (hc0 : cap ≤ 9223372036854775807) (hb : ∀ b ∈ l, b < 256) (hc : BytesAt w p l) (hh : frameOk (fI l) (fP l) (fM l) (fN l) 512 = true) (hq : frameS (fE l) (fI l) (fP l) (fM l) (fN l) (fK l) (l.drop 64) ≠ l.take 64) :
    Calls Tryz.prog 121 #[.slice p 576 cap] w fun r w' => r = .returned (.tuple #[zeroFrame, .int .i64 150]) ∧ Below w.heap.size w w' := by
  obtain ⟨B, off, rfl, hcs⟩ := bytesAt_lt hc (fun h => by subst h; simp at hl)
  have CR := Lib.hid fun (w' : World) (hb' : Below w.heap.size w w') => readFrame_any l B off cap w' hl hcap hc0 hb (bytesAt_below hc hb')
  have CC := Lib.hid fun q c => checkFrame_any (fE l) (fI l) (fP l) (fM l) (fN l) (fK l) q 512 c
  have HT64 : Hid ((l.take 64).length = 64) := Lib.hid (by rw [List.length_take]; omega)
  have HTC : Hid (∀ i, i < (l.take 64).length → w.cell? ⟨B, off + i, none⟩ = some (.int .u8 ((l.take 64).getD i 0 : Nat))) := Lib.hid fun i hi => by
    have hi2 := hi
    rw [List.length_take] at hi2
    rw [hcs i (by omega)]
    simp [List.getD_eq_getElem?_getD, List.getElem?_take, show i < 64 by omega]
  rw [hh] at CC
  simp only [if_true] at CC
  have hbb := frame_bounds hh
  have CH := Lib.hid fun q c (w' : World) h => frameSector_any (fE l) (fI l) (fP l) (fM l) (fN l) (fK l) (foldN_lt' hb) (by omega) (by omega) (by omega) (foldN_lt' (k := 4) (fun b h => hb b (List.mem_of_mem_drop h))) q c (l.drop 64) (by rw [List.length_drop]; omega) (fun b h => hb b (List.mem_of_mem_drop h)) w' h
  have hle := eqi_sec (frameS_length (fE l) (fI l) (fP l) (fM l) (fN l) (fK l) (l.drop 64)) HT64.out (frameS_byte (fE l) (fI l) (fP l) (fM l) (fN l) (fK l) (l.drop 64)) (fun b h => hb b (List.mem_of_mem_take h))
  rw [decide_eq_false hq] at hle
  generalize frameS (fE l) (fI l) (fP l) (fM l) (fN l) (fK l) (l.drop 64) = ll at *
  have hle2 := fun x y w => eqg_sec ll (l.take 64) x y .neq w
  clear hh hbb hq
  unfold frameV at CC
  generalize fE l = x0 at *
  generalize fI l = x1 at *
  generalize fP l = x2 at *
  generalize fM l = xm at *
  generalize fN l = x4 at *
  generalize fK l = x5 at *
  generalize l.drop 64 = dd at *
  generalize l.take 64 = lt at *
  clear hcs hb hc hl
  go_enter Tryz.func121, Tryz.ntmps121
  go_wp2
  refine wp_scope_fwd 0 rfl fun J HJ => ?_
  go_upto_region 3 with fail
  obtain ⟨w0, hw0⟩ : ∃ w0, (w.alloc (.cells #[.int .u64 0, .int .i64 0, .int .i64 0, .bool false, .int .i64 0, .int .u32 0, .slice none 0 0] 156)).alloc (.cells #[.int .u64 0, .int .i64 0, .int .i64 0, .bool false, .int .i64 0, .int .u32 0, .slice none 0 0] 156) = w0 := ⟨_, rfl⟩
  have HB0 : Hid (Below w.heap.size w w0) := Lib.hid (by subst hw0; exact ((Below.refl _ _).alloc (Nat.le_refl _) _).alloc (by simp) _)
  have HG0 : Hid (w0.heap[w.heap.size]? = some (.cells #[.int .u64 0, .int .i64 0, .int .i64 0, .bool false, .int .i64 0, .int .u32 0, .slice none 0 0] 156 (0, 0))) := Lib.hid (by subst hw0; exact (((Below.refl _ _).alloc (Nat.le_refl _) _).block _ (by simp)).trans (heap_alloc_last w _))
  have HG1 : Hid (w0.heap[w.heap.size + 1]? = some (.cells #[.int .u64 0, .int .i64 0, .int .i64 0, .bool false, .int .i64 0, .int .u32 0, .slice none 0 0] 156 (0, 0))) := Lib.hid (by subst hw0; have := heap_alloc_last (w.alloc (.cells #[.int .u64 0, .int .i64 0, .int .i64 0, .bool false, .int .i64 0, .int .u32 0, .slice none 0 0] 156)) (.cells #[.int .u64 0, .int .i64 0, .int .i64 0, .bool false, .int .i64 0, .int .u32 0, .slice none 0 0] 156); rw [World.size_alloc] at this; exact this)
  have HS0 : Hid (w0.heap.size = w.heap.size + 2) := Lib.hid (by subst hw0; simp)
  rw [hw0]
  clear hw0
  go_upto_region 4 with (go_at_call 137; refine (CR.out _ HB0.out).mono ?_; rintro e wa ⟨q, c, rfl, hba, hbyq, hqn, hcm, hc512, hqb⟩; have QNE : Hid (∀ Bz oz, q = some ⟨Bz, oz, none⟩ → Bz = w.heap.size + 1 → False) := Lib.hid (fun Bz oz e hE => qne1 HS0.out (hqb _ e) hE); have QN0 : Hid (∀ Bz oz, q = some ⟨Bz, oz, none⟩ → Bz = w.heap.size → False) := Lib.hid (fun Bz oz e hE => qne0 HS0.out (hqb _ e) hE); have HBYQ := Lib.hid hbyq; have HQN := Lib.hid hqn; have HCM := Lib.hid (And.intro hcm hc512); have HBA := Lib.hid hba; have hg0 := (hba.block _ (by rw [HS0.out]; omega)).trans HG0.out; have hg1 := (hba.block _ (by rw [HS0.out]; omega)).trans HG1.out; have k0 := row_cell (i := 0) hg1 rfl; have k1 := row_cell (i := 1) hg1 rfl; have k2 := row_cell (i := 2) hg1 rfl; have k3 := row_cell (i := 3) hg1 rfl; have k4 := row_cell (i := 4) hg1 rfl; have k5 := row_cell (i := 5) hg1 rfl; have k6 := row_cell (i := 6) hg1 rfl; have f0 := row_frozen (i := 0) hg1; have f1 := row_frozen (i := 1) hg1; have f2 := row_frozen (i := 2) hg1; have f3 := row_frozen (i := 3) hg1; have f4 := row_frozen (i := 4) hg1; have f5 := row_frozen (i := 5) hg1; have f6 := row_frozen (i := 6) hg1; have HGA := Lib.hid hg0; have HSA := Lib.hid hba.size; clear hg0 hg1 hba hbyq hqn hcm hc512 hqb)
  obtain ⟨wb, hwb⟩ : ∃ wb, ((((((wa.setCell ⟨w.heap.size + 1, 0, none⟩ (.int .u64 x0)).setCell ⟨w.heap.size + 1, 1, none⟩ (.int .i64 x1)).setCell ⟨w.heap.size + 1, 2, none⟩ (.int .i64 x2)).setCell ⟨w.heap.size + 1, 3, none⟩ (.bool xm)).setCell ⟨w.heap.size + 1, 4, none⟩ (.int .i64 x4)).setCell ⟨w.heap.size + 1, 5, none⟩ (.int .u32 x5)).setCell ⟨w.heap.size + 1, 6, none⟩ (.slice q 512 c) = wb := ⟨_, rfl⟩
  have m0 : Hid (wb.cell? ⟨w.heap.size + 1, 0, none⟩ = some (.int .u64 x0)) := Lib.hid (by subst hwb; go_cell)
  have m1 : Hid (wb.cell? ⟨w.heap.size + 1, 1, none⟩ = some (.int .i64 x1)) := Lib.hid (by subst hwb; go_cell)
  have m2 : Hid (wb.cell? ⟨w.heap.size + 1, 2, none⟩ = some (.int .i64 x2)) := Lib.hid (by subst hwb; go_cell)
  have m3 : Hid (wb.cell? ⟨w.heap.size + 1, 3, none⟩ = some (.bool xm)) := Lib.hid (by subst hwb; go_cell)
  have m4 : Hid (wb.cell? ⟨w.heap.size + 1, 4, none⟩ = some (.int .i64 x4)) := Lib.hid (by subst hwb; go_cell)
  have m5 : Hid (wb.cell? ⟨w.heap.size + 1, 5, none⟩ = some (.int .u32 x5)) := Lib.hid (by subst hwb; go_cell)
  have m6 : Hid (wb.cell? ⟨w.heap.size + 1, 6, none⟩ = some (.slice q 512 c)) := Lib.hid (by subst hwb; go_cell)
  have HBB : Hid (Below w.heap.size w wb) := Lib.hid (by subst hwb; exact ((((((((HB0.out.trans (HBA.out.mono (by rw [HS0.out]; omega))).setCell (Nat.le_succ _) _).setCell (Nat.le_succ _) _).setCell (Nat.le_succ _) _).setCell (Nat.le_succ _) _).setCell (Nat.le_succ _) _).setCell (Nat.le_succ _) _).setCell (Nat.le_succ _) _))
  have HGB : Hid (wb.heap[w.heap.size]? = some (.cells #[.int .u64 0, .int .i64 0, .int .i64 0, .bool false, .int .i64 0, .int .u32 0, .slice none 0 0] 156 (0, 0))) := Lib.hid (by subst hwb; exact (((((((But.set' _ _ _ _).trans (But.set' _ _ _ _)).trans (But.set' _ _ _ _)).trans (But.set' _ _ _ _)).trans (But.set' _ _ _ _)).trans (But.set' _ _ _ _)).trans (But.set' _ _ _ _)).row HGA.out (by omega))
  have HBQ : Hid (BytesAt wb q dd) := Lib.hid (by
    subst hwb
    intro i hi
    obtain ⟨Bz, oz, e, cz⟩ := HBYQ.out i hi
    refine ⟨Bz, oz, e, (((((((But.set' _ _ _ _).trans (But.set' _ _ _ _)).trans (But.set' _ _ _ _)).trans (But.set' _ _ _ _)).trans (But.set' _ _ _ _)).trans (But.set' _ _ _ _)).trans (But.set' _ _ _ _)).cell cz ?_⟩
    intro hE
    simp only at hE
    exact QNE.out Bz oz e hE)
  have HSB : Hid (w.heap.size + 1 < wb.heap.size) := Lib.hid (lt_of_cell_some m0.out)
  rw [hwb]
  clear hwb k0 k1 k2 k3 k4 k5 k6 f0 f1 f2 f3 f4 f5 f6
  have WK : Hid (∀ w', Below wb.heap.size wb w' → (w'.cell? ⟨w.heap.size + 1, 0, none⟩ = some (.int .u64 x0) ∧ w'.cell? ⟨w.heap.size + 1, 1, none⟩ = some (.int .i64 x1) ∧ w'.cell? ⟨w.heap.size + 1, 2, none⟩ = some (.int .i64 x2) ∧ w'.cell? ⟨w.heap.size + 1, 3, none⟩ = some (.bool xm) ∧ w'.cell? ⟨w.heap.size + 1, 4, none⟩ = some (.int .i64 x4) ∧ w'.cell? ⟨w.heap.size + 1, 5, none⟩ = some (.int .u32 x5) ∧ w'.cell? ⟨w.heap.size + 1, 6, none⟩ = some (.slice q 512 c)) ∧ (∀ i, i < lt.length → w'.cell? ⟨B, off + i, none⟩ = some (.int .u8 (lt.getD i 0 : Nat))) ∧ w'.heap[w.heap.size]? = some (.cells #[.int .u64 0, .int .i64 0, .int .i64 0, .bool false, .int .i64 0, .int .u32 0, .slice none 0 0] 156 (0, 0)) ∧ Below w.heap.size w w') := Lib.hid fun w' h =>
    ⟨⟨(h.cell (lt_of_cell_some m0.out)).trans m0.out, (h.cell (lt_of_cell_some m1.out)).trans m1.out, (h.cell (lt_of_cell_some m2.out)).trans m2.out, (h.cell (lt_of_cell_some m3.out)).trans m3.out, (h.cell (lt_of_cell_some m4.out)).trans m4.out, (h.cell (lt_of_cell_some m5.out)).trans m5.out, (h.cell (lt_of_cell_some m6.out)).trans m6.out⟩, fun i hi => (((kbT HBB.out h)).cell (lt_of_cell_some (HTC.out i hi))).trans (HTC.out i hi), (h.block _ (by have := HSB.out; omega)).trans HGB.out, kbT HBB.out h⟩
  have hap := run_arrayAt B off cap
  have hc64 : (64 : Int) ≤ (cap : Int) := by omega
  refine wp_region_held_drew (S := fun w' => Below wb.heap.size wb w') (by kernel_rfl) ((Below.refl _ _).drew) (fun H0 => ?_)
  refine wpAnyH_take (i := 0) (oi := { dst := some 10, op := Go.Op.load 156 (Go.Operand.tmp 4), type := 156, pos := "frame.go:81", after := #[], guard := none }) (v := ?_) rfl (by kernel_rfl) (by kernel_rfl) (by kernel_rfl) (fun _ _ _ h => h) (Or.inl ⟨by rfl, ?_⟩) H0 ?_
  rotate_left
  focus (intro w' hSw; (try dsimp only at hSw); obtain ⟨⟨q0, q1, q2, q3, q4, q5, q6⟩, -, -, -⟩ := WK.out _ hSw; go_simp; (try with_reducible rfl))
  simp only [Act.put, List.setIfInBounds_toArray, List.set_cons_zero, List.set_cons_succ]
  refine wpAnyH_ready (rs := [1]) (by kernel_rfl) (by simp) ?_
  refine AllReadyH.cons (o := { dst := some 11, op := Go.Op.call { callee := Go.Callee.value (Go.Operand.func 138), args := #[Go.Operand.tmp 10], argTypes := #[156] }, type := 25, pos := "frame.go:81", after := #[{ on := 0, ground := Go.Ground.data }], guard := none }) rfl (fun K hK => ?_) ?_
  rotate_left
  exact AllReadyH.nil
  go_simp
  (go_at_call 138; (with_reducible refine (CC.out _ _ _).mono ?_); rintro e wd ⟨rfl, hd⟩)
  try go_wp2_with fail
  refine hK.out _ _ (kbT H0 hd) (fun Hd => ?_)
  clear hK K
  try simp only [Act.put, List.setIfInBounds_toArray, List.set_cons_zero, List.set_cons_succ]
  refine wpAnyH_take (i := 2) (oi := { dst := some 12, op := Go.Op.binOp Go.BinOp.neq 25 (Go.Operand.tmp 11) (Go.Operand.const (Go.Value.int Go.IntKind.i64 0)) 25, type := 4, pos := "frame.go:81", after := #[{ on := 1, ground := Go.Ground.data }], guard := none }) (v := ?_) rfl (by kernel_rfl) (by kernel_rfl) (by kernel_rfl) (fun _ _ _ h => h) (Or.inl ⟨by rfl, ?_⟩) Hd ?_
  rotate_left
  focus (intro w' hSw; (try dsimp only at hSw); go_simp; (try with_reducible rfl))
  simp only [Act.put, List.setIfInBounds_toArray, List.set_cons_zero, List.set_cons_succ]
  refine wpAnyH_take (i := 3) (oi := { dst := some 13, op := Go.Op.move (Go.Operand.tmp 12), type := 4, pos := "frame.go:81", after := #[{ on := 2, ground := Go.Ground.data }, { on := 1, ground := Go.Ground.chain }], guard := none }) (v := ?_) rfl (by kernel_rfl) (by kernel_rfl) (by kernel_rfl) (fun _ _ _ h => h) (Or.inl ⟨by rfl, ?_⟩) Hd ?_
  rotate_left
  focus (intro w' hSw; (try dsimp only at hSw); go_simp; (try with_reducible rfl))
  simp only [Act.put, List.setIfInBounds_toArray, List.set_cons_zero, List.set_cons_succ]
  refine wpAnyH_take (i := 4) (oi := { dst := some 14, op := Go.Op.load 156 (Go.Operand.tmp 4), type := 156, pos := "frame.go:81", after := #[{ on := 3, ground := Go.Ground.guard }], guard := some (3, false) }) (v := ?_) rfl (by kernel_rfl) (by kernel_rfl) (by kernel_rfl) (fun _ _ _ h => h) (Or.inl ⟨by rfl, ?_⟩) Hd ?_
  rotate_left
  focus (intro w' hSw; (try dsimp only at hSw); obtain ⟨⟨q0, q1, q2, q3, q4, q5, q6⟩, -, -, -⟩ := WK.out _ hSw; go_simp; (try with_reducible rfl))
  simp only [Act.put, List.setIfInBounds_toArray, List.set_cons_zero, List.set_cons_succ]
  refine wpAnyH_take (i := 6) (oi := { dst := some 16, op := Go.Op.move (Go.Operand.tmp 0), type := 49, pos := "frame.go:81", after := #[{ on := 3, ground := Go.Ground.guard }], guard := some (3, false) }) (v := ?_) rfl (by kernel_rfl) (by kernel_rfl) (by kernel_rfl) (fun _ _ _ h => h) (Or.inl ⟨by rfl, ?_⟩) Hd ?_
  rotate_left
  focus (intro w' hSw; (try dsimp only at hSw); go_simp; (try with_reducible rfl))
  simp only [Act.put, List.setIfInBounds_toArray, List.set_cons_zero, List.set_cons_succ]
  refine wpAnyH_take (i := 7) (oi := { dst := some 17, op := Go.Op.slice 49 (Go.Operand.tmp 16) none (some (Go.Operand.const (Go.Value.int Go.IntKind.i64 64))) none, type := 49, pos := "frame.go:81", after := #[{ on := 6, ground := Go.Ground.data }, { on := 3, ground := Go.Ground.guard }], guard := some (3, false) }) (v := ?_) rfl (by kernel_rfl) (by kernel_rfl) (by kernel_rfl) (fun _ _ _ h => h) (Or.inl ⟨by rfl, ?_⟩) Hd ?_
  rotate_left
  focus (intro w' hSw; (try dsimp only at hSw); go_simp; (try with_reducible rfl))
  simp only [Act.put, List.setIfInBounds_toArray, List.set_cons_zero, List.set_cons_succ]
  refine wpAnyH_take (i := 8) (oi := { dst := some 18, op := Go.Op.sliceToArrayPointer 187 (Go.Operand.tmp 17), type := 0, pos := "frame.go:81", after := #[{ on := 7, ground := Go.Ground.data }, { on := 3, ground := Go.Ground.guard }], guard := some (3, false) }) (v := ?_) rfl (by kernel_rfl) (by kernel_rfl) (by kernel_rfl) (fun _ _ _ h => h) (Or.inl ⟨by rfl, ?_⟩) Hd ?_
  rotate_left
  focus (intro w' hSw; (try dsimp only at hSw); go_simp; (try with_reducible rfl))
  simp only [Act.put, List.setIfInBounds_toArray, List.set_cons_zero, List.set_cons_succ]
  refine wpAnyH_take (i := 9) (oi := { dst := some 19, op := Go.Op.load 187 (Go.Operand.tmp 18), type := 187, pos := "frame.go:81", after := #[{ on := 8, ground := Go.Ground.data }, { on := 3, ground := Go.Ground.guard }], guard := some (3, false) }) (v := .agg (secA lt)) rfl (by kernel_rfl) (by kernel_rfl) (by kernel_rfl) (fun _ _ _ h => h) (Or.inl ⟨by rfl, fun w' hSw => exec_load_sec (x := .tmp 18) rfl rfl HT64.out (WK.out _ hSw).2.1⟩) Hd ?_
  simp only [Act.put, List.setIfInBounds_toArray, List.set_cons_zero, List.set_cons_succ]
  refine wpAnyH_ready (rs := [5]) (by kernel_rfl) (by simp) ?_
  refine AllReadyH.cons (o := { dst := some 15, op := Go.Op.call { callee := Go.Callee.value (Go.Operand.func 139), args := #[Go.Operand.tmp 14], argTypes := #[156] }, type := 187, pos := "frame.go:81", after := #[{ on := 4, ground := Go.Ground.data }, { on := 3, ground := Go.Ground.chain }, { on := 3, ground := Go.Ground.guard }], guard := some (3, false) }) rfl (fun K hK => ?_) ?_
  rotate_left
  exact AllReadyH.nil
  go_simp
  (go_at_call 139; (with_reducible refine (CH.out q c _ (bytesAt_below HBQ.out Hd)).mono ?_); rintro e we ⟨rfl, he'⟩)
  try go_wp2_with fail
  refine hK.out _ _ (kbT Hd he') (fun He => ?_)
  clear hK K
  try simp only [Act.put, List.setIfInBounds_toArray, List.set_cons_zero, List.set_cons_succ]
  refine wpAnyH_take (i := 10) (oi := { dst := some 20, op := Go.Op.binOp Go.BinOp.neq 187 (Go.Operand.tmp 15) (Go.Operand.tmp 19) 187, type := 4, pos := "frame.go:81", after := #[{ on := 5, ground := Go.Ground.data }, { on := 9, ground := Go.Ground.data }, { on := 3, ground := Go.Ground.guard }], guard := some (3, false) }) (v := ?_) rfl (by kernel_rfl) (by kernel_rfl) (by kernel_rfl) (fun _ _ _ h => h) (Or.inl ⟨by rfl, ?_⟩) He ?_
  rotate_left
  focus (intro w' hSw; (try dsimp only at hSw); go_simp; (try with_reducible rfl))
  simp only [Act.put, List.setIfInBounds_toArray, List.set_cons_zero, List.set_cons_succ]
  refine wpAnyH_take (i := 11) (oi := { dst := some 21, op := Go.Op.pick (Go.Operand.tmp 13) (Go.Operand.const (Go.Value.bool true)) (Go.Operand.tmp 20), type := 4, pos := "frame.go:81", after := #[{ on := 3, ground := Go.Ground.data }, { on := 10, ground := Go.Ground.data }], guard := none }) (v := ?_) rfl (by kernel_rfl) (by kernel_rfl) (by kernel_rfl) (fun _ _ _ h => h) (Or.inl ⟨by rfl, ?_⟩) He ?_
  rotate_left
  focus (intro w' hSw; (try dsimp only at hSw); go_simp; (try with_reducible rfl))
  simp only [Act.put, List.setIfInBounds_toArray, List.set_cons_zero, List.set_cons_succ]
  refine wpAnyH_done (by kernel_rfl) ?_ _
  have hg2 := (WK.out _ He).2.2.1
  have HX := Lib.hid (WK.out _ He).2.2.2
  have z0 := row_cell (i := 0) hg2 rfl
  have y0 := row_frozen (i := 0) hg2
  have z1 := row_cell (i := 1) hg2 rfl
  have y1 := row_frozen (i := 1) hg2
  have z2 := row_cell (i := 2) hg2 rfl
  have y2 := row_frozen (i := 2) hg2
  have z3 := row_cell (i := 3) hg2 rfl
  have y3 := row_frozen (i := 3) hg2
  have z4 := row_cell (i := 4) hg2 rfl
  have y4 := row_frozen (i := 4) hg2
  have z5 := row_cell (i := 5) hg2 rfl
  have y5 := row_frozen (i := 5) hg2
  have z6 := row_cell (i := 6) hg2 rfl
  have y6 := row_frozen (i := 6) hg2
  clear hg2
  go_wp2
  go_step3
  refine ⟨rfl, HJ.out _ _ ?_⟩
  go_wp2
  simp only [Exit.noGoto_ret]
  refine bodyPost_ret (v := .tuple #[zeroFrame, .int .i64 150]) ?_ rfl ⟨rfl, ?_⟩
  · simp [results, Tryz.results121, go_sem, zeroFrame, z0, z1, z2, z3, z4, z5, z6]
  · exact (((((((HX.out.setCell (Nat.le_refl _) _).setCell (Nat.le_refl _) _).setCell (Nat.le_refl _) _).setCell (Nat.le_refl _) _).setCell (Nat.le_refl _) _).setCell (Nat.le_refl _) _).setCell (Nat.le_refl _) _)
set_option maxRecDepth 100000 in
set_option maxHeartbeats 8000000 in
theorem decode_yes (l : List Nat) (p : Option Addr) (cap : Nat) (w : World) (hl : l.length = 576) (hcap : 576 ≤ cap) (hc0 : cap ≤ 9223372036854775807) (hb : ∀ b ∈ l, b < 256) (hc : BytesAt w p l) (hh : frameOk (fI l) (fP l) (fM l) (fN l) 512 = true) (hq : frameS (fE l) (fI l) (fP l) (fM l) (fN l) (fK l) (l.drop 64) = l.take 64) :
    Calls Tryz.prog 121 #[.slice p 576 cap] w fun r w' => ∃ q c, r = .returned (.tuple #[.agg #[.int .u64 (fE l : Nat), .int .i64 (fI l : Nat), .int .i64 (fP l : Nat), .bool (fM l), .int .i64 (fN l : Nat), .int .u32 (fK l : Nat), .slice q 512 c], .int .i64 0]) ∧ Below w.heap.size w w' ∧ BytesAt w' q (l.drop 64) ∧ (q = none → c = 0) ∧ c ≤ maxLen ∧ 512 ≤ c ∧ ∀ a, q = some a → w.heap.size ≤ a.block := by
  obtain ⟨B, off, rfl, hcs⟩ := bytesAt_lt hc (fun h => by subst h; simp at hl)
  have CR := Lib.hid fun (w' : World) (hb' : Below w.heap.size w w') => readFrame_any l B off cap w' hl hcap hc0 hb (bytesAt_below hc hb')
  have CC := Lib.hid fun q c => checkFrame_any (fE l) (fI l) (fP l) (fM l) (fN l) (fK l) q 512 c
  have HT64 : Hid ((l.take 64).length = 64) := Lib.hid (by rw [List.length_take]; omega)
  have HTC : Hid (∀ i, i < (l.take 64).length → w.cell? ⟨B, off + i, none⟩ = some (.int .u8 ((l.take 64).getD i 0 : Nat))) := Lib.hid fun i hi => by
    have hi2 := hi
    rw [List.length_take] at hi2
    rw [hcs i (by omega)]
    simp [List.getD_eq_getElem?_getD, List.getElem?_take, show i < 64 by omega]
  rw [hh] at CC
  simp only [if_true] at CC
  have hbb := frame_bounds hh
  have CH := Lib.hid fun q c (w' : World) h => frameSector_any (fE l) (fI l) (fP l) (fM l) (fN l) (fK l) (foldN_lt' hb) (by omega) (by omega) (by omega) (foldN_lt' (k := 4) (fun b h => hb b (List.mem_of_mem_drop h))) q c (l.drop 64) (by rw [List.length_drop]; omega) (fun b h => hb b (List.mem_of_mem_drop h)) w' h
  have hle := eqi_sec (frameS_length (fE l) (fI l) (fP l) (fM l) (fN l) (fK l) (l.drop 64)) HT64.out (frameS_byte (fE l) (fI l) (fP l) (fM l) (fN l) (fK l) (l.drop 64)) (fun b h => hb b (List.mem_of_mem_take h))
  rw [decide_eq_true hq] at hle
  generalize frameS (fE l) (fI l) (fP l) (fM l) (fN l) (fK l) (l.drop 64) = ll at *
  have hle2 := fun x y w => eqg_sec ll (l.take 64) x y .neq w
  clear hh hbb hq
  unfold frameV at CC
  generalize fE l = x0 at *
  generalize fI l = x1 at *
  generalize fP l = x2 at *
  generalize fM l = xm at *
  generalize fN l = x4 at *
  generalize fK l = x5 at *
  generalize l.drop 64 = dd at *
  generalize l.take 64 = lt at *
  clear hcs hb hc hl
  go_enter Tryz.func121, Tryz.ntmps121
  go_wp2
  refine wp_scope_fwd 0 rfl fun J HJ => ?_
  go_upto_region 3 with fail
  obtain ⟨w0, hw0⟩ : ∃ w0, (w.alloc (.cells #[.int .u64 0, .int .i64 0, .int .i64 0, .bool false, .int .i64 0, .int .u32 0, .slice none 0 0] 156)).alloc (.cells #[.int .u64 0, .int .i64 0, .int .i64 0, .bool false, .int .i64 0, .int .u32 0, .slice none 0 0] 156) = w0 := ⟨_, rfl⟩
  have HB0 : Hid (Below w.heap.size w w0) := Lib.hid (by subst hw0; exact ((Below.refl _ _).alloc (Nat.le_refl _) _).alloc (by simp) _)
  have HG0 : Hid (w0.heap[w.heap.size]? = some (.cells #[.int .u64 0, .int .i64 0, .int .i64 0, .bool false, .int .i64 0, .int .u32 0, .slice none 0 0] 156 (0, 0))) := Lib.hid (by subst hw0; exact (((Below.refl _ _).alloc (Nat.le_refl _) _).block _ (by simp)).trans (heap_alloc_last w _))
  have HG1 : Hid (w0.heap[w.heap.size + 1]? = some (.cells #[.int .u64 0, .int .i64 0, .int .i64 0, .bool false, .int .i64 0, .int .u32 0, .slice none 0 0] 156 (0, 0))) := Lib.hid (by subst hw0; have := heap_alloc_last (w.alloc (.cells #[.int .u64 0, .int .i64 0, .int .i64 0, .bool false, .int .i64 0, .int .u32 0, .slice none 0 0] 156)) (.cells #[.int .u64 0, .int .i64 0, .int .i64 0, .bool false, .int .i64 0, .int .u32 0, .slice none 0 0] 156); rw [World.size_alloc] at this; exact this)
  have HS0 : Hid (w0.heap.size = w.heap.size + 2) := Lib.hid (by subst hw0; simp)
  rw [hw0]
  clear hw0
  go_upto_region 4 with (go_at_call 137; refine (CR.out _ HB0.out).mono ?_; rintro e wa ⟨q, c, rfl, hba, hbyq, hqn, hcm, hc512, hqb⟩; have QNE : Hid (∀ Bz oz, q = some ⟨Bz, oz, none⟩ → Bz = w.heap.size + 1 → False) := Lib.hid (fun Bz oz e hE => qne1 HS0.out (hqb _ e) hE); have QN0 : Hid (∀ Bz oz, q = some ⟨Bz, oz, none⟩ → Bz = w.heap.size → False) := Lib.hid (fun Bz oz e hE => qne0 HS0.out (hqb _ e) hE); have HBYQ := Lib.hid hbyq; have HQN := Lib.hid hqn; have HCM := Lib.hid (And.intro hcm (And.intro hc512 (fun (a : Addr) (e : q = some a) => show w.heap.size ≤ a.block by have := hqb a e; have := HS0.out; omega))); have HBA := Lib.hid hba; have hg0 := (hba.block _ (by rw [HS0.out]; omega)).trans HG0.out; have hg1 := (hba.block _ (by rw [HS0.out]; omega)).trans HG1.out; have k0 := row_cell (i := 0) hg1 rfl; have k1 := row_cell (i := 1) hg1 rfl; have k2 := row_cell (i := 2) hg1 rfl; have k3 := row_cell (i := 3) hg1 rfl; have k4 := row_cell (i := 4) hg1 rfl; have k5 := row_cell (i := 5) hg1 rfl; have k6 := row_cell (i := 6) hg1 rfl; have f0 := row_frozen (i := 0) hg1; have f1 := row_frozen (i := 1) hg1; have f2 := row_frozen (i := 2) hg1; have f3 := row_frozen (i := 3) hg1; have f4 := row_frozen (i := 4) hg1; have f5 := row_frozen (i := 5) hg1; have f6 := row_frozen (i := 6) hg1; have HGA := Lib.hid hg0; have HSA := Lib.hid hba.size; clear hg0 hg1 hba hbyq hqn hcm hc512 hqb)
  obtain ⟨wb, hwb⟩ : ∃ wb, ((((((wa.setCell ⟨w.heap.size + 1, 0, none⟩ (.int .u64 x0)).setCell ⟨w.heap.size + 1, 1, none⟩ (.int .i64 x1)).setCell ⟨w.heap.size + 1, 2, none⟩ (.int .i64 x2)).setCell ⟨w.heap.size + 1, 3, none⟩ (.bool xm)).setCell ⟨w.heap.size + 1, 4, none⟩ (.int .i64 x4)).setCell ⟨w.heap.size + 1, 5, none⟩ (.int .u32 x5)).setCell ⟨w.heap.size + 1, 6, none⟩ (.slice q 512 c) = wb := ⟨_, rfl⟩
  have m0 : Hid (wb.cell? ⟨w.heap.size + 1, 0, none⟩ = some (.int .u64 x0)) := Lib.hid (by subst hwb; go_cell)
  have m1 : Hid (wb.cell? ⟨w.heap.size + 1, 1, none⟩ = some (.int .i64 x1)) := Lib.hid (by subst hwb; go_cell)
  have m2 : Hid (wb.cell? ⟨w.heap.size + 1, 2, none⟩ = some (.int .i64 x2)) := Lib.hid (by subst hwb; go_cell)
  have m3 : Hid (wb.cell? ⟨w.heap.size + 1, 3, none⟩ = some (.bool xm)) := Lib.hid (by subst hwb; go_cell)
  have m4 : Hid (wb.cell? ⟨w.heap.size + 1, 4, none⟩ = some (.int .i64 x4)) := Lib.hid (by subst hwb; go_cell)
  have m5 : Hid (wb.cell? ⟨w.heap.size + 1, 5, none⟩ = some (.int .u32 x5)) := Lib.hid (by subst hwb; go_cell)
  have m6 : Hid (wb.cell? ⟨w.heap.size + 1, 6, none⟩ = some (.slice q 512 c)) := Lib.hid (by subst hwb; go_cell)
  have HBB : Hid (Below w.heap.size w wb) := Lib.hid (by subst hwb; exact ((((((((HB0.out.trans (HBA.out.mono (by rw [HS0.out]; omega))).setCell (Nat.le_succ _) _).setCell (Nat.le_succ _) _).setCell (Nat.le_succ _) _).setCell (Nat.le_succ _) _).setCell (Nat.le_succ _) _).setCell (Nat.le_succ _) _).setCell (Nat.le_succ _) _))
  have HGB : Hid (wb.heap[w.heap.size]? = some (.cells #[.int .u64 0, .int .i64 0, .int .i64 0, .bool false, .int .i64 0, .int .u32 0, .slice none 0 0] 156 (0, 0))) := Lib.hid (by subst hwb; exact (((((((But.set' _ _ _ _).trans (But.set' _ _ _ _)).trans (But.set' _ _ _ _)).trans (But.set' _ _ _ _)).trans (But.set' _ _ _ _)).trans (But.set' _ _ _ _)).trans (But.set' _ _ _ _)).row HGA.out (by omega))
  have HBQ : Hid (BytesAt wb q dd) := Lib.hid (by
    subst hwb
    intro i hi
    obtain ⟨Bz, oz, e, cz⟩ := HBYQ.out i hi
    refine ⟨Bz, oz, e, (((((((But.set' _ _ _ _).trans (But.set' _ _ _ _)).trans (But.set' _ _ _ _)).trans (But.set' _ _ _ _)).trans (But.set' _ _ _ _)).trans (But.set' _ _ _ _)).trans (But.set' _ _ _ _)).cell cz ?_⟩
    intro hE
    simp only at hE
    exact QNE.out Bz oz e hE)
  have HSB : Hid (w.heap.size + 1 < wb.heap.size) := Lib.hid (lt_of_cell_some m0.out)
  rw [hwb]
  clear hwb k0 k1 k2 k3 k4 k5 k6 f0 f1 f2 f3 f4 f5 f6
  have WK : Hid (∀ w', Below wb.heap.size wb w' → (w'.cell? ⟨w.heap.size + 1, 0, none⟩ = some (.int .u64 x0) ∧ w'.cell? ⟨w.heap.size + 1, 1, none⟩ = some (.int .i64 x1) ∧ w'.cell? ⟨w.heap.size + 1, 2, none⟩ = some (.int .i64 x2) ∧ w'.cell? ⟨w.heap.size + 1, 3, none⟩ = some (.bool xm) ∧ w'.cell? ⟨w.heap.size + 1, 4, none⟩ = some (.int .i64 x4) ∧ w'.cell? ⟨w.heap.size + 1, 5, none⟩ = some (.int .u32 x5) ∧ w'.cell? ⟨w.heap.size + 1, 6, none⟩ = some (.slice q 512 c)) ∧ (∀ i, i < lt.length → w'.cell? ⟨B, off + i, none⟩ = some (.int .u8 (lt.getD i 0 : Nat))) ∧ w'.heap[w.heap.size]? = some (.cells #[.int .u64 0, .int .i64 0, .int .i64 0, .bool false, .int .i64 0, .int .u32 0, .slice none 0 0] 156 (0, 0)) ∧ Below w.heap.size w w') := Lib.hid fun w' h =>
    ⟨⟨(h.cell (lt_of_cell_some m0.out)).trans m0.out, (h.cell (lt_of_cell_some m1.out)).trans m1.out, (h.cell (lt_of_cell_some m2.out)).trans m2.out, (h.cell (lt_of_cell_some m3.out)).trans m3.out, (h.cell (lt_of_cell_some m4.out)).trans m4.out, (h.cell (lt_of_cell_some m5.out)).trans m5.out, (h.cell (lt_of_cell_some m6.out)).trans m6.out⟩, fun i hi => (((kbT HBB.out h)).cell (lt_of_cell_some (HTC.out i hi))).trans (HTC.out i hi), (h.block _ (by have := HSB.out; omega)).trans HGB.out, kbT HBB.out h⟩
  have hap := run_arrayAt B off cap
  have hc64 : (64 : Int) ≤ (cap : Int) := by omega
  refine wp_region_held_drew (S := fun w' => Below wb.heap.size wb w') (by kernel_rfl) ((Below.refl _ _).drew) (fun H0 => ?_)
  refine wpAnyH_take (i := 0) (oi := { dst := some 10, op := Go.Op.load 156 (Go.Operand.tmp 4), type := 156, pos := "frame.go:81", after := #[], guard := none }) (v := ?_) rfl (by kernel_rfl) (by kernel_rfl) (by kernel_rfl) (fun _ _ _ h => h) (Or.inl ⟨by rfl, ?_⟩) H0 ?_
  rotate_left
  focus (intro w' hSw; (try dsimp only at hSw); obtain ⟨⟨q0, q1, q2, q3, q4, q5, q6⟩, -, -, -⟩ := WK.out _ hSw; go_simp; (try with_reducible rfl))
  simp only [Act.put, List.setIfInBounds_toArray, List.set_cons_zero, List.set_cons_succ]
  refine wpAnyH_ready (rs := [1]) (by kernel_rfl) (by simp) ?_
  refine AllReadyH.cons (o := { dst := some 11, op := Go.Op.call { callee := Go.Callee.value (Go.Operand.func 138), args := #[Go.Operand.tmp 10], argTypes := #[156] }, type := 25, pos := "frame.go:81", after := #[{ on := 0, ground := Go.Ground.data }], guard := none }) rfl (fun K hK => ?_) ?_
  rotate_left
  exact AllReadyH.nil
  go_simp
  (go_at_call 138; (with_reducible refine (CC.out _ _ _).mono ?_); rintro e wd ⟨rfl, hd⟩)
  try go_wp2_with fail
  refine hK.out _ _ (kbT H0 hd) (fun Hd => ?_)
  clear hK K
  try simp only [Act.put, List.setIfInBounds_toArray, List.set_cons_zero, List.set_cons_succ]
  refine wpAnyH_take (i := 2) (oi := { dst := some 12, op := Go.Op.binOp Go.BinOp.neq 25 (Go.Operand.tmp 11) (Go.Operand.const (Go.Value.int Go.IntKind.i64 0)) 25, type := 4, pos := "frame.go:81", after := #[{ on := 1, ground := Go.Ground.data }], guard := none }) (v := ?_) rfl (by kernel_rfl) (by kernel_rfl) (by kernel_rfl) (fun _ _ _ h => h) (Or.inl ⟨by rfl, ?_⟩) Hd ?_
  rotate_left
  focus (intro w' hSw; (try dsimp only at hSw); go_simp; (try with_reducible rfl))
  simp only [Act.put, List.setIfInBounds_toArray, List.set_cons_zero, List.set_cons_succ]
  refine wpAnyH_take (i := 3) (oi := { dst := some 13, op := Go.Op.move (Go.Operand.tmp 12), type := 4, pos := "frame.go:81", after := #[{ on := 2, ground := Go.Ground.data }, { on := 1, ground := Go.Ground.chain }], guard := none }) (v := ?_) rfl (by kernel_rfl) (by kernel_rfl) (by kernel_rfl) (fun _ _ _ h => h) (Or.inl ⟨by rfl, ?_⟩) Hd ?_
  rotate_left
  focus (intro w' hSw; (try dsimp only at hSw); go_simp; (try with_reducible rfl))
  simp only [Act.put, List.setIfInBounds_toArray, List.set_cons_zero, List.set_cons_succ]
  refine wpAnyH_take (i := 4) (oi := { dst := some 14, op := Go.Op.load 156 (Go.Operand.tmp 4), type := 156, pos := "frame.go:81", after := #[{ on := 3, ground := Go.Ground.guard }], guard := some (3, false) }) (v := ?_) rfl (by kernel_rfl) (by kernel_rfl) (by kernel_rfl) (fun _ _ _ h => h) (Or.inl ⟨by rfl, ?_⟩) Hd ?_
  rotate_left
  focus (intro w' hSw; (try dsimp only at hSw); obtain ⟨⟨q0, q1, q2, q3, q4, q5, q6⟩, -, -, -⟩ := WK.out _ hSw; go_simp; (try with_reducible rfl))
  simp only [Act.put, List.setIfInBounds_toArray, List.set_cons_zero, List.set_cons_succ]
  refine wpAnyH_take (i := 6) (oi := { dst := some 16, op := Go.Op.move (Go.Operand.tmp 0), type := 49, pos := "frame.go:81", after := #[{ on := 3, ground := Go.Ground.guard }], guard := some (3, false) }) (v := ?_) rfl (by kernel_rfl) (by kernel_rfl) (by kernel_rfl) (fun _ _ _ h => h) (Or.inl ⟨by rfl, ?_⟩) Hd ?_
  rotate_left
  focus (intro w' hSw; (try dsimp only at hSw); go_simp; (try with_reducible rfl))
  simp only [Act.put, List.setIfInBounds_toArray, List.set_cons_zero, List.set_cons_succ]
  refine wpAnyH_take (i := 7) (oi := { dst := some 17, op := Go.Op.slice 49 (Go.Operand.tmp 16) none (some (Go.Operand.const (Go.Value.int Go.IntKind.i64 64))) none, type := 49, pos := "frame.go:81", after := #[{ on := 6, ground := Go.Ground.data }, { on := 3, ground := Go.Ground.guard }], guard := some (3, false) }) (v := ?_) rfl (by kernel_rfl) (by kernel_rfl) (by kernel_rfl) (fun _ _ _ h => h) (Or.inl ⟨by rfl, ?_⟩) Hd ?_
  rotate_left
  focus (intro w' hSw; (try dsimp only at hSw); go_simp; (try with_reducible rfl))
  simp only [Act.put, List.setIfInBounds_toArray, List.set_cons_zero, List.set_cons_succ]
  refine wpAnyH_take (i := 8) (oi := { dst := some 18, op := Go.Op.sliceToArrayPointer 187 (Go.Operand.tmp 17), type := 0, pos := "frame.go:81", after := #[{ on := 7, ground := Go.Ground.data }, { on := 3, ground := Go.Ground.guard }], guard := some (3, false) }) (v := ?_) rfl (by kernel_rfl) (by kernel_rfl) (by kernel_rfl) (fun _ _ _ h => h) (Or.inl ⟨by rfl, ?_⟩) Hd ?_
  rotate_left
  focus (intro w' hSw; (try dsimp only at hSw); go_simp; (try with_reducible rfl))
  simp only [Act.put, List.setIfInBounds_toArray, List.set_cons_zero, List.set_cons_succ]
  refine wpAnyH_take (i := 9) (oi := { dst := some 19, op := Go.Op.load 187 (Go.Operand.tmp 18), type := 187, pos := "frame.go:81", after := #[{ on := 8, ground := Go.Ground.data }, { on := 3, ground := Go.Ground.guard }], guard := some (3, false) }) (v := .agg (secA lt)) rfl (by kernel_rfl) (by kernel_rfl) (by kernel_rfl) (fun _ _ _ h => h) (Or.inl ⟨by rfl, fun w' hSw => exec_load_sec (x := .tmp 18) rfl rfl HT64.out (WK.out _ hSw).2.1⟩) Hd ?_
  simp only [Act.put, List.setIfInBounds_toArray, List.set_cons_zero, List.set_cons_succ]
  refine wpAnyH_ready (rs := [5]) (by kernel_rfl) (by simp) ?_
  refine AllReadyH.cons (o := { dst := some 15, op := Go.Op.call { callee := Go.Callee.value (Go.Operand.func 139), args := #[Go.Operand.tmp 14], argTypes := #[156] }, type := 187, pos := "frame.go:81", after := #[{ on := 4, ground := Go.Ground.data }, { on := 3, ground := Go.Ground.chain }, { on := 3, ground := Go.Ground.guard }], guard := some (3, false) }) rfl (fun K hK => ?_) ?_
  rotate_left
  exact AllReadyH.nil
  go_simp
  (go_at_call 139; (with_reducible refine (CH.out q c _ (bytesAt_below HBQ.out Hd)).mono ?_); rintro e we ⟨rfl, he'⟩)
  try go_wp2_with fail
  refine hK.out _ _ (kbT Hd he') (fun He => ?_)
  clear hK K
  try simp only [Act.put, List.setIfInBounds_toArray, List.set_cons_zero, List.set_cons_succ]
  refine wpAnyH_take (i := 10) (oi := { dst := some 20, op := Go.Op.binOp Go.BinOp.neq 187 (Go.Operand.tmp 15) (Go.Operand.tmp 19) 187, type := 4, pos := "frame.go:81", after := #[{ on := 5, ground := Go.Ground.data }, { on := 9, ground := Go.Ground.data }, { on := 3, ground := Go.Ground.guard }], guard := some (3, false) }) (v := ?_) rfl (by kernel_rfl) (by kernel_rfl) (by kernel_rfl) (fun _ _ _ h => h) (Or.inl ⟨by rfl, ?_⟩) He ?_
  rotate_left
  focus (intro w' hSw; (try dsimp only at hSw); go_simp; (try with_reducible rfl))
  simp only [Act.put, List.setIfInBounds_toArray, List.set_cons_zero, List.set_cons_succ]
  refine wpAnyH_take (i := 11) (oi := { dst := some 21, op := Go.Op.pick (Go.Operand.tmp 13) (Go.Operand.const (Go.Value.bool true)) (Go.Operand.tmp 20), type := 4, pos := "frame.go:81", after := #[{ on := 3, ground := Go.Ground.data }, { on := 10, ground := Go.Ground.data }], guard := none }) (v := ?_) rfl (by kernel_rfl) (by kernel_rfl) (by kernel_rfl) (fun _ _ _ h => h) (Or.inl ⟨by rfl, ?_⟩) He ?_
  rotate_left
  focus (intro w' hSw; (try dsimp only at hSw); go_simp; (try with_reducible rfl))
  simp only [Act.put, List.setIfInBounds_toArray, List.set_cons_zero, List.set_cons_succ]
  refine wpAnyH_done (by kernel_rfl) ?_ _
  have hg2 := (WK.out _ He).2.2.1
  have HX := Lib.hid (WK.out _ He).2.2.2
  have z0 := row_cell (i := 0) hg2 rfl
  have y0 := row_frozen (i := 0) hg2
  have z1 := row_cell (i := 1) hg2 rfl
  have y1 := row_frozen (i := 1) hg2
  have z2 := row_cell (i := 2) hg2 rfl
  have y2 := row_frozen (i := 2) hg2
  have z3 := row_cell (i := 3) hg2 rfl
  have y3 := row_frozen (i := 3) hg2
  have z4 := row_cell (i := 4) hg2 rfl
  have y4 := row_frozen (i := 4) hg2
  have z5 := row_cell (i := 5) hg2 rfl
  have y5 := row_frozen (i := 5) hg2
  have z6 := row_cell (i := 6) hg2 rfl
  have y6 := row_frozen (i := 6) hg2
  clear hg2
  have hk := (WK.out _ He).1
  obtain ⟨q0, q1, q2, q3, q4, q5, q6⟩ := hk
  have HBE := Lib.hid (bytesAt_below HBQ.out He)
  go_wp2
  simp only [Exit.jump]
  refine bodyPost_ret (v := .tuple #[.agg #[.int .u64 x0, .int .i64 x1, .int .i64 x2, .bool xm, .int .i64 x4, .int .u32 x5, .slice q 512 c], .int .i64 0]) ?_ rfl ⟨q, c, rfl, ?_, ?_, HQN.out, HCM.out.1, HCM.out.2.1, HCM.out.2.2⟩
  · simp [results, Tryz.results121, go_sem, z0, z1, z2, z3, z4, z5, z6]
  · exact (((((((HX.out.setCell (Nat.le_refl _) _).setCell (Nat.le_refl _) _).setCell (Nat.le_refl _) _).setCell (Nat.le_refl _) _).setCell (Nat.le_refl _) _).setCell (Nat.le_refl _) _).setCell (Nat.le_refl _) _)
  · intro i hi
    obtain ⟨Bz, oz, e, cz⟩ := HBE.out i hi
    refine ⟨Bz, oz, e, (((((((But.set' _ _ _ _).trans (But.set' _ _ _ _)).trans (But.set' _ _ _ _)).trans (But.set' _ _ _ _)).trans (But.set' _ _ _ _)).trans (But.set' _ _ _ _)).trans (But.set' _ _ _ _)).cell cz ?_⟩
    intro hE
    simp only at hE
    exact QN0.out Bz oz e hE
/-- What Decode answers to bytes. -/
def DecPost (l : List Nat) (w : World) (r : Ending) (w' : World) : Prop :=
  Below w.heap.size w w' ∧ ((isFrame l = false ∧ r = .returned (.tuple #[zeroFrame, .int .i64 150])) ∨
    (isFrame l = true ∧ ∃ q c, r = .returned (.tuple #[.agg #[.int .u64 (fE l : Nat), .int .i64 (fI l : Nat), .int .i64 (fP l : Nat), .bool (fM l), .int .i64 (fN l : Nat), .int .u32 (fK l : Nat), .slice q 512 c], .int .i64 0]) ∧ BytesAt w' q (l.drop 64) ∧ (q = none → c = 0) ∧ c ≤ maxLen ∧ 512 ≤ c ∧ ∀ a, q = some a → w.heap.size ≤ a.block))
theorem decode_any (l : List Nat) (p : Option Addr) (cap : Nat) (w : World) (hcap : l.length ≤ cap) (hc0 : cap ≤ 9223372036854775807) (hb : ∀ b ∈ l, b < 256) (hc : BytesAt w p l) :
    Calls Tryz.prog 121 #[.slice p l.length cap] w (DecPost l w) := by
  unfold DecPost isFrame
  by_cases hl : l.length = 576
  · cases hh : frameOk (fI l) (fP l) (fM l) (fN l) 512 with
    | false =>
      simp only [hl, decide_true, Bool.true_and, Bool.false_and]
      exact (decode_no l p cap w hl (by omega) hc0 hb hc hh).mono fun _ _ h => ⟨h.2, .inl ⟨by trivial, h.1⟩⟩
    | true =>
      by_cases hq : frameS (fE l) (fI l) (fP l) (fM l) (fN l) (fK l) (l.drop 64) = l.take 64
      · simp only [hl, hq, decide_true, Bool.true_and]
        refine (decode_yes l p cap w hl (by omega) hc0 hb hc hh hq).mono ?_
        rintro e w' ⟨q, c, h1, h2, h3⟩
        exact ⟨h2, .inr ⟨by trivial, q, c, h1, h3⟩⟩
      · simp only [hl, hq, decide_true, decide_false, Bool.true_and]
        exact (decode_other l p cap w hl (by omega) hc0 hb hc hh hq).mono fun _ _ h => ⟨h.2, .inl ⟨by trivial, h.1⟩⟩
  · simp only [hl, decide_false, Bool.false_and]
    exact (decode_long l p cap w hl).mono fun _ _ h => ⟨h.2, .inl ⟨by trivial, h.1⟩⟩
end Go.Proofs.YtdanigigjainjaaGreat
namespace Go.Proofs.YtdanigigjainjaaGreat
open Go.RowKit Go.Shelf
set_option maxRecDepth 100000
set_option maxHeartbeats 1000000

end Go.Proofs.YtdanigigjainjaaGreat
namespace Go.Proofs.YtdanigigjainjaaGreat
open Go.RowKit Go.Shelf
set_option maxRecDepth 100000
set_option maxHeartbeats 1000000

theorem plan_no {F P : Int} (h : ¬ (1 ≤ F ∧ F ≤ 2000 ∧ 1 ≤ P ∧ P ≤ 2000)) : planOk F P = false := by
  cases hp : planOk F P
  · rfl
  · exact absurd (plan_bounds hp) h
theorem plan_yes {F P : Int} (h : 1 ≤ F ∧ F ≤ 2000 ∧ 1 ≤ P ∧ P ≤ 2000) : planOk F P = true := by
  simp [planOk, h]
set_option maxRecDepth 100000 in
theorem right_any (F P : Int) (w : World) : Calls Tryz.prog 11 #[.agg #[.int .i64 F, .int .i64 P]] w fun r w' => r = .returned (.bool (planOk F P)) ∧ Below w.heap.size w w' := by
  by_cases h1 : F ≥ 1
  · by_cases h2 : F ≤ 2000
    · by_cases h3 : P ≥ 1
      · by_cases h4 : P ≤ 2000
        · rw [plan_yes ⟨h1, h2, h3, h4⟩]
          go_enter Tryz.func11, Tryz.ntmps11
          go_wp2
          go_ret
          exact ⟨by first | rfl | simp, (Below.refl _ _).alloc (Nat.le_refl _) _⟩
        · rw [plan_no (fun h => h4 h.2.2.2)]
          go_enter Tryz.func11, Tryz.ntmps11
          go_wp2
          go_ret
          exact ⟨by first | rfl | simp, (Below.refl _ _).alloc (Nat.le_refl _) _⟩
      · rw [plan_no (fun h => h3 h.2.2.1)]
        go_enter Tryz.func11, Tryz.ntmps11
        go_wp2
        go_ret
        exact ⟨by first | rfl | simp, (Below.refl _ _).alloc (Nat.le_refl _) _⟩
    · rw [plan_no (fun h => h2 h.2.1)]
      go_enter Tryz.func11, Tryz.ntmps11
      go_wp2
      go_ret
      exact ⟨by first | rfl | simp, (Below.refl _ _).alloc (Nat.le_refl _) _⟩
  · rw [plan_no (fun h => h1 h.1)]
    go_enter Tryz.func11, Tryz.ntmps11
    go_wp2
    go_ret
    exact ⟨by first | rfl | simp, (Below.refl _ _).alloc (Nat.le_refl _) _⟩
theorem refSectors_any (F P : Int) (w : World) (h : planOk F P = true) : Calls Tryz.prog 12 #[.agg #[.int .i64 F, .int .i64 P]] w fun r w' => r = .returned (.int .i64 (2 + 9 * F + 8 * P)) ∧ Below w.heap.size w w' := by
  obtain ⟨p1, p2, p3, p4⟩ := plan_bounds h
  go_enter Tryz.func12, Tryz.ntmps12
  go_wp2
  go_ret
  exact ⟨rfl, (Below.refl _ _).alloc (Nat.le_refl _) _⟩
end Go.Proofs.YtdanigigjainjaaGreat
namespace Go.Proofs.YtdanigigjainjaaGreat
open Go.RowKit Go.Shelf
set_option maxRecDepth 100000
set_option maxHeartbeats 1000000
attribute [local go_sem] Oper.semAt_some
section
variable {F : Fence} {n : Nat} {P : Program}
end
theorem round_wide {n n' : Nat} {P : Program} {l l2 : Nat} {f : FuncId} {tmps : Array Value} {assign body : Code} {w : World} {R : Ending → World → Prop} (h : RoundIn Fence.wide n P l f tmps assign body w R) : RoundIn (Fence.wide.inRound l2) n' P l f tmps assign body w R :=
  ⟨trivial, fun c cs _ => h.2 c cs (room_wide _)⟩
theorem prefix_map {α β : Type} {g : α → β} {l : List α} {x : α} {L : List β} (h : l.map g ++ [g x] <+: L) : (l ++ [x]).map g <+: L := by rw [List.map_append]; exact h
end Go.Proofs.YtdanigigjainjaaGreat
namespace Go.Proofs.YtdanigigjainjaaGreat
open Go.RowKit Go.Shelf
set_option maxRecDepth 100000
set_option maxHeartbeats 1000000
attribute [local go_sem] Oper.semAt_some

theorem sectorsOf_any (p : Option Addr) (n c : Nat) (w : World) :
    Calls Tryz.prog 177 #[.slice p n c] w fun r w' => r = .returned (.func (.func 193) #[] #[.pointer (some ⟨w.heap.size, 0, none⟩)]) ∧ w' = w.alloc (.cells #[.slice p n c] 49) := by
  have hmf : ∀ (fn : Fn) (first cap : Array Value) (w : World), (Instr.makeFunc fn first cap).run Tryz.prog w = .ok (.func fn first cap) w := fun _ _ _ _ => rfl
  go_enter Tryz.func177, Tryz.ntmps177
  go_wp2
  go_ret
  exact ⟨rfl, rfl⟩
/-- How many sectors bytes have. -/
def secN (n : Nat) : Nat := (n + 63) / 64
/-- The k-th sector of bytes: where it lies, its bytes. -/
def secP (p : Option Addr) (k : Nat) : Option Addr := p.map fun x => x.add (64 * k)
def secL (l : List Nat) (k : Nat) : List Nat := (l.drop (64 * k)).take 64
theorem secL_length (l : List Nat) (k : Nat) : (secL l k).length = min 64 (l.length - 64 * k) := by unfold secL; rw [List.length_take, List.length_drop]
abbrev encS (p : Option Addr) (l : List Nat) (k : Nat) : Array Value := #[.int .i64 (k : Int), .slice (secP p k) (secL l k).length (secL l k).length]
def TS (p : Option Addr) (l : List Nat) (k : Nat) (A : World) : Prop := BytesAt A (secP p k) (secL l k)
/-- The block that the bytes lie in. -/
def inB (p : Option Addr) (n : Nat) (k : Nat) : Prop := 0 < n ∧ ∃ off, p = some ⟨k, off, none⟩
theorem bytesAt_in {w : World} {p : Option Addr} {l : List Nat} (h : BytesAt w p l) : ∀ i, i < l.length → ∃ B off, p = some ⟨B, off, none⟩ ∧ inB p l.length B ∧ w.cell? ⟨B, off + i, none⟩ = some (.int .u8 (l.getD i 0 : Nat)) := fun i hi => by
  obtain ⟨B, off, e, c⟩ := h i hi
  exact ⟨B, off, e, ⟨by omega, off, e⟩, c⟩
theorem inB_lt {w : World} {p : Option Addr} {l : List Nat} (h : BytesAt w p l) {k : Nat} (hk : inB p l.length k) : k < w.heap.size := by
  obtain ⟨h0, off, e⟩ := hk
  obtain ⟨B, off', e', c⟩ := h 0 h0
  rw [e] at e'
  injection e' with e'
  injection e' with e1 e2
  subst e1
  exact lt_of_cell_some c
theorem secN_lt {n k : Nat} : k < secN n ↔ 64 * k < n := by unfold secN; omega
theorem secP_next {w : World} {p : Option Addr} {l : List Nat} (hb : BytesAt w p l) (h0 : 0 < l.length) (k : Nat) : secP p (k + 1) = (secP p k).map fun x => x.add 64 := by
  obtain ⟨B, off, rfl, -⟩ := hb 0 h0
  simp only [secP, Option.map_some, addr_plain]
  rw [show off + 64 * (k + 1) = off + 64 * k + 64 by omega]
theorem take_sec {l : List Nat} {k m : Nat} (hm : m = (secL l k).length) : (l.drop (64 * k)).take m = secL l k := by
  rw [hm, secL_length]
  unfold secL
  rw [← List.length_drop]
  rcases Nat.le_total 64 (l.drop (64 * k)).length with h | h
  · rw [Nat.min_eq_left h]
  · rw [Nat.min_eq_right h, List.take_of_length_le (Nat.le_refl _), List.take_of_length_le h]
theorem drop_sec {l : List Nat} {k m : Nat} (hm : m = (secL l k).length) : (l.drop (64 * k)).drop m = l.drop (64 * (k + 1)) := by
  rw [hm, secL_length, List.drop_drop]
  rcases Nat.le_total 64 (l.length - 64 * k) with h | h
  · rw [Nat.min_eq_left h]
    congr 1
  · rw [Nat.min_eq_right h, List.drop_eq_nil_of_le (by omega), List.drop_eq_nil_of_le (by omega)]
theorem ftake_sec {T : Nat → Prop} (l : List Nat) (k m : Nat) (hm : m = (secL l k).length) (P : Nat) (p : Option Addr) (c : Nat) (w : World) (hv : c ≤ 9223372036854775807) (R : RestP T w P p c (l.drop (64 * k))) :
    Calls Tryz.prog 166 #[.pointer (some ⟨P, 0, none⟩), .int .i64 64] w fun r w' => r = .returned (.slice p m m) ∧ w' = w.setCell ⟨P, 0, none⟩ (.slice (restAt p c m) ((l.drop (64 * k)).length - m) (c - m)) := by
  rw [hm, secL_length, ← List.length_drop]
  rcases Nat.le_total 64 (l.drop (64 * k)).length with h | h
  · rw [Nat.min_eq_left h]
    exact ftake_rest 64 P p c _ w h hv R
  · rw [Nat.min_eq_right h, Nat.sub_self]
    exact ftake_all 64 P p c _ w h hv R
end Go.Proofs.YtdanigigjainjaaGreat
namespace Go.Proofs.YtdanigigjainjaaGreat
open Go.RowKit Go.Shelf
set_option maxRecDepth 100000
set_option maxHeartbeats 1000000
attribute [local go_sem] Oper.semAt_some

abbrev encC (l : List Nat) (x : Nat × Option Addr) : Array Value := #[.int .i64 (x.1 : Int), .slice x.2 (secL l x.1).length (secL l x.1).length]
def TC (l : List Nat) (x : Nat × Option Addr) (A : World) : Prop := BytesAt A x.2 (secL l x.1)
theorem bytesAt_put {w : World} {p : Option Addr} {l : List Nat} (h : BytesAt w p l) {i : Nat} {o o' : Obj} (ho : w.heap[i]? = some o) (hc : o.isCells = false) : BytesAt (w.putObj i o') p l := fun j hj => by
  obtain ⟨B, off, e, c⟩ := h j hj
  refine ⟨B, off, e, (World.cell?_of_block (World.putObj_heap_other ?_)).trans c⟩
  show B ≠ i
  rintro rfl
  unfold World.cell? at c
  simp only at c
  rw [ho] at c
  cases o <;> simp [Obj.isCells] at hc c
theorem rowB_base {w0 w : World} {l : List Nat} {p : Option Addr} {n c : Nat} (hr : RowB w0 l (.slice p n c) w) : ∀ B off, p = some ⟨B, off, none⟩ → w0.heap.size ≤ B := by
  rintro B off rfl
  rcases hr.1.2 with ⟨h, -⟩ | ⟨g, cap, cur, h, -, h3, -⟩
  · injection h with h1
    cases h1
  · injection h with h1
    injection h1 with h1
    injection h1 with h1
    subst h1
    exact (hr.1.lt B rfl).1
end Go.Proofs.YtdanigigjainjaaGreat
namespace Go.Proofs.YtdanigigjainjaaGreat
open Go.RowKit Go.Shelf
set_option maxRecDepth 100000
set_option maxHeartbeats 1000000

/-- The head's sector. -/
theorem headAt_any (S E : Nat) (n c : Int) (hS : S < 2 ^ 64) (w : World) :
    Calls Tryz.prog 119 #[.agg #[.int .u64 S, .int .u64 E, .int .i64 n, .int .i64 c]] w fun r w' => r = .returned (.int .i64 (S % 2 : Nat)) ∧ Below w.heap.size w w' := by
  have h2 : ((S : Int) % 2) = ((S % 2 : Nat) : Int) := by omega
  have h3 : (S : Int).tmod 2 = ((S % 2 : Nat) : Int) := by rw [Int.tmod_eq_emod_of_nonneg (by omega)]; omega
  have h4 : S % 2 < 2 := Nat.mod_lt _ (by omega)
  have h5 : IntKind.u64.wrap ((S % 2 : Nat) : Int) = ((S % 2 : Nat) : Int) := by simp [IntKind.wrap, IntKind.signed, IntKind.bits]; omega
  have h6 : IntKind.i64.wrap ((S % 2 : Nat) : Int) = ((S % 2 : Nat) : Int) := wrap_small (by omega) (by omega)
  generalize S % 2 = m at *
  go_enter Tryz.func119, Tryz.ntmps119
  go_wp2
  go_ret
  exact ⟨by first | rfl | simp_all, (Below.refl _ _).alloc (Nat.le_refl _) _⟩
/-- Where a frame was laid. -/
theorem endAhead_any (E : Nat) (i p : Int) (cm : Bool) (n : Int) (k : Nat) (q : Option Addr) (ln cap : Nat) (w : World) :
    Calls Tryz.prog 98 #[frameV E i p cm n k q ln cap] w fun r w' => r = .returned (.agg #[.int .u64 E, .int .i64 i, .int .u32 k]) ∧ Below w.heap.size w w' := by
  unfold frameV
  go_enter Tryz.func98, Tryz.ntmps98
  go_wp2
  refine bodyPost_ret (v := .agg #[.int .u64 E, .int .i64 i, .int .u32 k]) ?_ rfl ⟨rfl, ?_⟩
  · simp [results, Tryz.results98, go_sem]
  · exact ((Below.refl _ _).alloc (Nat.le_refl _) _).alloc (by simp) _
/-- The end behind a frame that may be. -/
theorem endBehind_any (E i p : Nat) (cm : Bool) (n k : Nat) (hE : E < 2 ^ 64) (hk : k < 4294967296) (q : Option Addr) (cap : Nat) (bs : List Nat) (hbl : bs.length = 512) (hbb : ∀ b ∈ bs, b < 256) (w : World) (hbs : BytesAt w q bs) (hok : frameOk i p cm n 512 = true) :
    Calls Tryz.prog 99 #[frameV E i p cm n k q 512 cap] w fun r w' => r = .returned (.agg #[.int .u64 E, .int .i64 ((i : Int) + 1), .int .u32 (~~~ sumN (frameB E i p cm n k ++ bs)).toNat]) ∧ Below w.heap.size w w' := by
  obtain ⟨h1, h2, h3, h4, h5, h6, h7, -⟩ := frame_bounds hok
  have hw : IntKind.i64.wrap ((i : Int) + 1) = (i : Int) + 1 := wrap_small (by omega) (by omega)
  obtain ⟨wA, hwA⟩ : ∃ wA, (w.alloc (.cells #[.int .u64 E, .int .i64 i, .int .i64 p, .bool cm, .int .i64 n, .int .u32 k, .slice q 512 cap] 156)).alloc (.cells #[.int .u64 0, .int .i64 0, .int .u32 0] 41) = wA := ⟨_, rfl⟩
  have HBA : Hid (Below w.heap.size w wA) := Lib.hid (by subst hwA; exact ((Below.refl _ _).alloc (Nat.le_refl _) _).alloc (by simp) _)
  have hx : wA.heap[w.heap.size]? = some (.cells #[.int .u64 E, .int .i64 i, .int .i64 p, .bool cm, .int .i64 n, .int .u32 k, .slice q 512 cap] 156 (0, 0)) := by
    rw [← hwA]
    exact (Below.heap_alloc _ _ _ (by simp)).trans (World.alloc_heap_new w _)
  have hy : wA.heap[w.heap.size + 1]? = some (.cells #[.int .u64 0, .int .i64 0, .int .u32 0] 41 (0, 0)) := by
    rw [← hwA]
    have e := World.alloc_heap_new (w.alloc (.cells #[.int .u64 E, .int .i64 i, .int .i64 p, .bool cm, .int .i64 n, .int .u32 k, .slice q 512 cap] 156)) (.cells #[.int .u64 0, .int .i64 0, .int .u32 0] 41)
    rw [World.size_alloc] at e
    exact e
  have CS := Lib.hid (fsum_ok E i p cm n k hE (by omega) (by omega) (by omega) hk q cap bs hbl hbb wA (bytesAt_below hbs HBA.out) hok)
  simp only [frameV] at CS
  have hxl : w.heap.size < wA.heap.size := (Array.getElem?_eq_some_iff.1 hx).1
  have hyl : w.heap.size + 1 < wA.heap.size := (Array.getElem?_eq_some_iff.1 hy).1
  have HX := Lib.hid hx
  have HY := Lib.hid hy
  obtain ⟨sm, hsm⟩ : ∃ sm : Nat, (~~~ sumN (frameB E i p cm n k ++ bs)).toNat = sm := ⟨_, rfl⟩
  rw [hsm] at CS ⊢
  clear hsm hbs hbb hok
  unfold frameV
  go_enter Tryz.func99, Tryz.ntmps99
  go_upto_region 1 with fail
  try rw [hwA]
  have c0 := row_cell (i := 0) hx rfl; have c1 := row_cell (i := 1) hx rfl; have c2 := row_cell (i := 2) hx rfl; have c3 := row_cell (i := 3) hx rfl; have c4 := row_cell (i := 4) hx rfl; have c5 := row_cell (i := 5) hx rfl; have c6 := row_cell (i := 6) hx rfl
  clear hx hy hwA
  go_upto_region 2 with (go_at_call 122; (with_reducible refine CS.out.mono ?_); rintro e w1 ⟨rfl, hb1⟩; have HB1 := Lib.hid hb1; clear hb1)
  clear c0 c1 c2 c3 c4 c5 c6
  have hx1 := (HB1.out.block _ hxl).trans HX.out
  have hy1 := (HB1.out.block _ hyl).trans HY.out
  have c0 := row_cell (i := 0) hx1 rfl; have c1 := row_cell (i := 1) hx1 rfl
  have d0 := row_cell (i := 0) hy1 rfl; have d1 := row_cell (i := 1) hy1 rfl; have d2 := row_cell (i := 2) hy1 rfl
  have e0 := row_frozen (i := 0) hy1; have e1 := row_frozen (i := 1) hy1; have e2 := row_frozen (i := 2) hy1
  go_wp2
  refine bodyPost_ret (v := .agg #[.int .u64 E, .int .i64 ((i : Int) + 1), .int .u32 sm]) ?_ rfl ⟨rfl, ?_⟩
  · simp [results, Tryz.results99, go_sem, d0, d1, d2]
  · exact (((kbT HBA.out HB1.out).setCell (by show w.heap.size ≤ w.heap.size + 1; omega) _).setCell (by show w.heap.size ≤ w.heap.size + 1; omega) _).setCell (by show w.heap.size ≤ w.heap.size + 1; omega) _
end Go.Proofs.YtdanigigjainjaaGreat
namespace Go.Proofs.YtdanigigjainjaaGreat
open Go.RowKit Go.Shelf
set_option maxRecDepth 100000
set_option maxHeartbeats 1000000
attribute [local go_sem] Oper.semAt_some

abbrev Foot := Nat → Prop
/-- What lay below b, and the blocks X, are as they were. -/
structure Stay (b : Nat) (X : Foot) (A C : World) : Prop where
  os : C.os = A.os
  tape : C.tape = A.tape
  output : C.output = A.output
  size : A.heap.size ≤ C.heap.size
  block : ∀ k, k < b ∨ X k → C.heap[k]? = A.heap[k]?
theorem Stay.of_below {b B : Nat} {X : Foot} {A C : World} (h : Below B A C) (hb : b ≤ B) (hX : ∀ k, X k → k < B) : Stay b X A C :=
  ⟨h.os, h.tape, h.output, h.size, fun k hk => h.block k (hk.elim (fun h => Nat.lt_of_lt_of_le h hb) (hX k))⟩
theorem Stay.mono {b b' : Nat} {X X' : Foot} {A C : World} (h : Stay b X A C) (hk : ∀ k, k < b' ∨ X' k → k < b ∨ X k) : Stay b' X' A C := ⟨h.os, h.tape, h.output, h.size, fun k h' => h.block k (hk k h')⟩
theorem Stay.put {b l : Nat} {X : Foot} (W : World) (o : Obj) (hb : b ≤ l) (hX : ¬ X l) : Stay b X W (W.putObj l o) :=
  ⟨rfl, rfl, rfl, by simp, fun k hk => World.putObj_heap_other (by rintro rfl; exact hk.elim (fun h => by omega) hX)⟩
theorem Stay.set {b : Nat} {X : Foot} (W : World) (p : Addr) (v : Value) (hb : b ≤ p.block) (hX : ¬ X p.block) : Stay b X W (W.setCell p v) :=
  have h := (Below.refl p.block W).setCell (Nat.le_refl _) v
  ⟨h.os, h.tape, h.output, by simp, fun k hk => Below.heap_setCell _ _ _ _ (by rintro rfl; exact hk.elim (fun h => by omega) hX)⟩
/-- What is said of a world speaks of what lies below b, and of the blocks X. -/
def SepC {β : Type} (b : Nat) (J : β → Foot → World → Prop) : Prop := ∀ s X A C, J s X A → Stay b X A C → J s X C
/-- What a round keeps: all from b on, and what M names, but its own blocks X. -/
def KpX (M : Nat → Prop) (b : Nat) (X : Foot) (A C : World) : Prop := A.heap.size ≤ C.heap.size ∧ ∀ k, k < A.heap.size → (b ≤ k ∨ M k) → ¬ X k → C.heap[k]? = A.heap[k]?
/-- What such an iterator promises to whoever ranges over it. -/
def SeqSep {α : Type} (F : Fence) (n : Nat) (P : Program) (g : Nat) (lb : Array Value) (enc : α → Array Value) (M : Nat → Prop) (T : α → Foot → World → Prop) (S Sp : List α → Prop) (N : Nat) (w : World) : Prop :=
  ∀ (l : Nat) (J Jx : List α → Foot → World → Prop) (X0 : Foot) (W : World), Below w.heap.size w W → SepC W.heap.size J → SepC W.heap.size Jx → (∀ k, X0 k → k < W.heap.size ∧ ¬ M k) →
    (∀ pre x X A, J pre X A → W.heap.size ≤ A.heap.size → (∀ k, X k → k < A.heap.size ∧ (X0 k ∨ W.heap.size ≤ k)) → pre.length < N → Sp (pre ++ [x]) → T x X A → YieldAt F (n - 1) P l (enc x) A fun e A' =>
      ∃ X' : Foot, (∀ k, X' k → k < A'.heap.size ∧ (X k ∨ A.heap.size ≤ k)) ∧ KpX M W.heap.size X A A' ∧ ((e = .returned (.bool true) ∧ J (pre ++ [x]) X' A') ∨ (e = .returned (.bool false) ∧ Jx (pre ++ [x]) X' A'))) →
    J [] X0 W → CallsIn F n P g (#[.func (.yield l) #[] #[]] ++ lb) W fun e W' =>
      (∃ v, e = .returned v) ∧ W.heap.size ≤ W'.heap.size ∧ ∃ X' : Foot, (∀ k, X' k → k < W'.heap.size ∧ (X0 k ∨ W.heap.size ≤ k)) ∧ ((∃ xs, S xs ∧ J xs X' W') ∨ ∃ pre, Sp pre ∧ Jx pre X' W')
/-- How the body of a round may be left. -/
def sepPost {α : Type} (b : Nat) (M : Nat → Prop) (X : Foot) (I : List α → Foot → World → Prop) (Ix : Code → List α → Foot → World → Prop) (xs : List α) (W : World) : Exit → Act → World → Prop
  | .normal, _, W' => KpX M b X W W' ∧ ∃ X' : Foot, (∀ k, X' k → k < W'.heap.size ∧ (X k ∨ W.heap.size ≤ k)) ∧ I xs X' W'
  | .ret, _, W' => KpX M b X W W' ∧ ∃ X' : Foot, (∀ k, X' k → k < W'.heap.size ∧ (X k ∨ W.heap.size ≤ k)) ∧ Ix .ret xs X' W'
  | .exit id, _, W' => KpX M b X W W' ∧ ∃ X' : Foot, (∀ k, X' k → k < W'.heap.size ∧ (X k ∨ W.heap.size ≤ k)) ∧ Ix (.exit id) xs X' W'
  | .goto t, _, W' => KpX M b X W W' ∧ ∃ X' : Foot, (∀ k, X' k → k < W'.heap.size ∧ (X k ∨ W.heap.size ≤ k)) ∧ Ix (.goto t) xs X' W'
  | .panic _, _, _ => False
  | .outgrown, _, _ => False
section
variable {F : Fence} {n : Nat} {P : Program}
theorem range_sep {α : Type} {g : Operand} {ps : Array Tmp} {assign body : Code} {Q : Exit → Act → World → Prop} {a : Act} {w : World}
    (hro : F.round = none) (h1 : 1 ≤ n) {gf : Nat} {lb : Array Value} (hg : a.eval g = .func (.func gf) #[] lb) (hF : F.fn gf) (eg : ∀ args w, (callFunc gf args).run P w = .ok (.enter gf args) w)
    {enc : α → Array Value} {M : Nat → Prop} {T : α → Foot → World → Prop} {S Sp : List α → Prop} {N : Nat} {w0 : World} (hseq : SeqSep F (n - 1) P gf lb enc M T S Sp N w0)
    (hT : ∀ (x : α) (X : Foot) (A : World) (l : Nat) (o o' : Obj), A.heap[l]? = some o → o.isCells = false → T x X A → T x X (A.putObj l o'))
    (X0 : Foot) (hX0 : ∀ k, X0 k → k < w.heap.size ∧ ¬ M k)
    (hM : ∀ k, M k → k < w.heap.size) (hb0 : Below w0.heap.size w0 w) (hps : ∀ x, (enc x).size = ps.size)
    (I : List α → Foot → World → Prop) (Ix : Code → List α → Foot → World → Prop) (hI : SepC w.heap.size I) (hIx : ∀ c, SepC w.heap.size (Ix c))
    (h0 : I [] X0 w) (a₁ : α → Act)
    (hassign : ∀ (l : Nat) (x : α) (W : World) (K : Act → World → Prop), K (a₁ x) W →
      assign.wpIn (F.inRound l) (n - 1 - 1) P (Exit.then K fun _ _ _ => False) { tmps := (ps.zip (enc x)).foldl (fun t (p, v) => t.setIfInBounds p v) a.tmps, defers := [] } W)
    (hbody : ∀ (l : Nat) (pre : List α) (x : α) (X : Foot) (W : World), I pre X W → w.heap.size + 2 ≤ W.heap.size → (∀ k, X k → k < W.heap.size ∧ (X0 k ∨ w.heap.size + 2 ≤ k)) → pre.length < N → Sp (pre ++ [x]) → T x X W → body.wpIn (F.inRound l) (n - 1 - 1) P (sepPost w.heap.size M X I Ix (pre ++ [x]) W) (a₁ x) W)
    (hdone : ∀ (D : Nat) (xs : List α) (X : Foot) (W : World), w.heap.size ≤ D → (∀ k, X k → k < W.heap.size ∧ (X0 k ∨ w.heap.size + 2 ≤ k) ∧ k ≠ D) → S xs → I xs X W → W.heap[D]? = some (.deferred (some [])) → Q .normal { a with defers := { target := .collected D, args := #[] } :: a.defers } W)
    (hstop : ∀ (D : Nat) (c : Code) (pre : List α) (X : Foot) (W : World), w.heap.size ≤ D → (∀ k, X k → k < W.heap.size ∧ (X0 k ∨ w.heap.size + 2 ≤ k) ∧ k ≠ D) → Sp pre → Ix c pre X W → W.heap[D]? = some (.deferred (some [])) → c.wpIn F n P Q { a with defers := { target := .collected D, args := #[] } :: a.defers } W) :
    (Code.rangeFunc g ps assign body).wpIn F n P Q a w := by
  refine wpIn_rangeFunc fun fn hfn => ?_
  rw [hro]
  generalize hrc : (fun (s : LoopState) (j : Option Code) => ({ state := s, pending := j, fn := fn, tmps := a.tmps, params := ps, assign := assign, body := body, defers := w.heap.size } : Loop)) = rc
  obtain ⟨At, hAt⟩ : ∃ At : LoopState → Option Code → World → Prop, At = fun s j W => w.heap.size + 2 ≤ W.heap.size ∧ W.heap[w.heap.size + 1]? = some (.loop (rc s j)) ∧ W.heap[w.heap.size]? = some (.deferred (some [])) := ⟨_, rfl⟩
  have stayed : ∀ s j X A C, At s j A → Stay (w.heap.size + 2) X A C → At s j C := fun s j X A C h hb => by
    subst hAt
    exact ⟨Nat.le_trans h.1 hb.size, (hb.block _ (.inl (by omega))).trans h.2.1, (hb.block _ (.inl (by omega))).trans h.2.2⟩
  have turned : ∀ s j s' j' A, At s j A → At s' j' (A.putObj (w.heap.size + 1) (.loop (rc s' j'))) := fun s j s' j' A h => by
    subst hAt
    exact ⟨by have := h.1; simpa using this, World.putObj_heap_same (Array.getElem?_eq_some_iff.1 h.2.1).1, (World.putObj_heap_other (by omega)).trans h.2.2⟩
  have kept : ∀ s j X A C, (∀ k, X k → X0 k ∨ w.heap.size + 2 ≤ k) → At s j A → KpX M w.heap.size X A C → At s j C := fun s j X A C hX h hk => by
    subst hAt
    have hn : ∀ k, w.heap.size ≤ k → k < w.heap.size + 2 → ¬ X k := fun k h1 h2 hx => (hX k hx).elim (fun h => by have := (hX0 k h).1; omega) (fun h => by omega)
    exact ⟨Nat.le_trans h.1 hk.1, (hk.2 _ (by have := h.1; omega) (.inl (by omega)) (hn _ (by omega) (by omega))).trans h.2.1, (hk.2 _ (by have := h.1; omega) (.inl (Nat.le_refl _)) (hn _ (by omega) (by omega))).trans h.2.2⟩
  have sz_at : ∀ s j A, At s j A → w.heap.size + 2 ≤ A.heap.size := fun s j A h => by subst hAt; exact h.1
  have rec_at : ∀ s j A, At s j A → A.heap[w.heap.size + 1]? = some (.loop (rc s j)) := fun s j A h => by subst hAt; exact h.2.1
  have def_at : ∀ s j A, At s j A → A.heap[w.heap.size]? = some (.deferred (some [])) := fun s j A h => by subst hAt; exact h.2.2
  have put : ∀ (K : List α → Foot → World → Prop) (s : List α) (X : Foot) (o : Obj) A, SepC w.heap.size K → (∀ k, X k → X0 k ∨ w.heap.size + 2 ≤ k) → K s X A → K s X (A.putObj (w.heap.size + 1) o) := fun K s X o A hK hX hs =>
    hK s X _ _ hs (Stay.put _ _ (by omega) (fun hx => (hX _ hx).elim (fun h => by have := (hX0 _ h).1; omega) (fun h => by omega)))
  obtain ⟨W1, hW1⟩ : ∃ W1, (w.alloc (.deferred (some []))).alloc (.loop (rc .ready none)) = W1 := ⟨_, rfl⟩
  have s1 : W1.heap.size = w.heap.size + 2 := by subst hW1; simp
  have a1 : At .ready none W1 := by
    subst hAt
    refine ⟨by omega, ?_⟩
    subst hW1
    have e := World.alloc_heap_new (w.alloc (.deferred (some []))) (.loop (rc .ready none))
    rw [World.size_alloc] at e
    exact ⟨e, (Below.heap_alloc _ _ _ (by simp)).trans (World.alloc_heap_new w _)⟩
  have bw1 : Below w.heap.size w W1 := by
    subst hW1
    exact ((Below.refl _ w).alloc (Nat.le_refl _) _).alloc (by simp) _
  have i1 : I [] X0 W1 := hI _ _ _ _ h0 (Stay.of_below bw1 (Nat.le_refl _) (fun k hk => (hX0 k hk).1))
  have b1 : Below w0.heap.size w0 W1 := hb0.trans (bw1.mono hb0.size)
  have en : (Instr.enterLoop fn a.tmps ps assign body none).run P w = .ok (w.heap.size + 1, [{ target := .collected w.heap.size, args := #[] }]) W1 := by
    rw [← hW1, ← hrc]
    exact run_enterLoop_outer _ _ _ _ _
  refine ⟨_, _, W1, { target := .fn (.func gf) lb, args := #[.func (.yield (w.heap.size + 1)) #[] #[]] }, W1, gf, #[.func (.yield (w.heap.size + 1)) #[] #[]] ++ lb, W1, en, ?_, fun f' h => ?_, ?_, fun _ => h1, ?_⟩
  · simp only [resolve, hg]
    simp [go_sem]
  · simp [Target.leads] at h
    subst h
    exact hF
  · simp [invoke, go_sem, eg]
  have X0' : ∀ k, X0 k → X0 k ∨ w.heap.size + 2 ≤ k := fun k h => .inl h
  refine (hseq (w.heap.size + 1) (fun pre X W => I pre X W ∧ At .ready none W ∧ ∀ k, X k → X0 k ∨ w.heap.size + 2 ≤ k) (fun pre X W => ∃ c, Ix c pre X W ∧ At .done (some c) W ∧ ∀ k, X k → X0 k ∨ w.heap.size + 2 ≤ k) X0 W1 b1 ?_ ?_ ?_ ?_ ⟨i1, a1, X0'⟩).mono ?_
  · intro s X A C h hb
    rw [s1] at hb
    exact ⟨hI s X A C h.1 (hb.mono (fun k hk => hk.imp (fun h => by omega) id)), stayed _ _ X A C h.2.1 hb, h.2.2⟩
  · intro s X A C h hb
    rw [s1] at hb
    obtain ⟨c, hc, ha, hx⟩ := h
    exact ⟨c, hIx c s X A C hc (hb.mono (fun k hk => hk.imp (fun h => by omega) id)), stayed _ _ X A C ha hb, hx⟩
  · intro k hk
    exact ⟨by have := (hX0 k hk).1; omega, (hX0 k hk).2⟩
  · rintro pre x X W ⟨hi, ha, hx⟩ hsz hXl hlen hsp hTx
    rw [s1]
    have hy := run_yield (P := P) (args := enc x) (rec_at _ _ _ ha) (by rw [← hrc]; exact hps x)
    rw [← hrc] at hy
    refine ⟨fn, _, assign, body, hy, roundIn_of_wpIn hfn (hassign _ x W _ ?_)⟩
    refine ⟨_, run_beginRound (rec_at _ _ _ ha) (by rw [← hrc]), ?_⟩
    have busy : At .busy none (W.putObj (w.heap.size + 1) (.loop { rc .ready none with state := .busy })) := by
      have := turned _ _ .busy none W ha
      rw [← hrc] at this ⊢
      exact this
    have hnX : ¬ X (w.heap.size + 1) := fun h => (hx _ h).elim (fun h => by have := (hX0 _ h).1; omega) (fun h => by omega)
    have hnM : ¬ M (w.heap.size + 1) := fun h => by have := hM _ h; omega
    have kput : ∀ (V : World) (o : Obj), KpX M (w.heap.size + 2) X V (V.putObj (w.heap.size + 1) o) := fun V o => ⟨by simp, fun k _ h _ => World.putObj_heap_other (by rintro rfl; exact h.elim (fun h => by omega) hnM)⟩
    have hXb : ∀ k, X k → k < (W.putObj (w.heap.size + 1) (.loop { rc .ready none with state := .busy })).heap.size ∧ (X0 k ∨ w.heap.size + 2 ≤ k) := fun k hk => ⟨by have := (hXl k hk).1; simpa using this, hx k hk⟩
    refine wpIn_mono (hbody _ pre x X _ (put I pre X _ W hI hx hi) (sz_at _ _ _ busy) hXb hlen hsp (hT _ _ _ _ _ _ (rec_at _ _ _ ha) rfl hTx)) fun e a3 W3 hp => ?_
    have fin : ∀ (j : Option Code), KpX M w.heap.size X (W.putObj (w.heap.size + 1) (.loop { rc .ready none with state := .busy })) W3 →
        At .busy none W3 ∧ (Instr.endRound (w.heap.size + 1) j).run P W3 = .ok (.bool j.isNone) (W3.putObj (w.heap.size + 1) (.loop (rc (if j.isNone then .ready else .done) j))) ∧
          KpX M (w.heap.size + 2) X W (W3.putObj (w.heap.size + 1) (.loop (rc (if j.isNone then .ready else .done) j))) := fun j hk => by
      have h3 := kept _ _ X _ _ hx busy hk
      have := run_endRound (P := P) j (rec_at _ _ _ h3)
      rw [← hrc] at this ⊢
      refine ⟨h3, this, by have := hk.1; simp at this ⊢; omega, fun k hk1 hk2 hk3 => ?_⟩
      have hne : k ≠ w.heap.size + 1 := by rintro rfl; exact hk2.elim (fun h => by omega) hnM
      rw [World.putObj_heap_other hne, hk.2 k (by simpa using hk1) (hk2.imp (fun h => by omega) id) hk3, World.putObj_heap_other hne]
    have grow : ∀ X' : Foot, (∀ k, X' k → k < W3.heap.size ∧ (X k ∨ (W.putObj (w.heap.size + 1) (.loop { rc .ready none with state := .busy })).heap.size ≤ k)) → (∀ k, X' k → X0 k ∨ w.heap.size + 2 ≤ k) ∧ ∀ (o : Obj) k, X' k → k < (W3.putObj (w.heap.size + 1) o).heap.size ∧ (X k ∨ W.heap.size ≤ k) := fun X' h =>
      ⟨fun k hk => (h k hk).2.elim (hx k) (fun h' => by have := sz_at _ _ _ ha; simp at h'; omega), fun o k hk => ⟨by have := (h k hk).1; simpa using this, (h k hk).2.imp id (fun h' => by simpa using h')⟩⟩
    have out : ∀ (c : Code) (X' : Foot), KpX M w.heap.size X (W.putObj (w.heap.size + 1) (.loop { rc .ready none with state := .busy })) W3 → (∀ k, X' k → k < W3.heap.size ∧ (X k ∨ (W.putObj (w.heap.size + 1) (.loop { rc .ready none with state := .busy })).heap.size ≤ k)) → Ix c (pre ++ [x]) X' W3 →
        ∃ v w', (Instr.endRound (w.heap.size + 1) (some c)).run P W3 = .ok v w' ∧ ∃ X' : Foot, (∀ k, X' k → k < w'.heap.size ∧ (X k ∨ W.heap.size ≤ k)) ∧ KpX M (w.heap.size + 2) X W w' ∧ ((Ending.returned v = .returned (.bool true) ∧ (I (pre ++ [x]) X' w' ∧ At .ready none w' ∧ ∀ k, X' k → X0 k ∨ w.heap.size + 2 ≤ k)) ∨ (Ending.returned v = .returned (.bool false) ∧ (∃ c, Ix c (pre ++ [x]) X' w' ∧ At .done (some c) w' ∧ ∀ k, X' k → X0 k ∨ w.heap.size + 2 ≤ k))) := fun c X' hk hX' hc => by
      obtain ⟨h3, hr, hkk⟩ := fin (some c) hk
      obtain ⟨g1, g2⟩ := grow X' hX'
      exact ⟨_, _, hr, X', g2 _, hkk, .inr ⟨rfl, ⟨c, put (Ix c) _ X' _ W3 (hIx c) g1 hc, turned _ _ _ _ W3 h3, g1⟩⟩⟩
    cases e with
    | normal =>
      obtain ⟨hk, X', hX', hi3⟩ := hp
      obtain ⟨h3, hr, hkk⟩ := fin none hk
      obtain ⟨g1, g2⟩ := grow X' hX'
      exact ⟨_, _, hr, X', g2 _, hkk, .inl ⟨rfl, put I _ X' _ W3 hI g1 hi3, turned _ _ _ _ W3 h3, g1⟩⟩
    | ret => obtain ⟨hk, X', hX', h⟩ := hp; exact out .ret X' hk hX' h
    | exit id => obtain ⟨hk, X', hX', h⟩ := hp; exact out (.exit id) X' hk hX' h
    | goto t => obtain ⟨hk, X', hX', h⟩ := hp; exact out (.goto t) X' hk hX' h
    | panic c => exact hp.elim
    | outgrown => exact hp.elim
  · rintro e W2 ⟨⟨v, rfl⟩, hs2, X', hX', h⟩
    have fin : ∀ s j, s ≠ .busy → At s j W2 → (Instr.endLoop (w.heap.size + 1)).run P W2 = .ok j (W2.putObj (w.heap.size + 1) (.loop { rc s j with state := .exhausted })) ∧ (W2.putObj (w.heap.size + 1) (.loop { rc s j with state := .exhausted })).heap[w.heap.size]? = some (.deferred (some [])) := fun s j hs h => by
      have := run_endLoop (P := P) (rec_at _ _ _ h) (by rw [← hrc]; exact hs)
      rw [← hrc] at this ⊢
      exact ⟨this, (World.putObj_heap_other (by omega)).trans (def_at _ _ _ h)⟩
    have hxD : ∀ (hx : ∀ k, X' k → X0 k ∨ w.heap.size + 2 ≤ k) (o : Obj), ∀ k, X' k → k < (W2.putObj (w.heap.size + 1) o).heap.size ∧ (X0 k ∨ w.heap.size + 2 ≤ k) ∧ k ≠ w.heap.size := fun hx o k hk =>
      ⟨by have := (hX' k hk).1; simpa using this, hx k hk, fun e => (hx k hk).elim (fun h => by have := (hX0 k h).1; omega) (fun h => by omega)⟩
    rcases h with ⟨xs, hS, hi, ha, hx⟩ | ⟨pre, hSp, c, hi, ha, hx⟩
    · obtain ⟨hr, hd⟩ := fin _ _ (by simp) ha
      exact ⟨none, _, hr, hdone _ xs X' _ (Nat.le_refl _) (hxD hx _) hS (put I _ X' _ W2 hI hx hi) hd⟩
    · obtain ⟨hr, hd⟩ := fin _ _ (by simp) ha
      exact ⟨some c, _, hr, hstop _ c pre X' _ (Nat.le_refl _) (hxD hx _) hSp (put (Ix c) _ X' _ W2 (hIx c) hx hi) hd⟩
end
end Go.Proofs.YtdanigigjainjaaGreat
namespace Go.Proofs.YtdanigigjainjaaGreat
open Go.RowKit Go.Shelf
attribute [local go_sem] Oper.semAt_some

theorem KpX.cell {M : Nat → Prop} {b : Nat} {X : Foot} {A C : World} (h : KpX M b X A C) {q : Addr} {v : Value} (hq : b ≤ q.block ∨ M q.block) (hx : ¬ X q.block) (hc : A.cell? q = some v) : C.cell? q = some v :=
  (World.cell?_of_block (h.2 _ (lt_of_cell_some hc) hq hx)).trans hc
theorem rest_kpX {M T : Nat → Prop} {X : Foot} {B P : Nat} {w w' : World} {p : Option Addr} {c : Nat} {v : List Nat} (R : RestP T w P p c v) (hk : KpX M B X w w') (hP : B ≤ P) (hT : ∀ k, T k → M k) (hPX : ¬ X P) (hTX : ∀ k, T k → ¬ X k) : RestP T w' P p c v :=
  ⟨hk.cell (.inl hP) hPX R.cell, R.cap, (World.frozen?_of_block (a := ⟨P, 0, none⟩) (hk.2 P (lt_of_cell_some R.cell) (.inl hP) hPX)).trans R.fz, R.ne, fun i hi => by
    obtain ⟨B', off, e, ht, hc⟩ := R.bytes i hi
    exact ⟨B', off, e, ht, hk.cell (.inr (hT _ ht)) (hTX _ ht) hc⟩⟩
def TX (p : Option Addr) (l : List Nat) (k : Nat) (X : Foot) (A : World) : Prop := TS p l k A ∧ ∀ i, inB p l.length i → ¬ X i
set_option maxRecDepth 100000 in
set_option maxHeartbeats 4000000 in
theorem sectors_sep (n : Nat) (hn : 2 ≤ n) (l : List Nat) (p : Option Addr) (c Bx : Nat) (w : World) (hl : l.length ≤ 100000) (hcap : l.length ≤ c) (hc0 : c ≤ 9223372036854775807) (hb : BytesAt w p l) (hx : w.cell? ⟨Bx, 0, none⟩ = some (.slice p l.length c)) :
    SeqSep Fence.wide n Tryz.prog 193 #[.pointer (some ⟨Bx, 0, none⟩)] (encS p l) (fun k => k = Bx ∨ inB p l.length k) (TX p l) (fun xs => xs = List.range (secN l.length)) (fun pre => pre <+: List.range (secN l.length)) (secN l.length) w := fun ly J Jx X0 W hW hJ hJx hX0 hY h0 => by
  have hcW := (hW.cell (p := ⟨Bx, 0, none⟩) (lt_of_cell_some hx)).trans hx
  have hbW := bytesAt_below hb hW
  have hsn : secN l.length ≤ 100000 := by unfold secN; omega
  have HJ := Lib.hid hJ
  have HY := Lib.hid hY
  have H0 := Lib.hid h0
  have HX0 := Lib.hid hX0
  have hBx : ¬ X0 Bx := fun h => (hX0 _ h).2 (.inl rfl)
  have HB := Lib.hid hbW
  clear hJ hJx hY h0 hX0 hW hb hx hbW
  refine callsIn_of_wp Tryz.func193 rfl trivial ?_ rfl
  simp only [Tryz.ntmps193, List.size_toArray, List.length_cons, List.length_nil, Nat.reduceAdd, Nat.reduceSub, Array.replicate_succ, Array.replicate_zero, List.push_toArray, List.append_toArray, List.nil_append, List.cons_append]
  gi_wp2_with fail
  have R0 : Hid (RestP (inB p l.length) (W.alloc (.cells #[.slice p l.length c] 210)) W.heap.size p c (l.drop (64 * 0))) := Lib.hid ⟨by rw [Nat.mul_zero, List.drop_zero]; go_cell, by rw [Nat.mul_zero, List.drop_zero]; exact hcap, by go_simp, fun h => Nat.lt_irrefl _ (inB_lt HB.out h), fun i hi => by
    rw [Nat.mul_zero, List.drop_zero] at hi ⊢
    exact bytesAt_in (bytesAt_below HB.out ((Below.refl _ _).alloc (Nat.le_refl _) _)) i hi⟩
  have J0 : Hid (∃ X, (∀ k, X k → k < (W.alloc (.cells #[.slice p l.length c] 210)).heap.size ∧ (X0 k ∨ W.heap.size + 1 ≤ k)) ∧ J [] X (W.alloc (.cells #[.slice p l.length c] 210))) := Lib.hid ⟨X0, fun k hk => ⟨by have := (HX0.out k hk).1; simp; omega, .inl hk⟩, HJ.out _ _ _ _ H0.out (Stay.of_below ((Below.refl _ _).alloc (Nat.le_refl _) _) (Nat.le_refl _) (fun k hk => (HX0.out k hk).1))⟩
  clear H0 hcW
  gi_loopw [4] (fun i wr => ∃ (k : Nat) (q : Option Addr) (d : Nat), k ≤ secN l.length ∧ i = .int .i64 k ∧ Hid (∃ X, (∀ k, X k → k < wr.heap.size ∧ (X0 k ∨ W.heap.size + 1 ≤ k)) ∧ J (List.range k) X wr) ∧ Hid (RestP (inB p l.length) wr W.heap.size q d (l.drop (64 * k))) ∧ Hid (k < secN l.length → q = secP p k) ∧ d ≤ c ∧ Hid (W.heap.size ≤ wr.heap.size)) (fun i _ => (secN l.length - intOf i).toNat)
  case atStart => exact ⟨0, p, c, Nat.zero_le _, rfl, J0, R0, Lib.hid (fun _ => by unfold secP; cases p <;> simp [Addr.add]), Nat.le_refl _, Lib.hid (by simp)⟩
  case round =>
    obtain ⟨k, q, d, hk, rfl, ⟨X, hX, hJk⟩, HRk, HQk, hd, HSk⟩ := hrel
    have HX := Lib.hid hX
    have HJk := Lib.hid hJk
    clear hX hJk
    have HD := Lib.hid hd
    by_cases hlt : k < secN l.length
    · have hq := HQk.out hlt
      have h64 := secN_lt.1 hlt
      obtain ⟨m, hm⟩ : ∃ m, m = (secL l k).length := ⟨_, rfl⟩
      have CT := Lib.hid (ftake_sec l k m hm W.heap.size q d wr (by omega) HRk.out)
      have hcell := HRk.out.cell
      have hfz := HRk.out.fz
      have hml : m ≤ (l.drop (64 * k)).length := by rw [hm, secL_length, List.length_drop]; omega
      have HN := Lib.hid (HRk.out.next hml)
      have HT := Lib.hid (HRk.out.taken m (Only.step .refl (.slice (restAt q d m) ((l.drop (64 * k)).length - m) (d - m))))
      rw [take_sec hm] at HT
      rw [drop_sec hm] at HN
      obtain ⟨w1, hw1⟩ : ∃ w1, wr.setCell ⟨W.heap.size, 0, none⟩ (.slice (restAt q d m) ((l.drop (64 * k)).length - m) (d - m)) = w1 := ⟨_, rfl⟩
      rw [hw1] at CT HN HT
      have HB1 : Hid (Below W.heap.size wr w1) := Lib.hid (by subst hw1; exact (Below.refl W.heap.size wr).setCell (p := ⟨W.heap.size, 0, none⟩) (Nat.le_refl _) _)
      have hs1 : W.heap.size ≤ w1.heap.size := Nat.le_trans HSk.out HB1.out.size
      have HSw : Hid (W.heap.size + 1 ≤ w1.heap.size) := Lib.hid (by have := lt_of_cell_some HRk.out.cell; have := HB1.out.size; simp only at *; omega)
      have HX1 : Hid (∀ k, X k → k < w1.heap.size ∧ (X0 k ∨ W.heap.size + 1 ≤ k)) := Lib.hid fun k hk => ⟨Nat.lt_of_lt_of_le (HX.out k hk).1 HB1.out.size, (HX.out k hk).2⟩
      have hnB : ∀ k, inB p l.length k → ¬ X k := fun k hk hx => (HX.out k hx).2.elim (fun h => (HX0.out k h).2 (.inr hk)) (fun h => by have := inB_lt HB.out hk; omega)
      have hJ1 : J (List.range k) X w1 := HJ.out _ _ _ _ HJk.out (by subst hw1; exact Stay.set _ _ _ (Nat.le_refl _) (fun hx => (HX.out _ hx).2.elim (fun h => by have := (HX0.out _ h).1; simp at this) (fun h => by simp at h; omega)))
      have hyY := HY.out (List.range k) k X w1 hJ1 hs1 (fun k hk => ⟨(HX1.out k hk).1, (HX1.out k hk).2.imp id (fun h => by omega)⟩) (by rw [List.length_range]; exact hlt) (by rw [← List.range_succ]; exact List.prefix_iff_eq_take.2 (by rw [List.length_range, List.take_range, Nat.min_eq_left (by omega)])) ⟨by unfold TS; rw [← hq]; exact HT.out, hnB⟩
      rw [← List.range_succ] at hyY
      have HP : Hid (k + 1 < secN l.length → restAt q d m = secP p (k + 1)) := Lib.hid fun h => by
        have h2 := secN_lt.1 h
        have h3 : m = 64 := by rw [hm, secL_length]; omega
        have h4 := HRk.out.cap
        rw [List.length_drop] at h4
        unfold restAt
        rw [if_neg (by omega), hq, h3, ← secP_next HB.out (by omega)]
      have hvl : (0 : Int) < ((l.drop (64 * k)).length : Nat) := by rw [List.length_drop]; omega
      have HM := Lib.hid hm
      unfold encS at hyY
      rw [← hq, ← hm] at hyY
      obtain ⟨fn, tmps, assign, body, hy, hYR⟩ := hyY
      generalize (l.drop (64 * k)).length = vl at *
      clear hw1 hm hml h64 hq HJk HRk HQk hd
      gi_wp2_with (refine ⟨trivial, fun _ => by omega, (callsIn_wide.2 CT.out).mono ?_⟩; rintro e w' ⟨rfl, rfl⟩)
      refine ⟨fun _ => by omega, hYR.mono ?_⟩
      rintro e W3 ⟨X', hX', hK3, h3⟩
      have HX3 : Hid (∀ k, X' k → k < W3.heap.size ∧ (X0 k ∨ W.heap.size + 1 ≤ k)) := Lib.hid fun k hk => ⟨(hX' k hk).1, (hX' k hk).2.elim (fun h => (HX1.out k h).2) (fun h => .inr (by have := HSw.out; omega))⟩
      have hPX : ¬ X W.heap.size := fun hx => (HX.out _ hx).2.elim (fun h => by have := (HX0.out _ h).1; omega) (fun h => by omega)
      rcases h3 with ⟨rfl, hJ3⟩ | ⟨rfl, hJx3⟩
      · have HJ3 : Hid (∃ X, (∀ k, X k → k < W3.heap.size ∧ (X0 k ∨ W.heap.size + 1 ≤ k)) ∧ J (List.range (k + 1)) X W3) := Lib.hid ⟨X', HX3.out, hJ3⟩
        have HR3 := Lib.hid (rest_kpX HN.out hK3 (Nat.le_refl _) (fun _ h => .inr h) hPX hnB)
        have HS3 : Hid (W.heap.size ≤ W3.heap.size) := Lib.hid (Nat.le_trans hs1 hK3.1)
        clear hJ3 hK3 hX' hYR hcell hfz hy CT HT HN
        gi_wp2
        go_roundw
        case rel => exact ⟨k + 1, _, _, by omega, by go_num, HJ3, HR3, HP, Nat.le_trans (Nat.sub_le _ _) HD.out, HS3⟩
        case measure => simp [intOf]; omega
      · have HS3 : Hid (W.heap.size ≤ W3.heap.size) := Lib.hid (Nat.le_trans hs1 hK3.1)
        clear hYR
        gi_wp2
        refine bodyPost_ret (results_none rfl _ _ _) rfl ?_
        exact ⟨⟨_, rfl⟩, HS3.out, X', fun k hk => ⟨(HX3.out k hk).1, (HX3.out k hk).2.imp id (fun h => by omega)⟩, .inr ⟨_, List.prefix_iff_eq_take.2 (by rw [List.length_range, List.take_range, Nat.min_eq_left (by omega)]), hJx3⟩⟩
    · obtain rfl : k = secN l.length := by omega
      have hcell := HRk.out.cell
      have hvl : (l.drop (64 * secN l.length)).length = 0 := by rw [List.length_drop]; have := mt secN_lt.2 (Nat.lt_irrefl (secN l.length)); omega
      rw [hvl] at hcell
      gi_wp2
      refine bodyPost_end (results_none rfl _ _ _) rfl ?_
      exact ⟨⟨_, rfl⟩, HSk.out, X, fun k hk => ⟨(HX.out k hk).1, (HX.out k hk).2.imp id (fun h => by omega)⟩, .inl ⟨_, rfl, HJk.out⟩⟩
end Go.Proofs.YtdanigigjainjaaGreat
namespace Go.Proofs.YtdanigigjainjaaGreat
open Go.RowKit Go.Shelf
attribute [local go_sem] Oper.semAt_some

def TCX (l : List Nat) (x : Nat × Option Addr) (X : Foot) (A : World) : Prop := TC l x A ∧ ∀ i, inB x.2 (secL l x.1).length i → ¬ X i
theorem inB_sec {w : World} {p : Option Addr} {l : List Nat} (h : BytesAt w p l) {k i : Nat} (hk : inB (secP p k) (secL l k).length i) : inB p l.length i := by
  obtain ⟨h0, off, e⟩ := hk
  rw [secL_length] at h0
  obtain ⟨B, off', e', -⟩ := h 0 (by omega)
  subst e'
  unfold secP at e
  simp only [Option.map_some, addr_plain] at e
  injection e with e
  injection e with e1 e2
  subst e1
  exact ⟨by omega, off', rfl⟩
set_option maxRecDepth 100000 in
set_option maxHeartbeats 4000000 in
theorem cut_sep (n : Nat) (hn : 5 ≤ n) (l : List Nat) (p : Option Addr) (c Bo : Nat) (w : World) (hl : l.length ≤ 100000) (hb : BytesAt w p l) (hx : w.cell? ⟨Bo, 0, none⟩ = some (.slice p l.length c)) :
    SeqSep Fence.wide n Tryz.prog 176 #[.pointer (some ⟨Bo, 0, none⟩)] (encC l) (fun k => k = Bo ∨ inB p l.length k) (TCX l) (fun xs => xs.map (·.1) = List.range (secN l.length)) (fun pre => pre.map (·.1) <+: List.range (secN l.length)) (secN l.length) w := fun ly J Jx X0 W hW hJ hJx hX0 hY h0 => by
  have hcW := (hW.cell (p := ⟨Bo, 0, none⟩) (lt_of_cell_some hx)).trans hx
  have hbW := bytesAt_below hb hW
  have HJ := Lib.hid hJ
  have HJx := Lib.hid hJx
  have HY := Lib.hid hY
  have H0 := Lib.hid h0
  have HX0 := Lib.hid hX0
  have HB := Lib.hid hbW
  clear hJ hJx hY h0 hX0 hW hb hx hbW
  have CC := Lib.hid fun (w' : World) (h : Below W.heap.size W w') => clone_any l p c w' hl (bytesAt_below HB.out h)
  refine callsIn_of_wp_marks Tryz.func176 rfl trivial ?_ rfl
  simp only [Tryz.ntmps176, List.size_toArray, List.length_cons, List.length_nil, Nat.reduceAdd, Nat.reduceSub, Array.replicate_succ, Array.replicate_zero, List.push_toArray, List.append_toArray, List.nil_append, List.cons_append]
  have C0a : (W.alloc (.cells #[.func (.yield ly) #[] #[]] 99)).cell? ⟨Bo, 0, none⟩ = some (.slice p l.length c) := (World.cell?_alloc_old _ _ _ (by have := lt_of_cell_some hcW; show Bo ≠ _; simp only at this; omega)).trans hcW
  gi_wp2
  apply wpIn_scope_wide
  gi_wp2
  apply wpIn_label
  gi_wp2_with (first
    | (refine ⟨trivial, fun _ => by omega, (callsIn_wide.2 (CC.out _ ((Below.refl _ _).alloc (Nat.le_refl _) _))).mono ?_⟩; rintro e w1 ⟨t, rfl, hr⟩; obtain ⟨p2, c2, rfl, h1, h2, h3, -⟩ := hr.at2; have HR := Lib.hid (And.intro hr.2 (And.intro h1 (And.intro h2 (And.intro h3 (rowB_base hr))))); clear hr h1 h2 h3)
    | (refine ⟨trivial, fun _ => by omega, (callsIn_wide.2 (sectorsOf_any _ _ _ _)).mono ?_⟩; rintro e w' ⟨rfl, rfl⟩))
  obtain ⟨hb1, hc1, hc2, hby, hbs⟩ := HR.out
  have hs1 : W.heap.size + 1 ≤ w1.heap.size := by have := hb1.size; simp at this; omega
  have hbs' : ∀ k, inB p2 l.length k → W.heap.size ≤ k := fun k h => by obtain ⟨-, off, e⟩ := h; have := hbs k off e; simp at this; omega
  generalize hW0 : w1.alloc (.cells #[.slice p2 l.length c2] 49) = W0
  have b1 : Below w1.heap.size w1 W0 := by subst hW0; exact (Below.refl _ _).alloc (Nat.le_refl _) _
  have S0 : W0.heap.size = w1.heap.size + 1 := by subst hW0; simp
  have B0 : Below W.heap.size W W0 := (((Below.refl W.heap.size W).alloc (Nat.le_refl _) (.cells #[.func (.yield ly) #[] #[]] 99)).trans (hb1.mono (by simp))).trans (b1.mono (by omega))
  have C0 : W0.heap[W.heap.size]? = some (.cells #[.func (.yield ly) #[] #[]] 99 (0, 0)) := (b1.block _ (by omega)).trans ((hb1.block _ (by simp)).trans (World.alloc_heap_new W _))
  have C1 : W0.cell? ⟨w1.heap.size, 0, none⟩ = some (.slice p2 l.length c2) := by subst hW0; go_cell
  have M0 : BytesAt W0 p2 l := bytesAt_below hby b1
  have J0 : J [] X0 W0 := HJ.out _ _ _ _ H0.out (Stay.of_below B0 (Nat.le_refl _) (fun k hk => (HX0.out k hk).1))
  clear hW0 H0 C0a CC HR hb1 hby b1 hbs
  have SW : W.heap.size + 2 ≤ W0.heap.size := by omega
  refine range_norm 0 (fun D V => V.heap[D]? = some (.deferred (some [])) ∧ W.heap.size ≤ V.heap.size ∧ W0.heap.size ≤ D ∧ ∃ X' : Foot, (∀ k, X' k → k < V.heap.size ∧ (X0 k ∨ W.heap.size ≤ k) ∧ k ≠ D) ∧ ((∃ xs : List (Nat × Option Addr), xs.map (·.1) = List.range (secN l.length) ∧ J xs X' V) ∨ ∃ pre : List (Nat × Option Addr), pre.map (·.1) <+: List.range (secN l.length) ∧ Jx pre X' V)) (fun _ _ h => h) ?_ ?_
  · refine' range_sep (n := n) rfl (by omega) (gf := 193) (lb := #[.pointer (some ⟨w1.heap.size, 0, none⟩)]) rfl trivial (enters_of Tryz.func193 (by kernel_rfl) rfl)
      (sectors_sep (n - 1) (by omega) l p2 c2 w1.heap.size W0 hl hc1 (by have := hc2; unfold maxLen at this; omega) M0 C1) (fun x X A k o o' hk hc h => ⟨bytesAt_put h.1 hk hc, h.2⟩)
      X0 (fun k h => ⟨by have := (HX0.out k h).1; omega, fun h' => by have h1 := (HX0.out k h).1; exact h'.elim (fun h => by omega) (fun h => by have := hbs' k h; omega)⟩)
      (fun k h => h.elim (fun h => by omega) (fun h => inB_lt M0 h)) (Below.refl _ _) (fun _ => rfl)
      (fun pre X V => ((∃ xs : List (Nat × Option Addr), xs.map (·.1) = pre ∧ J xs X V) ∧ V.heap[W.heap.size]? = some (.cells #[.func (.yield ly) #[] #[]] 99 (0, 0))))
      (fun c pre X V => c = .exit 0 ∧ W.heap.size ≤ V.heap.size ∧ ∃ xs : List (Nat × Option Addr), xs.map (·.1) = pre ∧ Jx xs X V)
      (fun s X A C h hb => ⟨by obtain ⟨xs, e, h⟩ := h.1; exact ⟨xs, e, HJ.out _ _ _ _ h (hb.mono fun k hk => hk.imp (fun h => by omega) id)⟩, (hb.block _ (.inl (by omega))).trans h.2⟩)
      (fun c s X A C h hb => ⟨h.1, Nat.le_trans h.2.1 hb.size, by obtain ⟨xs, e, h⟩ := h.2.2; exact ⟨xs, e, HJx.out _ _ _ _ h (hb.mono fun k hk => hk.imp (fun h => by omega) id)⟩⟩)
      ⟨⟨[], rfl, J0⟩, C0⟩
      (fun x => { tmps := #[.func (.yield ly) #[] #[], .pointer (some ⟨Bo, 0, none⟩), .pointer (some ⟨W.heap.size, 0, none⟩), .int .i64 (x : Int), .slice (secP p2 x) (secL l x).length (secL l x).length, .slice p l.length c, .slice p2 l.length c2, .func (.func 193) #[] #[.pointer (some ⟨w1.heap.size, 0, none⟩)], .int .i64 (x : Int), .slice (secP p2 x) (secL l x).length (secL l x).length, undef, undef, undef, undef, undef], defers := [] }) ?assign ?body ?done ?stop
    case assign =>
      intro ly2 x V K hK
      gi_wp2
      exact hK
    case body =>
      rintro ly2 pre x X V ⟨⟨xs, rfl, hJ⟩, hb⟩ hs hX hlen hsp hT
      have hcy : V.cell? ⟨W.heap.size, 0, none⟩ = some (.func (.yield ly) #[] #[]) := cell_of_row V _ 0 _ 99 (0, 0) hb
      have hyY := HY.out xs (x, secP p2 x) X V hJ (by omega) (fun k hk => ⟨(hX k hk).1, (hX k hk).2.imp id (fun h => by omega)⟩) (by rw [← List.length_map (f := (·.1))]; exact hlen) (prefix_map hsp) ⟨hT.1, fun i hi => hT.2 i (inB_sec M0 hi)⟩
      obtain ⟨fn, tmps, assign, body, hy, hYR⟩ := hyY
      have wk : ∀ W3, KpX (fun k => k = Bo ∨ inB p l.length k) W.heap.size X V W3 → KpX (fun k => k = w1.heap.size ∨ inB p2 l.length k) W0.heap.size X V W3 := fun W3 hK3 => ⟨hK3.1, fun k h1 h2 h3 => hK3.2 k h1 (.inl (h2.elim (fun h => by omega) (fun h => h.elim (fun h => by omega) (hbs' k)))) h3⟩
      have hbl : W.heap.size < V.heap.size := (Array.getElem?_eq_some_iff.1 hb).1
      have hnX : ¬ X W.heap.size := fun h => (hX _ h).2.elim (fun h => by have := (HX0.out _ h).1; omega) (fun h => by omega)
      have fin1 : Hid (∀ (X' : Foot) W3, (∀ k, X' k → k < W3.heap.size ∧ (X k ∨ V.heap.size ≤ k)) → J (xs ++ [(x, secP p2 x)]) X' W3 → KpX (fun k => k = Bo ∨ inB p l.length k) W.heap.size X V W3 → KpX (fun k => k = w1.heap.size ∨ inB p2 l.length k) W0.heap.size X V W3 ∧ ∃ X' : Foot, (∀ k, X' k → k < W3.heap.size ∧ (X k ∨ V.heap.size ≤ k)) ∧ (∃ xs', List.map (fun x => x.fst) xs' = List.map (fun x => x.fst) xs ++ [x] ∧ J xs' X' W3) ∧ W3.heap[W.heap.size]? = some (.cells #[.func (.yield ly) #[] #[]] 99 (0, 0))) := Lib.hid fun X' W3 hX' hJ3 hK3 =>
        ⟨wk W3 hK3, X', hX', ⟨_, by rw [List.map_append]; rfl, hJ3⟩, (hK3.2 _ hbl (.inl (Nat.le_refl _)) hnX).trans hb⟩
      have fin2 : Hid (∀ (X' : Foot) W3, (∀ k, X' k → k < W3.heap.size ∧ (X k ∨ V.heap.size ≤ k)) → Jx (xs ++ [(x, secP p2 x)]) X' W3 → KpX (fun k => k = Bo ∨ inB p l.length k) W.heap.size X V W3 → KpX (fun k => k = w1.heap.size ∨ inB p2 l.length k) W0.heap.size X V W3 ∧ ∃ X' : Foot, (∀ k, X' k → k < W3.heap.size ∧ (X k ∨ V.heap.size ≤ k)) ∧ Code.exit 0 = Code.exit 0 ∧ W.heap.size ≤ W3.heap.size ∧ ∃ xs', List.map (fun x => x.fst) xs' = List.map (fun x => x.fst) xs ++ [x] ∧ Jx xs' X' W3) := Lib.hid fun X' W3 hX' hJ3 hK3 =>
        ⟨wk W3 hK3, X', hX', rfl, Nat.le_trans (Nat.le_of_lt hbl) hK3.1, ⟨_, by rw [List.map_append]; rfl, hJ3⟩⟩
      clear wk hJ hT hlen hsp hX
      gi_wp2_with fail
      refine ⟨fun _ => by omega, (round_wide hYR).mono ?_⟩
      rintro e W3 ⟨X', hX', hK3, h3⟩
      rcases h3 with ⟨rfl, hJ3⟩ | ⟨rfl, hJx3⟩
      · have HF := Lib.hid (fin1.out X' W3 hX' hJ3 hK3)
        clear hJ3 hK3 hX' hYR hcy hb hy
        gi_wp2
        exact HF.out
      · have HF := Lib.hid (fin2.out X' W3 hX' hJx3 hK3)
        clear hJx3 hK3 hX' hYR hcy hb hy
        gi_wp2
        obtain ⟨g1, X2, g2, -, g3⟩ := HF.out
        exact ⟨g1, X2, g2, rfl, g3⟩
    case done =>
      rintro D ys X V hD hX rfl ⟨⟨xs, e, hJ⟩, hb⟩ hK
      exact ⟨.inl rfl, D, rfl, hK, by have := (Array.getElem?_eq_some_iff.1 hb).1; omega, hD, X, fun k hk => ⟨(hX k hk).1, (hX k hk).2.1.imp id (fun h => by omega), (hX k hk).2.2⟩, .inl ⟨xs, e, hJ⟩⟩
    case stop =>
      rintro D c pre X V hD hX hsp ⟨rfl, hs, xs, rfl, hJ⟩ hK
      have HR : Hid (∃ X' : Foot, (∀ k, X' k → k < V.heap.size ∧ (X0 k ∨ W.heap.size ≤ k) ∧ k ≠ D) ∧ ((∃ xs : List (Nat × Option Addr), xs.map (·.1) = List.range (secN l.length) ∧ J xs X' V) ∨ ∃ pre : List (Nat × Option Addr), pre.map (·.1) <+: List.range (secN l.length) ∧ Jx pre X' V)) := Lib.hid ⟨X, fun k hk => ⟨(hX k hk).1, (hX k hk).2.1.imp id (fun h => by omega), (hX k hk).2.2⟩, .inr ⟨xs, hsp, hJ⟩⟩
      clear hX hJ
      gi_wp2
      all_goals first | exact (by omega) | exact HR.out | exact ⟨by omega, HR.out⟩ | exact hs
  · rintro D V ⟨hK, hs, hD, X', hX', hJ⟩
    have HX := Lib.hid hX'
    have HJ2 := Lib.hid hJ
    clear hX' hJ
    gi_wp2
    refine ⟨by simp, .inl ⟨_, _, rfl, run_takeDeferred hK, ?_⟩⟩
    refine ⟨_, results_none rfl _ _ _, ⟨_, rfl⟩, by simpa using hs, X', fun k hk => ⟨by have := (HX.out k hk).1; simpa using this, (HX.out k hk).2.1⟩, ?_⟩
    have hp : Stay W.heap.size X' V (V.putObj D (.deferred none)) := Stay.put _ _ (by omega) (fun hx => (HX.out _ hx).2.2 rfl)
    rcases HJ2.out with ⟨xs, e, h⟩ | ⟨pre, e, h⟩
    · exact .inl ⟨xs, e, HJ.out _ _ _ _ h hp⟩
    · exact .inr ⟨pre, e, HJx.out _ _ _ _ h hp⟩

end Go.Proofs.YtdanigigjainjaaGreat
namespace Go.Proofs.YtdanigigjainjaaGreat.Dk

def strOf (l : List Nat) : ByteArray := ⟨(l.map UInt8.ofNat).toArray⟩
theorem strOf_size (l : List Nat) : (strOf l).size = l.length := by simp [strOf, ByteArray.size]
def secS (c : Nat) : ByteArray := strOf (List.replicate 64 c)
theorem secS_size (c : Nat) : (secS c).size = 64 := by unfold secS; rw [strOf_size]; simp

/-- How many sectors there are, what was synced, what is loose; a stop behind so many operations (-1: none). -/
structure DS where
  many : Nat
  sync : List (Nat × ByteArray)
  loose : List (Nat × ByteArray)
  left : Int

def lastS (l : List (Nat × ByteArray)) (k : Nat) : ByteArray := l.foldl (fun s w => if w.1 = k then w.2 else s) (secS 0)
theorem lastS_snoc (l : List (Nat × ByteArray)) (w : Nat × ByteArray) (k : Nat) : lastS (l ++ [w]) k = if w.1 = k then w.2 else lastS l k := by
  unfold lastS; rw [List.foldl_append]; rfl
theorem lastS_size {l : List (Nat × ByteArray)} (h : ∀ w ∈ l, w.2.size = 64) (k : Nat) : (lastS l k).size = 64 := by
  unfold lastS
  suffices ∀ (l : List (Nat × ByteArray)) (s : ByteArray), s.size = 64 → (∀ w ∈ l, w.2.size = 64) → (l.foldl (fun s w => if w.1 = k then w.2 else s) s).size = 64 from this l _ (secS_size 0) h
  intro l
  induction l with
  | nil => intro s hs _; exact hs
  | cons w l ih =>
    intro s hs hl
    rw [List.foldl_cons]
    refine ih _ ?_ (fun x hx => hl x (by simp [hx]))
    split
    · exact hl w (by simp)
    · exact hs
/-- Writes that are not to a sector do not change what was written there last. -/
theorem lastS_apart (l m : List (Nat × ByteArray)) (k : Nat) (h : ∀ w ∈ m, w.1 ≠ k) : lastS (l ++ m) k = lastS l k := by
  unfold lastS
  rw [List.foldl_append]
  generalize List.foldl (fun s w => if w.1 = k then w.2 else s) (secS 0) l = s
  induction m generalizing s with
  | nil => rfl
  | cons w m ih =>
    rw [List.foldl_cons, if_neg (h w (by simp))]
    exact ih (fun x hx => h x (by simp [hx])) s

def doneL (left : Int) : Int := if 0 < left then left - 1 else left
def newS (n : Nat) : DS := ⟨n, [], [], -1⟩
def writeS (s : DS) (k : Int) (b : ByteArray) : DS × Int :=
  if b.size ≠ 64 then (s, 2) else if k < 0 ∨ (s.many : Int) ≤ k then (s, 4) else if s.left = 0 then (s, 140) else (⟨s.many, s.sync, s.loose ++ [(k.toNat, b)], doneL s.left⟩, 0)
def syncS (s : DS) : DS × Int := if s.left = 0 then (s, 140) else (⟨s.many, s.sync ++ s.loose, [], doneL s.left⟩, 0)
def stopS (s : DS) (n : Int) : DS × Int := if n < 0 then (s, 2) else (⟨s.many, s.sync, s.loose, n⟩, 0)
def sectorS (s : DS) (k : Nat) : ByteArray := lastS (s.sync ++ s.loose) k
def readS (s : DS) (k : Int) : ByteArray × Int := if k < 0 ∨ (s.many : Int) ≤ k then (⟨#[]⟩, 4) else if s.left = 0 then (⟨#[]⟩, 140) else (sectorS s k.toNat, 0)
/-- The last of the first so many that is kept; -1: none. -/
def tornF (keep : List Bool) : Nat → Int
  | 0 => -1
  | i + 1 => if keep.getD i false then (i : Int) else tornF keep i
theorem tornF_range (keep : List Bool) : ∀ n, -1 ≤ tornF keep n ∧ tornF keep n < n
  | 0 => by simp [tornF]
  | n + 1 => by
    have := tornF_range keep n
    unfold tornF
    split <;> omega
def tornB (tear : Nat) (b old : ByteArray) : ByteArray := b.extract 0 tear ++ old.extract tear 64
/-- What is synced behind a crash, when the first so many were looked at. -/
def crashF (keep : List Bool) (loose : List (Nat × ByteArray)) (tear : Nat) (torn : Int) (sync : List (Nat × ByteArray)) : Nat → List (Nat × ByteArray)
  | 0 => sync
  | i + 1 =>
    if keep.getD i false then crashF keep loose tear torn sync i ++ [((loose.getD i (0, secS 0)).1, if (i : Int) = torn ∧ 0 < tear then tornB tear (loose.getD i (0, secS 0)).2 (lastS (crashF keep loose tear torn sync i) (loose.getD i (0, secS 0)).1) else (loose.getD i (0, secS 0)).2)]
    else crashF keep loose tear torn sync i
def tornS (s : DS) (keep : List Bool) : Int := tornF keep (min s.loose.length keep.length)
def crashS (s : DS) (tear : Int) (keep : List Bool) : DS × Int :=
  if tear < 0 ∨ 63 < tear then (s, 2) else (⟨s.many, crashF keep s.loose tear.toNat (tornS s keep) s.sync (tornS s keep + 1).toNat, [], -1⟩, 0)
/-- All that was written are sectors of the disk. -/
structure Whole (s : DS) : Prop where
  many : 1 ≤ s.many ∧ s.many ≤ 40000
  left : -1 ≤ s.left
  sync : ∀ w ∈ s.sync, w.1 < s.many ∧ w.2.size = 64
  loose : ∀ w ∈ s.loose, w.1 < s.many ∧ w.2.size = 64
theorem doneL_ok {n : Int} (h : -1 ≤ n) : -1 ≤ doneL n := by unfold doneL; split <;> omega
theorem Whole.new {n : Nat} (h : 1 ≤ n ∧ n ≤ 40000) : Whole (newS n) := ⟨h, by simp [newS], fun _ h => (by cases h), fun _ h => (by cases h)⟩
theorem Whole.write {s : DS} (h : Whole s) (k : Int) (b : ByteArray) : Whole (writeS s k b).1 := by
  unfold writeS
  split
  · exact h
  · split
    · exact h
    · split
      · exact h
      · refine ⟨h.many, doneL_ok h.left, h.sync, fun w hw => ?_⟩
        rcases List.mem_append.1 hw with hw | hw
        · exact h.loose w hw
        · simp at hw
          subst hw
          simp only
          omega
theorem Whole.sync' {s : DS} (h : Whole s) : Whole (syncS s).1 := by
  unfold syncS
  split
  · exact h
  · refine ⟨h.many, doneL_ok h.left, fun w hw => ?_, fun _ h => (by cases h)⟩
    rcases List.mem_append.1 hw with hw | hw
    · exact h.sync w hw
    · exact h.loose w hw
theorem tornB_size {tear : Nat} {b old : ByteArray} (ht : tear ≤ 63) (hb : b.size = 64) (ho : old.size = 64) : (tornB tear b old).size = 64 := by
  unfold tornB
  rw [ByteArray.size_append, ByteArray.size_extract, ByteArray.size_extract]
  omega
theorem getD_mem {α : Type} {l : List α} {i : Nat} {d : α} (h : i < l.length) : l.getD i d ∈ l := by
  rw [List.getD_eq_getElem?_getD, List.getElem?_eq_getElem h]
  exact List.getElem_mem h
theorem crashF_whole {keep : List Bool} {loose sync : List (Nat × ByteArray)} {tear m : Nat} {torn : Int} (ht : tear ≤ 63) (hs : ∀ w ∈ sync, w.1 < m ∧ w.2.size = 64) (hl : ∀ w ∈ loose, w.1 < m ∧ w.2.size = 64) :
    ∀ i, i ≤ loose.length → ∀ w ∈ crashF keep loose tear torn sync i, w.1 < m ∧ w.2.size = 64
  | 0, _ => hs
  | i + 1, hi => by
    have ih := crashF_whole (keep := keep) (tear := tear) (torn := torn) ht hs hl i (by omega)
    have hm := hl _ (getD_mem (d := (0, secS 0)) (show i < loose.length by omega))
    unfold crashF
    split
    · intro w hw
      rcases List.mem_append.1 hw with hw | hw
      · exact ih w hw
      · simp only [List.mem_singleton] at hw
        subst hw
        refine ⟨hm.1, ?_⟩
        simp only
        split
        · exact tornB_size ht hm.2 (lastS_size (fun w hw => (ih w hw).2) _)
        · exact hm.2
    · exact ih
theorem tornS_range (s : DS) (keep : List Bool) : -1 ≤ tornS s keep ∧ (tornS s keep + 1).toNat ≤ s.loose.length ∧ (tornS s keep + 1).toNat ≤ keep.length := by
  have := tornF_range keep (min s.loose.length keep.length)
  unfold tornS
  omega
theorem Whole.crash {s : DS} (h : Whole s) (tear : Int) (keep : List Bool) : Whole (crashS s tear keep).1 := by
  unfold crashS
  split
  · exact h
  · exact ⟨h.many, by simp, crashF_whole (by omega) h.sync h.loose _ (tornS_range s keep).2.1, fun _ h => (by cases h)⟩

/-- What was synced is there, but where a loose write to the same sector was kept. -/
theorem crashF_apart (keep : List Bool) (loose sync : List (Nat × ByteArray)) (tear k : Nat) (torn : Int) : ∀ i, (∀ j, j < i → keep.getD j false = true → (loose.getD j (0, secS 0)).1 ≠ k) → lastS (crashF keep loose tear torn sync i) k = lastS sync k
  | 0, _ => rfl
  | i + 1, h => by
    have ih := crashF_apart keep loose sync tear k torn i (fun j hj => h j (by omega))
    unfold crashF
    split
    · rename_i hk
      rw [lastS_snoc, if_neg (h i (by omega) hk)]
      exact ih
    · exact ih
end Go.Proofs.YtdanigigjainjaaGreat.Dk
