/- Package frame: Decode. -/
import Derived.Test.YthnllhfdbnnjhaaPT
namespace Go.Proofs.Ythnllhfdbnnjhaa
open Go.RowKit Go.Shelf

theorem qne1 {a b c : Nat} (h : a = b + 2) (h2 : a < c) (h3 : c = b + 1) : False := by omega
theorem qne0 {a b c : Nat} (h : a = b + 2) (h2 : a < c) (h3 : c = b) : False := by omega
def isFrame (l : List Nat) : Bool := decide (l.length = 576) && frameOk (fI l) (fP l) (fM l) (fN l) 512 && decide (frameS (fE l) (fI l) (fP l) (fM l) (fN l) (fK l) (l.drop 64) = l.take 64)
def zeroFrame : Value := .agg #[.int .u64 0, .int .i64 0, .int .i64 0, .bool false, .int .i64 0, .int .u32 0, .slice none 0 0]
set_option maxRecDepth 100000 in
set_option maxHeartbeats 1000000 in
theorem decode_long (l : List Nat) (p : Option Addr) (cap : Nat) (w : World) (hl : l.length ≠ 576) :
    Calls Try.prog 25 #[.slice p l.length cap] w fun r w' => r = .returned (.tuple #[zeroFrame, .int .i64 150]) ∧ Below w.heap.size w w' := by
  generalize l.length = L at *
  have hl2 : (L : Int) ≠ 576 := by omega
  have hl3 : ((L : Int) != 576) = true := by simp [hl2]
  clear hl hl2
  go_enter Try.func25, Try.ntmps25
  go_wp2
  refine wp_scope_fwd 0 rfl fun J HJ => ?_
  go_wp2
  go_step3
  refine ⟨rfl, HJ.out _ _ ?_⟩
  go_wp2
  simp only [Exit.noGoto_ret]
  refine bodyPost_ret (v := .tuple #[zeroFrame, .int .i64 150]) ?_ rfl ⟨rfl, ?_⟩
  · simp [results, Try.results25, go_sem, zeroFrame]
  · exact ((Below.refl _ _).alloc (Nat.le_refl _) _).alloc (by simp) _
set_option maxRecDepth 100000 in
set_option maxHeartbeats 8000000 in
theorem decode_no (l : List Nat) (p : Option Addr) (cap : Nat) (w : World) (hl : l.length = 576) (hcap : 576 ≤ cap) (hc0 : cap ≤ 9223372036854775807) (hb : ∀ b ∈ l, b < 256) (hc : BytesAt w p l) (hh : frameOk (fI l) (fP l) (fM l) (fN l) 512 = false) :
    Calls Try.prog 25 #[.slice p 576 cap] w fun r w' => r = .returned (.tuple #[zeroFrame, .int .i64 150]) ∧ Below w.heap.size w w' := by
  obtain ⟨B, off, rfl, hcs⟩ := bytesAt_lt hc (fun h => by subst h; simp at hl)
  have CR := Lib.hid fun (w' : World) (hb' : Below w.heap.size w w') => readFrame_any l B off cap w' hl hcap hc0 hb (bytesAt_below hc hb')
  have CC := Lib.hid fun q c => checkFrame_any (fE l) (fI l) (fP l) (fM l) (fN l) (fK l) q 512 c
  have HT64 : Hid ((l.take 64).length = 64) := Lib.hid (by rw [List.length_take]; omega)
  have HTC : Hid (∀ i, i < (l.take 64).length → w.cell? ⟨B, off + i, none⟩ = some (.int .u8 ((l.take 64).getD i 0 : Nat))) := Lib.hid fun i hi => by
    have hi2 := hi
    rw [List.length_take] at hi2
    rw [hcs i (by omega)]
    simp [List.getD_eq_getElem?_getD, List.getElem?_take, show i < 64 by omega]
  rw [hh] at CC
  simp only [Bool.false_eq_true, if_false] at CC
  clear hh
  unfold frameV at CC
  generalize fE l = x0 at *
  generalize fI l = x1 at *
  generalize fP l = x2 at *
  generalize fM l = xm at *
  generalize fN l = x4 at *
  generalize fK l = x5 at *
  generalize l.drop 64 = dd at *
  generalize l.take 64 = lt at *
  clear hcs hb hc hl
  go_enter Try.func25, Try.ntmps25
  go_wp2
  refine wp_scope_fwd 0 rfl fun J HJ => ?_
  go_upto_region 3 with fail
  obtain ⟨w0, hw0⟩ : ∃ w0, (w.alloc (.cells #[.int .u64 0, .int .i64 0, .int .i64 0, .bool false, .int .i64 0, .int .u32 0, .slice none 0 0] 51)).alloc (.cells #[.int .u64 0, .int .i64 0, .int .i64 0, .bool false, .int .i64 0, .int .u32 0, .slice none 0 0] 51) = w0 := ⟨_, rfl⟩
  have HB0 : Hid (Below w.heap.size w w0) := Lib.hid (by subst hw0; exact ((Below.refl _ _).alloc (Nat.le_refl _) _).alloc (by simp) _)
  have HG0 : Hid (w0.heap[w.heap.size]? = some (.cells #[.int .u64 0, .int .i64 0, .int .i64 0, .bool false, .int .i64 0, .int .u32 0, .slice none 0 0] 51 (0, 0))) := Lib.hid (by subst hw0; exact (((Below.refl _ _).alloc (Nat.le_refl _) _).block _ (by simp)).trans (heap_alloc_last w _))
  have HG1 : Hid (w0.heap[w.heap.size + 1]? = some (.cells #[.int .u64 0, .int .i64 0, .int .i64 0, .bool false, .int .i64 0, .int .u32 0, .slice none 0 0] 51 (0, 0))) := Lib.hid (by subst hw0; have := heap_alloc_last (w.alloc (.cells #[.int .u64 0, .int .i64 0, .int .i64 0, .bool false, .int .i64 0, .int .u32 0, .slice none 0 0] 51)) (.cells #[.int .u64 0, .int .i64 0, .int .i64 0, .bool false, .int .i64 0, .int .u32 0, .slice none 0 0] 51); rw [World.size_alloc] at this; exact this)
  have HS0 : Hid (w0.heap.size = w.heap.size + 2) := Lib.hid (by subst hw0; simp)
  rw [hw0]
  clear hw0
  go_upto_region 4 with (go_at_call 45; refine (CR.out _ HB0.out).mono ?_; rintro e wa ⟨q, c, rfl, hba, hbyq, hqn, hcm, hc512, hqb⟩; have QNE : Hid (∀ Bz oz, q = some ⟨Bz, oz, none⟩ → Bz = w.heap.size + 1 → False) := Lib.hid (fun Bz oz e hE => qne1 HS0.out (hqb _ e) hE); have QN0 : Hid (∀ Bz oz, q = some ⟨Bz, oz, none⟩ → Bz = w.heap.size → False) := Lib.hid (fun Bz oz e hE => qne0 HS0.out (hqb _ e) hE); have HBYQ := Lib.hid hbyq; have HQN := Lib.hid hqn; have HCM := Lib.hid (And.intro hcm hc512); have HBA := Lib.hid hba; have hg0 := (hba.block _ (by rw [HS0.out]; omega)).trans HG0.out; have hg1 := (hba.block _ (by rw [HS0.out]; omega)).trans HG1.out; have k0 := row_cell (i := 0) hg1 rfl; have k1 := row_cell (i := 1) hg1 rfl; have k2 := row_cell (i := 2) hg1 rfl; have k3 := row_cell (i := 3) hg1 rfl; have k4 := row_cell (i := 4) hg1 rfl; have k5 := row_cell (i := 5) hg1 rfl; have k6 := row_cell (i := 6) hg1 rfl; have f0 := row_frozen (i := 0) hg1; have f1 := row_frozen (i := 1) hg1; have f2 := row_frozen (i := 2) hg1; have f3 := row_frozen (i := 3) hg1; have f4 := row_frozen (i := 4) hg1; have f5 := row_frozen (i := 5) hg1; have f6 := row_frozen (i := 6) hg1; have HGA := Lib.hid hg0; have HSA := Lib.hid hba.size; clear hg0 hg1 hba hbyq hqn hcm hc512 hqb)
  obtain ⟨wb, hwb⟩ : ∃ wb, ((((((wa.setCell ⟨w.heap.size + 1, 0, none⟩ (.int .u64 x0)).setCell ⟨w.heap.size + 1, 1, none⟩ (.int .i64 x1)).setCell ⟨w.heap.size + 1, 2, none⟩ (.int .i64 x2)).setCell ⟨w.heap.size + 1, 3, none⟩ (.bool xm)).setCell ⟨w.heap.size + 1, 4, none⟩ (.int .i64 x4)).setCell ⟨w.heap.size + 1, 5, none⟩ (.int .u32 x5)).setCell ⟨w.heap.size + 1, 6, none⟩ (.slice q 512 c) = wb := ⟨_, rfl⟩
  have m0 : Hid (wb.cell? ⟨w.heap.size + 1, 0, none⟩ = some (.int .u64 x0)) := Lib.hid (by subst hwb; go_cell)
  have m1 : Hid (wb.cell? ⟨w.heap.size + 1, 1, none⟩ = some (.int .i64 x1)) := Lib.hid (by subst hwb; go_cell)
  have m2 : Hid (wb.cell? ⟨w.heap.size + 1, 2, none⟩ = some (.int .i64 x2)) := Lib.hid (by subst hwb; go_cell)
  have m3 : Hid (wb.cell? ⟨w.heap.size + 1, 3, none⟩ = some (.bool xm)) := Lib.hid (by subst hwb; go_cell)
  have m4 : Hid (wb.cell? ⟨w.heap.size + 1, 4, none⟩ = some (.int .i64 x4)) := Lib.hid (by subst hwb; go_cell)
  have m5 : Hid (wb.cell? ⟨w.heap.size + 1, 5, none⟩ = some (.int .u32 x5)) := Lib.hid (by subst hwb; go_cell)
  have m6 : Hid (wb.cell? ⟨w.heap.size + 1, 6, none⟩ = some (.slice q 512 c)) := Lib.hid (by subst hwb; go_cell)
  have HBB : Hid (Below w.heap.size w wb) := Lib.hid (by subst hwb; exact ((((((((HB0.out.trans (HBA.out.mono (by rw [HS0.out]; omega))).setCell (Nat.le_succ _) _).setCell (Nat.le_succ _) _).setCell (Nat.le_succ _) _).setCell (Nat.le_succ _) _).setCell (Nat.le_succ _) _).setCell (Nat.le_succ _) _).setCell (Nat.le_succ _) _))
  have HGB : Hid (wb.heap[w.heap.size]? = some (.cells #[.int .u64 0, .int .i64 0, .int .i64 0, .bool false, .int .i64 0, .int .u32 0, .slice none 0 0] 51 (0, 0))) := Lib.hid (by subst hwb; exact (((((((But.set' _ _ _ _).trans (But.set' _ _ _ _)).trans (But.set' _ _ _ _)).trans (But.set' _ _ _ _)).trans (But.set' _ _ _ _)).trans (But.set' _ _ _ _)).trans (But.set' _ _ _ _)).row HGA.out (by omega))
  have HBQ : Hid (BytesAt wb q dd) := Lib.hid (by
    subst hwb
    intro i hi
    obtain ⟨Bz, oz, e, cz⟩ := HBYQ.out i hi
    refine ⟨Bz, oz, e, (((((((But.set' _ _ _ _).trans (But.set' _ _ _ _)).trans (But.set' _ _ _ _)).trans (But.set' _ _ _ _)).trans (But.set' _ _ _ _)).trans (But.set' _ _ _ _)).trans (But.set' _ _ _ _)).cell cz ?_⟩
    intro hE
    simp only at hE
    exact QNE.out Bz oz e hE)
  have HSB : Hid (w.heap.size + 1 < wb.heap.size) := Lib.hid (lt_of_cell_some m0.out)
  rw [hwb]
  clear hwb k0 k1 k2 k3 k4 k5 k6 f0 f1 f2 f3 f4 f5 f6
  have WK : Hid (∀ w', Below wb.heap.size wb w' → (w'.cell? ⟨w.heap.size + 1, 0, none⟩ = some (.int .u64 x0) ∧ w'.cell? ⟨w.heap.size + 1, 1, none⟩ = some (.int .i64 x1) ∧ w'.cell? ⟨w.heap.size + 1, 2, none⟩ = some (.int .i64 x2) ∧ w'.cell? ⟨w.heap.size + 1, 3, none⟩ = some (.bool xm) ∧ w'.cell? ⟨w.heap.size + 1, 4, none⟩ = some (.int .i64 x4) ∧ w'.cell? ⟨w.heap.size + 1, 5, none⟩ = some (.int .u32 x5) ∧ w'.cell? ⟨w.heap.size + 1, 6, none⟩ = some (.slice q 512 c)) ∧ (∀ i, i < lt.length → w'.cell? ⟨B, off + i, none⟩ = some (.int .u8 (lt.getD i 0 : Nat))) ∧ w'.heap[w.heap.size]? = some (.cells #[.int .u64 0, .int .i64 0, .int .i64 0, .bool false, .int .i64 0, .int .u32 0, .slice none 0 0] 51 (0, 0)) ∧ Below w.heap.size w w') := Lib.hid fun w' h =>
    ⟨⟨(h.cell (lt_of_cell_some m0.out)).trans m0.out, (h.cell (lt_of_cell_some m1.out)).trans m1.out, (h.cell (lt_of_cell_some m2.out)).trans m2.out, (h.cell (lt_of_cell_some m3.out)).trans m3.out, (h.cell (lt_of_cell_some m4.out)).trans m4.out, (h.cell (lt_of_cell_some m5.out)).trans m5.out, (h.cell (lt_of_cell_some m6.out)).trans m6.out⟩, fun i hi => (((kbT HBB.out h)).cell (lt_of_cell_some (HTC.out i hi))).trans (HTC.out i hi), (h.block _ (by have := HSB.out; omega)).trans HGB.out, kbT HBB.out h⟩
  refine wp_region_held_drew (S := fun w' => Below wb.heap.size wb w') (by kernel_rfl) ((Below.refl _ _).drew) (fun H0 => ?_)
  refine wpAnyH_take (i := 0) (oi := { dst := some 10, op := Go.Op.load 51 (Go.Operand.tmp 4), type := 51, pos := "frame.go:81", after := #[], guard := none }) (v := ?_) rfl (by kernel_rfl) (by kernel_rfl) (by kernel_rfl) (fun _ _ _ h => h) (Or.inl ⟨by rfl, ?_⟩) H0 ?_
  rotate_left
  focus (intro w' hSw; (try dsimp only at hSw); obtain ⟨⟨q0, q1, q2, q3, q4, q5, q6⟩, -, -, -⟩ := WK.out _ hSw; go_simp; (try with_reducible rfl))
  simp only [Act.put, List.setIfInBounds_toArray, List.set_cons_zero, List.set_cons_succ]
  refine wpAnyH_ready (rs := [1]) (by kernel_rfl) (by simp) ?_
  refine AllReadyH.cons (o := { dst := some 11, op := Go.Op.call { callee := Go.Callee.value (Go.Operand.func 42), args := #[Go.Operand.tmp 10], argTypes := #[51] }, type := 24, pos := "frame.go:81", after := #[{ on := 0, ground := Go.Ground.data }], guard := none }) rfl (fun K hK => ?_) ?_
  rotate_left
  exact AllReadyH.nil
  go_simp
  (go_at_call 42; (with_reducible refine (CC.out _ _ _).mono ?_); rintro e wd ⟨rfl, hd⟩)
  try go_wp2_with fail
  refine hK.out _ _ (kbT H0 hd) (fun Hd => ?_)
  clear hK K
  try simp only [Act.put, List.setIfInBounds_toArray, List.set_cons_zero, List.set_cons_succ]
  refine wpAnyH_take (i := 2) (oi := { dst := some 12, op := Go.Op.binOp Go.BinOp.neq 24 (Go.Operand.tmp 11) (Go.Operand.const (Go.Value.int Go.IntKind.i64 0)) 24, type := 4, pos := "frame.go:81", after := #[{ on := 1, ground := Go.Ground.data }], guard := none }) (v := ?_) rfl (by kernel_rfl) (by kernel_rfl) (by kernel_rfl) (fun _ _ _ h => h) (Or.inl ⟨by rfl, ?_⟩) Hd ?_
  rotate_left
  focus (intro w' hSw; (try dsimp only at hSw); go_simp; (try with_reducible rfl))
  simp only [Act.put, List.setIfInBounds_toArray, List.set_cons_zero, List.set_cons_succ]
  refine wpAnyH_take (i := 3) (oi := { dst := some 13, op := Go.Op.move (Go.Operand.tmp 12), type := 4, pos := "frame.go:81", after := #[{ on := 2, ground := Go.Ground.data }, { on := 1, ground := Go.Ground.chain }], guard := none }) (v := ?_) rfl (by kernel_rfl) (by kernel_rfl) (by kernel_rfl) (fun _ _ _ h => h) (Or.inl ⟨by rfl, ?_⟩) Hd ?_
  rotate_left
  focus (intro w' hSw; (try dsimp only at hSw); go_simp; (try with_reducible rfl))
  simp only [Act.put, List.setIfInBounds_toArray, List.set_cons_zero, List.set_cons_succ]
  refine wpAnyH_take (i := 4) (oi := { dst := some 14, op := Go.Op.load 51 (Go.Operand.tmp 4), type := 51, pos := "frame.go:81", after := #[{ on := 3, ground := Go.Ground.guard }], guard := some (3, false) }) (v := undef) rfl (by kernel_rfl) (by kernel_rfl) (by kernel_rfl) (fun _ _ _ h => h) (Or.inr ⟨by rfl, rfl⟩) Hd ?_
  simp only [Act.put, List.setIfInBounds_toArray, List.set_cons_zero, List.set_cons_succ]
  refine wpAnyH_take (i := 5) (oi := { dst := some 15, op := Go.Op.call { callee := Go.Callee.value (Go.Operand.func 43), args := #[Go.Operand.tmp 14], argTypes := #[51] }, type := 84, pos := "frame.go:81", after := #[{ on := 4, ground := Go.Ground.data }, { on := 3, ground := Go.Ground.chain }, { on := 3, ground := Go.Ground.guard }], guard := some (3, false) }) (v := undef) rfl (by kernel_rfl) (by kernel_rfl) (by kernel_rfl) (fun _ _ _ h => h) (Or.inr ⟨by rfl, rfl⟩) Hd ?_
  simp only [Act.put, List.setIfInBounds_toArray, List.set_cons_zero, List.set_cons_succ]
  refine wpAnyH_take (i := 6) (oi := { dst := some 16, op := Go.Op.move (Go.Operand.tmp 0), type := 39, pos := "frame.go:81", after := #[{ on := 3, ground := Go.Ground.guard }], guard := some (3, false) }) (v := undef) rfl (by kernel_rfl) (by kernel_rfl) (by kernel_rfl) (fun _ _ _ h => h) (Or.inr ⟨by rfl, rfl⟩) Hd ?_
  simp only [Act.put, List.setIfInBounds_toArray, List.set_cons_zero, List.set_cons_succ]
  refine wpAnyH_take (i := 7) (oi := { dst := some 17, op := Go.Op.slice 39 (Go.Operand.tmp 16) none (some (Go.Operand.const (Go.Value.int Go.IntKind.i64 64))) none, type := 39, pos := "frame.go:81", after := #[{ on := 6, ground := Go.Ground.data }, { on := 3, ground := Go.Ground.guard }], guard := some (3, false) }) (v := undef) rfl (by kernel_rfl) (by kernel_rfl) (by kernel_rfl) (fun _ _ _ h => h) (Or.inr ⟨by rfl, rfl⟩) Hd ?_
  simp only [Act.put, List.setIfInBounds_toArray, List.set_cons_zero, List.set_cons_succ]
  refine wpAnyH_take (i := 8) (oi := { dst := some 18, op := Go.Op.sliceToArrayPointer 84 (Go.Operand.tmp 17), type := 0, pos := "frame.go:81", after := #[{ on := 7, ground := Go.Ground.data }, { on := 3, ground := Go.Ground.guard }], guard := some (3, false) }) (v := undef) rfl (by kernel_rfl) (by kernel_rfl) (by kernel_rfl) (fun _ _ _ h => h) (Or.inr ⟨by rfl, rfl⟩) Hd ?_
  simp only [Act.put, List.setIfInBounds_toArray, List.set_cons_zero, List.set_cons_succ]
  refine wpAnyH_take (i := 9) (oi := { dst := some 19, op := Go.Op.load 84 (Go.Operand.tmp 18), type := 84, pos := "frame.go:81", after := #[{ on := 8, ground := Go.Ground.data }, { on := 3, ground := Go.Ground.guard }], guard := some (3, false) }) (v := undef) rfl (by kernel_rfl) (by kernel_rfl) (by kernel_rfl) (fun _ _ _ h => h) (Or.inr ⟨by rfl, rfl⟩) Hd ?_
  simp only [Act.put, List.setIfInBounds_toArray, List.set_cons_zero, List.set_cons_succ]
  refine wpAnyH_take (i := 10) (oi := { dst := some 20, op := Go.Op.binOp Go.BinOp.neq 84 (Go.Operand.tmp 15) (Go.Operand.tmp 19) 84, type := 4, pos := "frame.go:81", after := #[{ on := 5, ground := Go.Ground.data }, { on := 9, ground := Go.Ground.data }, { on := 3, ground := Go.Ground.guard }], guard := some (3, false) }) (v := undef) rfl (by kernel_rfl) (by kernel_rfl) (by kernel_rfl) (fun _ _ _ h => h) (Or.inr ⟨by rfl, rfl⟩) Hd ?_
  simp only [Act.put, List.setIfInBounds_toArray, List.set_cons_zero, List.set_cons_succ]
  refine wpAnyH_take (i := 11) (oi := { dst := some 21, op := Go.Op.pick (Go.Operand.tmp 13) (Go.Operand.const (Go.Value.bool true)) (Go.Operand.tmp 20), type := 4, pos := "frame.go:81", after := #[{ on := 3, ground := Go.Ground.data }, { on := 10, ground := Go.Ground.data }], guard := none }) (v := ?_) rfl (by kernel_rfl) (by kernel_rfl) (by kernel_rfl) (fun _ _ _ h => h) (Or.inl ⟨by rfl, ?_⟩) Hd ?_
  rotate_left
  focus (intro w' hSw; (try dsimp only at hSw); go_simp; (try with_reducible rfl))
  simp only [Act.put, List.setIfInBounds_toArray, List.set_cons_zero, List.set_cons_succ]
  refine wpAnyH_done (by kernel_rfl) ?_ _
  have hg2 := (WK.out _ Hd).2.2.1
  have HX := Lib.hid (WK.out _ Hd).2.2.2
  have z0 := row_cell (i := 0) hg2 rfl
  have y0 := row_frozen (i := 0) hg2
  have z1 := row_cell (i := 1) hg2 rfl
  have y1 := row_frozen (i := 1) hg2
  have z2 := row_cell (i := 2) hg2 rfl
  have y2 := row_frozen (i := 2) hg2
  have z3 := row_cell (i := 3) hg2 rfl
  have y3 := row_frozen (i := 3) hg2
  have z4 := row_cell (i := 4) hg2 rfl
  have y4 := row_frozen (i := 4) hg2
  have z5 := row_cell (i := 5) hg2 rfl
  have y5 := row_frozen (i := 5) hg2
  have z6 := row_cell (i := 6) hg2 rfl
  have y6 := row_frozen (i := 6) hg2
  clear hg2
  go_wp2
  go_step3
  refine ⟨rfl, HJ.out _ _ ?_⟩
  go_wp2
  simp only [Exit.noGoto_ret]
  refine bodyPost_ret (v := .tuple #[zeroFrame, .int .i64 150]) ?_ rfl ⟨rfl, ?_⟩
  · simp [results, Try.results25, go_sem, zeroFrame, z0, z1, z2, z3, z4, z5, z6]
  · exact (((((((HX.out.setCell (Nat.le_refl _) _).setCell (Nat.le_refl _) _).setCell (Nat.le_refl _) _).setCell (Nat.le_refl _) _).setCell (Nat.le_refl _) _).setCell (Nat.le_refl _) _).setCell (Nat.le_refl _) _)
set_option maxRecDepth 100000 in
set_option maxHeartbeats 8000000 in
theorem decode_other (l : List Nat) (p : Option Addr) (cap : Nat) (w : World) (hl : l.length = 576) (hcap : 576 ≤ cap) (hc0 : cap ≤ 9223372036854775807) (hb : ∀ b ∈ l, b < 256) (hc : BytesAt w p l) (hh : frameOk (fI l) (fP l) (fM l) (fN l) 512 = true) (hq : frameS (fE l) (fI l) (fP l) (fM l) (fN l) (fK l) (l.drop 64) ≠ l.take 64) :
    Calls Try.prog 25 #[.slice p 576 cap] w fun r w' => r = .returned (.tuple #[zeroFrame, .int .i64 150]) ∧ Below w.heap.size w w' := by
  obtain ⟨B, off, rfl, hcs⟩ := bytesAt_lt hc (fun h => by subst h; simp at hl)
  have CR := Lib.hid fun (w' : World) (hb' : Below w.heap.size w w') => readFrame_any l B off cap w' hl hcap hc0 hb (bytesAt_below hc hb')
  have CC := Lib.hid fun q c => checkFrame_any (fE l) (fI l) (fP l) (fM l) (fN l) (fK l) q 512 c
  have HT64 : Hid ((l.take 64).length = 64) := Lib.hid (by rw [List.length_take]; omega)
  have HTC : Hid (∀ i, i < (l.take 64).length → w.cell? ⟨B, off + i, none⟩ = some (.int .u8 ((l.take 64).getD i 0 : Nat))) := Lib.hid fun i hi => by
    have hi2 := hi
    rw [List.length_take] at hi2
    rw [hcs i (by omega)]
    simp [List.getD_eq_getElem?_getD, List.getElem?_take, show i < 64 by omega]
  rw [hh] at CC
  simp only [if_true] at CC
  have hbb := frame_bounds hh
  have CH := Lib.hid fun q c (w' : World) h => frameSector_any (fE l) (fI l) (fP l) (fM l) (fN l) (fK l) (foldN_lt' hb) (by omega) (by omega) (by omega) (foldN_lt' (k := 4) (fun b h => hb b (List.mem_of_mem_drop h))) q c (l.drop 64) (by rw [List.length_drop]; omega) (fun b h => hb b (List.mem_of_mem_drop h)) w' h
  have hle := eqi_sec (frameS_length (fE l) (fI l) (fP l) (fM l) (fN l) (fK l) (l.drop 64)) HT64.out (frameS_byte (fE l) (fI l) (fP l) (fM l) (fN l) (fK l) (l.drop 64)) (fun b h => hb b (List.mem_of_mem_take h))
  rw [decide_eq_false hq] at hle
  generalize frameS (fE l) (fI l) (fP l) (fM l) (fN l) (fK l) (l.drop 64) = ll at *
  have hle2 := fun x y w => eqg_sec ll (l.take 64) x y .neq w
  clear hh hbb hq
  unfold frameV at CC
  generalize fE l = x0 at *
  generalize fI l = x1 at *
  generalize fP l = x2 at *
  generalize fM l = xm at *
  generalize fN l = x4 at *
  generalize fK l = x5 at *
  generalize l.drop 64 = dd at *
  generalize l.take 64 = lt at *
  clear hcs hb hc hl
  go_enter Try.func25, Try.ntmps25
  go_wp2
  refine wp_scope_fwd 0 rfl fun J HJ => ?_
  go_upto_region 3 with fail
  obtain ⟨w0, hw0⟩ : ∃ w0, (w.alloc (.cells #[.int .u64 0, .int .i64 0, .int .i64 0, .bool false, .int .i64 0, .int .u32 0, .slice none 0 0] 51)).alloc (.cells #[.int .u64 0, .int .i64 0, .int .i64 0, .bool false, .int .i64 0, .int .u32 0, .slice none 0 0] 51) = w0 := ⟨_, rfl⟩
  have HB0 : Hid (Below w.heap.size w w0) := Lib.hid (by subst hw0; exact ((Below.refl _ _).alloc (Nat.le_refl _) _).alloc (by simp) _)
  have HG0 : Hid (w0.heap[w.heap.size]? = some (.cells #[.int .u64 0, .int .i64 0, .int .i64 0, .bool false, .int .i64 0, .int .u32 0, .slice none 0 0] 51 (0, 0))) := Lib.hid (by subst hw0; exact (((Below.refl _ _).alloc (Nat.le_refl _) _).block _ (by simp)).trans (heap_alloc_last w _))
  have HG1 : Hid (w0.heap[w.heap.size + 1]? = some (.cells #[.int .u64 0, .int .i64 0, .int .i64 0, .bool false, .int .i64 0, .int .u32 0, .slice none 0 0] 51 (0, 0))) := Lib.hid (by subst hw0; have := heap_alloc_last (w.alloc (.cells #[.int .u64 0, .int .i64 0, .int .i64 0, .bool false, .int .i64 0, .int .u32 0, .slice none 0 0] 51)) (.cells #[.int .u64 0, .int .i64 0, .int .i64 0, .bool false, .int .i64 0, .int .u32 0, .slice none 0 0] 51); rw [World.size_alloc] at this; exact this)
  have HS0 : Hid (w0.heap.size = w.heap.size + 2) := Lib.hid (by subst hw0; simp)
  rw [hw0]
  clear hw0
  go_upto_region 4 with (go_at_call 45; refine (CR.out _ HB0.out).mono ?_; rintro e wa ⟨q, c, rfl, hba, hbyq, hqn, hcm, hc512, hqb⟩; have QNE : Hid (∀ Bz oz, q = some ⟨Bz, oz, none⟩ → Bz = w.heap.size + 1 → False) := Lib.hid (fun Bz oz e hE => qne1 HS0.out (hqb _ e) hE); have QN0 : Hid (∀ Bz oz, q = some ⟨Bz, oz, none⟩ → Bz = w.heap.size → False) := Lib.hid (fun Bz oz e hE => qne0 HS0.out (hqb _ e) hE); have HBYQ := Lib.hid hbyq; have HQN := Lib.hid hqn; have HCM := Lib.hid (And.intro hcm hc512); have HBA := Lib.hid hba; have hg0 := (hba.block _ (by rw [HS0.out]; omega)).trans HG0.out; have hg1 := (hba.block _ (by rw [HS0.out]; omega)).trans HG1.out; have k0 := row_cell (i := 0) hg1 rfl; have k1 := row_cell (i := 1) hg1 rfl; have k2 := row_cell (i := 2) hg1 rfl; have k3 := row_cell (i := 3) hg1 rfl; have k4 := row_cell (i := 4) hg1 rfl; have k5 := row_cell (i := 5) hg1 rfl; have k6 := row_cell (i := 6) hg1 rfl; have f0 := row_frozen (i := 0) hg1; have f1 := row_frozen (i := 1) hg1; have f2 := row_frozen (i := 2) hg1; have f3 := row_frozen (i := 3) hg1; have f4 := row_frozen (i := 4) hg1; have f5 := row_frozen (i := 5) hg1; have f6 := row_frozen (i := 6) hg1; have HGA := Lib.hid hg0; have HSA := Lib.hid hba.size; clear hg0 hg1 hba hbyq hqn hcm hc512 hqb)
  obtain ⟨wb, hwb⟩ : ∃ wb, ((((((wa.setCell ⟨w.heap.size + 1, 0, none⟩ (.int .u64 x0)).setCell ⟨w.heap.size + 1, 1, none⟩ (.int .i64 x1)).setCell ⟨w.heap.size + 1, 2, none⟩ (.int .i64 x2)).setCell ⟨w.heap.size + 1, 3, none⟩ (.bool xm)).setCell ⟨w.heap.size + 1, 4, none⟩ (.int .i64 x4)).setCell ⟨w.heap.size + 1, 5, none⟩ (.int .u32 x5)).setCell ⟨w.heap.size + 1, 6, none⟩ (.slice q 512 c) = wb := ⟨_, rfl⟩
  have m0 : Hid (wb.cell? ⟨w.heap.size + 1, 0, none⟩ = some (.int .u64 x0)) := Lib.hid (by subst hwb; go_cell)
  have m1 : Hid (wb.cell? ⟨w.heap.size + 1, 1, none⟩ = some (.int .i64 x1)) := Lib.hid (by subst hwb; go_cell)
  have m2 : Hid (wb.cell? ⟨w.heap.size + 1, 2, none⟩ = some (.int .i64 x2)) := Lib.hid (by subst hwb; go_cell)
  have m3 : Hid (wb.cell? ⟨w.heap.size + 1, 3, none⟩ = some (.bool xm)) := Lib.hid (by subst hwb; go_cell)
  have m4 : Hid (wb.cell? ⟨w.heap.size + 1, 4, none⟩ = some (.int .i64 x4)) := Lib.hid (by subst hwb; go_cell)
  have m5 : Hid (wb.cell? ⟨w.heap.size + 1, 5, none⟩ = some (.int .u32 x5)) := Lib.hid (by subst hwb; go_cell)
  have m6 : Hid (wb.cell? ⟨w.heap.size + 1, 6, none⟩ = some (.slice q 512 c)) := Lib.hid (by subst hwb; go_cell)
  have HBB : Hid (Below w.heap.size w wb) := Lib.hid (by subst hwb; exact ((((((((HB0.out.trans (HBA.out.mono (by rw [HS0.out]; omega))).setCell (Nat.le_succ _) _).setCell (Nat.le_succ _) _).setCell (Nat.le_succ _) _).setCell (Nat.le_succ _) _).setCell (Nat.le_succ _) _).setCell (Nat.le_succ _) _).setCell (Nat.le_succ _) _))
  have HGB : Hid (wb.heap[w.heap.size]? = some (.cells #[.int .u64 0, .int .i64 0, .int .i64 0, .bool false, .int .i64 0, .int .u32 0, .slice none 0 0] 51 (0, 0))) := Lib.hid (by subst hwb; exact (((((((But.set' _ _ _ _).trans (But.set' _ _ _ _)).trans (But.set' _ _ _ _)).trans (But.set' _ _ _ _)).trans (But.set' _ _ _ _)).trans (But.set' _ _ _ _)).trans (But.set' _ _ _ _)).row HGA.out (by omega))
  have HBQ : Hid (BytesAt wb q dd) := Lib.hid (by
    subst hwb
    intro i hi
    obtain ⟨Bz, oz, e, cz⟩ := HBYQ.out i hi
    refine ⟨Bz, oz, e, (((((((But.set' _ _ _ _).trans (But.set' _ _ _ _)).trans (But.set' _ _ _ _)).trans (But.set' _ _ _ _)).trans (But.set' _ _ _ _)).trans (But.set' _ _ _ _)).trans (But.set' _ _ _ _)).cell cz ?_⟩
    intro hE
    simp only at hE
    exact QNE.out Bz oz e hE)
  have HSB : Hid (w.heap.size + 1 < wb.heap.size) := Lib.hid (lt_of_cell_some m0.out)
  rw [hwb]
  clear hwb k0 k1 k2 k3 k4 k5 k6 f0 f1 f2 f3 f4 f5 f6
  have WK : Hid (∀ w', Below wb.heap.size wb w' → (w'.cell? ⟨w.heap.size + 1, 0, none⟩ = some (.int .u64 x0) ∧ w'.cell? ⟨w.heap.size + 1, 1, none⟩ = some (.int .i64 x1) ∧ w'.cell? ⟨w.heap.size + 1, 2, none⟩ = some (.int .i64 x2) ∧ w'.cell? ⟨w.heap.size + 1, 3, none⟩ = some (.bool xm) ∧ w'.cell? ⟨w.heap.size + 1, 4, none⟩ = some (.int .i64 x4) ∧ w'.cell? ⟨w.heap.size + 1, 5, none⟩ = some (.int .u32 x5) ∧ w'.cell? ⟨w.heap.size + 1, 6, none⟩ = some (.slice q 512 c)) ∧ (∀ i, i < lt.length → w'.cell? ⟨B, off + i, none⟩ = some (.int .u8 (lt.getD i 0 : Nat))) ∧ w'.heap[w.heap.size]? = some (.cells #[.int .u64 0, .int .i64 0, .int .i64 0, .bool false, .int .i64 0, .int .u32 0, .slice none 0 0] 51 (0, 0)) ∧ Below w.heap.size w w') := Lib.hid fun w' h =>
    ⟨⟨(h.cell (lt_of_cell_some m0.out)).trans m0.out, (h.cell (lt_of_cell_some m1.out)).trans m1.out, (h.cell (lt_of_cell_some m2.out)).trans m2.out, (h.cell (lt_of_cell_some m3.out)).trans m3.out, (h.cell (lt_of_cell_some m4.out)).trans m4.out, (h.cell (lt_of_cell_some m5.out)).trans m5.out, (h.cell (lt_of_cell_some m6.out)).trans m6.out⟩, fun i hi => (((kbT HBB.out h)).cell (lt_of_cell_some (HTC.out i hi))).trans (HTC.out i hi), (h.block _ (by have := HSB.out; omega)).trans HGB.out, kbT HBB.out h⟩
  have hap := run_arrayAt B off cap
  have hc64 : (64 : Int) ≤ (cap : Int) := by omega
  refine wp_region_held_drew (S := fun w' => Below wb.heap.size wb w') (by kernel_rfl) ((Below.refl _ _).drew) (fun H0 => ?_)
  refine wpAnyH_take (i := 0) (oi := { dst := some 10, op := Go.Op.load 51 (Go.Operand.tmp 4), type := 51, pos := "frame.go:81", after := #[], guard := none }) (v := ?_) rfl (by kernel_rfl) (by kernel_rfl) (by kernel_rfl) (fun _ _ _ h => h) (Or.inl ⟨by rfl, ?_⟩) H0 ?_
  rotate_left
  focus (intro w' hSw; (try dsimp only at hSw); obtain ⟨⟨q0, q1, q2, q3, q4, q5, q6⟩, -, -, -⟩ := WK.out _ hSw; go_simp; (try with_reducible rfl))
  simp only [Act.put, List.setIfInBounds_toArray, List.set_cons_zero, List.set_cons_succ]
  refine wpAnyH_ready (rs := [1]) (by kernel_rfl) (by simp) ?_
  refine AllReadyH.cons (o := { dst := some 11, op := Go.Op.call { callee := Go.Callee.value (Go.Operand.func 42), args := #[Go.Operand.tmp 10], argTypes := #[51] }, type := 24, pos := "frame.go:81", after := #[{ on := 0, ground := Go.Ground.data }], guard := none }) rfl (fun K hK => ?_) ?_
  rotate_left
  exact AllReadyH.nil
  go_simp
  (go_at_call 42; (with_reducible refine (CC.out _ _ _).mono ?_); rintro e wd ⟨rfl, hd⟩)
  try go_wp2_with fail
  refine hK.out _ _ (kbT H0 hd) (fun Hd => ?_)
  clear hK K
  try simp only [Act.put, List.setIfInBounds_toArray, List.set_cons_zero, List.set_cons_succ]
  refine wpAnyH_take (i := 2) (oi := { dst := some 12, op := Go.Op.binOp Go.BinOp.neq 24 (Go.Operand.tmp 11) (Go.Operand.const (Go.Value.int Go.IntKind.i64 0)) 24, type := 4, pos := "frame.go:81", after := #[{ on := 1, ground := Go.Ground.data }], guard := none }) (v := ?_) rfl (by kernel_rfl) (by kernel_rfl) (by kernel_rfl) (fun _ _ _ h => h) (Or.inl ⟨by rfl, ?_⟩) Hd ?_
  rotate_left
  focus (intro w' hSw; (try dsimp only at hSw); go_simp; (try with_reducible rfl))
  simp only [Act.put, List.setIfInBounds_toArray, List.set_cons_zero, List.set_cons_succ]
  refine wpAnyH_take (i := 3) (oi := { dst := some 13, op := Go.Op.move (Go.Operand.tmp 12), type := 4, pos := "frame.go:81", after := #[{ on := 2, ground := Go.Ground.data }, { on := 1, ground := Go.Ground.chain }], guard := none }) (v := ?_) rfl (by kernel_rfl) (by kernel_rfl) (by kernel_rfl) (fun _ _ _ h => h) (Or.inl ⟨by rfl, ?_⟩) Hd ?_
  rotate_left
  focus (intro w' hSw; (try dsimp only at hSw); go_simp; (try with_reducible rfl))
  simp only [Act.put, List.setIfInBounds_toArray, List.set_cons_zero, List.set_cons_succ]
  refine wpAnyH_take (i := 4) (oi := { dst := some 14, op := Go.Op.load 51 (Go.Operand.tmp 4), type := 51, pos := "frame.go:81", after := #[{ on := 3, ground := Go.Ground.guard }], guard := some (3, false) }) (v := ?_) rfl (by kernel_rfl) (by kernel_rfl) (by kernel_rfl) (fun _ _ _ h => h) (Or.inl ⟨by rfl, ?_⟩) Hd ?_
  rotate_left
  focus (intro w' hSw; (try dsimp only at hSw); obtain ⟨⟨q0, q1, q2, q3, q4, q5, q6⟩, -, -, -⟩ := WK.out _ hSw; go_simp; (try with_reducible rfl))
  simp only [Act.put, List.setIfInBounds_toArray, List.set_cons_zero, List.set_cons_succ]
  refine wpAnyH_take (i := 6) (oi := { dst := some 16, op := Go.Op.move (Go.Operand.tmp 0), type := 39, pos := "frame.go:81", after := #[{ on := 3, ground := Go.Ground.guard }], guard := some (3, false) }) (v := ?_) rfl (by kernel_rfl) (by kernel_rfl) (by kernel_rfl) (fun _ _ _ h => h) (Or.inl ⟨by rfl, ?_⟩) Hd ?_
  rotate_left
  focus (intro w' hSw; (try dsimp only at hSw); go_simp; (try with_reducible rfl))
  simp only [Act.put, List.setIfInBounds_toArray, List.set_cons_zero, List.set_cons_succ]
  refine wpAnyH_take (i := 7) (oi := { dst := some 17, op := Go.Op.slice 39 (Go.Operand.tmp 16) none (some (Go.Operand.const (Go.Value.int Go.IntKind.i64 64))) none, type := 39, pos := "frame.go:81", after := #[{ on := 6, ground := Go.Ground.data }, { on := 3, ground := Go.Ground.guard }], guard := some (3, false) }) (v := ?_) rfl (by kernel_rfl) (by kernel_rfl) (by kernel_rfl) (fun _ _ _ h => h) (Or.inl ⟨by rfl, ?_⟩) Hd ?_
  rotate_left
  focus (intro w' hSw; (try dsimp only at hSw); go_simp; (try with_reducible rfl))
  simp only [Act.put, List.setIfInBounds_toArray, List.set_cons_zero, List.set_cons_succ]
  refine wpAnyH_take (i := 8) (oi := { dst := some 18, op := Go.Op.sliceToArrayPointer 84 (Go.Operand.tmp 17), type := 0, pos := "frame.go:81", after := #[{ on := 7, ground := Go.Ground.data }, { on := 3, ground := Go.Ground.guard }], guard := some (3, false) }) (v := ?_) rfl (by kernel_rfl) (by kernel_rfl) (by kernel_rfl) (fun _ _ _ h => h) (Or.inl ⟨by rfl, ?_⟩) Hd ?_
  rotate_left
  focus (intro w' hSw; (try dsimp only at hSw); go_simp; (try with_reducible rfl))
  simp only [Act.put, List.setIfInBounds_toArray, List.set_cons_zero, List.set_cons_succ]
  refine wpAnyH_take (i := 9) (oi := { dst := some 19, op := Go.Op.load 84 (Go.Operand.tmp 18), type := 84, pos := "frame.go:81", after := #[{ on := 8, ground := Go.Ground.data }, { on := 3, ground := Go.Ground.guard }], guard := some (3, false) }) (v := .agg (secA lt)) rfl (by kernel_rfl) (by kernel_rfl) (by kernel_rfl) (fun _ _ _ h => h) (Or.inl ⟨by rfl, fun w' hSw => exec_load_sec (x := .tmp 18) rfl rfl HT64.out (WK.out _ hSw).2.1⟩) Hd ?_
  simp only [Act.put, List.setIfInBounds_toArray, List.set_cons_zero, List.set_cons_succ]
  refine wpAnyH_ready (rs := [5]) (by kernel_rfl) (by simp) ?_
  refine AllReadyH.cons (o := { dst := some 15, op := Go.Op.call { callee := Go.Callee.value (Go.Operand.func 43), args := #[Go.Operand.tmp 14], argTypes := #[51] }, type := 84, pos := "frame.go:81", after := #[{ on := 4, ground := Go.Ground.data }, { on := 3, ground := Go.Ground.chain }, { on := 3, ground := Go.Ground.guard }], guard := some (3, false) }) rfl (fun K hK => ?_) ?_
  rotate_left
  exact AllReadyH.nil
  go_simp
  (go_at_call 43; (with_reducible refine (CH.out q c _ (bytesAt_below HBQ.out Hd)).mono ?_); rintro e we ⟨rfl, he'⟩)
  try go_wp2_with fail
  refine hK.out _ _ (kbT Hd he') (fun He => ?_)
  clear hK K
  try simp only [Act.put, List.setIfInBounds_toArray, List.set_cons_zero, List.set_cons_succ]
  refine wpAnyH_take (i := 10) (oi := { dst := some 20, op := Go.Op.binOp Go.BinOp.neq 84 (Go.Operand.tmp 15) (Go.Operand.tmp 19) 84, type := 4, pos := "frame.go:81", after := #[{ on := 5, ground := Go.Ground.data }, { on := 9, ground := Go.Ground.data }, { on := 3, ground := Go.Ground.guard }], guard := some (3, false) }) (v := ?_) rfl (by kernel_rfl) (by kernel_rfl) (by kernel_rfl) (fun _ _ _ h => h) (Or.inl ⟨by rfl, ?_⟩) He ?_
  rotate_left
  focus (intro w' hSw; (try dsimp only at hSw); go_simp; (try with_reducible rfl))
  simp only [Act.put, List.setIfInBounds_toArray, List.set_cons_zero, List.set_cons_succ]
  refine wpAnyH_take (i := 11) (oi := { dst := some 21, op := Go.Op.pick (Go.Operand.tmp 13) (Go.Operand.const (Go.Value.bool true)) (Go.Operand.tmp 20), type := 4, pos := "frame.go:81", after := #[{ on := 3, ground := Go.Ground.data }, { on := 10, ground := Go.Ground.data }], guard := none }) (v := ?_) rfl (by kernel_rfl) (by kernel_rfl) (by kernel_rfl) (fun _ _ _ h => h) (Or.inl ⟨by rfl, ?_⟩) He ?_
  rotate_left
  focus (intro w' hSw; (try dsimp only at hSw); go_simp; (try with_reducible rfl))
  simp only [Act.put, List.setIfInBounds_toArray, List.set_cons_zero, List.set_cons_succ]
  refine wpAnyH_done (by kernel_rfl) ?_ _
  have hg2 := (WK.out _ He).2.2.1
  have HX := Lib.hid (WK.out _ He).2.2.2
  have z0 := row_cell (i := 0) hg2 rfl
  have y0 := row_frozen (i := 0) hg2
  have z1 := row_cell (i := 1) hg2 rfl
  have y1 := row_frozen (i := 1) hg2
  have z2 := row_cell (i := 2) hg2 rfl
  have y2 := row_frozen (i := 2) hg2
  have z3 := row_cell (i := 3) hg2 rfl
  have y3 := row_frozen (i := 3) hg2
  have z4 := row_cell (i := 4) hg2 rfl
  have y4 := row_frozen (i := 4) hg2
  have z5 := row_cell (i := 5) hg2 rfl
  have y5 := row_frozen (i := 5) hg2
  have z6 := row_cell (i := 6) hg2 rfl
  have y6 := row_frozen (i := 6) hg2
  clear hg2
  go_wp2
  go_step3
  refine ⟨rfl, HJ.out _ _ ?_⟩
  go_wp2
  simp only [Exit.noGoto_ret]
  refine bodyPost_ret (v := .tuple #[zeroFrame, .int .i64 150]) ?_ rfl ⟨rfl, ?_⟩
  · simp [results, Try.results25, go_sem, zeroFrame, z0, z1, z2, z3, z4, z5, z6]
  · exact (((((((HX.out.setCell (Nat.le_refl _) _).setCell (Nat.le_refl _) _).setCell (Nat.le_refl _) _).setCell (Nat.le_refl _) _).setCell (Nat.le_refl _) _).setCell (Nat.le_refl _) _).setCell (Nat.le_refl _) _)
set_option maxRecDepth 100000 in
set_option maxHeartbeats 8000000 in
theorem decode_yes (l : List Nat) (p : Option Addr) (cap : Nat) (w : World) (hl : l.length = 576) (hcap : 576 ≤ cap) (hc0 : cap ≤ 9223372036854775807) (hb : ∀ b ∈ l, b < 256) (hc : BytesAt w p l) (hh : frameOk (fI l) (fP l) (fM l) (fN l) 512 = true) (hq : frameS (fE l) (fI l) (fP l) (fM l) (fN l) (fK l) (l.drop 64) = l.take 64) :
    Calls Try.prog 25 #[.slice p 576 cap] w fun r w' => ∃ q c, r = .returned (.tuple #[.agg #[.int .u64 (fE l : Nat), .int .i64 (fI l : Nat), .int .i64 (fP l : Nat), .bool (fM l), .int .i64 (fN l : Nat), .int .u32 (fK l : Nat), .slice q 512 c], .int .i64 0]) ∧ Below w.heap.size w w' ∧ BytesAt w' q (l.drop 64) ∧ (q = none → c = 0) ∧ c ≤ maxLen ∧ 512 ≤ c := by
  obtain ⟨B, off, rfl, hcs⟩ := bytesAt_lt hc (fun h => by subst h; simp at hl)
  have CR := Lib.hid fun (w' : World) (hb' : Below w.heap.size w w') => readFrame_any l B off cap w' hl hcap hc0 hb (bytesAt_below hc hb')
  have CC := Lib.hid fun q c => checkFrame_any (fE l) (fI l) (fP l) (fM l) (fN l) (fK l) q 512 c
  have HT64 : Hid ((l.take 64).length = 64) := Lib.hid (by rw [List.length_take]; omega)
  have HTC : Hid (∀ i, i < (l.take 64).length → w.cell? ⟨B, off + i, none⟩ = some (.int .u8 ((l.take 64).getD i 0 : Nat))) := Lib.hid fun i hi => by
    have hi2 := hi
    rw [List.length_take] at hi2
    rw [hcs i (by omega)]
    simp [List.getD_eq_getElem?_getD, List.getElem?_take, show i < 64 by omega]
  rw [hh] at CC
  simp only [if_true] at CC
  have hbb := frame_bounds hh
  have CH := Lib.hid fun q c (w' : World) h => frameSector_any (fE l) (fI l) (fP l) (fM l) (fN l) (fK l) (foldN_lt' hb) (by omega) (by omega) (by omega) (foldN_lt' (k := 4) (fun b h => hb b (List.mem_of_mem_drop h))) q c (l.drop 64) (by rw [List.length_drop]; omega) (fun b h => hb b (List.mem_of_mem_drop h)) w' h
  have hle := eqi_sec (frameS_length (fE l) (fI l) (fP l) (fM l) (fN l) (fK l) (l.drop 64)) HT64.out (frameS_byte (fE l) (fI l) (fP l) (fM l) (fN l) (fK l) (l.drop 64)) (fun b h => hb b (List.mem_of_mem_take h))
  rw [decide_eq_true hq] at hle
  generalize frameS (fE l) (fI l) (fP l) (fM l) (fN l) (fK l) (l.drop 64) = ll at *
  have hle2 := fun x y w => eqg_sec ll (l.take 64) x y .neq w
  clear hh hbb hq
  unfold frameV at CC
  generalize fE l = x0 at *
  generalize fI l = x1 at *
  generalize fP l = x2 at *
  generalize fM l = xm at *
  generalize fN l = x4 at *
  generalize fK l = x5 at *
  generalize l.drop 64 = dd at *
  generalize l.take 64 = lt at *
  clear hcs hb hc hl
  go_enter Try.func25, Try.ntmps25
  go_wp2
  refine wp_scope_fwd 0 rfl fun J HJ => ?_
  go_upto_region 3 with fail
  obtain ⟨w0, hw0⟩ : ∃ w0, (w.alloc (.cells #[.int .u64 0, .int .i64 0, .int .i64 0, .bool false, .int .i64 0, .int .u32 0, .slice none 0 0] 51)).alloc (.cells #[.int .u64 0, .int .i64 0, .int .i64 0, .bool false, .int .i64 0, .int .u32 0, .slice none 0 0] 51) = w0 := ⟨_, rfl⟩
  have HB0 : Hid (Below w.heap.size w w0) := Lib.hid (by subst hw0; exact ((Below.refl _ _).alloc (Nat.le_refl _) _).alloc (by simp) _)
  have HG0 : Hid (w0.heap[w.heap.size]? = some (.cells #[.int .u64 0, .int .i64 0, .int .i64 0, .bool false, .int .i64 0, .int .u32 0, .slice none 0 0] 51 (0, 0))) := Lib.hid (by subst hw0; exact (((Below.refl _ _).alloc (Nat.le_refl _) _).block _ (by simp)).trans (heap_alloc_last w _))
  have HG1 : Hid (w0.heap[w.heap.size + 1]? = some (.cells #[.int .u64 0, .int .i64 0, .int .i64 0, .bool false, .int .i64 0, .int .u32 0, .slice none 0 0] 51 (0, 0))) := Lib.hid (by subst hw0; have := heap_alloc_last (w.alloc (.cells #[.int .u64 0, .int .i64 0, .int .i64 0, .bool false, .int .i64 0, .int .u32 0, .slice none 0 0] 51)) (.cells #[.int .u64 0, .int .i64 0, .int .i64 0, .bool false, .int .i64 0, .int .u32 0, .slice none 0 0] 51); rw [World.size_alloc] at this; exact this)
  have HS0 : Hid (w0.heap.size = w.heap.size + 2) := Lib.hid (by subst hw0; simp)
  rw [hw0]
  clear hw0
  go_upto_region 4 with (go_at_call 45; refine (CR.out _ HB0.out).mono ?_; rintro e wa ⟨q, c, rfl, hba, hbyq, hqn, hcm, hc512, hqb⟩; have QNE : Hid (∀ Bz oz, q = some ⟨Bz, oz, none⟩ → Bz = w.heap.size + 1 → False) := Lib.hid (fun Bz oz e hE => qne1 HS0.out (hqb _ e) hE); have QN0 : Hid (∀ Bz oz, q = some ⟨Bz, oz, none⟩ → Bz = w.heap.size → False) := Lib.hid (fun Bz oz e hE => qne0 HS0.out (hqb _ e) hE); have HBYQ := Lib.hid hbyq; have HQN := Lib.hid hqn; have HCM := Lib.hid (And.intro hcm hc512); have HBA := Lib.hid hba; have hg0 := (hba.block _ (by rw [HS0.out]; omega)).trans HG0.out; have hg1 := (hba.block _ (by rw [HS0.out]; omega)).trans HG1.out; have k0 := row_cell (i := 0) hg1 rfl; have k1 := row_cell (i := 1) hg1 rfl; have k2 := row_cell (i := 2) hg1 rfl; have k3 := row_cell (i := 3) hg1 rfl; have k4 := row_cell (i := 4) hg1 rfl; have k5 := row_cell (i := 5) hg1 rfl; have k6 := row_cell (i := 6) hg1 rfl; have f0 := row_frozen (i := 0) hg1; have f1 := row_frozen (i := 1) hg1; have f2 := row_frozen (i := 2) hg1; have f3 := row_frozen (i := 3) hg1; have f4 := row_frozen (i := 4) hg1; have f5 := row_frozen (i := 5) hg1; have f6 := row_frozen (i := 6) hg1; have HGA := Lib.hid hg0; have HSA := Lib.hid hba.size; clear hg0 hg1 hba hbyq hqn hcm hc512 hqb)
  obtain ⟨wb, hwb⟩ : ∃ wb, ((((((wa.setCell ⟨w.heap.size + 1, 0, none⟩ (.int .u64 x0)).setCell ⟨w.heap.size + 1, 1, none⟩ (.int .i64 x1)).setCell ⟨w.heap.size + 1, 2, none⟩ (.int .i64 x2)).setCell ⟨w.heap.size + 1, 3, none⟩ (.bool xm)).setCell ⟨w.heap.size + 1, 4, none⟩ (.int .i64 x4)).setCell ⟨w.heap.size + 1, 5, none⟩ (.int .u32 x5)).setCell ⟨w.heap.size + 1, 6, none⟩ (.slice q 512 c) = wb := ⟨_, rfl⟩
  have m0 : Hid (wb.cell? ⟨w.heap.size + 1, 0, none⟩ = some (.int .u64 x0)) := Lib.hid (by subst hwb; go_cell)
  have m1 : Hid (wb.cell? ⟨w.heap.size + 1, 1, none⟩ = some (.int .i64 x1)) := Lib.hid (by subst hwb; go_cell)
  have m2 : Hid (wb.cell? ⟨w.heap.size + 1, 2, none⟩ = some (.int .i64 x2)) := Lib.hid (by subst hwb; go_cell)
  have m3 : Hid (wb.cell? ⟨w.heap.size + 1, 3, none⟩ = some (.bool xm)) := Lib.hid (by subst hwb; go_cell)
  have m4 : Hid (wb.cell? ⟨w.heap.size + 1, 4, none⟩ = some (.int .i64 x4)) := Lib.hid (by subst hwb; go_cell)
  have m5 : Hid (wb.cell? ⟨w.heap.size + 1, 5, none⟩ = some (.int .u32 x5)) := Lib.hid (by subst hwb; go_cell)
  have m6 : Hid (wb.cell? ⟨w.heap.size + 1, 6, none⟩ = some (.slice q 512 c)) := Lib.hid (by subst hwb; go_cell)
  have HBB : Hid (Below w.heap.size w wb) := Lib.hid (by subst hwb; exact ((((((((HB0.out.trans (HBA.out.mono (by rw [HS0.out]; omega))).setCell (Nat.le_succ _) _).setCell (Nat.le_succ _) _).setCell (Nat.le_succ _) _).setCell (Nat.le_succ _) _).setCell (Nat.le_succ _) _).setCell (Nat.le_succ _) _).setCell (Nat.le_succ _) _))
  have HGB : Hid (wb.heap[w.heap.size]? = some (.cells #[.int .u64 0, .int .i64 0, .int .i64 0, .bool false, .int .i64 0, .int .u32 0, .slice none 0 0] 51 (0, 0))) := Lib.hid (by subst hwb; exact (((((((But.set' _ _ _ _).trans (But.set' _ _ _ _)).trans (But.set' _ _ _ _)).trans (But.set' _ _ _ _)).trans (But.set' _ _ _ _)).trans (But.set' _ _ _ _)).trans (But.set' _ _ _ _)).row HGA.out (by omega))
  have HBQ : Hid (BytesAt wb q dd) := Lib.hid (by
    subst hwb
    intro i hi
    obtain ⟨Bz, oz, e, cz⟩ := HBYQ.out i hi
    refine ⟨Bz, oz, e, (((((((But.set' _ _ _ _).trans (But.set' _ _ _ _)).trans (But.set' _ _ _ _)).trans (But.set' _ _ _ _)).trans (But.set' _ _ _ _)).trans (But.set' _ _ _ _)).trans (But.set' _ _ _ _)).cell cz ?_⟩
    intro hE
    simp only at hE
    exact QNE.out Bz oz e hE)
  have HSB : Hid (w.heap.size + 1 < wb.heap.size) := Lib.hid (lt_of_cell_some m0.out)
  rw [hwb]
  clear hwb k0 k1 k2 k3 k4 k5 k6 f0 f1 f2 f3 f4 f5 f6
  have WK : Hid (∀ w', Below wb.heap.size wb w' → (w'.cell? ⟨w.heap.size + 1, 0, none⟩ = some (.int .u64 x0) ∧ w'.cell? ⟨w.heap.size + 1, 1, none⟩ = some (.int .i64 x1) ∧ w'.cell? ⟨w.heap.size + 1, 2, none⟩ = some (.int .i64 x2) ∧ w'.cell? ⟨w.heap.size + 1, 3, none⟩ = some (.bool xm) ∧ w'.cell? ⟨w.heap.size + 1, 4, none⟩ = some (.int .i64 x4) ∧ w'.cell? ⟨w.heap.size + 1, 5, none⟩ = some (.int .u32 x5) ∧ w'.cell? ⟨w.heap.size + 1, 6, none⟩ = some (.slice q 512 c)) ∧ (∀ i, i < lt.length → w'.cell? ⟨B, off + i, none⟩ = some (.int .u8 (lt.getD i 0 : Nat))) ∧ w'.heap[w.heap.size]? = some (.cells #[.int .u64 0, .int .i64 0, .int .i64 0, .bool false, .int .i64 0, .int .u32 0, .slice none 0 0] 51 (0, 0)) ∧ Below w.heap.size w w') := Lib.hid fun w' h =>
    ⟨⟨(h.cell (lt_of_cell_some m0.out)).trans m0.out, (h.cell (lt_of_cell_some m1.out)).trans m1.out, (h.cell (lt_of_cell_some m2.out)).trans m2.out, (h.cell (lt_of_cell_some m3.out)).trans m3.out, (h.cell (lt_of_cell_some m4.out)).trans m4.out, (h.cell (lt_of_cell_some m5.out)).trans m5.out, (h.cell (lt_of_cell_some m6.out)).trans m6.out⟩, fun i hi => (((kbT HBB.out h)).cell (lt_of_cell_some (HTC.out i hi))).trans (HTC.out i hi), (h.block _ (by have := HSB.out; omega)).trans HGB.out, kbT HBB.out h⟩
  have hap := run_arrayAt B off cap
  have hc64 : (64 : Int) ≤ (cap : Int) := by omega
  refine wp_region_held_drew (S := fun w' => Below wb.heap.size wb w') (by kernel_rfl) ((Below.refl _ _).drew) (fun H0 => ?_)
  refine wpAnyH_take (i := 0) (oi := { dst := some 10, op := Go.Op.load 51 (Go.Operand.tmp 4), type := 51, pos := "frame.go:81", after := #[], guard := none }) (v := ?_) rfl (by kernel_rfl) (by kernel_rfl) (by kernel_rfl) (fun _ _ _ h => h) (Or.inl ⟨by rfl, ?_⟩) H0 ?_
  rotate_left
  focus (intro w' hSw; (try dsimp only at hSw); obtain ⟨⟨q0, q1, q2, q3, q4, q5, q6⟩, -, -, -⟩ := WK.out _ hSw; go_simp; (try with_reducible rfl))
  simp only [Act.put, List.setIfInBounds_toArray, List.set_cons_zero, List.set_cons_succ]
  refine wpAnyH_ready (rs := [1]) (by kernel_rfl) (by simp) ?_
  refine AllReadyH.cons (o := { dst := some 11, op := Go.Op.call { callee := Go.Callee.value (Go.Operand.func 42), args := #[Go.Operand.tmp 10], argTypes := #[51] }, type := 24, pos := "frame.go:81", after := #[{ on := 0, ground := Go.Ground.data }], guard := none }) rfl (fun K hK => ?_) ?_
  rotate_left
  exact AllReadyH.nil
  go_simp
  (go_at_call 42; (with_reducible refine (CC.out _ _ _).mono ?_); rintro e wd ⟨rfl, hd⟩)
  try go_wp2_with fail
  refine hK.out _ _ (kbT H0 hd) (fun Hd => ?_)
  clear hK K
  try simp only [Act.put, List.setIfInBounds_toArray, List.set_cons_zero, List.set_cons_succ]
  refine wpAnyH_take (i := 2) (oi := { dst := some 12, op := Go.Op.binOp Go.BinOp.neq 24 (Go.Operand.tmp 11) (Go.Operand.const (Go.Value.int Go.IntKind.i64 0)) 24, type := 4, pos := "frame.go:81", after := #[{ on := 1, ground := Go.Ground.data }], guard := none }) (v := ?_) rfl (by kernel_rfl) (by kernel_rfl) (by kernel_rfl) (fun _ _ _ h => h) (Or.inl ⟨by rfl, ?_⟩) Hd ?_
  rotate_left
  focus (intro w' hSw; (try dsimp only at hSw); go_simp; (try with_reducible rfl))
  simp only [Act.put, List.setIfInBounds_toArray, List.set_cons_zero, List.set_cons_succ]
  refine wpAnyH_take (i := 3) (oi := { dst := some 13, op := Go.Op.move (Go.Operand.tmp 12), type := 4, pos := "frame.go:81", after := #[{ on := 2, ground := Go.Ground.data }, { on := 1, ground := Go.Ground.chain }], guard := none }) (v := ?_) rfl (by kernel_rfl) (by kernel_rfl) (by kernel_rfl) (fun _ _ _ h => h) (Or.inl ⟨by rfl, ?_⟩) Hd ?_
  rotate_left
  focus (intro w' hSw; (try dsimp only at hSw); go_simp; (try with_reducible rfl))
  simp only [Act.put, List.setIfInBounds_toArray, List.set_cons_zero, List.set_cons_succ]
  refine wpAnyH_take (i := 4) (oi := { dst := some 14, op := Go.Op.load 51 (Go.Operand.tmp 4), type := 51, pos := "frame.go:81", after := #[{ on := 3, ground := Go.Ground.guard }], guard := some (3, false) }) (v := ?_) rfl (by kernel_rfl) (by kernel_rfl) (by kernel_rfl) (fun _ _ _ h => h) (Or.inl ⟨by rfl, ?_⟩) Hd ?_
  rotate_left
  focus (intro w' hSw; (try dsimp only at hSw); obtain ⟨⟨q0, q1, q2, q3, q4, q5, q6⟩, -, -, -⟩ := WK.out _ hSw; go_simp; (try with_reducible rfl))
  simp only [Act.put, List.setIfInBounds_toArray, List.set_cons_zero, List.set_cons_succ]
  refine wpAnyH_take (i := 6) (oi := { dst := some 16, op := Go.Op.move (Go.Operand.tmp 0), type := 39, pos := "frame.go:81", after := #[{ on := 3, ground := Go.Ground.guard }], guard := some (3, false) }) (v := ?_) rfl (by kernel_rfl) (by kernel_rfl) (by kernel_rfl) (fun _ _ _ h => h) (Or.inl ⟨by rfl, ?_⟩) Hd ?_
  rotate_left
  focus (intro w' hSw; (try dsimp only at hSw); go_simp; (try with_reducible rfl))
  simp only [Act.put, List.setIfInBounds_toArray, List.set_cons_zero, List.set_cons_succ]
  refine wpAnyH_take (i := 7) (oi := { dst := some 17, op := Go.Op.slice 39 (Go.Operand.tmp 16) none (some (Go.Operand.const (Go.Value.int Go.IntKind.i64 64))) none, type := 39, pos := "frame.go:81", after := #[{ on := 6, ground := Go.Ground.data }, { on := 3, ground := Go.Ground.guard }], guard := some (3, false) }) (v := ?_) rfl (by kernel_rfl) (by kernel_rfl) (by kernel_rfl) (fun _ _ _ h => h) (Or.inl ⟨by rfl, ?_⟩) Hd ?_
  rotate_left
  focus (intro w' hSw; (try dsimp only at hSw); go_simp; (try with_reducible rfl))
  simp only [Act.put, List.setIfInBounds_toArray, List.set_cons_zero, List.set_cons_succ]
  refine wpAnyH_take (i := 8) (oi := { dst := some 18, op := Go.Op.sliceToArrayPointer 84 (Go.Operand.tmp 17), type := 0, pos := "frame.go:81", after := #[{ on := 7, ground := Go.Ground.data }, { on := 3, ground := Go.Ground.guard }], guard := some (3, false) }) (v := ?_) rfl (by kernel_rfl) (by kernel_rfl) (by kernel_rfl) (fun _ _ _ h => h) (Or.inl ⟨by rfl, ?_⟩) Hd ?_
  rotate_left
  focus (intro w' hSw; (try dsimp only at hSw); go_simp; (try with_reducible rfl))
  simp only [Act.put, List.setIfInBounds_toArray, List.set_cons_zero, List.set_cons_succ]
  refine wpAnyH_take (i := 9) (oi := { dst := some 19, op := Go.Op.load 84 (Go.Operand.tmp 18), type := 84, pos := "frame.go:81", after := #[{ on := 8, ground := Go.Ground.data }, { on := 3, ground := Go.Ground.guard }], guard := some (3, false) }) (v := .agg (secA lt)) rfl (by kernel_rfl) (by kernel_rfl) (by kernel_rfl) (fun _ _ _ h => h) (Or.inl ⟨by rfl, fun w' hSw => exec_load_sec (x := .tmp 18) rfl rfl HT64.out (WK.out _ hSw).2.1⟩) Hd ?_
  simp only [Act.put, List.setIfInBounds_toArray, List.set_cons_zero, List.set_cons_succ]
  refine wpAnyH_ready (rs := [5]) (by kernel_rfl) (by simp) ?_
  refine AllReadyH.cons (o := { dst := some 15, op := Go.Op.call { callee := Go.Callee.value (Go.Operand.func 43), args := #[Go.Operand.tmp 14], argTypes := #[51] }, type := 84, pos := "frame.go:81", after := #[{ on := 4, ground := Go.Ground.data }, { on := 3, ground := Go.Ground.chain }, { on := 3, ground := Go.Ground.guard }], guard := some (3, false) }) rfl (fun K hK => ?_) ?_
  rotate_left
  exact AllReadyH.nil
  go_simp
  (go_at_call 43; (with_reducible refine (CH.out q c _ (bytesAt_below HBQ.out Hd)).mono ?_); rintro e we ⟨rfl, he'⟩)
  try go_wp2_with fail
  refine hK.out _ _ (kbT Hd he') (fun He => ?_)
  clear hK K
  try simp only [Act.put, List.setIfInBounds_toArray, List.set_cons_zero, List.set_cons_succ]
  refine wpAnyH_take (i := 10) (oi := { dst := some 20, op := Go.Op.binOp Go.BinOp.neq 84 (Go.Operand.tmp 15) (Go.Operand.tmp 19) 84, type := 4, pos := "frame.go:81", after := #[{ on := 5, ground := Go.Ground.data }, { on := 9, ground := Go.Ground.data }, { on := 3, ground := Go.Ground.guard }], guard := some (3, false) }) (v := ?_) rfl (by kernel_rfl) (by kernel_rfl) (by kernel_rfl) (fun _ _ _ h => h) (Or.inl ⟨by rfl, ?_⟩) He ?_
  rotate_left
  focus (intro w' hSw; (try dsimp only at hSw); go_simp; (try with_reducible rfl))
  simp only [Act.put, List.setIfInBounds_toArray, List.set_cons_zero, List.set_cons_succ]
  refine wpAnyH_take (i := 11) (oi := { dst := some 21, op := Go.Op.pick (Go.Operand.tmp 13) (Go.Operand.const (Go.Value.bool true)) (Go.Operand.tmp 20), type := 4, pos := "frame.go:81", after := #[{ on := 3, ground := Go.Ground.data }, { on := 10, ground := Go.Ground.data }], guard := none }) (v := ?_) rfl (by kernel_rfl) (by kernel_rfl) (by kernel_rfl) (fun _ _ _ h => h) (Or.inl ⟨by rfl, ?_⟩) He ?_
  rotate_left
  focus (intro w' hSw; (try dsimp only at hSw); go_simp; (try with_reducible rfl))
  simp only [Act.put, List.setIfInBounds_toArray, List.set_cons_zero, List.set_cons_succ]
  refine wpAnyH_done (by kernel_rfl) ?_ _
  have hg2 := (WK.out _ He).2.2.1
  have HX := Lib.hid (WK.out _ He).2.2.2
  have z0 := row_cell (i := 0) hg2 rfl
  have y0 := row_frozen (i := 0) hg2
  have z1 := row_cell (i := 1) hg2 rfl
  have y1 := row_frozen (i := 1) hg2
  have z2 := row_cell (i := 2) hg2 rfl
  have y2 := row_frozen (i := 2) hg2
  have z3 := row_cell (i := 3) hg2 rfl
  have y3 := row_frozen (i := 3) hg2
  have z4 := row_cell (i := 4) hg2 rfl
  have y4 := row_frozen (i := 4) hg2
  have z5 := row_cell (i := 5) hg2 rfl
  have y5 := row_frozen (i := 5) hg2
  have z6 := row_cell (i := 6) hg2 rfl
  have y6 := row_frozen (i := 6) hg2
  clear hg2
  have hk := (WK.out _ He).1
  obtain ⟨q0, q1, q2, q3, q4, q5, q6⟩ := hk
  have HBE := Lib.hid (bytesAt_below HBQ.out He)
  go_wp2
  simp only [Exit.jump]
  refine bodyPost_ret (v := .tuple #[.agg #[.int .u64 x0, .int .i64 x1, .int .i64 x2, .bool xm, .int .i64 x4, .int .u32 x5, .slice q 512 c], .int .i64 0]) ?_ rfl ⟨q, c, rfl, ?_, ?_, HQN.out, HCM.out.1, HCM.out.2⟩
  · simp [results, Try.results25, go_sem, z0, z1, z2, z3, z4, z5, z6]
  · exact (((((((HX.out.setCell (Nat.le_refl _) _).setCell (Nat.le_refl _) _).setCell (Nat.le_refl _) _).setCell (Nat.le_refl _) _).setCell (Nat.le_refl _) _).setCell (Nat.le_refl _) _).setCell (Nat.le_refl _) _)
  · intro i hi
    obtain ⟨Bz, oz, e, cz⟩ := HBE.out i hi
    refine ⟨Bz, oz, e, (((((((But.set' _ _ _ _).trans (But.set' _ _ _ _)).trans (But.set' _ _ _ _)).trans (But.set' _ _ _ _)).trans (But.set' _ _ _ _)).trans (But.set' _ _ _ _)).trans (But.set' _ _ _ _)).cell cz ?_⟩
    intro hE
    simp only at hE
    exact QN0.out Bz oz e hE
/-- What Decode answers to bytes. -/
def DecPost (l : List Nat) (w : World) (r : Ending) (w' : World) : Prop :=
  Below w.heap.size w w' ∧ ((isFrame l = false ∧ r = .returned (.tuple #[zeroFrame, .int .i64 150])) ∨
    (isFrame l = true ∧ ∃ q c, r = .returned (.tuple #[.agg #[.int .u64 (fE l : Nat), .int .i64 (fI l : Nat), .int .i64 (fP l : Nat), .bool (fM l), .int .i64 (fN l : Nat), .int .u32 (fK l : Nat), .slice q 512 c], .int .i64 0]) ∧ BytesAt w' q (l.drop 64) ∧ (q = none → c = 0) ∧ c ≤ maxLen ∧ 512 ≤ c))
theorem decode_any (l : List Nat) (p : Option Addr) (cap : Nat) (w : World) (hcap : l.length ≤ cap) (hc0 : cap ≤ 9223372036854775807) (hb : ∀ b ∈ l, b < 256) (hc : BytesAt w p l) :
    Calls Try.prog 25 #[.slice p l.length cap] w (DecPost l w) := by
  unfold DecPost isFrame
  by_cases hl : l.length = 576
  · cases hh : frameOk (fI l) (fP l) (fM l) (fN l) 512 with
    | false =>
      simp only [hl, decide_true, Bool.true_and, Bool.false_and]
      exact (decode_no l p cap w hl (by omega) hc0 hb hc hh).mono fun _ _ h => ⟨h.2, .inl ⟨by trivial, h.1⟩⟩
    | true =>
      by_cases hq : frameS (fE l) (fI l) (fP l) (fM l) (fN l) (fK l) (l.drop 64) = l.take 64
      · simp only [hl, hq, decide_true, Bool.true_and]
        refine (decode_yes l p cap w hl (by omega) hc0 hb hc hh hq).mono ?_
        rintro e w' ⟨q, c, h1, h2, h3⟩
        exact ⟨h2, .inr ⟨by trivial, q, c, h1, h3⟩⟩
      · simp only [hl, hq, decide_true, decide_false, Bool.true_and]
        exact (decode_other l p cap w hl (by omega) hc0 hb hc hh hq).mono fun _ _ h => ⟨h.2, .inl ⟨by trivial, h.1⟩⟩
  · simp only [hl, decide_false, Bool.false_and]
    exact (decode_long l p cap w hl).mono fun _ _ h => ⟨h.2, .inl ⟨by trivial, h.1⟩⟩
end Go.Proofs.Ythnllhfdbnnjhaa
