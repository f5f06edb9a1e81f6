/- Parts: PU PZa PZb PZc PZd. -/
import Derived.Test.YthnllhfdbnnjhaaMB3
namespace Go.Proofs.Ythnllhfdbnnjhaa
open Go.RowKit Go.Shelf

theorem qne1 {a b c : Nat} (h : a = b + 2) (h2 : a < c) (h3 : c = b + 1) : False := by omega
theorem qne0 {a b c : Nat} (h : a = b + 2) (h2 : a < c) (h3 : c = b) : False := by omega
def isFrame (l : List Nat) : Bool := decide (l.length = 576) && frameOk (fI l) (fP l) (fM l) (fN l) 512 && decide (frameS (fE l) (fI l) (fP l) (fM l) (fN l) (fK l) (l.drop 64) = l.take 64)
def zeroFrame : Value := .agg #[.int .u64 0, .int .i64 0, .int .i64 0, .bool false, .int .i64 0, .int .u32 0, .slice none 0 0]
set_option maxRecDepth 100000 in
set_option maxHeartbeats 1000000 in
theorem decode_long (l : List Nat) (p : Option Addr) (cap : Nat) (w : World) (hl : l.length ≠ 576) :
    Calls Try.prog 25 #[.slice p l.length cap] w fun r w' => r = .returned (.tuple #[zeroFrame, .int .i64 150]) ∧ Below w.heap.size w w' := by
  generalize l.length = L at *
  have hl2 : (L : Int) ≠ 576 := by omega
  have hl3 : ((L : Int) != 576) = true := by simp [hl2]
  clear hl hl2
  go_enter Try.func25, Try.ntmps25
  go_wp2
  refine wp_scope_fwd 0 rfl fun J HJ => ?_
  go_wp2
  go_step3
  refine ⟨rfl, HJ.out _ _ ?_⟩
  go_wp2
  simp only [Exit.noGoto_ret]
  refine bodyPost_ret (v := .tuple #[zeroFrame, .int .i64 150]) ?_ rfl ⟨rfl, ?_⟩
  · simp [results, Try.results25, go_sem, zeroFrame]
  · exact ((Below.refl _ _).alloc (Nat.le_refl _) _).alloc (by simp) _
set_option maxRecDepth 100000 in
set_option maxHeartbeats 8000000 in
theorem decode_no (l : List Nat) (p : Option Addr) (cap : Nat) (w : World) (hl : l.length = 576) (hcap : 576 ≤ cap) (hc0 : cap ≤ 9223372036854775807) (hb : ∀ b ∈ l, b < 256) (hc : BytesAt w p l) (hh : frameOk (fI l) (fP l) (fM l) (fN l) 512 = false) :
    Calls Try.prog 25 #[.slice p 576 cap] w fun r w' => r = .returned (.tuple #[zeroFrame, .int .i64 150]) ∧ Below w.heap.size w w' := by
  obtain ⟨B, off, rfl, hcs⟩ := bytesAt_lt hc (fun h => by subst h; simp at hl)
  have CR := Lib.hid fun (w' : World) (hb' : Below w.heap.size w w') => readFrame_any l B off cap w' hl hcap hc0 hb (bytesAt_below hc hb')
  have CC := Lib.hid fun q c => checkFrame_any (fE l) (fI l) (fP l) (fM l) (fN l) (fK l) q 512 c
  have HT64 : Hid ((l.take 64).length = 64) := Lib.hid (by rw [List.length_take]; omega)
  have HTC : Hid (∀ i, i < (l.take 64).length → w.cell? ⟨B, off + i, none⟩ = some (.int .u8 ((l.take 64).getD i 0 : Nat))) := Lib.hid fun i hi => by
    have hi2 := hi
    rw [List.length_take] at hi2
    rw [hcs i (by omega)]
    simp [List.getD_eq_getElem?_getD, List.getElem?_take, show i < 64 by omega]
  rw [hh] at CC
  simp only [Bool.false_eq_true, if_false] at CC
  clear hh
  unfold frameV at CC
  generalize fE l = x0 at *
  generalize fI l = x1 at *
  generalize fP l = x2 at *
  generalize fM l = xm at *
  generalize fN l = x4 at *
  generalize fK l = x5 at *
  generalize l.drop 64 = dd at *
  generalize l.take 64 = lt at *
  clear hcs hb hc hl
  go_enter Try.func25, Try.ntmps25
  go_wp2
  refine wp_scope_fwd 0 rfl fun J HJ => ?_
  go_upto_region 3 with fail
  obtain ⟨w0, hw0⟩ : ∃ w0, (w.alloc (.cells #[.int .u64 0, .int .i64 0, .int .i64 0, .bool false, .int .i64 0, .int .u32 0, .slice none 0 0] 51)).alloc (.cells #[.int .u64 0, .int .i64 0, .int .i64 0, .bool false, .int .i64 0, .int .u32 0, .slice none 0 0] 51) = w0 := ⟨_, rfl⟩
  have HB0 : Hid (Below w.heap.size w w0) := Lib.hid (by subst hw0; exact ((Below.refl _ _).alloc (Nat.le_refl _) _).alloc (by simp) _)
  have HG0 : Hid (w0.heap[w.heap.size]? = some (.cells #[.int .u64 0, .int .i64 0, .int .i64 0, .bool false, .int .i64 0, .int .u32 0, .slice none 0 0] 51 (0, 0))) := Lib.hid (by subst hw0; exact (((Below.refl _ _).alloc (Nat.le_refl _) _).block _ (by simp)).trans (heap_alloc_last w _))
  have HG1 : Hid (w0.heap[w.heap.size + 1]? = some (.cells #[.int .u64 0, .int .i64 0, .int .i64 0, .bool false, .int .i64 0, .int .u32 0, .slice none 0 0] 51 (0, 0))) := Lib.hid (by subst hw0; have := heap_alloc_last (w.alloc (.cells #[.int .u64 0, .int .i64 0, .int .i64 0, .bool false, .int .i64 0, .int .u32 0, .slice none 0 0] 51)) (.cells #[.int .u64 0, .int .i64 0, .int .i64 0, .bool false, .int .i64 0, .int .u32 0, .slice none 0 0] 51); rw [World.size_alloc] at this; exact this)
  have HS0 : Hid (w0.heap.size = w.heap.size + 2) := Lib.hid (by subst hw0; simp)
  rw [hw0]
  clear hw0
  go_upto_region 4 with (go_at_call 45; refine (CR.out _ HB0.out).mono ?_; rintro e wa ⟨q, c, rfl, hba, hbyq, hqn, hcm, hc512, hqb⟩; have QNE : Hid (∀ Bz oz, q = some ⟨Bz, oz, none⟩ → Bz = w.heap.size + 1 → False) := Lib.hid (fun Bz oz e hE => qne1 HS0.out (hqb _ e) hE); have QN0 : Hid (∀ Bz oz, q = some ⟨Bz, oz, none⟩ → Bz = w.heap.size → False) := Lib.hid (fun Bz oz e hE => qne0 HS0.out (hqb _ e) hE); have HBYQ := Lib.hid hbyq; have HQN := Lib.hid hqn; have HCM := Lib.hid (And.intro hcm hc512); have HBA := Lib.hid hba; have hg0 := (hba.block _ (by rw [HS0.out]; omega)).trans HG0.out; have hg1 := (hba.block _ (by rw [HS0.out]; omega)).trans HG1.out; have k0 := row_cell (i := 0) hg1 rfl; have k1 := row_cell (i := 1) hg1 rfl; have k2 := row_cell (i := 2) hg1 rfl; have k3 := row_cell (i := 3) hg1 rfl; have k4 := row_cell (i := 4) hg1 rfl; have k5 := row_cell (i := 5) hg1 rfl; have k6 := row_cell (i := 6) hg1 rfl; have f0 := row_frozen (i := 0) hg1; have f1 := row_frozen (i := 1) hg1; have f2 := row_frozen (i := 2) hg1; have f3 := row_frozen (i := 3) hg1; have f4 := row_frozen (i := 4) hg1; have f5 := row_frozen (i := 5) hg1; have f6 := row_frozen (i := 6) hg1; have HGA := Lib.hid hg0; have HSA := Lib.hid hba.size; clear hg0 hg1 hba hbyq hqn hcm hc512 hqb)
  obtain ⟨wb, hwb⟩ : ∃ wb, ((((((wa.setCell ⟨w.heap.size + 1, 0, none⟩ (.int .u64 x0)).setCell ⟨w.heap.size + 1, 1, none⟩ (.int .i64 x1)).setCell ⟨w.heap.size + 1, 2, none⟩ (.int .i64 x2)).setCell ⟨w.heap.size + 1, 3, none⟩ (.bool xm)).setCell ⟨w.heap.size + 1, 4, none⟩ (.int .i64 x4)).setCell ⟨w.heap.size + 1, 5, none⟩ (.int .u32 x5)).setCell ⟨w.heap.size + 1, 6, none⟩ (.slice q 512 c) = wb := ⟨_, rfl⟩
  have m0 : Hid (wb.cell? ⟨w.heap.size + 1, 0, none⟩ = some (.int .u64 x0)) := Lib.hid (by subst hwb; go_cell)
  have m1 : Hid (wb.cell? ⟨w.heap.size + 1, 1, none⟩ = some (.int .i64 x1)) := Lib.hid (by subst hwb; go_cell)
  have m2 : Hid (wb.cell? ⟨w.heap.size + 1, 2, none⟩ = some (.int .i64 x2)) := Lib.hid (by subst hwb; go_cell)
  have m3 : Hid (wb.cell? ⟨w.heap.size + 1, 3, none⟩ = some (.bool xm)) := Lib.hid (by subst hwb; go_cell)
  have m4 : Hid (wb.cell? ⟨w.heap.size + 1, 4, none⟩ = some (.int .i64 x4)) := Lib.hid (by subst hwb; go_cell)
  have m5 : Hid (wb.cell? ⟨w.heap.size + 1, 5, none⟩ = some (.int .u32 x5)) := Lib.hid (by subst hwb; go_cell)
  have m6 : Hid (wb.cell? ⟨w.heap.size + 1, 6, none⟩ = some (.slice q 512 c)) := Lib.hid (by subst hwb; go_cell)
  have HBB : Hid (Below w.heap.size w wb) := Lib.hid (by subst hwb; exact ((((((((HB0.out.trans (HBA.out.mono (by rw [HS0.out]; omega))).setCell (Nat.le_succ _) _).setCell (Nat.le_succ _) _).setCell (Nat.le_succ _) _).setCell (Nat.le_succ _) _).setCell (Nat.le_succ _) _).setCell (Nat.le_succ _) _).setCell (Nat.le_succ _) _))
  have HGB : Hid (wb.heap[w.heap.size]? = some (.cells #[.int .u64 0, .int .i64 0, .int .i64 0, .bool false, .int .i64 0, .int .u32 0, .slice none 0 0] 51 (0, 0))) := Lib.hid (by subst hwb; exact (((((((But.set' _ _ _ _).trans (But.set' _ _ _ _)).trans (But.set' _ _ _ _)).trans (But.set' _ _ _ _)).trans (But.set' _ _ _ _)).trans (But.set' _ _ _ _)).trans (But.set' _ _ _ _)).row HGA.out (by omega))
  have HBQ : Hid (BytesAt wb q dd) := Lib.hid (by
    subst hwb
    intro i hi
    obtain ⟨Bz, oz, e, cz⟩ := HBYQ.out i hi
    refine ⟨Bz, oz, e, (((((((But.set' _ _ _ _).trans (But.set' _ _ _ _)).trans (But.set' _ _ _ _)).trans (But.set' _ _ _ _)).trans (But.set' _ _ _ _)).trans (But.set' _ _ _ _)).trans (But.set' _ _ _ _)).cell cz ?_⟩
    intro hE
    simp only at hE
    exact QNE.out Bz oz e hE)
  have HSB : Hid (w.heap.size + 1 < wb.heap.size) := Lib.hid (lt_of_cell_some m0.out)
  rw [hwb]
  clear hwb k0 k1 k2 k3 k4 k5 k6 f0 f1 f2 f3 f4 f5 f6
  have WK : Hid (∀ w', Below wb.heap.size wb w' → (w'.cell? ⟨w.heap.size + 1, 0, none⟩ = some (.int .u64 x0) ∧ w'.cell? ⟨w.heap.size + 1, 1, none⟩ = some (.int .i64 x1) ∧ w'.cell? ⟨w.heap.size + 1, 2, none⟩ = some (.int .i64 x2) ∧ w'.cell? ⟨w.heap.size + 1, 3, none⟩ = some (.bool xm) ∧ w'.cell? ⟨w.heap.size + 1, 4, none⟩ = some (.int .i64 x4) ∧ w'.cell? ⟨w.heap.size + 1, 5, none⟩ = some (.int .u32 x5) ∧ w'.cell? ⟨w.heap.size + 1, 6, none⟩ = some (.slice q 512 c)) ∧ (∀ i, i < lt.length → w'.cell? ⟨B, off + i, none⟩ = some (.int .u8 (lt.getD i 0 : Nat))) ∧ w'.heap[w.heap.size]? = some (.cells #[.int .u64 0, .int .i64 0, .int .i64 0, .bool false, .int .i64 0, .int .u32 0, .slice none 0 0] 51 (0, 0)) ∧ Below w.heap.size w w') := Lib.hid fun w' h =>
    ⟨⟨(h.cell (lt_of_cell_some m0.out)).trans m0.out, (h.cell (lt_of_cell_some m1.out)).trans m1.out, (h.cell (lt_of_cell_some m2.out)).trans m2.out, (h.cell (lt_of_cell_some m3.out)).trans m3.out, (h.cell (lt_of_cell_some m4.out)).trans m4.out, (h.cell (lt_of_cell_some m5.out)).trans m5.out, (h.cell (lt_of_cell_some m6.out)).trans m6.out⟩, fun i hi => (((kbT HBB.out h)).cell (lt_of_cell_some (HTC.out i hi))).trans (HTC.out i hi), (h.block _ (by have := HSB.out; omega)).trans HGB.out, kbT HBB.out h⟩
  refine wp_region_held_drew (S := fun w' => Below wb.heap.size wb w') (by kernel_rfl) ((Below.refl _ _).drew) (fun H0 => ?_)
  refine wpAnyH_take (i := 0) (oi := { dst := some 10, op := Go.Op.load 51 (Go.Operand.tmp 4), type := 51, pos := "frame.go:81", after := #[], guard := none }) (v := ?_) rfl (by kernel_rfl) (by kernel_rfl) (by kernel_rfl) (fun _ _ _ h => h) (Or.inl ⟨by rfl, ?_⟩) H0 ?_
  rotate_left
  focus (intro w' hSw; (try dsimp only at hSw); obtain ⟨⟨q0, q1, q2, q3, q4, q5, q6⟩, -, -, -⟩ := WK.out _ hSw; go_simp; (try with_reducible rfl))
  simp only [Act.put, List.setIfInBounds_toArray, List.set_cons_zero, List.set_cons_succ]
  refine wpAnyH_ready (rs := [1]) (by kernel_rfl) (by simp) ?_
  refine AllReadyH.cons (o := { dst := some 11, op := Go.Op.call { callee := Go.Callee.value (Go.Operand.func 42), args := #[Go.Operand.tmp 10], argTypes := #[51] }, type := 24, pos := "frame.go:81", after := #[{ on := 0, ground := Go.Ground.data }], guard := none }) rfl (fun K hK => ?_) ?_
  rotate_left
  exact AllReadyH.nil
  go_simp
  (go_at_call 42; (with_reducible refine (CC.out _ _ _).mono ?_); rintro e wd ⟨rfl, hd⟩)
  try go_wp2_with fail
  refine hK.out _ _ (kbT H0 hd) (fun Hd => ?_)
  clear hK K
  try simp only [Act.put, List.setIfInBounds_toArray, List.set_cons_zero, List.set_cons_succ]
  refine wpAnyH_take (i := 2) (oi := { dst := some 12, op := Go.Op.binOp Go.BinOp.neq 24 (Go.Operand.tmp 11) (Go.Operand.const (Go.Value.int Go.IntKind.i64 0)) 24, type := 4, pos := "frame.go:81", after := #[{ on := 1, ground := Go.Ground.data }], guard := none }) (v := ?_) rfl (by kernel_rfl) (by kernel_rfl) (by kernel_rfl) (fun _ _ _ h => h) (Or.inl ⟨by rfl, ?_⟩) Hd ?_
  rotate_left
  focus (intro w' hSw; (try dsimp only at hSw); go_simp; (try with_reducible rfl))
  simp only [Act.put, List.setIfInBounds_toArray, List.set_cons_zero, List.set_cons_succ]
  refine wpAnyH_take (i := 3) (oi := { dst := some 13, op := Go.Op.move (Go.Operand.tmp 12), type := 4, pos := "frame.go:81", after := #[{ on := 2, ground := Go.Ground.data }, { on := 1, ground := Go.Ground.chain }], guard := none }) (v := ?_) rfl (by kernel_rfl) (by kernel_rfl) (by kernel_rfl) (fun _ _ _ h => h) (Or.inl ⟨by rfl, ?_⟩) Hd ?_
  rotate_left
  focus (intro w' hSw; (try dsimp only at hSw); go_simp; (try with_reducible rfl))
  simp only [Act.put, List.setIfInBounds_toArray, List.set_cons_zero, List.set_cons_succ]
  refine wpAnyH_take (i := 4) (oi := { dst := some 14, op := Go.Op.load 51 (Go.Operand.tmp 4), type := 51, pos := "frame.go:81", after := #[{ on := 3, ground := Go.Ground.guard }], guard := some (3, false) }) (v := undef) rfl (by kernel_rfl) (by kernel_rfl) (by kernel_rfl) (fun _ _ _ h => h) (Or.inr ⟨by rfl, rfl⟩) Hd ?_
  simp only [Act.put, List.setIfInBounds_toArray, List.set_cons_zero, List.set_cons_succ]
  refine wpAnyH_take (i := 5) (oi := { dst := some 15, op := Go.Op.call { callee := Go.Callee.value (Go.Operand.func 43), args := #[Go.Operand.tmp 14], argTypes := #[51] }, type := 84, pos := "frame.go:81", after := #[{ on := 4, ground := Go.Ground.data }, { on := 3, ground := Go.Ground.chain }, { on := 3, ground := Go.Ground.guard }], guard := some (3, false) }) (v := undef) rfl (by kernel_rfl) (by kernel_rfl) (by kernel_rfl) (fun _ _ _ h => h) (Or.inr ⟨by rfl, rfl⟩) Hd ?_
  simp only [Act.put, List.setIfInBounds_toArray, List.set_cons_zero, List.set_cons_succ]
  refine wpAnyH_take (i := 6) (oi := { dst := some 16, op := Go.Op.move (Go.Operand.tmp 0), type := 39, pos := "frame.go:81", after := #[{ on := 3, ground := Go.Ground.guard }], guard := some (3, false) }) (v := undef) rfl (by kernel_rfl) (by kernel_rfl) (by kernel_rfl) (fun _ _ _ h => h) (Or.inr ⟨by rfl, rfl⟩) Hd ?_
  simp only [Act.put, List.setIfInBounds_toArray, List.set_cons_zero, List.set_cons_succ]
  refine wpAnyH_take (i := 7) (oi := { dst := some 17, op := Go.Op.slice 39 (Go.Operand.tmp 16) none (some (Go.Operand.const (Go.Value.int Go.IntKind.i64 64))) none, type := 39, pos := "frame.go:81", after := #[{ on := 6, ground := Go.Ground.data }, { on := 3, ground := Go.Ground.guard }], guard := some (3, false) }) (v := undef) rfl (by kernel_rfl) (by kernel_rfl) (by kernel_rfl) (fun _ _ _ h => h) (Or.inr ⟨by rfl, rfl⟩) Hd ?_
  simp only [Act.put, List.setIfInBounds_toArray, List.set_cons_zero, List.set_cons_succ]
  refine wpAnyH_take (i := 8) (oi := { dst := some 18, op := Go.Op.sliceToArrayPointer 84 (Go.Operand.tmp 17), type := 0, pos := "frame.go:81", after := #[{ on := 7, ground := Go.Ground.data }, { on := 3, ground := Go.Ground.guard }], guard := some (3, false) }) (v := undef) rfl (by kernel_rfl) (by kernel_rfl) (by kernel_rfl) (fun _ _ _ h => h) (Or.inr ⟨by rfl, rfl⟩) Hd ?_
  simp only [Act.put, List.setIfInBounds_toArray, List.set_cons_zero, List.set_cons_succ]
  refine wpAnyH_take (i := 9) (oi := { dst := some 19, op := Go.Op.load 84 (Go.Operand.tmp 18), type := 84, pos := "frame.go:81", after := #[{ on := 8, ground := Go.Ground.data }, { on := 3, ground := Go.Ground.guard }], guard := some (3, false) }) (v := undef) rfl (by kernel_rfl) (by kernel_rfl) (by kernel_rfl) (fun _ _ _ h => h) (Or.inr ⟨by rfl, rfl⟩) Hd ?_
  simp only [Act.put, List.setIfInBounds_toArray, List.set_cons_zero, List.set_cons_succ]
  refine wpAnyH_take (i := 10) (oi := { dst := some 20, op := Go.Op.binOp Go.BinOp.neq 84 (Go.Operand.tmp 15) (Go.Operand.tmp 19) 84, type := 4, pos := "frame.go:81", after := #[{ on := 5, ground := Go.Ground.data }, { on := 9, ground := Go.Ground.data }, { on := 3, ground := Go.Ground.guard }], guard := some (3, false) }) (v := undef) rfl (by kernel_rfl) (by kernel_rfl) (by kernel_rfl) (fun _ _ _ h => h) (Or.inr ⟨by rfl, rfl⟩) Hd ?_
  simp only [Act.put, List.setIfInBounds_toArray, List.set_cons_zero, List.set_cons_succ]
  refine wpAnyH_take (i := 11) (oi := { dst := some 21, op := Go.Op.pick (Go.Operand.tmp 13) (Go.Operand.const (Go.Value.bool true)) (Go.Operand.tmp 20), type := 4, pos := "frame.go:81", after := #[{ on := 3, ground := Go.Ground.data }, { on := 10, ground := Go.Ground.data }], guard := none }) (v := ?_) rfl (by kernel_rfl) (by kernel_rfl) (by kernel_rfl) (fun _ _ _ h => h) (Or.inl ⟨by rfl, ?_⟩) Hd ?_
  rotate_left
  focus (intro w' hSw; (try dsimp only at hSw); go_simp; (try with_reducible rfl))
  simp only [Act.put, List.setIfInBounds_toArray, List.set_cons_zero, List.set_cons_succ]
  refine wpAnyH_done (by kernel_rfl) ?_ _
  have hg2 := (WK.out _ Hd).2.2.1
  have HX := Lib.hid (WK.out _ Hd).2.2.2
  have z0 := row_cell (i := 0) hg2 rfl
  have y0 := row_frozen (i := 0) hg2
  have z1 := row_cell (i := 1) hg2 rfl
  have y1 := row_frozen (i := 1) hg2
  have z2 := row_cell (i := 2) hg2 rfl
  have y2 := row_frozen (i := 2) hg2
  have z3 := row_cell (i := 3) hg2 rfl
  have y3 := row_frozen (i := 3) hg2
  have z4 := row_cell (i := 4) hg2 rfl
  have y4 := row_frozen (i := 4) hg2
  have z5 := row_cell (i := 5) hg2 rfl
  have y5 := row_frozen (i := 5) hg2
  have z6 := row_cell (i := 6) hg2 rfl
  have y6 := row_frozen (i := 6) hg2
  clear hg2
  go_wp2
  go_step3
  refine ⟨rfl, HJ.out _ _ ?_⟩
  go_wp2
  simp only [Exit.noGoto_ret]
  refine bodyPost_ret (v := .tuple #[zeroFrame, .int .i64 150]) ?_ rfl ⟨rfl, ?_⟩
  · simp [results, Try.results25, go_sem, zeroFrame, z0, z1, z2, z3, z4, z5, z6]
  · exact (((((((HX.out.setCell (Nat.le_refl _) _).setCell (Nat.le_refl _) _).setCell (Nat.le_refl _) _).setCell (Nat.le_refl _) _).setCell (Nat.le_refl _) _).setCell (Nat.le_refl _) _).setCell (Nat.le_refl _) _)
set_option maxRecDepth 100000 in
set_option maxHeartbeats 8000000 in
theorem decode_other (l : List Nat) (p : Option Addr) (cap : Nat) (w : World) (hl : l.length = 576) (hcap : 576 ≤ cap) (hc0 : cap ≤ 9223372036854775807) (hb : ∀ b ∈ l, b < 256) (hc : BytesAt w p l) (hh : frameOk (fI l) (fP l) (fM l) (fN l) 512 = true) (hq : frameS (fE l) (fI l) (fP l) (fM l) (fN l) (fK l) (l.drop 64) ≠ l.take 64) :
    Calls Try.prog 25 #[.slice p 576 cap] w fun r w' => r = .returned (.tuple #[zeroFrame, .int .i64 150]) ∧ Below w.heap.size w w' := by
  obtain ⟨B, off, rfl, hcs⟩ := bytesAt_lt hc (fun h => by subst h; simp at hl)
  have CR := Lib.hid fun (w' : World) (hb' : Below w.heap.size w w') => readFrame_any l B off cap w' hl hcap hc0 hb (bytesAt_below hc hb')
  have CC := Lib.hid fun q c => checkFrame_any (fE l) (fI l) (fP l) (fM l) (fN l) (fK l) q 512 c
  have HT64 : Hid ((l.take 64).length = 64) := Lib.hid (by rw [List.length_take]; omega)
  have HTC : Hid (∀ i, i < (l.take 64).length → w.cell? ⟨B, off + i, none⟩ = some (.int .u8 ((l.take 64).getD i 0 : Nat))) := Lib.hid fun i hi => by
    have hi2 := hi
    rw [List.length_take] at hi2
    rw [hcs i (by omega)]
    simp [List.getD_eq_getElem?_getD, List.getElem?_take, show i < 64 by omega]
  rw [hh] at CC
  simp only [if_true] at CC
  have hbb := frame_bounds hh
  have CH := Lib.hid fun q c (w' : World) h => frameSector_any (fE l) (fI l) (fP l) (fM l) (fN l) (fK l) (foldN_lt' hb) (by omega) (by omega) (by omega) (foldN_lt' (k := 4) (fun b h => hb b (List.mem_of_mem_drop h))) q c (l.drop 64) (by rw [List.length_drop]; omega) (fun b h => hb b (List.mem_of_mem_drop h)) w' h
  have hle := eqi_sec (frameS_length (fE l) (fI l) (fP l) (fM l) (fN l) (fK l) (l.drop 64)) HT64.out (frameS_byte (fE l) (fI l) (fP l) (fM l) (fN l) (fK l) (l.drop 64)) (fun b h => hb b (List.mem_of_mem_take h))
  rw [decide_eq_false hq] at hle
  generalize frameS (fE l) (fI l) (fP l) (fM l) (fN l) (fK l) (l.drop 64) = ll at *
  have hle2 := fun x y w => eqg_sec ll (l.take 64) x y .neq w
  clear hh hbb hq
  unfold frameV at CC
  generalize fE l = x0 at *
  generalize fI l = x1 at *
  generalize fP l = x2 at *
  generalize fM l = xm at *
  generalize fN l = x4 at *
  generalize fK l = x5 at *
  generalize l.drop 64 = dd at *
  generalize l.take 64 = lt at *
  clear hcs hb hc hl
  go_enter Try.func25, Try.ntmps25
  go_wp2
  refine wp_scope_fwd 0 rfl fun J HJ => ?_
  go_upto_region 3 with fail
  obtain ⟨w0, hw0⟩ : ∃ w0, (w.alloc (.cells #[.int .u64 0, .int .i64 0, .int .i64 0, .bool false, .int .i64 0, .int .u32 0, .slice none 0 0] 51)).alloc (.cells #[.int .u64 0, .int .i64 0, .int .i64 0, .bool false, .int .i64 0, .int .u32 0, .slice none 0 0] 51) = w0 := ⟨_, rfl⟩
  have HB0 : Hid (Below w.heap.size w w0) := Lib.hid (by subst hw0; exact ((Below.refl _ _).alloc (Nat.le_refl _) _).alloc (by simp) _)
  have HG0 : Hid (w0.heap[w.heap.size]? = some (.cells #[.int .u64 0, .int .i64 0, .int .i64 0, .bool false, .int .i64 0, .int .u32 0, .slice none 0 0] 51 (0, 0))) := Lib.hid (by subst hw0; exact (((Below.refl _ _).alloc (Nat.le_refl _) _).block _ (by simp)).trans (heap_alloc_last w _))
  have HG1 : Hid (w0.heap[w.heap.size + 1]? = some (.cells #[.int .u64 0, .int .i64 0, .int .i64 0, .bool false, .int .i64 0, .int .u32 0, .slice none 0 0] 51 (0, 0))) := Lib.hid (by subst hw0; have := heap_alloc_last (w.alloc (.cells #[.int .u64 0, .int .i64 0, .int .i64 0, .bool false, .int .i64 0, .int .u32 0, .slice none 0 0] 51)) (.cells #[.int .u64 0, .int .i64 0, .int .i64 0, .bool false, .int .i64 0, .int .u32 0, .slice none 0 0] 51); rw [World.size_alloc] at this; exact this)
  have HS0 : Hid (w0.heap.size = w.heap.size + 2) := Lib.hid (by subst hw0; simp)
  rw [hw0]
  clear hw0
  go_upto_region 4 with (go_at_call 45; refine (CR.out _ HB0.out).mono ?_; rintro e wa ⟨q, c, rfl, hba, hbyq, hqn, hcm, hc512, hqb⟩; have QNE : Hid (∀ Bz oz, q = some ⟨Bz, oz, none⟩ → Bz = w.heap.size + 1 → False) := Lib.hid (fun Bz oz e hE => qne1 HS0.out (hqb _ e) hE); have QN0 : Hid (∀ Bz oz, q = some ⟨Bz, oz, none⟩ → Bz = w.heap.size → False) := Lib.hid (fun Bz oz e hE => qne0 HS0.out (hqb _ e) hE); have HBYQ := Lib.hid hbyq; have HQN := Lib.hid hqn; have HCM := Lib.hid (And.intro hcm hc512); have HBA := Lib.hid hba; have hg0 := (hba.block _ (by rw [HS0.out]; omega)).trans HG0.out; have hg1 := (hba.block _ (by rw [HS0.out]; omega)).trans HG1.out; have k0 := row_cell (i := 0) hg1 rfl; have k1 := row_cell (i := 1) hg1 rfl; have k2 := row_cell (i := 2) hg1 rfl; have k3 := row_cell (i := 3) hg1 rfl; have k4 := row_cell (i := 4) hg1 rfl; have k5 := row_cell (i := 5) hg1 rfl; have k6 := row_cell (i := 6) hg1 rfl; have f0 := row_frozen (i := 0) hg1; have f1 := row_frozen (i := 1) hg1; have f2 := row_frozen (i := 2) hg1; have f3 := row_frozen (i := 3) hg1; have f4 := row_frozen (i := 4) hg1; have f5 := row_frozen (i := 5) hg1; have f6 := row_frozen (i := 6) hg1; have HGA := Lib.hid hg0; have HSA := Lib.hid hba.size; clear hg0 hg1 hba hbyq hqn hcm hc512 hqb)
  obtain ⟨wb, hwb⟩ : ∃ wb, ((((((wa.setCell ⟨w.heap.size + 1, 0, none⟩ (.int .u64 x0)).setCell ⟨w.heap.size + 1, 1, none⟩ (.int .i64 x1)).setCell ⟨w.heap.size + 1, 2, none⟩ (.int .i64 x2)).setCell ⟨w.heap.size + 1, 3, none⟩ (.bool xm)).setCell ⟨w.heap.size + 1, 4, none⟩ (.int .i64 x4)).setCell ⟨w.heap.size + 1, 5, none⟩ (.int .u32 x5)).setCell ⟨w.heap.size + 1, 6, none⟩ (.slice q 512 c) = wb := ⟨_, rfl⟩
  have m0 : Hid (wb.cell? ⟨w.heap.size + 1, 0, none⟩ = some (.int .u64 x0)) := Lib.hid (by subst hwb; go_cell)
  have m1 : Hid (wb.cell? ⟨w.heap.size + 1, 1, none⟩ = some (.int .i64 x1)) := Lib.hid (by subst hwb; go_cell)
  have m2 : Hid (wb.cell? ⟨w.heap.size + 1, 2, none⟩ = some (.int .i64 x2)) := Lib.hid (by subst hwb; go_cell)
  have m3 : Hid (wb.cell? ⟨w.heap.size + 1, 3, none⟩ = some (.bool xm)) := Lib.hid (by subst hwb; go_cell)
  have m4 : Hid (wb.cell? ⟨w.heap.size + 1, 4, none⟩ = some (.int .i64 x4)) := Lib.hid (by subst hwb; go_cell)
  have m5 : Hid (wb.cell? ⟨w.heap.size + 1, 5, none⟩ = some (.int .u32 x5)) := Lib.hid (by subst hwb; go_cell)
  have m6 : Hid (wb.cell? ⟨w.heap.size + 1, 6, none⟩ = some (.slice q 512 c)) := Lib.hid (by subst hwb; go_cell)
  have HBB : Hid (Below w.heap.size w wb) := Lib.hid (by subst hwb; exact ((((((((HB0.out.trans (HBA.out.mono (by rw [HS0.out]; omega))).setCell (Nat.le_succ _) _).setCell (Nat.le_succ _) _).setCell (Nat.le_succ _) _).setCell (Nat.le_succ _) _).setCell (Nat.le_succ _) _).setCell (Nat.le_succ _) _).setCell (Nat.le_succ _) _))
  have HGB : Hid (wb.heap[w.heap.size]? = some (.cells #[.int .u64 0, .int .i64 0, .int .i64 0, .bool false, .int .i64 0, .int .u32 0, .slice none 0 0] 51 (0, 0))) := Lib.hid (by subst hwb; exact (((((((But.set' _ _ _ _).trans (But.set' _ _ _ _)).trans (But.set' _ _ _ _)).trans (But.set' _ _ _ _)).trans (But.set' _ _ _ _)).trans (But.set' _ _ _ _)).trans (But.set' _ _ _ _)).row HGA.out (by omega))
  have HBQ : Hid (BytesAt wb q dd) := Lib.hid (by
    subst hwb
    intro i hi
    obtain ⟨Bz, oz, e, cz⟩ := HBYQ.out i hi
    refine ⟨Bz, oz, e, (((((((But.set' _ _ _ _).trans (But.set' _ _ _ _)).trans (But.set' _ _ _ _)).trans (But.set' _ _ _ _)).trans (But.set' _ _ _ _)).trans (But.set' _ _ _ _)).trans (But.set' _ _ _ _)).cell cz ?_⟩
    intro hE
    simp only at hE
    exact QNE.out Bz oz e hE)
  have HSB : Hid (w.heap.size + 1 < wb.heap.size) := Lib.hid (lt_of_cell_some m0.out)
  rw [hwb]
  clear hwb k0 k1 k2 k3 k4 k5 k6 f0 f1 f2 f3 f4 f5 f6
  have WK : Hid (∀ w', Below wb.heap.size wb w' → (w'.cell? ⟨w.heap.size + 1, 0, none⟩ = some (.int .u64 x0) ∧ w'.cell? ⟨w.heap.size + 1, 1, none⟩ = some (.int .i64 x1) ∧ w'.cell? ⟨w.heap.size + 1, 2, none⟩ = some (.int .i64 x2) ∧ w'.cell? ⟨w.heap.size + 1, 3, none⟩ = some (.bool xm) ∧ w'.cell? ⟨w.heap.size + 1, 4, none⟩ = some (.int .i64 x4) ∧ w'.cell? ⟨w.heap.size + 1, 5, none⟩ = some (.int .u32 x5) ∧ w'.cell? ⟨w.heap.size + 1, 6, none⟩ = some (.slice q 512 c)) ∧ (∀ i, i < lt.length → w'.cell? ⟨B, off + i, none⟩ = some (.int .u8 (lt.getD i 0 : Nat))) ∧ w'.heap[w.heap.size]? = some (.cells #[.int .u64 0, .int .i64 0, .int .i64 0, .bool false, .int .i64 0, .int .u32 0, .slice none 0 0] 51 (0, 0)) ∧ Below w.heap.size w w') := Lib.hid fun w' h =>
    ⟨⟨(h.cell (lt_of_cell_some m0.out)).trans m0.out, (h.cell (lt_of_cell_some m1.out)).trans m1.out, (h.cell (lt_of_cell_some m2.out)).trans m2.out, (h.cell (lt_of_cell_some m3.out)).trans m3.out, (h.cell (lt_of_cell_some m4.out)).trans m4.out, (h.cell (lt_of_cell_some m5.out)).trans m5.out, (h.cell (lt_of_cell_some m6.out)).trans m6.out⟩, fun i hi => (((kbT HBB.out h)).cell (lt_of_cell_some (HTC.out i hi))).trans (HTC.out i hi), (h.block _ (by have := HSB.out; omega)).trans HGB.out, kbT HBB.out h⟩
  have hap := run_arrayAt B off cap
  have hc64 : (64 : Int) ≤ (cap : Int) := by omega
  refine wp_region_held_drew (S := fun w' => Below wb.heap.size wb w') (by kernel_rfl) ((Below.refl _ _).drew) (fun H0 => ?_)
  refine wpAnyH_take (i := 0) (oi := { dst := some 10, op := Go.Op.load 51 (Go.Operand.tmp 4), type := 51, pos := "frame.go:81", after := #[], guard := none }) (v := ?_) rfl (by kernel_rfl) (by kernel_rfl) (by kernel_rfl) (fun _ _ _ h => h) (Or.inl ⟨by rfl, ?_⟩) H0 ?_
  rotate_left
  focus (intro w' hSw; (try dsimp only at hSw); obtain ⟨⟨q0, q1, q2, q3, q4, q5, q6⟩, -, -, -⟩ := WK.out _ hSw; go_simp; (try with_reducible rfl))
  simp only [Act.put, List.setIfInBounds_toArray, List.set_cons_zero, List.set_cons_succ]
  refine wpAnyH_ready (rs := [1]) (by kernel_rfl) (by simp) ?_
  refine AllReadyH.cons (o := { dst := some 11, op := Go.Op.call { callee := Go.Callee.value (Go.Operand.func 42), args := #[Go.Operand.tmp 10], argTypes := #[51] }, type := 24, pos := "frame.go:81", after := #[{ on := 0, ground := Go.Ground.data }], guard := none }) rfl (fun K hK => ?_) ?_
  rotate_left
  exact AllReadyH.nil
  go_simp
  (go_at_call 42; (with_reducible refine (CC.out _ _ _).mono ?_); rintro e wd ⟨rfl, hd⟩)
  try go_wp2_with fail
  refine hK.out _ _ (kbT H0 hd) (fun Hd => ?_)
  clear hK K
  try simp only [Act.put, List.setIfInBounds_toArray, List.set_cons_zero, List.set_cons_succ]
  refine wpAnyH_take (i := 2) (oi := { dst := some 12, op := Go.Op.binOp Go.BinOp.neq 24 (Go.Operand.tmp 11) (Go.Operand.const (Go.Value.int Go.IntKind.i64 0)) 24, type := 4, pos := "frame.go:81", after := #[{ on := 1, ground := Go.Ground.data }], guard := none }) (v := ?_) rfl (by kernel_rfl) (by kernel_rfl) (by kernel_rfl) (fun _ _ _ h => h) (Or.inl ⟨by rfl, ?_⟩) Hd ?_
  rotate_left
  focus (intro w' hSw; (try dsimp only at hSw); go_simp; (try with_reducible rfl))
  simp only [Act.put, List.setIfInBounds_toArray, List.set_cons_zero, List.set_cons_succ]
  refine wpAnyH_take (i := 3) (oi := { dst := some 13, op := Go.Op.move (Go.Operand.tmp 12), type := 4, pos := "frame.go:81", after := #[{ on := 2, ground := Go.Ground.data }, { on := 1, ground := Go.Ground.chain }], guard := none }) (v := ?_) rfl (by kernel_rfl) (by kernel_rfl) (by kernel_rfl) (fun _ _ _ h => h) (Or.inl ⟨by rfl, ?_⟩) Hd ?_
  rotate_left
  focus (intro w' hSw; (try dsimp only at hSw); go_simp; (try with_reducible rfl))
  simp only [Act.put, List.setIfInBounds_toArray, List.set_cons_zero, List.set_cons_succ]
  refine wpAnyH_take (i := 4) (oi := { dst := some 14, op := Go.Op.load 51 (Go.Operand.tmp 4), type := 51, pos := "frame.go:81", after := #[{ on := 3, ground := Go.Ground.guard }], guard := some (3, false) }) (v := ?_) rfl (by kernel_rfl) (by kernel_rfl) (by kernel_rfl) (fun _ _ _ h => h) (Or.inl ⟨by rfl, ?_⟩) Hd ?_
  rotate_left
  focus (intro w' hSw; (try dsimp only at hSw); obtain ⟨⟨q0, q1, q2, q3, q4, q5, q6⟩, -, -, -⟩ := WK.out _ hSw; go_simp; (try with_reducible rfl))
  simp only [Act.put, List.setIfInBounds_toArray, List.set_cons_zero, List.set_cons_succ]
  refine wpAnyH_take (i := 6) (oi := { dst := some 16, op := Go.Op.move (Go.Operand.tmp 0), type := 39, pos := "frame.go:81", after := #[{ on := 3, ground := Go.Ground.guard }], guard := some (3, false) }) (v := ?_) rfl (by kernel_rfl) (by kernel_rfl) (by kernel_rfl) (fun _ _ _ h => h) (Or.inl ⟨by rfl, ?_⟩) Hd ?_
  rotate_left
  focus (intro w' hSw; (try dsimp only at hSw); go_simp; (try with_reducible rfl))
  simp only [Act.put, List.setIfInBounds_toArray, List.set_cons_zero, List.set_cons_succ]
  refine wpAnyH_take (i := 7) (oi := { dst := some 17, op := Go.Op.slice 39 (Go.Operand.tmp 16) none (some (Go.Operand.const (Go.Value.int Go.IntKind.i64 64))) none, type := 39, pos := "frame.go:81", after := #[{ on := 6, ground := Go.Ground.data }, { on := 3, ground := Go.Ground.guard }], guard := some (3, false) }) (v := ?_) rfl (by kernel_rfl) (by kernel_rfl) (by kernel_rfl) (fun _ _ _ h => h) (Or.inl ⟨by rfl, ?_⟩) Hd ?_
  rotate_left
  focus (intro w' hSw; (try dsimp only at hSw); go_simp; (try with_reducible rfl))
  simp only [Act.put, List.setIfInBounds_toArray, List.set_cons_zero, List.set_cons_succ]
  refine wpAnyH_take (i := 8) (oi := { dst := some 18, op := Go.Op.sliceToArrayPointer 84 (Go.Operand.tmp 17), type := 0, pos := "frame.go:81", after := #[{ on := 7, ground := Go.Ground.data }, { on := 3, ground := Go.Ground.guard }], guard := some (3, false) }) (v := ?_) rfl (by kernel_rfl) (by kernel_rfl) (by kernel_rfl) (fun _ _ _ h => h) (Or.inl ⟨by rfl, ?_⟩) Hd ?_
  rotate_left
  focus (intro w' hSw; (try dsimp only at hSw); go_simp; (try with_reducible rfl))
  simp only [Act.put, List.setIfInBounds_toArray, List.set_cons_zero, List.set_cons_succ]
  refine wpAnyH_take (i := 9) (oi := { dst := some 19, op := Go.Op.load 84 (Go.Operand.tmp 18), type := 84, pos := "frame.go:81", after := #[{ on := 8, ground := Go.Ground.data }, { on := 3, ground := Go.Ground.guard }], guard := some (3, false) }) (v := .agg (secA lt)) rfl (by kernel_rfl) (by kernel_rfl) (by kernel_rfl) (fun _ _ _ h => h) (Or.inl ⟨by rfl, fun w' hSw => exec_load_sec (x := .tmp 18) rfl rfl HT64.out (WK.out _ hSw).2.1⟩) Hd ?_
  simp only [Act.put, List.setIfInBounds_toArray, List.set_cons_zero, List.set_cons_succ]
  refine wpAnyH_ready (rs := [5]) (by kernel_rfl) (by simp) ?_
  refine AllReadyH.cons (o := { dst := some 15, op := Go.Op.call { callee := Go.Callee.value (Go.Operand.func 43), args := #[Go.Operand.tmp 14], argTypes := #[51] }, type := 84, pos := "frame.go:81", after := #[{ on := 4, ground := Go.Ground.data }, { on := 3, ground := Go.Ground.chain }, { on := 3, ground := Go.Ground.guard }], guard := some (3, false) }) rfl (fun K hK => ?_) ?_
  rotate_left
  exact AllReadyH.nil
  go_simp
  (go_at_call 43; (with_reducible refine (CH.out q c _ (bytesAt_below HBQ.out Hd)).mono ?_); rintro e we ⟨rfl, he'⟩)
  try go_wp2_with fail
  refine hK.out _ _ (kbT Hd he') (fun He => ?_)
  clear hK K
  try simp only [Act.put, List.setIfInBounds_toArray, List.set_cons_zero, List.set_cons_succ]
  refine wpAnyH_take (i := 10) (oi := { dst := some 20, op := Go.Op.binOp Go.BinOp.neq 84 (Go.Operand.tmp 15) (Go.Operand.tmp 19) 84, type := 4, pos := "frame.go:81", after := #[{ on := 5, ground := Go.Ground.data }, { on := 9, ground := Go.Ground.data }, { on := 3, ground := Go.Ground.guard }], guard := some (3, false) }) (v := ?_) rfl (by kernel_rfl) (by kernel_rfl) (by kernel_rfl) (fun _ _ _ h => h) (Or.inl ⟨by rfl, ?_⟩) He ?_
  rotate_left
  focus (intro w' hSw; (try dsimp only at hSw); go_simp; (try with_reducible rfl))
  simp only [Act.put, List.setIfInBounds_toArray, List.set_cons_zero, List.set_cons_succ]
  refine wpAnyH_take (i := 11) (oi := { dst := some 21, op := Go.Op.pick (Go.Operand.tmp 13) (Go.Operand.const (Go.Value.bool true)) (Go.Operand.tmp 20), type := 4, pos := "frame.go:81", after := #[{ on := 3, ground := Go.Ground.data }, { on := 10, ground := Go.Ground.data }], guard := none }) (v := ?_) rfl (by kernel_rfl) (by kernel_rfl) (by kernel_rfl) (fun _ _ _ h => h) (Or.inl ⟨by rfl, ?_⟩) He ?_
  rotate_left
  focus (intro w' hSw; (try dsimp only at hSw); go_simp; (try with_reducible rfl))
  simp only [Act.put, List.setIfInBounds_toArray, List.set_cons_zero, List.set_cons_succ]
  refine wpAnyH_done (by kernel_rfl) ?_ _
  have hg2 := (WK.out _ He).2.2.1
  have HX := Lib.hid (WK.out _ He).2.2.2
  have z0 := row_cell (i := 0) hg2 rfl
  have y0 := row_frozen (i := 0) hg2
  have z1 := row_cell (i := 1) hg2 rfl
  have y1 := row_frozen (i := 1) hg2
  have z2 := row_cell (i := 2) hg2 rfl
  have y2 := row_frozen (i := 2) hg2
  have z3 := row_cell (i := 3) hg2 rfl
  have y3 := row_frozen (i := 3) hg2
  have z4 := row_cell (i := 4) hg2 rfl
  have y4 := row_frozen (i := 4) hg2
  have z5 := row_cell (i := 5) hg2 rfl
  have y5 := row_frozen (i := 5) hg2
  have z6 := row_cell (i := 6) hg2 rfl
  have y6 := row_frozen (i := 6) hg2
  clear hg2
  go_wp2
  go_step3
  refine ⟨rfl, HJ.out _ _ ?_⟩
  go_wp2
  simp only [Exit.noGoto_ret]
  refine bodyPost_ret (v := .tuple #[zeroFrame, .int .i64 150]) ?_ rfl ⟨rfl, ?_⟩
  · simp [results, Try.results25, go_sem, zeroFrame, z0, z1, z2, z3, z4, z5, z6]
  · exact (((((((HX.out.setCell (Nat.le_refl _) _).setCell (Nat.le_refl _) _).setCell (Nat.le_refl _) _).setCell (Nat.le_refl _) _).setCell (Nat.le_refl _) _).setCell (Nat.le_refl _) _).setCell (Nat.le_refl _) _)
set_option maxRecDepth 100000 in
set_option maxHeartbeats 8000000 in
theorem decode_yes (l : List Nat) (p : Option Addr) (cap : Nat) (w : World) (hl : l.length = 576) (hcap : 576 ≤ cap) (hc0 : cap ≤ 9223372036854775807) (hb : ∀ b ∈ l, b < 256) (hc : BytesAt w p l) (hh : frameOk (fI l) (fP l) (fM l) (fN l) 512 = true) (hq : frameS (fE l) (fI l) (fP l) (fM l) (fN l) (fK l) (l.drop 64) = l.take 64) :
    Calls Try.prog 25 #[.slice p 576 cap] w fun r w' => ∃ q c, r = .returned (.tuple #[.agg #[.int .u64 (fE l : Nat), .int .i64 (fI l : Nat), .int .i64 (fP l : Nat), .bool (fM l), .int .i64 (fN l : Nat), .int .u32 (fK l : Nat), .slice q 512 c], .int .i64 0]) ∧ Below w.heap.size w w' ∧ BytesAt w' q (l.drop 64) ∧ (q = none → c = 0) ∧ c ≤ maxLen ∧ 512 ≤ c := by
  obtain ⟨B, off, rfl, hcs⟩ := bytesAt_lt hc (fun h => by subst h; simp at hl)
  have CR := Lib.hid fun (w' : World) (hb' : Below w.heap.size w w') => readFrame_any l B off cap w' hl hcap hc0 hb (bytesAt_below hc hb')
  have CC := Lib.hid fun q c => checkFrame_any (fE l) (fI l) (fP l) (fM l) (fN l) (fK l) q 512 c
  have HT64 : Hid ((l.take 64).length = 64) := Lib.hid (by rw [List.length_take]; omega)
  have HTC : Hid (∀ i, i < (l.take 64).length → w.cell? ⟨B, off + i, none⟩ = some (.int .u8 ((l.take 64).getD i 0 : Nat))) := Lib.hid fun i hi => by
    have hi2 := hi
    rw [List.length_take] at hi2
    rw [hcs i (by omega)]
    simp [List.getD_eq_getElem?_getD, List.getElem?_take, show i < 64 by omega]
  rw [hh] at CC
  simp only [if_true] at CC
  have hbb := frame_bounds hh
  have CH := Lib.hid fun q c (w' : World) h => frameSector_any (fE l) (fI l) (fP l) (fM l) (fN l) (fK l) (foldN_lt' hb) (by omega) (by omega) (by omega) (foldN_lt' (k := 4) (fun b h => hb b (List.mem_of_mem_drop h))) q c (l.drop 64) (by rw [List.length_drop]; omega) (fun b h => hb b (List.mem_of_mem_drop h)) w' h
  have hle := eqi_sec (frameS_length (fE l) (fI l) (fP l) (fM l) (fN l) (fK l) (l.drop 64)) HT64.out (frameS_byte (fE l) (fI l) (fP l) (fM l) (fN l) (fK l) (l.drop 64)) (fun b h => hb b (List.mem_of_mem_take h))
  rw [decide_eq_true hq] at hle
  generalize frameS (fE l) (fI l) (fP l) (fM l) (fN l) (fK l) (l.drop 64) = ll at *
  have hle2 := fun x y w => eqg_sec ll (l.take 64) x y .neq w
  clear hh hbb hq
  unfold frameV at CC
  generalize fE l = x0 at *
  generalize fI l = x1 at *
  generalize fP l = x2 at *
  generalize fM l = xm at *
  generalize fN l = x4 at *
  generalize fK l = x5 at *
  generalize l.drop 64 = dd at *
  generalize l.take 64 = lt at *
  clear hcs hb hc hl
  go_enter Try.func25, Try.ntmps25
  go_wp2
  refine wp_scope_fwd 0 rfl fun J HJ => ?_
  go_upto_region 3 with fail
  obtain ⟨w0, hw0⟩ : ∃ w0, (w.alloc (.cells #[.int .u64 0, .int .i64 0, .int .i64 0, .bool false, .int .i64 0, .int .u32 0, .slice none 0 0] 51)).alloc (.cells #[.int .u64 0, .int .i64 0, .int .i64 0, .bool false, .int .i64 0, .int .u32 0, .slice none 0 0] 51) = w0 := ⟨_, rfl⟩
  have HB0 : Hid (Below w.heap.size w w0) := Lib.hid (by subst hw0; exact ((Below.refl _ _).alloc (Nat.le_refl _) _).alloc (by simp) _)
  have HG0 : Hid (w0.heap[w.heap.size]? = some (.cells #[.int .u64 0, .int .i64 0, .int .i64 0, .bool false, .int .i64 0, .int .u32 0, .slice none 0 0] 51 (0, 0))) := Lib.hid (by subst hw0; exact (((Below.refl _ _).alloc (Nat.le_refl _) _).block _ (by simp)).trans (heap_alloc_last w _))
  have HG1 : Hid (w0.heap[w.heap.size + 1]? = some (.cells #[.int .u64 0, .int .i64 0, .int .i64 0, .bool false, .int .i64 0, .int .u32 0, .slice none 0 0] 51 (0, 0))) := Lib.hid (by subst hw0; have := heap_alloc_last (w.alloc (.cells #[.int .u64 0, .int .i64 0, .int .i64 0, .bool false, .int .i64 0, .int .u32 0, .slice none 0 0] 51)) (.cells #[.int .u64 0, .int .i64 0, .int .i64 0, .bool false, .int .i64 0, .int .u32 0, .slice none 0 0] 51); rw [World.size_alloc] at this; exact this)
  have HS0 : Hid (w0.heap.size = w.heap.size + 2) := Lib.hid (by subst hw0; simp)
  rw [hw0]
  clear hw0
  go_upto_region 4 with (go_at_call 45; refine (CR.out _ HB0.out).mono ?_; rintro e wa ⟨q, c, rfl, hba, hbyq, hqn, hcm, hc512, hqb⟩; have QNE : Hid (∀ Bz oz, q = some ⟨Bz, oz, none⟩ → Bz = w.heap.size + 1 → False) := Lib.hid (fun Bz oz e hE => qne1 HS0.out (hqb _ e) hE); have QN0 : Hid (∀ Bz oz, q = some ⟨Bz, oz, none⟩ → Bz = w.heap.size → False) := Lib.hid (fun Bz oz e hE => qne0 HS0.out (hqb _ e) hE); have HBYQ := Lib.hid hbyq; have HQN := Lib.hid hqn; have HCM := Lib.hid (And.intro hcm hc512); have HBA := Lib.hid hba; have hg0 := (hba.block _ (by rw [HS0.out]; omega)).trans HG0.out; have hg1 := (hba.block _ (by rw [HS0.out]; omega)).trans HG1.out; have k0 := row_cell (i := 0) hg1 rfl; have k1 := row_cell (i := 1) hg1 rfl; have k2 := row_cell (i := 2) hg1 rfl; have k3 := row_cell (i := 3) hg1 rfl; have k4 := row_cell (i := 4) hg1 rfl; have k5 := row_cell (i := 5) hg1 rfl; have k6 := row_cell (i := 6) hg1 rfl; have f0 := row_frozen (i := 0) hg1; have f1 := row_frozen (i := 1) hg1; have f2 := row_frozen (i := 2) hg1; have f3 := row_frozen (i := 3) hg1; have f4 := row_frozen (i := 4) hg1; have f5 := row_frozen (i := 5) hg1; have f6 := row_frozen (i := 6) hg1; have HGA := Lib.hid hg0; have HSA := Lib.hid hba.size; clear hg0 hg1 hba hbyq hqn hcm hc512 hqb)
  obtain ⟨wb, hwb⟩ : ∃ wb, ((((((wa.setCell ⟨w.heap.size + 1, 0, none⟩ (.int .u64 x0)).setCell ⟨w.heap.size + 1, 1, none⟩ (.int .i64 x1)).setCell ⟨w.heap.size + 1, 2, none⟩ (.int .i64 x2)).setCell ⟨w.heap.size + 1, 3, none⟩ (.bool xm)).setCell ⟨w.heap.size + 1, 4, none⟩ (.int .i64 x4)).setCell ⟨w.heap.size + 1, 5, none⟩ (.int .u32 x5)).setCell ⟨w.heap.size + 1, 6, none⟩ (.slice q 512 c) = wb := ⟨_, rfl⟩
  have m0 : Hid (wb.cell? ⟨w.heap.size + 1, 0, none⟩ = some (.int .u64 x0)) := Lib.hid (by subst hwb; go_cell)
  have m1 : Hid (wb.cell? ⟨w.heap.size + 1, 1, none⟩ = some (.int .i64 x1)) := Lib.hid (by subst hwb; go_cell)
  have m2 : Hid (wb.cell? ⟨w.heap.size + 1, 2, none⟩ = some (.int .i64 x2)) := Lib.hid (by subst hwb; go_cell)
  have m3 : Hid (wb.cell? ⟨w.heap.size + 1, 3, none⟩ = some (.bool xm)) := Lib.hid (by subst hwb; go_cell)
  have m4 : Hid (wb.cell? ⟨w.heap.size + 1, 4, none⟩ = some (.int .i64 x4)) := Lib.hid (by subst hwb; go_cell)
  have m5 : Hid (wb.cell? ⟨w.heap.size + 1, 5, none⟩ = some (.int .u32 x5)) := Lib.hid (by subst hwb; go_cell)
  have m6 : Hid (wb.cell? ⟨w.heap.size + 1, 6, none⟩ = some (.slice q 512 c)) := Lib.hid (by subst hwb; go_cell)
  have HBB : Hid (Below w.heap.size w wb) := Lib.hid (by subst hwb; exact ((((((((HB0.out.trans (HBA.out.mono (by rw [HS0.out]; omega))).setCell (Nat.le_succ _) _).setCell (Nat.le_succ _) _).setCell (Nat.le_succ _) _).setCell (Nat.le_succ _) _).setCell (Nat.le_succ _) _).setCell (Nat.le_succ _) _).setCell (Nat.le_succ _) _))
  have HGB : Hid (wb.heap[w.heap.size]? = some (.cells #[.int .u64 0, .int .i64 0, .int .i64 0, .bool false, .int .i64 0, .int .u32 0, .slice none 0 0] 51 (0, 0))) := Lib.hid (by subst hwb; exact (((((((But.set' _ _ _ _).trans (But.set' _ _ _ _)).trans (But.set' _ _ _ _)).trans (But.set' _ _ _ _)).trans (But.set' _ _ _ _)).trans (But.set' _ _ _ _)).trans (But.set' _ _ _ _)).row HGA.out (by omega))
  have HBQ : Hid (BytesAt wb q dd) := Lib.hid (by
    subst hwb
    intro i hi
    obtain ⟨Bz, oz, e, cz⟩ := HBYQ.out i hi
    refine ⟨Bz, oz, e, (((((((But.set' _ _ _ _).trans (But.set' _ _ _ _)).trans (But.set' _ _ _ _)).trans (But.set' _ _ _ _)).trans (But.set' _ _ _ _)).trans (But.set' _ _ _ _)).trans (But.set' _ _ _ _)).cell cz ?_⟩
    intro hE
    simp only at hE
    exact QNE.out Bz oz e hE)
  have HSB : Hid (w.heap.size + 1 < wb.heap.size) := Lib.hid (lt_of_cell_some m0.out)
  rw [hwb]
  clear hwb k0 k1 k2 k3 k4 k5 k6 f0 f1 f2 f3 f4 f5 f6
  have WK : Hid (∀ w', Below wb.heap.size wb w' → (w'.cell? ⟨w.heap.size + 1, 0, none⟩ = some (.int .u64 x0) ∧ w'.cell? ⟨w.heap.size + 1, 1, none⟩ = some (.int .i64 x1) ∧ w'.cell? ⟨w.heap.size + 1, 2, none⟩ = some (.int .i64 x2) ∧ w'.cell? ⟨w.heap.size + 1, 3, none⟩ = some (.bool xm) ∧ w'.cell? ⟨w.heap.size + 1, 4, none⟩ = some (.int .i64 x4) ∧ w'.cell? ⟨w.heap.size + 1, 5, none⟩ = some (.int .u32 x5) ∧ w'.cell? ⟨w.heap.size + 1, 6, none⟩ = some (.slice q 512 c)) ∧ (∀ i, i < lt.length → w'.cell? ⟨B, off + i, none⟩ = some (.int .u8 (lt.getD i 0 : Nat))) ∧ w'.heap[w.heap.size]? = some (.cells #[.int .u64 0, .int .i64 0, .int .i64 0, .bool false, .int .i64 0, .int .u32 0, .slice none 0 0] 51 (0, 0)) ∧ Below w.heap.size w w') := Lib.hid fun w' h =>
    ⟨⟨(h.cell (lt_of_cell_some m0.out)).trans m0.out, (h.cell (lt_of_cell_some m1.out)).trans m1.out, (h.cell (lt_of_cell_some m2.out)).trans m2.out, (h.cell (lt_of_cell_some m3.out)).trans m3.out, (h.cell (lt_of_cell_some m4.out)).trans m4.out, (h.cell (lt_of_cell_some m5.out)).trans m5.out, (h.cell (lt_of_cell_some m6.out)).trans m6.out⟩, fun i hi => (((kbT HBB.out h)).cell (lt_of_cell_some (HTC.out i hi))).trans (HTC.out i hi), (h.block _ (by have := HSB.out; omega)).trans HGB.out, kbT HBB.out h⟩
  have hap := run_arrayAt B off cap
  have hc64 : (64 : Int) ≤ (cap : Int) := by omega
  refine wp_region_held_drew (S := fun w' => Below wb.heap.size wb w') (by kernel_rfl) ((Below.refl _ _).drew) (fun H0 => ?_)
  refine wpAnyH_take (i := 0) (oi := { dst := some 10, op := Go.Op.load 51 (Go.Operand.tmp 4), type := 51, pos := "frame.go:81", after := #[], guard := none }) (v := ?_) rfl (by kernel_rfl) (by kernel_rfl) (by kernel_rfl) (fun _ _ _ h => h) (Or.inl ⟨by rfl, ?_⟩) H0 ?_
  rotate_left
  focus (intro w' hSw; (try dsimp only at hSw); obtain ⟨⟨q0, q1, q2, q3, q4, q5, q6⟩, -, -, -⟩ := WK.out _ hSw; go_simp; (try with_reducible rfl))
  simp only [Act.put, List.setIfInBounds_toArray, List.set_cons_zero, List.set_cons_succ]
  refine wpAnyH_ready (rs := [1]) (by kernel_rfl) (by simp) ?_
  refine AllReadyH.cons (o := { dst := some 11, op := Go.Op.call { callee := Go.Callee.value (Go.Operand.func 42), args := #[Go.Operand.tmp 10], argTypes := #[51] }, type := 24, pos := "frame.go:81", after := #[{ on := 0, ground := Go.Ground.data }], guard := none }) rfl (fun K hK => ?_) ?_
  rotate_left
  exact AllReadyH.nil
  go_simp
  (go_at_call 42; (with_reducible refine (CC.out _ _ _).mono ?_); rintro e wd ⟨rfl, hd⟩)
  try go_wp2_with fail
  refine hK.out _ _ (kbT H0 hd) (fun Hd => ?_)
  clear hK K
  try simp only [Act.put, List.setIfInBounds_toArray, List.set_cons_zero, List.set_cons_succ]
  refine wpAnyH_take (i := 2) (oi := { dst := some 12, op := Go.Op.binOp Go.BinOp.neq 24 (Go.Operand.tmp 11) (Go.Operand.const (Go.Value.int Go.IntKind.i64 0)) 24, type := 4, pos := "frame.go:81", after := #[{ on := 1, ground := Go.Ground.data }], guard := none }) (v := ?_) rfl (by kernel_rfl) (by kernel_rfl) (by kernel_rfl) (fun _ _ _ h => h) (Or.inl ⟨by rfl, ?_⟩) Hd ?_
  rotate_left
  focus (intro w' hSw; (try dsimp only at hSw); go_simp; (try with_reducible rfl))
  simp only [Act.put, List.setIfInBounds_toArray, List.set_cons_zero, List.set_cons_succ]
  refine wpAnyH_take (i := 3) (oi := { dst := some 13, op := Go.Op.move (Go.Operand.tmp 12), type := 4, pos := "frame.go:81", after := #[{ on := 2, ground := Go.Ground.data }, { on := 1, ground := Go.Ground.chain }], guard := none }) (v := ?_) rfl (by kernel_rfl) (by kernel_rfl) (by kernel_rfl) (fun _ _ _ h => h) (Or.inl ⟨by rfl, ?_⟩) Hd ?_
  rotate_left
  focus (intro w' hSw; (try dsimp only at hSw); go_simp; (try with_reducible rfl))
  simp only [Act.put, List.setIfInBounds_toArray, List.set_cons_zero, List.set_cons_succ]
  refine wpAnyH_take (i := 4) (oi := { dst := some 14, op := Go.Op.load 51 (Go.Operand.tmp 4), type := 51, pos := "frame.go:81", after := #[{ on := 3, ground := Go.Ground.guard }], guard := some (3, false) }) (v := ?_) rfl (by kernel_rfl) (by kernel_rfl) (by kernel_rfl) (fun _ _ _ h => h) (Or.inl ⟨by rfl, ?_⟩) Hd ?_
  rotate_left
  focus (intro w' hSw; (try dsimp only at hSw); obtain ⟨⟨q0, q1, q2, q3, q4, q5, q6⟩, -, -, -⟩ := WK.out _ hSw; go_simp; (try with_reducible rfl))
  simp only [Act.put, List.setIfInBounds_toArray, List.set_cons_zero, List.set_cons_succ]
  refine wpAnyH_take (i := 6) (oi := { dst := some 16, op := Go.Op.move (Go.Operand.tmp 0), type := 39, pos := "frame.go:81", after := #[{ on := 3, ground := Go.Ground.guard }], guard := some (3, false) }) (v := ?_) rfl (by kernel_rfl) (by kernel_rfl) (by kernel_rfl) (fun _ _ _ h => h) (Or.inl ⟨by rfl, ?_⟩) Hd ?_
  rotate_left
  focus (intro w' hSw; (try dsimp only at hSw); go_simp; (try with_reducible rfl))
  simp only [Act.put, List.setIfInBounds_toArray, List.set_cons_zero, List.set_cons_succ]
  refine wpAnyH_take (i := 7) (oi := { dst := some 17, op := Go.Op.slice 39 (Go.Operand.tmp 16) none (some (Go.Operand.const (Go.Value.int Go.IntKind.i64 64))) none, type := 39, pos := "frame.go:81", after := #[{ on := 6, ground := Go.Ground.data }, { on := 3, ground := Go.Ground.guard }], guard := some (3, false) }) (v := ?_) rfl (by kernel_rfl) (by kernel_rfl) (by kernel_rfl) (fun _ _ _ h => h) (Or.inl ⟨by rfl, ?_⟩) Hd ?_
  rotate_left
  focus (intro w' hSw; (try dsimp only at hSw); go_simp; (try with_reducible rfl))
  simp only [Act.put, List.setIfInBounds_toArray, List.set_cons_zero, List.set_cons_succ]
  refine wpAnyH_take (i := 8) (oi := { dst := some 18, op := Go.Op.sliceToArrayPointer 84 (Go.Operand.tmp 17), type := 0, pos := "frame.go:81", after := #[{ on := 7, ground := Go.Ground.data }, { on := 3, ground := Go.Ground.guard }], guard := some (3, false) }) (v := ?_) rfl (by kernel_rfl) (by kernel_rfl) (by kernel_rfl) (fun _ _ _ h => h) (Or.inl ⟨by rfl, ?_⟩) Hd ?_
  rotate_left
  focus (intro w' hSw; (try dsimp only at hSw); go_simp; (try with_reducible rfl))
  simp only [Act.put, List.setIfInBounds_toArray, List.set_cons_zero, List.set_cons_succ]
  refine wpAnyH_take (i := 9) (oi := { dst := some 19, op := Go.Op.load 84 (Go.Operand.tmp 18), type := 84, pos := "frame.go:81", after := #[{ on := 8, ground := Go.Ground.data }, { on := 3, ground := Go.Ground.guard }], guard := some (3, false) }) (v := .agg (secA lt)) rfl (by kernel_rfl) (by kernel_rfl) (by kernel_rfl) (fun _ _ _ h => h) (Or.inl ⟨by rfl, fun w' hSw => exec_load_sec (x := .tmp 18) rfl rfl HT64.out (WK.out _ hSw).2.1⟩) Hd ?_
  simp only [Act.put, List.setIfInBounds_toArray, List.set_cons_zero, List.set_cons_succ]
  refine wpAnyH_ready (rs := [5]) (by kernel_rfl) (by simp) ?_
  refine AllReadyH.cons (o := { dst := some 15, op := Go.Op.call { callee := Go.Callee.value (Go.Operand.func 43), args := #[Go.Operand.tmp 14], argTypes := #[51] }, type := 84, pos := "frame.go:81", after := #[{ on := 4, ground := Go.Ground.data }, { on := 3, ground := Go.Ground.chain }, { on := 3, ground := Go.Ground.guard }], guard := some (3, false) }) rfl (fun K hK => ?_) ?_
  rotate_left
  exact AllReadyH.nil
  go_simp
  (go_at_call 43; (with_reducible refine (CH.out q c _ (bytesAt_below HBQ.out Hd)).mono ?_); rintro e we ⟨rfl, he'⟩)
  try go_wp2_with fail
  refine hK.out _ _ (kbT Hd he') (fun He => ?_)
  clear hK K
  try simp only [Act.put, List.setIfInBounds_toArray, List.set_cons_zero, List.set_cons_succ]
  refine wpAnyH_take (i := 10) (oi := { dst := some 20, op := Go.Op.binOp Go.BinOp.neq 84 (Go.Operand.tmp 15) (Go.Operand.tmp 19) 84, type := 4, pos := "frame.go:81", after := #[{ on := 5, ground := Go.Ground.data }, { on := 9, ground := Go.Ground.data }, { on := 3, ground := Go.Ground.guard }], guard := some (3, false) }) (v := ?_) rfl (by kernel_rfl) (by kernel_rfl) (by kernel_rfl) (fun _ _ _ h => h) (Or.inl ⟨by rfl, ?_⟩) He ?_
  rotate_left
  focus (intro w' hSw; (try dsimp only at hSw); go_simp; (try with_reducible rfl))
  simp only [Act.put, List.setIfInBounds_toArray, List.set_cons_zero, List.set_cons_succ]
  refine wpAnyH_take (i := 11) (oi := { dst := some 21, op := Go.Op.pick (Go.Operand.tmp 13) (Go.Operand.const (Go.Value.bool true)) (Go.Operand.tmp 20), type := 4, pos := "frame.go:81", after := #[{ on := 3, ground := Go.Ground.data }, { on := 10, ground := Go.Ground.data }], guard := none }) (v := ?_) rfl (by kernel_rfl) (by kernel_rfl) (by kernel_rfl) (fun _ _ _ h => h) (Or.inl ⟨by rfl, ?_⟩) He ?_
  rotate_left
  focus (intro w' hSw; (try dsimp only at hSw); go_simp; (try with_reducible rfl))
  simp only [Act.put, List.setIfInBounds_toArray, List.set_cons_zero, List.set_cons_succ]
  refine wpAnyH_done (by kernel_rfl) ?_ _
  have hg2 := (WK.out _ He).2.2.1
  have HX := Lib.hid (WK.out _ He).2.2.2
  have z0 := row_cell (i := 0) hg2 rfl
  have y0 := row_frozen (i := 0) hg2
  have z1 := row_cell (i := 1) hg2 rfl
  have y1 := row_frozen (i := 1) hg2
  have z2 := row_cell (i := 2) hg2 rfl
  have y2 := row_frozen (i := 2) hg2
  have z3 := row_cell (i := 3) hg2 rfl
  have y3 := row_frozen (i := 3) hg2
  have z4 := row_cell (i := 4) hg2 rfl
  have y4 := row_frozen (i := 4) hg2
  have z5 := row_cell (i := 5) hg2 rfl
  have y5 := row_frozen (i := 5) hg2
  have z6 := row_cell (i := 6) hg2 rfl
  have y6 := row_frozen (i := 6) hg2
  clear hg2
  have hk := (WK.out _ He).1
  obtain ⟨q0, q1, q2, q3, q4, q5, q6⟩ := hk
  have HBE := Lib.hid (bytesAt_below HBQ.out He)
  go_wp2
  simp only [Exit.jump]
  refine bodyPost_ret (v := .tuple #[.agg #[.int .u64 x0, .int .i64 x1, .int .i64 x2, .bool xm, .int .i64 x4, .int .u32 x5, .slice q 512 c], .int .i64 0]) ?_ rfl ⟨q, c, rfl, ?_, ?_, HQN.out, HCM.out.1, HCM.out.2⟩
  · simp [results, Try.results25, go_sem, z0, z1, z2, z3, z4, z5, z6]
  · exact (((((((HX.out.setCell (Nat.le_refl _) _).setCell (Nat.le_refl _) _).setCell (Nat.le_refl _) _).setCell (Nat.le_refl _) _).setCell (Nat.le_refl _) _).setCell (Nat.le_refl _) _).setCell (Nat.le_refl _) _)
  · intro i hi
    obtain ⟨Bz, oz, e, cz⟩ := HBE.out i hi
    refine ⟨Bz, oz, e, (((((((But.set' _ _ _ _).trans (But.set' _ _ _ _)).trans (But.set' _ _ _ _)).trans (But.set' _ _ _ _)).trans (But.set' _ _ _ _)).trans (But.set' _ _ _ _)).trans (But.set' _ _ _ _)).cell cz ?_⟩
    intro hE
    simp only at hE
    exact QN0.out Bz oz e hE
/-- What Decode answers to bytes. -/
def DecPost (l : List Nat) (w : World) (r : Ending) (w' : World) : Prop :=
  Below w.heap.size w w' ∧ ((isFrame l = false ∧ r = .returned (.tuple #[zeroFrame, .int .i64 150])) ∨
    (isFrame l = true ∧ ∃ q c, r = .returned (.tuple #[.agg #[.int .u64 (fE l : Nat), .int .i64 (fI l : Nat), .int .i64 (fP l : Nat), .bool (fM l), .int .i64 (fN l : Nat), .int .u32 (fK l : Nat), .slice q 512 c], .int .i64 0]) ∧ BytesAt w' q (l.drop 64) ∧ (q = none → c = 0) ∧ c ≤ maxLen ∧ 512 ≤ c))
theorem decode_any (l : List Nat) (p : Option Addr) (cap : Nat) (w : World) (hcap : l.length ≤ cap) (hc0 : cap ≤ 9223372036854775807) (hb : ∀ b ∈ l, b < 256) (hc : BytesAt w p l) :
    Calls Try.prog 25 #[.slice p l.length cap] w (DecPost l w) := by
  unfold DecPost isFrame
  by_cases hl : l.length = 576
  · cases hh : frameOk (fI l) (fP l) (fM l) (fN l) 512 with
    | false =>
      simp only [hl, decide_true, Bool.true_and, Bool.false_and]
      exact (decode_no l p cap w hl (by omega) hc0 hb hc hh).mono fun _ _ h => ⟨h.2, .inl ⟨by trivial, h.1⟩⟩
    | true =>
      by_cases hq : frameS (fE l) (fI l) (fP l) (fM l) (fN l) (fK l) (l.drop 64) = l.take 64
      · simp only [hl, hq, decide_true, Bool.true_and]
        refine (decode_yes l p cap w hl (by omega) hc0 hb hc hh hq).mono ?_
        rintro e w' ⟨q, c, h1, h2, h3⟩
        exact ⟨h2, .inr ⟨by trivial, q, c, h1, h3⟩⟩
      · simp only [hl, hq, decide_true, decide_false, Bool.true_and]
        exact (decode_other l p cap w hl (by omega) hc0 hb hc hh hq).mono fun _ _ h => ⟨h.2, .inl ⟨by trivial, h.1⟩⟩
  · simp only [hl, decide_false, Bool.false_and]
    exact (decode_long l p cap w hl).mono fun _ _ h => ⟨h.2, .inl ⟨by trivial, h.1⟩⟩
end Go.Proofs.Ythnllhfdbnnjhaa
namespace Go.Proofs.Ythnllhfdbnnjhaa
open Go.RowKit Go.Shelf

theorem refEncode_ok (E i p : Nat) (cm : Bool) (n k : Nat) (hE : E < 2 ^ 64) (hk : k < 4294967296) (q : Option Addr) (cap : Nat) (bs : List Nat) (hbl : bs.length = 512) (hbb : ∀ b ∈ bs, b < 256) (w : World) (hbs : BytesAt w q bs) (hnn : q = none → cap = 0) (hok : frameOk i p cm n 512 = true) :
    Calls Try.prog 24 #[frameV E i p cm n k q 512 cap] w fun r w' => ∃ t, r = .returned (.tuple #[t, .int .i64 0]) ∧ RowB w (frameL E i p cm n k bs) t w' := by
  obtain ⟨h1, h2, h3, h4, h5, h6, h7, -⟩ := frame_bounds hok
  cases cm
  · have : n = 0 := by simp [mostOf] at h6; omega
    subst this
    exact refEncode_false E i p k hE (by omega) (by omega) hk q cap bs hbl hbb w hbs hnn
  · exact refEncode_true E i p n k hE (by omega) (by omega) (by omega) hk q cap bs hbl hbb w hbs hnn
set_option maxRecDepth 100000 in
set_option maxHeartbeats 1000000 in
theorem refSumF_no (E : Nat) (i p : Int) (cm : Bool) (n : Int) (k : Nat) (q : Option Addr) (ln cap : Nat) (hok : frameOk i p cm n ln = false) (w : World) :
    Calls Try.prog 29 #[frameV E i p cm n k q ln cap] w fun r w' => r = .returned (.tuple #[.int .u32 0, .int .i64 2]) ∧ Below w.heap.size w w' := by
  have CC := Lib.hid (refEncode_no E i p cm n k q ln cap hok)
  unfold frameV at CC ⊢
  go_enter Try.func29, Try.ntmps29
  go_wp2_with (go_at_call 24; (with_reducible refine (CC.out _).mono ?_); rintro e wa ⟨rfl, hb1⟩; have B1 := Lib.hid (kbA hb1); clear hb1)
  go_ret2
  exact ⟨rfl, B1.out⟩
theorem frameL_take (E i p : Nat) (cm : Bool) (n k : Nat) (bs : List Nat) : ((frameL E i p cm n k bs).drop 25).take 4 = fixE 4 (~~~ sumN (frameB E i p cm n k ++ bs)).toNat := by
  unfold frameL frameS padL frameC
  rw [List.append_assoc, List.append_assoc]
  have h := frameB_length E i p cm n k
  rw [List.drop_append_of_le_length (by omega), List.drop_of_length_le (by omega), List.nil_append, List.take_append_of_le_length (by rw [fixE_length]; omega), List.take_of_length_le (by rw [fixE_length]; omega)]
theorem frameL_length (E i p : Nat) (cm : Bool) (n k : Nat) (bs : List Nat) (h : bs.length = 512) : (frameL E i p cm n k bs).length = 576 := by
  unfold frameL
  rw [List.length_append, frameS_length, h]
theorem frameL_byte (E i p : Nat) (cm : Bool) (n k : Nat) (bs : List Nat) (hbb : ∀ b ∈ bs, b < 256) : ∀ b ∈ frameL E i p cm n k bs, b < 256 := by
  intro b hb
  rcases List.mem_append.1 hb with h | h
  · exact frameS_byte _ _ _ _ _ _ _ b h
  · exact hbb b h
set_option maxRecDepth 100000 in
set_option maxHeartbeats 2000000 in
theorem refSumF_ok (E i p : Nat) (cm : Bool) (n k : Nat) (hE : E < 2 ^ 64) (hk : k < 4294967296) (q : Option Addr) (cap : Nat) (bs : List Nat) (hbl : bs.length = 512) (hbb : ∀ b ∈ bs, b < 256) (w : World) (hbs : BytesAt w q bs) (hnn : q = none → cap = 0) (hok : frameOk i p cm n 512 = true) :
    Calls Try.prog 29 #[frameV E i p cm n k q 512 cap] w fun r w' => r = .returned (.tuple #[.int .u32 (~~~ sumN (frameB E i p cm n k ++ bs)).toNat, .int .i64 0]) ∧ Below w.heap.size w w' := by
  have CC := Lib.hid fun (w' : World) (h : Below w.heap.size w w') => refEncode_ok E i p cm n k hE hk q cap bs hbl hbb w' (bytesAt_below hbs h) hnn hok
  have ht := frameL_take E i p cm n k bs
  have hll := frameL_length E i p cm n k bs hbl
  have hlb := frameL_byte E i p cm n k bs hbb
  generalize frameL E i p cm n k bs = ll at *
  have hsb : (~~~ sumN (frameB E i p cm n k ++ bs)).toNat < 4294967296 := sumNot_lt _
  have RD := Lib.hid fun B off cp w => readAt_any ll 4 25 (by omega) (by omega) B off cp w (by omega) hlb
  rw [ht, foldN_fix 4 _ (by omega), hll] at RD
  generalize (~~~ sumN (frameB E i p cm n k ++ bs)).toNat = sb at *
  have HLL := Lib.hid hll
  have u1 : IntKind.u32.wrap (sb : Int) = (sb : Int) := by rw [wrap_u32]; omega
  change Hid (∀ B off cp w, _ → Calls Try.prog 41 #[.slice (some ⟨B, off + 25, none⟩) 551 (cp - 25), .int .i64 4] w fun r w' => r = .returned (.tuple #[.int .u64 sb, .int .i64 0]) ∧ w = w') at RD
  unfold frameV at CC ⊢
  clear hok hE hk hbl hbb hbs hnn ht hlb hll hsb
  go_enter Try.func29, Try.ntmps29
  go_upto_region 1 with fail
  obtain ⟨w1, hw1⟩ : ∃ w1, w.alloc (.cells #[.int .u64 E, .int .i64 i, .int .i64 p, .bool cm, .int .i64 n, .int .u32 k, .slice q 512 cap] 51) = w1 := ⟨_, rfl⟩
  have HB1 : Hid (Below w.heap.size w w1) := Lib.hid (by subst hw1; exact (Below.refl _ _).alloc (Nat.le_refl _) _)
  have k0 : w1.cell? ⟨w.heap.size, 0, none⟩ = some (.int .u64 E) := by subst hw1; go_cell
  have k1 : w1.cell? ⟨w.heap.size, 1, none⟩ = some (.int .i64 i) := by subst hw1; go_cell
  have k2 : w1.cell? ⟨w.heap.size, 2, none⟩ = some (.int .i64 p) := by subst hw1; go_cell
  have k3 : w1.cell? ⟨w.heap.size, 3, none⟩ = some (.bool cm) := by subst hw1; go_cell
  have k4 : w1.cell? ⟨w.heap.size, 4, none⟩ = some (.int .i64 n) := by subst hw1; go_cell
  have k5 : w1.cell? ⟨w.heap.size, 5, none⟩ = some (.int .u32 k) := by subst hw1; go_cell
  have k6 : w1.cell? ⟨w.heap.size, 6, none⟩ = some (.slice q 512 cap) := by subst hw1; go_cell
  rw [hw1]
  clear hw1
  go_upto_region 4 with (go_at_call 24; (with_reducible refine (CC.out _ HB1.out).mono ?_); rintro e wa ⟨t, rfl, hr⟩; have HR := Lib.hid hr; have hh := hr.at2; rw [HLL.out] at hh; obtain ⟨pp, cp, rfl, hc1, hc2, hby, -⟩ := hh; clear hr)
  obtain ⟨B, off, rfl, -⟩ := hby 0 (by rw [HLL.out]; omega)
  have HBY := Lib.hid hby
  clear hby
  go_wp2_with (go_at_call 41; (with_reducible refine (RD.out _ _ _ _ HBY.out).mono ?_); rintro e wn ⟨rfl, rfl⟩)
  go_ret2
  exact ⟨rfl, kbT HB1.out HR.out.2⟩
end Go.Proofs.Ythnllhfdbnnjhaa
namespace Go.Proofs.Ythnllhfdbnnjhaa
open Go.RowKit Go.Shelf

set_option maxRecDepth 100000 in
set_option maxHeartbeats 4000000 in
theorem refSame_true (E : Nat) (i p : Int) (cm : Bool) (n : Int) (k : Nat) (bs : List Nat) (hbb : ∀ b ∈ bs, b < 256) (q1 q2 : Option Addr) (c1 c2 : Nat) (w : World) (h1 : BytesAt w q1 bs) (h2 : BytesAt w q2 bs) :
    Calls Try.prog 27 #[frameV E i p cm n k q1 bs.length c1, frameV E i p cm n k q2 bs.length c2] w fun r w' => r = .returned (.bool true) ∧ Below w.heap.size w w' := by
  have CV1 := Lib.hid fun (w' : World) (h : Below w.heap.size w w') => conv_at w' q1 c1 bs hbb (bytesAt_below h1 h)
  have CV2 := Lib.hid fun (w' : World) (h : Below w.heap.size w w') => conv_at w' q2 c2 bs hbb (bytesAt_below h2 h)
  generalize bs.length = L at *
  have hse : ((strOf bs).toList == (strOf bs).toList) = true := by
    rw [str_beq]; exact decide_eq_true rfl
  generalize strOf bs = sb at *
  clear hbb h1 h2
  unfold frameV
  go_enter Try.func27, Try.ntmps27
  go_upto_region 1 with fail
  obtain ⟨w1, hw1⟩ : ∃ w1, (w.alloc (.cells #[.int .u64 E, .int .i64 i, .int .i64 p, .bool cm, .int .i64 n, .int .u32 k, .slice q1 L c1] 51)).alloc (.cells #[.int .u64 E, .int .i64 i, .int .i64 p, .bool cm, .int .i64 n, .int .u32 k, .slice q2 L c2] 51) = w1 := ⟨_, rfl⟩
  have HB1 : Hid (Below w.heap.size w w1) := Lib.hid (by subst hw1; exact ((Below.refl _ _).alloc (Nat.le_refl _) _).alloc (by simp) _)
  have k0 : w1.cell? ⟨w.heap.size, 0, none⟩ = some (.int .u64 E) := by subst hw1; go_cell
  have k1 : w1.cell? ⟨w.heap.size, 1, none⟩ = some (.int .i64 i) := by subst hw1; go_cell
  have k2 : w1.cell? ⟨w.heap.size, 2, none⟩ = some (.int .i64 p) := by subst hw1; go_cell
  have k3 : w1.cell? ⟨w.heap.size, 3, none⟩ = some (.bool cm) := by subst hw1; go_cell
  have k4 : w1.cell? ⟨w.heap.size, 4, none⟩ = some (.int .i64 n) := by subst hw1; go_cell
  have k5 : w1.cell? ⟨w.heap.size, 5, none⟩ = some (.int .u32 k) := by subst hw1; go_cell
  have k6 : w1.cell? ⟨w.heap.size, 6, none⟩ = some (.slice q1 L c1) := by subst hw1; go_cell
  have l0 : w1.cell? ⟨w.heap.size + 1, 0, none⟩ = some (.int .u64 E) := by subst hw1; go_cell
  have l1 : w1.cell? ⟨w.heap.size + 1, 1, none⟩ = some (.int .i64 i) := by subst hw1; go_cell
  have l2 : w1.cell? ⟨w.heap.size + 1, 2, none⟩ = some (.int .i64 p) := by subst hw1; go_cell
  have l3 : w1.cell? ⟨w.heap.size + 1, 3, none⟩ = some (.bool cm) := by subst hw1; go_cell
  have l4 : w1.cell? ⟨w.heap.size + 1, 4, none⟩ = some (.int .i64 n) := by subst hw1; go_cell
  have l5 : w1.cell? ⟨w.heap.size + 1, 5, none⟩ = some (.int .u32 k) := by subst hw1; go_cell
  have l6 : w1.cell? ⟨w.heap.size + 1, 6, none⟩ = some (.slice q2 L c2) := by subst hw1; go_cell
  have cv1 := CV1.out w1 HB1.out
  have cv2 := CV2.out w1 HB1.out
  rw [hw1]
  clear hw1 CV1 CV2
  go_wp2_with fail
  go_ret
  exact ⟨rfl, HB1.out⟩
end Go.Proofs.Ythnllhfdbnnjhaa
namespace Go.Proofs.Ythnllhfdbnnjhaa
open Go.RowKit Go.Shelf

/-- A block of another make is no row of bytes: it is as it was behind an append. -/
theorem keepF {w0 w w' : World} {l : List Nat} {v : Value} {A : Nat} {cs : Array Value} (hr : RowB w0 l v w) (hg : w.heap[A]? = some (.cells cs 51 (0, 0))) (hgr : w.grownBy w' v.ownBlock) : w'.heap[A]? = some (.cells cs 51 (0, 0)) := by
  refine (hgr.block A (Array.getElem?_eq_some_iff.1 hg).1 ?_).trans hg
  rcases hr.1.2 with ⟨rfl, -⟩ | ⟨g, cap, cur, rfl, -, h3, -⟩
  · intro e; cases e
  · intro e
    simp only [Value.ownBlock, Option.some.injEq] at e
    subst e
    rw [hg] at h3
    cases h3
/-- A block of another make is written: the bytes of a row stay. -/
theorem keepA7 {w0 w : World} {l : List Nat} {p : Option Addr} {n c A : Nat} {cs cs' : Array Value} (hr : RowB w0 l (.slice p n c) w) (hg : w.heap[A]? = some (.cells cs 51 (0, 0))) (hb : BytesAt w p l) : BytesAt (w.setRow A cs') p l := by
  intro i hi
  obtain ⟨B, off, e, hc⟩ := hb i hi
  refine ⟨B, off, e, ?_⟩
  rw [cell_setRow_other _ _ _ _ ?_]
  · exact hc
  · show B ≠ A
    rintro rfl
    rcases hr.1.2 with ⟨h, -⟩ | ⟨g, cap, cur, h, -, h3, -⟩
    · injection h with h1
      rw [h1] at e
      cases e
    · injection h with h1
      rw [h1] at e
      injection e with e
      injection e with e1
      subst e1
      rw [hg] at h3
      cases h3
/-- The bytes of a row lie in memory of its own. -/
theorem rowB_from {w0 w : World} {l : List Nat} {p : Option Addr} {n c : Nat} (hr : RowB w0 l (.slice p n c) w) : ∀ B off, p = some ⟨B, off, none⟩ → w0.heap.size ≤ B := by
  rintro B off rfl
  rcases hr.1.2 with ⟨h, -⟩ | ⟨g, cap, cur, h, -, h3, -⟩
  · injection h with h1
    cases h1
  · injection h with h1
    injection h1 with h1
    injection h1 with h1
    subst h1
    exact (hr.1.lt B rfl).1
set_option maxRecDepth 100000 in
set_option maxHeartbeats 1000000 in
theorem refDecode_long (l : List Nat) (p : Option Addr) (cap : Nat) (w : World) (hl : l.length ≠ 576) :
    Calls Try.prog 26 #[.slice p l.length cap] w fun r w' => r = .returned (.tuple #[zeroFrame, .int .i64 150]) ∧ Below w.heap.size w w' := by
  generalize l.length = L at *
  have hl2 : (L : Int) ≠ 576 := by omega
  have hl3 : ((L : Int) != 576) = true := by simp [hl2]
  clear hl hl2
  go_enter Try.func26, Try.ntmps26
  go_wp2
  refine bodyPost_ret (v := .tuple #[zeroFrame, .int .i64 150]) ?_ rfl ⟨rfl, ?_⟩
  · simp [results, Try.results26, go_sem, zeroFrame]
  · first | exact (Below.refl _ _).alloc (Nat.le_refl _) _ | exact (((((((((Below.refl _ _).alloc (Nat.le_refl _) _).setCell (by simp) _).setCell (by simp) _).setCell (by simp) _).setCell (by simp) _).setCell (by simp) _).setCell (by simp) _).setCell (by simp) _)
set_option maxRecDepth 100000 in
set_option maxHeartbeats 8000000 in
theorem refDecode_no (l : List Nat) (p : Option Addr) (cap : Nat) (w : World) (hl : l.length = 576) (hcap : 576 ≤ cap) (hc0 : cap ≤ 9223372036854775807) (hb : ∀ b ∈ l, b < 256) (hc : BytesAt w p l) (hh : frameOk (fI l) (fP l) (fM l) (fN l) 512 = false) :
    Calls Try.prog 26 #[.slice p 576 cap] w fun r w' => r = .returned (.tuple #[zeroFrame, .int .i64 150]) ∧ Below w.heap.size w w' := by
  obtain ⟨B, off, rfl, hcs⟩ := bytesAt_lt hc (fun h => by subst h; simp at hl)
  have R0 := Lib.hid fun (w' : World) (hb' : Below w.heap.size w w') => readAt_any l 8 0 (by omega) (by omega) B off cap w' (by omega) hb (bytesAt_below hc hb')
  have R1 := Lib.hid fun (w' : World) (hb' : Below w.heap.size w w') => readAt_any l 4 8 (by omega) (by omega) B off cap w' (by omega) hb (bytesAt_below hc hb')
  have R2 := Lib.hid fun (w' : World) (hb' : Below w.heap.size w w') => readAt_any l 4 12 (by omega) (by omega) B off cap w' (by omega) hb (bytesAt_below hc hb')
  have R3 := Lib.hid fun (w' : World) (hb' : Below w.heap.size w w') => readAt_any l 4 17 (by omega) (by omega) B off cap w' (by omega) hb (bytesAt_below hc hb')
  have R4 := Lib.hid fun (w' : World) (hb' : Below w.heap.size w w') => readAt_any l 4 21 (by omega) (by omega) B off cap w' (by omega) hb (bytesAt_below hc hb')
  have CV := Lib.hid fun (w' : World) (hb' : Below w.heap.size w w') => conv_at w' (some ⟨B, off, none⟩) cap l hb (bytesAt_below hc hb')
  rw [hl] at R0 R1 R2 R3 R4 CV
  simp only [Nat.reduceSub, Nat.add_zero, Nat.sub_zero, List.drop_zero] at R0 R1 R2 R3 R4
  change Hid (∀ w', Below w.heap.size w w' → Calls Try.prog 41 #[.slice (some ⟨B, off, none⟩) 576 cap, .int .i64 8] w' fun r w2 => r = .returned (.tuple #[.int .u64 (fE l : Nat), .int .i64 0]) ∧ w' = w2) at R0
  change Hid (∀ w', Below w.heap.size w w' → Calls Try.prog 41 #[.slice (some ⟨B, off + 8, none⟩) 568 (cap - 8), .int .i64 4] w' fun r w2 => r = .returned (.tuple #[.int .u64 (fI l : Nat), .int .i64 0]) ∧ w' = w2) at R1
  change Hid (∀ w', Below w.heap.size w w' → Calls Try.prog 41 #[.slice (some ⟨B, off + 12, none⟩) 564 (cap - 12), .int .i64 4] w' fun r w2 => r = .returned (.tuple #[.int .u64 (fP l : Nat), .int .i64 0]) ∧ w' = w2) at R2
  change Hid (∀ w', Below w.heap.size w w' → Calls Try.prog 41 #[.slice (some ⟨B, off + 17, none⟩) 559 (cap - 17), .int .i64 4] w' fun r w2 => r = .returned (.tuple #[.int .u64 (fN l : Nat), .int .i64 0]) ∧ w' = w2) at R3
  change Hid (∀ w', Below w.heap.size w w' → Calls Try.prog 41 #[.slice (some ⟨B, off + 21, none⟩) 555 (cap - 21), .int .i64 4] w' fun r w2 => r = .returned (.tuple #[.int .u64 (fK l : Nat), .int .i64 0]) ∧ w' = w2) at R4
  have y1 := foldN_lt' (k := 4) (fun b h => hb b (List.mem_of_mem_drop h)) (l := l.drop 8)
  change fI l < 256 ^ 4 at y1
  have y2 := foldN_lt' (k := 4) (fun b h => hb b (List.mem_of_mem_drop h)) (l := l.drop 12)
  change fP l < 256 ^ 4 at y2
  have y3 := foldN_lt' (k := 4) (fun b h => hb b (List.mem_of_mem_drop h)) (l := l.drop 17)
  change fN l < 256 ^ 4 at y3
  have y4 := foldN_lt' (k := 4) (fun b h => hb b (List.mem_of_mem_drop h)) (l := l.drop 21)
  change fK l < 256 ^ 4 at y4
  simp only [Nat.reducePow] at y1 y2 y3 y4
  have hdrop := bytesAt_from hc 64
  rw [show (some (⟨B, off, none⟩ : Addr)).map (fun x => x.add 64) = some ⟨B, off + 64, none⟩ from congrArg some (addr_plain B off 64)] at hdrop
  have HDB0 := Lib.hid hdrop
  have HDL : Hid ((l.drop 64).length = 512) := Lib.hid (by rw [List.length_drop]; omega)
  have HD0 : Hid (([] : List Nat).length + (l.drop 64).length ≤ 100000) := Lib.hid (by rw [List.length_drop, List.length_nil]; omega)
  have HDD := Lib.hid fun b (h : b ∈ l.drop 64) => hb b (List.mem_of_mem_drop h)
  have HCC := Lib.hid (hcs 16 (by omega))
  have hxm : fM l = decide (l.getD 16 0 = 1) := rfl
  have C24 := Lib.hid fun q c => refEncode_no (fE l) (fI l) (fP l) (fM l) (fN l) (fK l) q 512 c hh
  simp only [frameV] at C24
  clear hh
  generalize fE l = x0 at *
  generalize fI l = x1 at *
  generalize fP l = x2 at *
  generalize fM l = xm at *
  generalize fN l = x4 at *
  generalize fK l = x5 at *
  generalize l.drop 64 = dd at *
  generalize l.getD 16 0 = b16 at *
  have HXM : Hid (((b16 : Int) == 1) = xm) := Lib.hid (by rw [hxm]; rw [Bool.eq_iff_iff]; simp; omega)
  have u1 : IntKind.i64.wrap (x1 : Int) = (x1 : Int) := wrap_small (by omega) (by omega)
  have u2 : IntKind.i64.wrap (x2 : Int) = (x2 : Int) := wrap_small (by omega) (by omega)
  have u4 : IntKind.i64.wrap (x4 : Int) = (x4 : Int) := wrap_small (by omega) (by omega)
  have u5 : IntKind.u32.wrap (x5 : Int) = (x5 : Int) := by rw [wrap_u32]; omega
  have n8 : ¬ cap = 8 := by omega
  have n12 : ¬ cap = 12 := by omega
  have n17 : ¬ cap = 17 := by omega
  have n21 : ¬ cap = 21 := by omega
  have n64 : ¬ cap = 64 := by omega
  clear hcs hb hc hl hxm hdrop y1 y2 y3 y4
  go_enter Try.func26, Try.ntmps26
  go_upto_region 3 with fail
  obtain ⟨w0, hw0⟩ : ∃ w0, w.alloc (.cells #[.int .u64 0, .int .i64 0, .int .i64 0, .bool false, .int .i64 0, .int .u32 0, .slice none 0 0] 51) = w0 := ⟨_, rfl⟩
  have HB0 : Hid (Below w.heap.size w w0) := Lib.hid (by subst hw0; exact (Below.refl _ _).alloc (Nat.le_refl _) _)
  have HG0 : Hid (w0.heap[w.heap.size]? = some (.cells #[.int .u64 0, .int .i64 0, .int .i64 0, .bool false, .int .i64 0, .int .u32 0, .slice none 0 0] 51 (0, 0))) := Lib.hid (by subst hw0; exact heap_alloc_last w _)
  have HS0 : Hid (w.heap.size < w0.heap.size) := Lib.hid (by subst hw0; simp)
  rw [hw0]
  clear hw0
  go_upto_region 8 with (first
    | (go_at_call 41; (with_reducible refine (R0.out _ HB0.out).mono ?_); rintro e wn ⟨rfl, rfl⟩)
    | (go_at_call 41; (with_reducible refine (R1.out _ HB0.out).mono ?_); rintro e wn ⟨rfl, rfl⟩)
    | (go_at_call 41; (with_reducible refine (R2.out _ HB0.out).mono ?_); rintro e wn ⟨rfl, rfl⟩)
    | (go_at_call 41; (with_reducible refine (R3.out _ HB0.out).mono ?_); rintro e wn ⟨rfl, rfl⟩)
    | (go_at_call 41; (with_reducible refine (R4.out _ HB0.out).mono ?_); rintro e wn ⟨rfl, rfl⟩))
  have HDB := Lib.hid (bytesAt_below HDB0.out HB0.out)
  have HC16 : Hid (∀ w', Below w0.heap.size w0 w' → w'.cell? ⟨B, off + 16, none⟩ = some (.int .u8 b16)) := Lib.hid fun w' h => ((kbT HB0.out h).cell (lt_of_cell_some HCC.out)).trans HCC.out
  go_cut [14] from 50 to 67 (fun s14 wx => ∃ A q c, s14 = .pointer (some ⟨A, 0, none⟩) ∧ wx.heap[A]? = some (.cells #[.int .u64 x0, .int .i64 x1, .int .i64 x2, .bool xm, .int .i64 x4, .int .u32 x5, .slice q 512 c] 51 (0, 0)) ∧ Hid (BytesAt wx q dd) ∧ (q = none → c = 0) ∧ (512 ≤ c ∧ c ≤ maxLen) ∧ (∀ B off, q = some ⟨B, off, none⟩ → w0.heap.size ≤ B) ∧ Hid (Below w0.heap.size w0 wx))
  case first =>
    refine wp_region_held_drew (S := fun w' => Below w0.heap.size w0 w') (by kernel_rfl) ((Below.refl _ _).drew) (fun H0 => ?_)
    obtain ⟨wd, hwd⟩ : ∃ wd, w0.drew = wd := ⟨_, rfl⟩
    rw [hwd] at H0 ⊢
    clear hwd
    refine wpAnyH_take (i := 0) (oi := { dst := some 50, op := Go.Op.move (Go.Operand.tmp 4), type := 36, pos := "ref.go:87", after := #[], guard := none }) (v := ?_) rfl (by kernel_rfl) (by kernel_rfl) (by kernel_rfl) (fun _ _ _ h => h) (Or.inl ⟨by rfl, ?_⟩) H0 ?_
    rotate_left
    focus (intro w' hSw; (try dsimp only at hSw); go_simp; (try with_reducible rfl))
    simp only [Act.put, List.setIfInBounds_toArray, List.set_cons_zero, List.set_cons_succ]
    refine wpAnyH_take (i := 1) (oi := { dst := some 51, op := Go.Op.move (Go.Operand.tmp 6), type := 36, pos := "ref.go:87", after := #[], guard := none }) (v := ?_) rfl (by kernel_rfl) (by kernel_rfl) (by kernel_rfl) (fun _ _ _ h => h) (Or.inl ⟨by rfl, ?_⟩) H0 ?_
    rotate_left
    focus (intro w' hSw; (try dsimp only at hSw); go_simp; (try with_reducible rfl))
    simp only [Act.put, List.setIfInBounds_toArray, List.set_cons_zero, List.set_cons_succ]
    refine wpAnyH_take (i := 2) (oi := { dst := some 52, op := Go.Op.convert 36 3 (Go.Operand.tmp 51), type := 3, pos := "ref.go:87", after := #[{ on := 1, ground := Go.Ground.data }], guard := none }) (v := ?_) rfl (by kernel_rfl) (by kernel_rfl) (by kernel_rfl) (fun _ _ _ h => h) (Or.inl ⟨by rfl, ?_⟩) H0 ?_
    rotate_left
    focus (intro w' hSw; (try dsimp only at hSw); go_simp; (try with_reducible rfl))
    simp only [Act.put, List.setIfInBounds_toArray, List.set_cons_zero, List.set_cons_succ]
    refine wpAnyH_take (i := 3) (oi := { dst := some 53, op := Go.Op.move (Go.Operand.tmp 8), type := 36, pos := "ref.go:87", after := #[], guard := none }) (v := ?_) rfl (by kernel_rfl) (by kernel_rfl) (by kernel_rfl) (fun _ _ _ h => h) (Or.inl ⟨by rfl, ?_⟩) H0 ?_
    rotate_left
    focus (intro w' hSw; (try dsimp only at hSw); go_simp; (try with_reducible rfl))
    simp only [Act.put, List.setIfInBounds_toArray, List.set_cons_zero, List.set_cons_succ]
    refine wpAnyH_take (i := 4) (oi := { dst := some 54, op := Go.Op.convert 36 3 (Go.Operand.tmp 53), type := 3, pos := "ref.go:87", after := #[{ on := 3, ground := Go.Ground.data }], guard := none }) (v := ?_) rfl (by kernel_rfl) (by kernel_rfl) (by kernel_rfl) (fun _ _ _ h => h) (Or.inl ⟨by rfl, ?_⟩) H0 ?_
    rotate_left
    focus (intro w' hSw; (try dsimp only at hSw); go_simp; (try with_reducible rfl))
    simp only [Act.put, List.setIfInBounds_toArray, List.set_cons_zero, List.set_cons_succ]
    refine wpAnyH_take (i := 5) (oi := { dst := some 55, op := Go.Op.move (Go.Operand.tmp 0), type := 39, pos := "ref.go:87", after := #[], guard := none }) (v := ?_) rfl (by kernel_rfl) (by kernel_rfl) (by kernel_rfl) (fun _ _ _ h => h) (Or.inl ⟨by rfl, ?_⟩) H0 ?_
    rotate_left
    focus (intro w' hSw; (try dsimp only at hSw); go_simp; (try with_reducible rfl))
    simp only [Act.put, List.setIfInBounds_toArray, List.set_cons_zero, List.set_cons_succ]
    refine wpAnyH_take (i := 6) (oi := { dst := some 56, op := Go.Op.indexAddr 39 (Go.Operand.tmp 55) (Go.Operand.const (Go.Value.int Go.IntKind.i64 16)), type := 0, pos := "ref.go:87", after := #[{ on := 5, ground := Go.Ground.data }], guard := none }) (v := ?_) rfl (by kernel_rfl) (by kernel_rfl) (by kernel_rfl) (fun _ _ _ h => h) (Or.inl ⟨by rfl, ?_⟩) H0 ?_
    rotate_left
    focus (intro w' hSw; (try dsimp only at hSw); go_simp; (try with_reducible rfl))
    simp only [Act.put, List.setIfInBounds_toArray, List.set_cons_zero, List.set_cons_succ]
    refine wpAnyH_take (i := 7) (oi := { dst := some 57, op := Go.Op.load 5 (Go.Operand.tmp 56), type := 5, pos := "ref.go:87", after := #[{ on := 6, ground := Go.Ground.data }], guard := none }) (v := ?_) rfl (by kernel_rfl) (by kernel_rfl) (by kernel_rfl) (fun _ _ _ h => h) (Or.inl ⟨by rfl, ?_⟩) H0 ?_
    rotate_left
    focus (intro w' hSw; (try dsimp only at hSw); have hc16 := HC16.out _ hSw; go_simp; (try with_reducible rfl))
    simp only [Act.put, List.setIfInBounds_toArray, List.set_cons_zero, List.set_cons_succ]
    refine wpAnyH_take (i := 8) (oi := { dst := some 58, op := Go.Op.binOp Go.BinOp.eql 5 (Go.Operand.tmp 57) (Go.Operand.const (Go.Value.int Go.IntKind.u8 1)) 5, type := 4, pos := "ref.go:87", after := #[{ on := 7, ground := Go.Ground.data }], guard := none }) (v := ?_) rfl (by kernel_rfl) (by kernel_rfl) (by kernel_rfl) (fun _ _ _ h => h) (Or.inl ⟨by rfl, ?_⟩) H0 ?_
    rotate_left
    focus (intro w' hSw; (try dsimp only at hSw); go_simp; (try with_reducible rfl))
    simp only [Act.put, List.setIfInBounds_toArray, List.set_cons_zero, List.set_cons_succ]
    rw [HXM.out]
    refine wpAnyH_take (i := 9) (oi := { dst := some 59, op := Go.Op.move (Go.Operand.tmp 10), type := 36, pos := "ref.go:87", after := #[], guard := none }) (v := ?_) rfl (by kernel_rfl) (by kernel_rfl) (by kernel_rfl) (fun _ _ _ h => h) (Or.inl ⟨by rfl, ?_⟩) H0 ?_
    rotate_left
    focus (intro w' hSw; (try dsimp only at hSw); go_simp; (try with_reducible rfl))
    simp only [Act.put, List.setIfInBounds_toArray, List.set_cons_zero, List.set_cons_succ]
    refine wpAnyH_take (i := 10) (oi := { dst := some 60, op := Go.Op.convert 36 3 (Go.Operand.tmp 59), type := 3, pos := "ref.go:87", after := #[{ on := 9, ground := Go.Ground.data }], guard := none }) (v := ?_) rfl (by kernel_rfl) (by kernel_rfl) (by kernel_rfl) (fun _ _ _ h => h) (Or.inl ⟨by rfl, ?_⟩) H0 ?_
    rotate_left
    focus (intro w' hSw; (try dsimp only at hSw); go_simp; (try with_reducible rfl))
    simp only [Act.put, List.setIfInBounds_toArray, List.set_cons_zero, List.set_cons_succ]
    refine wpAnyH_take (i := 11) (oi := { dst := some 61, op := Go.Op.move (Go.Operand.tmp 12), type := 36, pos := "ref.go:87", after := #[], guard := none }) (v := ?_) rfl (by kernel_rfl) (by kernel_rfl) (by kernel_rfl) (fun _ _ _ h => h) (Or.inl ⟨by rfl, ?_⟩) H0 ?_
    rotate_left
    focus (intro w' hSw; (try dsimp only at hSw); go_simp; (try with_reducible rfl))
    simp only [Act.put, List.setIfInBounds_toArray, List.set_cons_zero, List.set_cons_succ]
    refine wpAnyH_take (i := 12) (oi := { dst := some 62, op := Go.Op.convert 36 49 (Go.Operand.tmp 61), type := 49, pos := "ref.go:87", after := #[{ on := 11, ground := Go.Ground.data }], guard := none }) (v := ?_) rfl (by kernel_rfl) (by kernel_rfl) (by kernel_rfl) (fun _ _ _ h => h) (Or.inl ⟨by rfl, ?_⟩) H0 ?_
    rotate_left
    focus (intro w' hSw; (try dsimp only at hSw); go_simp; (try with_reducible rfl))
    simp only [Act.put, List.setIfInBounds_toArray, List.set_cons_zero, List.set_cons_succ]
    refine wpAnyH_take (i := 14) (oi := { dst := some 64, op := Go.Op.move (Go.Operand.tmp 0), type := 39, pos := "ref.go:87", after := #[], guard := none }) (v := ?_) rfl (by kernel_rfl) (by kernel_rfl) (by kernel_rfl) (fun _ _ _ h => h) (Or.inl ⟨by rfl, ?_⟩) H0 ?_
    rotate_left
    focus (intro w' hSw; (try dsimp only at hSw); go_simp; (try with_reducible rfl))
    simp only [Act.put, List.setIfInBounds_toArray, List.set_cons_zero, List.set_cons_succ]
    refine wpAnyH_take (i := 15) (oi := { dst := some 65, op := Go.Op.slice 39 (Go.Operand.tmp 64) (some (Go.Operand.const (Go.Value.int Go.IntKind.i64 64))) none none, type := 39, pos := "ref.go:87", after := #[{ on := 14, ground := Go.Ground.data }], guard := none }) (v := ?_) rfl (by kernel_rfl) (by kernel_rfl) (by kernel_rfl) (fun _ _ _ h => h) (Or.inl ⟨by rfl, ?_⟩) H0 ?_
    rotate_left
    focus (intro w' hSw; (try dsimp only at hSw); go_simp; (try with_reducible rfl))
    simp only [Act.put, List.setIfInBounds_toArray, List.set_cons_zero, List.set_cons_succ]
    refine wpAnyH_ready (rs := [13, 18]) (by kernel_rfl) (by simp) ?_
    refine (AllReadyH.cons (o := { dst := some 63, op := Go.Op.buildSlice 39 0 #[], type := 39, pos := "ref.go:87", after := #[], guard := none }) rfl (fun K hK => ?_) (AllReadyH.cons (o := { dst := some 14, op := Go.Op.alloc 51, type := 0, pos := "ref.go:87", after := #[], guard := none }) rfl (fun K hK => ?_) AllReadyH.nil))
    · skip
      go_simp
      have hr3 := rowB_empty wd
      obtain ⟨wm1, hwm1⟩ : ∃ wz, wd.alloc (.cells #[] 5) = wz := ⟨_, rfl⟩
      rw [hwm1] at hr3 ⊢
      refine hK.out _ _ (kbT H0 hr3.2) (fun Hm2 => ?_)
      clear hwm1
      clear hK K
      try simp only [Act.put, List.setIfInBounds_toArray, List.set_cons_zero, List.set_cons_succ]
      refine wpAnyH_ready (rs := [16, 18]) (by kernel_rfl) (by simp) ?_
      refine (AllReadyH.cons (o := { dst := some 66, op := Go.Op.call { callee := Go.Callee.builtin Go.Builtin.append, args := #[Go.Operand.tmp 63, Go.Operand.tmp 65], argTypes := #[39, 39] }, type := 39, pos := "ref.go:87", after := #[{ on := 13, ground := Go.Ground.data }, { on := 15, ground := Go.Ground.data }], guard := none }) rfl (fun K hK => ?_) (AllReadyH.cons (o := { dst := some 14, op := Go.Op.alloc 51, type := 0, pos := "ref.go:87", after := #[], guard := none }) rfl (fun K hK => ?_) AllReadyH.nil))
      · skip
        refine step_append_bytes rfl (.tmp 63) (.tmp 65) rfl rfl hr3 HDL.out rfl (fun h => nomatch h) (bytesAt_below HDB.out Hm2) HD0.out ?_
        intro v8 wm4 hr6 hgr7
        rw [List.nil_append] at hr6
        refine hK.out _ _ (kbT H0 hr6.2) (fun Hm5 => ?_)
        have hh15 := hr6.at2
        rw [HDL.out] at hh15
        obtain ⟨pq9, cq10, rfl, hcp11, hcm12, hby13, hnn14⟩ := hh15
        have hfr16 : ∀ B off, pq9 = some ⟨B, off, none⟩ → w0.heap.size ≤ B := fun B off h => Nat.le_trans H0.size (rowB_from hr6 B off h)
        clear hK K
        try simp only [Act.put, List.setIfInBounds_toArray, List.set_cons_zero, List.set_cons_succ]
        refine wpAnyH_take (i := 17) (oi := { dst := some 67, op := Go.Op.build 51 #[(0, Go.Operand.tmp 50), (1, Go.Operand.tmp 52), (2, Go.Operand.tmp 54), (3, Go.Operand.tmp 58), (4, Go.Operand.tmp 60), (5, Go.Operand.tmp 62), (6, Go.Operand.tmp 66)], type := 51, pos := "ref.go:87", after := #[{ on := 0, ground := Go.Ground.data }, { on := 2, ground := Go.Ground.data }, { on := 4, ground := Go.Ground.data }, { on := 8, ground := Go.Ground.data }, { on := 10, ground := Go.Ground.data }, { on := 12, ground := Go.Ground.data }, { on := 16, ground := Go.Ground.data }], guard := none }) (v := ?_) rfl (by kernel_rfl) (by kernel_rfl) (by kernel_rfl) (fun _ _ _ h => h) (Or.inl ⟨by rfl, ?_⟩) Hm5 ?_
        rotate_left
        focus (intro w' hSw; (try dsimp only at hSw); go_simp; (try with_reducible rfl))
        simp only [Act.put, List.setIfInBounds_toArray, List.set_cons_zero, List.set_cons_succ]
        refine wpAnyH_ready (rs := [18]) (by kernel_rfl) (by simp) ?_
        refine (AllReadyH.cons (o := { dst := some 14, op := Go.Op.alloc 51, type := 0, pos := "ref.go:87", after := #[], guard := none }) rfl (fun K hK => ?_) AllReadyH.nil)
        · skip
          go_simp
          obtain ⟨wm17, hwm17⟩ : ∃ wz, wm4.alloc (.cells #[.int .u64 0, .int .i64 0, .int .i64 0, .bool false, .int .i64 0, .int .u32 0, .slice none 0 0] 51) = wz := ⟨_, rfl⟩
          have hg19 : wm17.heap[wm4.heap.size]? = some (.cells #[.int .u64 0, .int .i64 0, .int .i64 0, .bool false, .int .i64 0, .int .u32 0, .slice none 0 0] 51 (0, 0)) := by rw [← hwm17]; exact heap_alloc_last wm4 _
          have hb20 : Below wm4.heap.size wm4 wm17 := by rw [← hwm17]; exact (Below.refl _ _).alloc (Nat.le_refl _) _
          have hA21 : w0.heap.size ≤ wm4.heap.size := Hm5.size
          rw [hwm17]
          have hr22 := hr6.later hb20
          have hby23 := bytesAt_below hby13 hb20
          refine hK.out _ _ (kbT Hm5 hb20) (fun Hm18 => ?_)
          clear hwm17
          clear hK K
          try simp only [Act.put, List.setIfInBounds_toArray, List.set_cons_zero, List.set_cons_succ]
          refine wpAnyH_ready (rs := [19]) (by kernel_rfl) (by simp) ?_
          refine (AllReadyH.cons (o := { dst := none, op := Go.Op.store 51 (Go.Operand.tmp 14) (Go.Operand.tmp 67), type := 0, pos := "ref.go:87", after := #[{ on := 18, ground := Go.Ground.data }, { on := 17, ground := Go.Ground.data }, { on := 16, ground := Go.Ground.chain }, { on := 0, ground := Go.Ground.phase }, { on := 1, ground := Go.Ground.phase }, { on := 2, ground := Go.Ground.phase }, { on := 3, ground := Go.Ground.phase }, { on := 4, ground := Go.Ground.phase }, { on := 5, ground := Go.Ground.phase }, { on := 6, ground := Go.Ground.phase }, { on := 7, ground := Go.Ground.phase }, { on := 8, ground := Go.Ground.phase }, { on := 9, ground := Go.Ground.phase }, { on := 10, ground := Go.Ground.phase }, { on := 11, ground := Go.Ground.phase }, { on := 12, ground := Go.Ground.phase }, { on := 13, ground := Go.Ground.phase }, { on := 14, ground := Go.Ground.phase }, { on := 15, ground := Go.Ground.phase }, { on := 16, ground := Go.Ground.phase }, { on := 17, ground := Go.Ground.phase }, { on := 18, ground := Go.Ground.phase }], guard := none }) rfl (fun K hK => ?_) AllReadyH.nil)
          · skip
            refine step_store_row rfl 51 (.tmp 14) (.tmp 67) rfl wm4.heap.size #[.int .u64 x0, .int .i64 x1, .int .i64 x2, .bool xm, .int .i64 x4, .int .u32 x5, .slice pq9 512 cq10] rfl rfl 51 #[.int .u64 0, .int .i64 0, .int .i64 0, .bool false, .int .i64 0, .int .u32 0, .slice none 0 0] hg19 rfl rfl (by simp [Value.oneCell']) ?_
            have hgz26 := setRow_heap wm17 wm4.heap.size #[.int .u64 0, .int .i64 0, .int .i64 0, .bool false, .int .i64 0, .int .u32 0, .slice none 0 0] #[.int .u64 x0, .int .i64 x1, .int .i64 x2, .bool xm, .int .i64 x4, .int .u32 x5, .slice pq9 512 cq10] 51 (0, 0) hg19
            have hbz27 := keepA7 (cs' := #[.int .u64 x0, .int .i64 x1, .int .i64 x2, .bool xm, .int .i64 x4, .int .u32 x5, .slice pq9 512 cq10]) hr22 hg19 hby23
            obtain ⟨wm24, hwm24⟩ : ∃ wz, wm17.setRow wm4.heap.size #[.int .u64 x0, .int .i64 x1, .int .i64 x2, .bool xm, .int .i64 x4, .int .u32 x5, .slice pq9 512 cq10] = wz := ⟨_, rfl⟩
            have hsz := below_setRow Hm18 hA21 #[.int .u64 x0, .int .i64 x1, .int .i64 x2, .bool xm, .int .i64 x4, .int .u32 x5, .slice pq9 512 cq10]
            rw [hwm24] at hgz26 hbz27 hsz ⊢
            refine hK.out _ _ hsz (fun Hm25 => ?_)
            clear hwm24 hsz
            clear hK K
            try simp only [Act.put, List.setIfInBounds_toArray, List.set_cons_zero, List.set_cons_succ]
            refine wpAnyH_done (by kernel_rfl) ?_ _
            go_wp2_with fail
            go_meet
            exact ⟨wm4.heap.size, _, _, rfl, hgz26, Lib.hid hbz27, hnn14, ⟨hcp11, hcm12⟩, hfr16, Lib.hid Hm25⟩
      · skip
        go_simp
        obtain ⟨wm28, hwm28⟩ : ∃ wz, wm1.alloc (.cells #[.int .u64 0, .int .i64 0, .int .i64 0, .bool false, .int .i64 0, .int .u32 0, .slice none 0 0] 51) = wz := ⟨_, rfl⟩
        have hg30 : wm28.heap[wm1.heap.size]? = some (.cells #[.int .u64 0, .int .i64 0, .int .i64 0, .bool false, .int .i64 0, .int .u32 0, .slice none 0 0] 51 (0, 0)) := by rw [← hwm28]; exact heap_alloc_last wm1 _
        have hb31 : Below wm1.heap.size wm1 wm28 := by rw [← hwm28]; exact (Below.refl _ _).alloc (Nat.le_refl _) _
        have hA32 : w0.heap.size ≤ wm1.heap.size := Hm2.size
        rw [hwm28]
        have hr33 := hr3.later hb31
        refine hK.out _ _ (kbT Hm2 hb31) (fun Hm29 => ?_)
        clear hwm28
        clear hK K
        try simp only [Act.put, List.setIfInBounds_toArray, List.set_cons_zero, List.set_cons_succ]
        refine wpAnyH_ready (rs := [16]) (by kernel_rfl) (by simp) ?_
        refine (AllReadyH.cons (o := { dst := some 66, op := Go.Op.call { callee := Go.Callee.builtin Go.Builtin.append, args := #[Go.Operand.tmp 63, Go.Operand.tmp 65], argTypes := #[39, 39] }, type := 39, pos := "ref.go:87", after := #[{ on := 13, ground := Go.Ground.data }, { on := 15, ground := Go.Ground.data }], guard := none }) rfl (fun K hK => ?_) AllReadyH.nil)
        · skip
          refine step_append_bytes rfl (.tmp 63) (.tmp 65) rfl rfl hr33 HDL.out rfl (fun h => nomatch h) (bytesAt_below HDB.out Hm29) HD0.out ?_
          intro v38 wm34 hr36 hgr37
          have hg39 := keepF hr33 hg30 hgr37
          rw [List.nil_append] at hr36
          refine hK.out _ _ (kbT H0 hr36.2) (fun Hm35 => ?_)
          have hh46 := hr36.at2
          rw [HDL.out] at hh46
          obtain ⟨pq40, cq41, rfl, hcp42, hcm43, hby44, hnn45⟩ := hh46
          have hfr47 : ∀ B off, pq40 = some ⟨B, off, none⟩ → w0.heap.size ≤ B := fun B off h => Nat.le_trans H0.size (rowB_from hr36 B off h)
          clear hK K
          try simp only [Act.put, List.setIfInBounds_toArray, List.set_cons_zero, List.set_cons_succ]
          refine wpAnyH_take (i := 17) (oi := { dst := some 67, op := Go.Op.build 51 #[(0, Go.Operand.tmp 50), (1, Go.Operand.tmp 52), (2, Go.Operand.tmp 54), (3, Go.Operand.tmp 58), (4, Go.Operand.tmp 60), (5, Go.Operand.tmp 62), (6, Go.Operand.tmp 66)], type := 51, pos := "ref.go:87", after := #[{ on := 0, ground := Go.Ground.data }, { on := 2, ground := Go.Ground.data }, { on := 4, ground := Go.Ground.data }, { on := 8, ground := Go.Ground.data }, { on := 10, ground := Go.Ground.data }, { on := 12, ground := Go.Ground.data }, { on := 16, ground := Go.Ground.data }], guard := none }) (v := ?_) rfl (by kernel_rfl) (by kernel_rfl) (by kernel_rfl) (fun _ _ _ h => h) (Or.inl ⟨by rfl, ?_⟩) Hm35 ?_
          rotate_left
          focus (intro w' hSw; (try dsimp only at hSw); go_simp; (try with_reducible rfl))
          simp only [Act.put, List.setIfInBounds_toArray, List.set_cons_zero, List.set_cons_succ]
          refine wpAnyH_ready (rs := [19]) (by kernel_rfl) (by simp) ?_
          refine (AllReadyH.cons (o := { dst := none, op := Go.Op.store 51 (Go.Operand.tmp 14) (Go.Operand.tmp 67), type := 0, pos := "ref.go:87", after := #[{ on := 18, ground := Go.Ground.data }, { on := 17, ground := Go.Ground.data }, { on := 16, ground := Go.Ground.chain }, { on := 0, ground := Go.Ground.phase }, { on := 1, ground := Go.Ground.phase }, { on := 2, ground := Go.Ground.phase }, { on := 3, ground := Go.Ground.phase }, { on := 4, ground := Go.Ground.phase }, { on := 5, ground := Go.Ground.phase }, { on := 6, ground := Go.Ground.phase }, { on := 7, ground := Go.Ground.phase }, { on := 8, ground := Go.Ground.phase }, { on := 9, ground := Go.Ground.phase }, { on := 10, ground := Go.Ground.phase }, { on := 11, ground := Go.Ground.phase }, { on := 12, ground := Go.Ground.phase }, { on := 13, ground := Go.Ground.phase }, { on := 14, ground := Go.Ground.phase }, { on := 15, ground := Go.Ground.phase }, { on := 16, ground := Go.Ground.phase }, { on := 17, ground := Go.Ground.phase }, { on := 18, ground := Go.Ground.phase }], guard := none }) rfl (fun K hK => ?_) AllReadyH.nil)
          · skip
            refine step_store_row rfl 51 (.tmp 14) (.tmp 67) rfl wm1.heap.size #[.int .u64 x0, .int .i64 x1, .int .i64 x2, .bool xm, .int .i64 x4, .int .u32 x5, .slice pq40 512 cq41] rfl rfl 51 #[.int .u64 0, .int .i64 0, .int .i64 0, .bool false, .int .i64 0, .int .u32 0, .slice none 0 0] hg39 rfl rfl (by simp [Value.oneCell']) ?_
            have hgz50 := setRow_heap wm34 wm1.heap.size #[.int .u64 0, .int .i64 0, .int .i64 0, .bool false, .int .i64 0, .int .u32 0, .slice none 0 0] #[.int .u64 x0, .int .i64 x1, .int .i64 x2, .bool xm, .int .i64 x4, .int .u32 x5, .slice pq40 512 cq41] 51 (0, 0) hg39
            have hbz51 := keepA7 (cs' := #[.int .u64 x0, .int .i64 x1, .int .i64 x2, .bool xm, .int .i64 x4, .int .u32 x5, .slice pq40 512 cq41]) hr36 hg39 hby44
            obtain ⟨wm48, hwm48⟩ : ∃ wz, wm34.setRow wm1.heap.size #[.int .u64 x0, .int .i64 x1, .int .i64 x2, .bool xm, .int .i64 x4, .int .u32 x5, .slice pq40 512 cq41] = wz := ⟨_, rfl⟩
            have hsz := below_setRow Hm35 hA32 #[.int .u64 x0, .int .i64 x1, .int .i64 x2, .bool xm, .int .i64 x4, .int .u32 x5, .slice pq40 512 cq41]
            rw [hwm48] at hgz50 hbz51 hsz ⊢
            refine hK.out _ _ hsz (fun Hm49 => ?_)
            clear hwm48 hsz
            clear hK K
            try simp only [Act.put, List.setIfInBounds_toArray, List.set_cons_zero, List.set_cons_succ]
            refine wpAnyH_done (by kernel_rfl) ?_ _
            go_wp2_with fail
            go_meet
            exact ⟨wm1.heap.size, _, _, rfl, hgz50, Lib.hid hbz51, hnn45, ⟨hcp42, hcm43⟩, hfr47, Lib.hid Hm49⟩
    · skip
      go_simp
      obtain ⟨wm52, hwm52⟩ : ∃ wz, wd.alloc (.cells #[.int .u64 0, .int .i64 0, .int .i64 0, .bool false, .int .i64 0, .int .u32 0, .slice none 0 0] 51) = wz := ⟨_, rfl⟩
      have hg54 : wm52.heap[wd.heap.size]? = some (.cells #[.int .u64 0, .int .i64 0, .int .i64 0, .bool false, .int .i64 0, .int .u32 0, .slice none 0 0] 51 (0, 0)) := by rw [← hwm52]; exact heap_alloc_last wd _
      have hb55 : Below wd.heap.size wd wm52 := by rw [← hwm52]; exact (Below.refl _ _).alloc (Nat.le_refl _) _
      have hA56 : w0.heap.size ≤ wd.heap.size := H0.size
      rw [hwm52]
      refine hK.out _ _ (kbT H0 hb55) (fun Hm53 => ?_)
      clear hwm52
      clear hK K
      try simp only [Act.put, List.setIfInBounds_toArray, List.set_cons_zero, List.set_cons_succ]
      refine wpAnyH_ready (rs := [13]) (by kernel_rfl) (by simp) ?_
      refine (AllReadyH.cons (o := { dst := some 63, op := Go.Op.buildSlice 39 0 #[], type := 39, pos := "ref.go:87", after := #[], guard := none }) rfl (fun K hK => ?_) AllReadyH.nil)
      · skip
        go_simp
        have hr59 := rowB_empty wm52
        obtain ⟨wm57, hwm57⟩ : ∃ wz, wm52.alloc (.cells #[] 5) = wz := ⟨_, rfl⟩
        rw [hwm57] at hr59 ⊢
        have hg60 := (hr59.2.block _ (Array.getElem?_eq_some_iff.1 hg54).1).trans hg54
        refine hK.out _ _ (kbT Hm53 hr59.2) (fun Hm58 => ?_)
        clear hwm57
        clear hK K
        try simp only [Act.put, List.setIfInBounds_toArray, List.set_cons_zero, List.set_cons_succ]
        refine wpAnyH_ready (rs := [16]) (by kernel_rfl) (by simp) ?_
        refine (AllReadyH.cons (o := { dst := some 66, op := Go.Op.call { callee := Go.Callee.builtin Go.Builtin.append, args := #[Go.Operand.tmp 63, Go.Operand.tmp 65], argTypes := #[39, 39] }, type := 39, pos := "ref.go:87", after := #[{ on := 13, ground := Go.Ground.data }, { on := 15, ground := Go.Ground.data }], guard := none }) rfl (fun K hK => ?_) AllReadyH.nil)
        · skip
          refine step_append_bytes rfl (.tmp 63) (.tmp 65) rfl rfl hr59 HDL.out rfl (fun h => nomatch h) (bytesAt_below HDB.out Hm58) HD0.out ?_
          intro v65 wm61 hr63 hgr64
          have hg66 := keepF hr59 hg60 hgr64
          rw [List.nil_append] at hr63
          refine hK.out _ _ (kbT Hm53 hr63.2) (fun Hm62 => ?_)
          have hh73 := hr63.at2
          rw [HDL.out] at hh73
          obtain ⟨pq67, cq68, rfl, hcp69, hcm70, hby71, hnn72⟩ := hh73
          have hfr74 : ∀ B off, pq67 = some ⟨B, off, none⟩ → w0.heap.size ≤ B := fun B off h => Nat.le_trans Hm53.size (rowB_from hr63 B off h)
          clear hK K
          try simp only [Act.put, List.setIfInBounds_toArray, List.set_cons_zero, List.set_cons_succ]
          refine wpAnyH_take (i := 17) (oi := { dst := some 67, op := Go.Op.build 51 #[(0, Go.Operand.tmp 50), (1, Go.Operand.tmp 52), (2, Go.Operand.tmp 54), (3, Go.Operand.tmp 58), (4, Go.Operand.tmp 60), (5, Go.Operand.tmp 62), (6, Go.Operand.tmp 66)], type := 51, pos := "ref.go:87", after := #[{ on := 0, ground := Go.Ground.data }, { on := 2, ground := Go.Ground.data }, { on := 4, ground := Go.Ground.data }, { on := 8, ground := Go.Ground.data }, { on := 10, ground := Go.Ground.data }, { on := 12, ground := Go.Ground.data }, { on := 16, ground := Go.Ground.data }], guard := none }) (v := ?_) rfl (by kernel_rfl) (by kernel_rfl) (by kernel_rfl) (fun _ _ _ h => h) (Or.inl ⟨by rfl, ?_⟩) Hm62 ?_
          rotate_left
          focus (intro w' hSw; (try dsimp only at hSw); go_simp; (try with_reducible rfl))
          simp only [Act.put, List.setIfInBounds_toArray, List.set_cons_zero, List.set_cons_succ]
          refine wpAnyH_ready (rs := [19]) (by kernel_rfl) (by simp) ?_
          refine (AllReadyH.cons (o := { dst := none, op := Go.Op.store 51 (Go.Operand.tmp 14) (Go.Operand.tmp 67), type := 0, pos := "ref.go:87", after := #[{ on := 18, ground := Go.Ground.data }, { on := 17, ground := Go.Ground.data }, { on := 16, ground := Go.Ground.chain }, { on := 0, ground := Go.Ground.phase }, { on := 1, ground := Go.Ground.phase }, { on := 2, ground := Go.Ground.phase }, { on := 3, ground := Go.Ground.phase }, { on := 4, ground := Go.Ground.phase }, { on := 5, ground := Go.Ground.phase }, { on := 6, ground := Go.Ground.phase }, { on := 7, ground := Go.Ground.phase }, { on := 8, ground := Go.Ground.phase }, { on := 9, ground := Go.Ground.phase }, { on := 10, ground := Go.Ground.phase }, { on := 11, ground := Go.Ground.phase }, { on := 12, ground := Go.Ground.phase }, { on := 13, ground := Go.Ground.phase }, { on := 14, ground := Go.Ground.phase }, { on := 15, ground := Go.Ground.phase }, { on := 16, ground := Go.Ground.phase }, { on := 17, ground := Go.Ground.phase }, { on := 18, ground := Go.Ground.phase }], guard := none }) rfl (fun K hK => ?_) AllReadyH.nil)
          · skip
            refine step_store_row rfl 51 (.tmp 14) (.tmp 67) rfl wd.heap.size #[.int .u64 x0, .int .i64 x1, .int .i64 x2, .bool xm, .int .i64 x4, .int .u32 x5, .slice pq67 512 cq68] rfl rfl 51 #[.int .u64 0, .int .i64 0, .int .i64 0, .bool false, .int .i64 0, .int .u32 0, .slice none 0 0] hg66 rfl rfl (by simp [Value.oneCell']) ?_
            have hgz77 := setRow_heap wm61 wd.heap.size #[.int .u64 0, .int .i64 0, .int .i64 0, .bool false, .int .i64 0, .int .u32 0, .slice none 0 0] #[.int .u64 x0, .int .i64 x1, .int .i64 x2, .bool xm, .int .i64 x4, .int .u32 x5, .slice pq67 512 cq68] 51 (0, 0) hg66
            have hbz78 := keepA7 (cs' := #[.int .u64 x0, .int .i64 x1, .int .i64 x2, .bool xm, .int .i64 x4, .int .u32 x5, .slice pq67 512 cq68]) hr63 hg66 hby71
            obtain ⟨wm75, hwm75⟩ : ∃ wz, wm61.setRow wd.heap.size #[.int .u64 x0, .int .i64 x1, .int .i64 x2, .bool xm, .int .i64 x4, .int .u32 x5, .slice pq67 512 cq68] = wz := ⟨_, rfl⟩
            have hsz := below_setRow Hm62 hA56 #[.int .u64 x0, .int .i64 x1, .int .i64 x2, .bool xm, .int .i64 x4, .int .u32 x5, .slice pq67 512 cq68]
            rw [hwm75] at hgz77 hbz78 hsz ⊢
            refine hK.out _ _ hsz (fun Hm76 => ?_)
            clear hwm75 hsz
            clear hK K
            try simp only [Act.put, List.setIfInBounds_toArray, List.set_cons_zero, List.set_cons_succ]
            refine wpAnyH_done (by kernel_rfl) ?_ _
            go_wp2_with fail
            go_meet
            exact ⟨wd.heap.size, _, _, rfl, hgz77, Lib.hid hbz78, hnn72, ⟨hcp69, hcm70⟩, hfr74, Lib.hid Hm76⟩
  case rest =>
    obtain ⟨A, q, c, rfl, hgW, HBY, hqn, hcm, hqf, HW⟩ := hcut
    rename World => wx
    have hAl : A < wx.heap.size := (Array.getElem?_eq_some_iff.1 hgW).1
    have x0c := row_cell (i := 0) hgW rfl; have x1c := row_cell (i := 1) hgW rfl; have x2c := row_cell (i := 2) hgW rfl; have x3c := row_cell (i := 3) hgW rfl; have x4c := row_cell (i := 4) hgW rfl; have x5c := row_cell (i := 5) hgW rfl; have x6c := row_cell (i := 6) hgW rfl
    have HQF := Lib.hid hqf
    have HCM := Lib.hid hcm
    have HQN := Lib.hid hqn
    clear hqf hcm hqn
    go_wp2_with (go_at_call 24; (with_reducible refine (C24.out q c _).mono ?_); rintro e wa ⟨rfl, hb1⟩; have hg2 := ((kbT HW.out hb1).block _ HS0.out).trans HG0.out; have z0 := row_cell (i := 0) hg2 rfl; have y0 := row_frozen (i := 0) hg2; have z1 := row_cell (i := 1) hg2 rfl; have y1 := row_frozen (i := 1) hg2; have z2 := row_cell (i := 2) hg2 rfl; have y2 := row_frozen (i := 2) hg2; have z3 := row_cell (i := 3) hg2 rfl; have y3 := row_frozen (i := 3) hg2; have z4 := row_cell (i := 4) hg2 rfl; have y4 := row_frozen (i := 4) hg2; have z5 := row_cell (i := 5) hg2 rfl; have y5 := row_frozen (i := 5) hg2; have z6 := row_cell (i := 6) hg2 rfl; have y6 := row_frozen (i := 6) hg2; have hgA := (hb1.block _ hAl).trans hgW; have c0 := row_cell (i := 0) hgA rfl; have c1 := row_cell (i := 1) hgA rfl; have c2 := row_cell (i := 2) hgA rfl; have c3 := row_cell (i := 3) hgA rfl; have c4 := row_cell (i := 4) hgA rfl; have c5 := row_cell (i := 5) hgA rfl; have c6 := row_cell (i := 6) hgA rfl; have HBA := Lib.hid (HB0.out.trans ((kbT HW.out hb1).mono (Nat.le_of_lt HS0.out))))
    refine bodyPost_ret (v := .tuple #[zeroFrame, .int .i64 150]) ?_ rfl ⟨rfl, ?_⟩
    · simp [results, Try.results26, go_sem, zeroFrame, z0, z1, z2, z3, z4, z5, z6]
    · exact (((((((HBA.out.setCell (Nat.le_refl _) _).setCell (Nat.le_refl _) _).setCell (Nat.le_refl _) _).setCell (Nat.le_refl _) _).setCell (Nat.le_refl _) _).setCell (Nat.le_refl _) _).setCell (Nat.le_refl _) _)
set_option maxRecDepth 100000 in
set_option maxHeartbeats 8000000 in
theorem refDecode_other (l : List Nat) (p : Option Addr) (cap : Nat) (w : World) (hl : l.length = 576) (hcap : 576 ≤ cap) (hc0 : cap ≤ 9223372036854775807) (hb : ∀ b ∈ l, b < 256) (hc : BytesAt w p l) (hh : frameOk (fI l) (fP l) (fM l) (fN l) 512 = true) (hq : ¬ frameS (fE l) (fI l) (fP l) (fM l) (fN l) (fK l) (l.drop 64) = l.take 64) :
    Calls Try.prog 26 #[.slice p 576 cap] w fun r w' => r = .returned (.tuple #[zeroFrame, .int .i64 150]) ∧ Below w.heap.size w w' := by
  obtain ⟨B, off, rfl, hcs⟩ := bytesAt_lt hc (fun h => by subst h; simp at hl)
  have R0 := Lib.hid fun (w' : World) (hb' : Below w.heap.size w w') => readAt_any l 8 0 (by omega) (by omega) B off cap w' (by omega) hb (bytesAt_below hc hb')
  have R1 := Lib.hid fun (w' : World) (hb' : Below w.heap.size w w') => readAt_any l 4 8 (by omega) (by omega) B off cap w' (by omega) hb (bytesAt_below hc hb')
  have R2 := Lib.hid fun (w' : World) (hb' : Below w.heap.size w w') => readAt_any l 4 12 (by omega) (by omega) B off cap w' (by omega) hb (bytesAt_below hc hb')
  have R3 := Lib.hid fun (w' : World) (hb' : Below w.heap.size w w') => readAt_any l 4 17 (by omega) (by omega) B off cap w' (by omega) hb (bytesAt_below hc hb')
  have R4 := Lib.hid fun (w' : World) (hb' : Below w.heap.size w w') => readAt_any l 4 21 (by omega) (by omega) B off cap w' (by omega) hb (bytesAt_below hc hb')
  have CV := Lib.hid fun (w' : World) (hb' : Below w.heap.size w w') => conv_at w' (some ⟨B, off, none⟩) cap l hb (bytesAt_below hc hb')
  rw [hl] at R0 R1 R2 R3 R4 CV
  simp only [Nat.reduceSub, Nat.add_zero, Nat.sub_zero, List.drop_zero] at R0 R1 R2 R3 R4
  change Hid (∀ w', Below w.heap.size w w' → Calls Try.prog 41 #[.slice (some ⟨B, off, none⟩) 576 cap, .int .i64 8] w' fun r w2 => r = .returned (.tuple #[.int .u64 (fE l : Nat), .int .i64 0]) ∧ w' = w2) at R0
  change Hid (∀ w', Below w.heap.size w w' → Calls Try.prog 41 #[.slice (some ⟨B, off + 8, none⟩) 568 (cap - 8), .int .i64 4] w' fun r w2 => r = .returned (.tuple #[.int .u64 (fI l : Nat), .int .i64 0]) ∧ w' = w2) at R1
  change Hid (∀ w', Below w.heap.size w w' → Calls Try.prog 41 #[.slice (some ⟨B, off + 12, none⟩) 564 (cap - 12), .int .i64 4] w' fun r w2 => r = .returned (.tuple #[.int .u64 (fP l : Nat), .int .i64 0]) ∧ w' = w2) at R2
  change Hid (∀ w', Below w.heap.size w w' → Calls Try.prog 41 #[.slice (some ⟨B, off + 17, none⟩) 559 (cap - 17), .int .i64 4] w' fun r w2 => r = .returned (.tuple #[.int .u64 (fN l : Nat), .int .i64 0]) ∧ w' = w2) at R3
  change Hid (∀ w', Below w.heap.size w w' → Calls Try.prog 41 #[.slice (some ⟨B, off + 21, none⟩) 555 (cap - 21), .int .i64 4] w' fun r w2 => r = .returned (.tuple #[.int .u64 (fK l : Nat), .int .i64 0]) ∧ w' = w2) at R4
  have y1 := foldN_lt' (k := 4) (fun b h => hb b (List.mem_of_mem_drop h)) (l := l.drop 8)
  change fI l < 256 ^ 4 at y1
  have y2 := foldN_lt' (k := 4) (fun b h => hb b (List.mem_of_mem_drop h)) (l := l.drop 12)
  change fP l < 256 ^ 4 at y2
  have y3 := foldN_lt' (k := 4) (fun b h => hb b (List.mem_of_mem_drop h)) (l := l.drop 17)
  change fN l < 256 ^ 4 at y3
  have y4 := foldN_lt' (k := 4) (fun b h => hb b (List.mem_of_mem_drop h)) (l := l.drop 21)
  change fK l < 256 ^ 4 at y4
  simp only [Nat.reducePow] at y1 y2 y3 y4
  have hdrop := bytesAt_from hc 64
  rw [show (some (⟨B, off, none⟩ : Addr)).map (fun x => x.add 64) = some ⟨B, off + 64, none⟩ from congrArg some (addr_plain B off 64)] at hdrop
  have HDB0 := Lib.hid hdrop
  have HDL : Hid ((l.drop 64).length = 512) := Lib.hid (by rw [List.length_drop]; omega)
  have HD0 : Hid (([] : List Nat).length + (l.drop 64).length ≤ 100000) := Lib.hid (by rw [List.length_drop, List.length_nil]; omega)
  have HDD := Lib.hid fun b (h : b ∈ l.drop 64) => hb b (List.mem_of_mem_drop h)
  have HCC := Lib.hid (hcs 16 (by omega))
  have hxm : fM l = decide (l.getD 16 0 = 1) := rfl
  have hfb := frame_bounds hh
  have C24 := Lib.hid fun q c w hbs hnn => refEncode_ok (fE l) (fI l) (fP l) (fM l) (fN l) (fK l) (foldN_lt' hb) (by have := foldN_lt' (k := 4) (fun b h => hb b (List.mem_of_mem_drop h)) (l := l.drop 21); exact this) q c (l.drop 64) (by rw [List.length_drop, hl]) (fun b h => hb b (List.mem_of_mem_drop h)) w hbs hnn hh
  simp only [frameV] at C24
  have hlb : ∀ b ∈ frameL (fE l) (fI l) (fP l) (fM l) (fN l) (fK l) (l.drop 64), b < 256 := fun b h => (List.mem_append.1 h).elim (frameS_byte _ _ _ _ _ _ _ b) (fun h => hb b (List.mem_of_mem_drop h))
  have hll : (frameL (fE l) (fI l) (fP l) (fM l) (fN l) (fK l) (l.drop 64)).length = 576 := by unfold frameL; rw [List.length_append, frameS_length, List.length_drop, hl]
  have hse : ((strOf (frameL (fE l) (fI l) (fP l) (fM l) (fN l) (fK l) (l.drop 64))).toList == (strOf l).toList) = false := by
    rw [str_beq]
    exact decide_eq_false fun e => hq (by have e := strOf_inj hlb hb e; have e2 := congrArg (List.take 64) e; unfold frameL at e2; rw [List.take_append_of_le_length (by rw [frameS_length]; exact Nat.le_refl _), List.take_of_length_le (by rw [frameS_length]; exact Nat.le_refl _)] at e2; exact e2)
  generalize frameL (fE l) (fI l) (fP l) (fM l) (fN l) (fK l) (l.drop 64) = ll at *
  have HLB := Lib.hid hlb
  have HLL := Lib.hid hll
  generalize strOf l = sl at *
  obtain ⟨sll, hsl⟩ : ∃ s, s = strOf ll := ⟨_, rfl⟩
  rw [← hsl] at hse
  have HSL := Lib.hid hsl
  clear hh hq hlb hll hsl hfb
  generalize fE l = x0 at *
  generalize fI l = x1 at *
  generalize fP l = x2 at *
  generalize fM l = xm at *
  generalize fN l = x4 at *
  generalize fK l = x5 at *
  generalize l.drop 64 = dd at *
  generalize l.getD 16 0 = b16 at *
  have HXM : Hid (((b16 : Int) == 1) = xm) := Lib.hid (by rw [hxm]; rw [Bool.eq_iff_iff]; simp; omega)
  have u1 : IntKind.i64.wrap (x1 : Int) = (x1 : Int) := wrap_small (by omega) (by omega)
  have u2 : IntKind.i64.wrap (x2 : Int) = (x2 : Int) := wrap_small (by omega) (by omega)
  have u4 : IntKind.i64.wrap (x4 : Int) = (x4 : Int) := wrap_small (by omega) (by omega)
  have u5 : IntKind.u32.wrap (x5 : Int) = (x5 : Int) := by rw [wrap_u32]; omega
  have n8 : ¬ cap = 8 := by omega
  have n12 : ¬ cap = 12 := by omega
  have n17 : ¬ cap = 17 := by omega
  have n21 : ¬ cap = 21 := by omega
  have n64 : ¬ cap = 64 := by omega
  clear hcs hb hc hl hxm hdrop y1 y2 y3 y4
  go_enter Try.func26, Try.ntmps26
  go_upto_region 3 with fail
  obtain ⟨w0, hw0⟩ : ∃ w0, w.alloc (.cells #[.int .u64 0, .int .i64 0, .int .i64 0, .bool false, .int .i64 0, .int .u32 0, .slice none 0 0] 51) = w0 := ⟨_, rfl⟩
  have HB0 : Hid (Below w.heap.size w w0) := Lib.hid (by subst hw0; exact (Below.refl _ _).alloc (Nat.le_refl _) _)
  have HG0 : Hid (w0.heap[w.heap.size]? = some (.cells #[.int .u64 0, .int .i64 0, .int .i64 0, .bool false, .int .i64 0, .int .u32 0, .slice none 0 0] 51 (0, 0))) := Lib.hid (by subst hw0; exact heap_alloc_last w _)
  have HS0 : Hid (w.heap.size < w0.heap.size) := Lib.hid (by subst hw0; simp)
  rw [hw0]
  clear hw0
  go_upto_region 8 with (first
    | (go_at_call 41; (with_reducible refine (R0.out _ HB0.out).mono ?_); rintro e wn ⟨rfl, rfl⟩)
    | (go_at_call 41; (with_reducible refine (R1.out _ HB0.out).mono ?_); rintro e wn ⟨rfl, rfl⟩)
    | (go_at_call 41; (with_reducible refine (R2.out _ HB0.out).mono ?_); rintro e wn ⟨rfl, rfl⟩)
    | (go_at_call 41; (with_reducible refine (R3.out _ HB0.out).mono ?_); rintro e wn ⟨rfl, rfl⟩)
    | (go_at_call 41; (with_reducible refine (R4.out _ HB0.out).mono ?_); rintro e wn ⟨rfl, rfl⟩))
  have HDB := Lib.hid (bytesAt_below HDB0.out HB0.out)
  have HC16 : Hid (∀ w', Below w0.heap.size w0 w' → w'.cell? ⟨B, off + 16, none⟩ = some (.int .u8 b16)) := Lib.hid fun w' h => ((kbT HB0.out h).cell (lt_of_cell_some HCC.out)).trans HCC.out
  go_cut [14] from 50 to 67 (fun s14 wx => ∃ A q c, s14 = .pointer (some ⟨A, 0, none⟩) ∧ wx.heap[A]? = some (.cells #[.int .u64 x0, .int .i64 x1, .int .i64 x2, .bool xm, .int .i64 x4, .int .u32 x5, .slice q 512 c] 51 (0, 0)) ∧ Hid (BytesAt wx q dd) ∧ (q = none → c = 0) ∧ (512 ≤ c ∧ c ≤ maxLen) ∧ (∀ B off, q = some ⟨B, off, none⟩ → w0.heap.size ≤ B) ∧ Hid (Below w0.heap.size w0 wx))
  case first =>
    refine wp_region_held_drew (S := fun w' => Below w0.heap.size w0 w') (by kernel_rfl) ((Below.refl _ _).drew) (fun H0 => ?_)
    obtain ⟨wd, hwd⟩ : ∃ wd, w0.drew = wd := ⟨_, rfl⟩
    rw [hwd] at H0 ⊢
    clear hwd
    refine wpAnyH_take (i := 0) (oi := { dst := some 50, op := Go.Op.move (Go.Operand.tmp 4), type := 36, pos := "ref.go:87", after := #[], guard := none }) (v := ?_) rfl (by kernel_rfl) (by kernel_rfl) (by kernel_rfl) (fun _ _ _ h => h) (Or.inl ⟨by rfl, ?_⟩) H0 ?_
    rotate_left
    focus (intro w' hSw; (try dsimp only at hSw); go_simp; (try with_reducible rfl))
    simp only [Act.put, List.setIfInBounds_toArray, List.set_cons_zero, List.set_cons_succ]
    refine wpAnyH_take (i := 1) (oi := { dst := some 51, op := Go.Op.move (Go.Operand.tmp 6), type := 36, pos := "ref.go:87", after := #[], guard := none }) (v := ?_) rfl (by kernel_rfl) (by kernel_rfl) (by kernel_rfl) (fun _ _ _ h => h) (Or.inl ⟨by rfl, ?_⟩) H0 ?_
    rotate_left
    focus (intro w' hSw; (try dsimp only at hSw); go_simp; (try with_reducible rfl))
    simp only [Act.put, List.setIfInBounds_toArray, List.set_cons_zero, List.set_cons_succ]
    refine wpAnyH_take (i := 2) (oi := { dst := some 52, op := Go.Op.convert 36 3 (Go.Operand.tmp 51), type := 3, pos := "ref.go:87", after := #[{ on := 1, ground := Go.Ground.data }], guard := none }) (v := ?_) rfl (by kernel_rfl) (by kernel_rfl) (by kernel_rfl) (fun _ _ _ h => h) (Or.inl ⟨by rfl, ?_⟩) H0 ?_
    rotate_left
    focus (intro w' hSw; (try dsimp only at hSw); go_simp; (try with_reducible rfl))
    simp only [Act.put, List.setIfInBounds_toArray, List.set_cons_zero, List.set_cons_succ]
    refine wpAnyH_take (i := 3) (oi := { dst := some 53, op := Go.Op.move (Go.Operand.tmp 8), type := 36, pos := "ref.go:87", after := #[], guard := none }) (v := ?_) rfl (by kernel_rfl) (by kernel_rfl) (by kernel_rfl) (fun _ _ _ h => h) (Or.inl ⟨by rfl, ?_⟩) H0 ?_
    rotate_left
    focus (intro w' hSw; (try dsimp only at hSw); go_simp; (try with_reducible rfl))
    simp only [Act.put, List.setIfInBounds_toArray, List.set_cons_zero, List.set_cons_succ]
    refine wpAnyH_take (i := 4) (oi := { dst := some 54, op := Go.Op.convert 36 3 (Go.Operand.tmp 53), type := 3, pos := "ref.go:87", after := #[{ on := 3, ground := Go.Ground.data }], guard := none }) (v := ?_) rfl (by kernel_rfl) (by kernel_rfl) (by kernel_rfl) (fun _ _ _ h => h) (Or.inl ⟨by rfl, ?_⟩) H0 ?_
    rotate_left
    focus (intro w' hSw; (try dsimp only at hSw); go_simp; (try with_reducible rfl))
    simp only [Act.put, List.setIfInBounds_toArray, List.set_cons_zero, List.set_cons_succ]
    refine wpAnyH_take (i := 5) (oi := { dst := some 55, op := Go.Op.move (Go.Operand.tmp 0), type := 39, pos := "ref.go:87", after := #[], guard := none }) (v := ?_) rfl (by kernel_rfl) (by kernel_rfl) (by kernel_rfl) (fun _ _ _ h => h) (Or.inl ⟨by rfl, ?_⟩) H0 ?_
    rotate_left
    focus (intro w' hSw; (try dsimp only at hSw); go_simp; (try with_reducible rfl))
    simp only [Act.put, List.setIfInBounds_toArray, List.set_cons_zero, List.set_cons_succ]
    refine wpAnyH_take (i := 6) (oi := { dst := some 56, op := Go.Op.indexAddr 39 (Go.Operand.tmp 55) (Go.Operand.const (Go.Value.int Go.IntKind.i64 16)), type := 0, pos := "ref.go:87", after := #[{ on := 5, ground := Go.Ground.data }], guard := none }) (v := ?_) rfl (by kernel_rfl) (by kernel_rfl) (by kernel_rfl) (fun _ _ _ h => h) (Or.inl ⟨by rfl, ?_⟩) H0 ?_
    rotate_left
    focus (intro w' hSw; (try dsimp only at hSw); go_simp; (try with_reducible rfl))
    simp only [Act.put, List.setIfInBounds_toArray, List.set_cons_zero, List.set_cons_succ]
    refine wpAnyH_take (i := 7) (oi := { dst := some 57, op := Go.Op.load 5 (Go.Operand.tmp 56), type := 5, pos := "ref.go:87", after := #[{ on := 6, ground := Go.Ground.data }], guard := none }) (v := ?_) rfl (by kernel_rfl) (by kernel_rfl) (by kernel_rfl) (fun _ _ _ h => h) (Or.inl ⟨by rfl, ?_⟩) H0 ?_
    rotate_left
    focus (intro w' hSw; (try dsimp only at hSw); have hc16 := HC16.out _ hSw; go_simp; (try with_reducible rfl))
    simp only [Act.put, List.setIfInBounds_toArray, List.set_cons_zero, List.set_cons_succ]
    refine wpAnyH_take (i := 8) (oi := { dst := some 58, op := Go.Op.binOp Go.BinOp.eql 5 (Go.Operand.tmp 57) (Go.Operand.const (Go.Value.int Go.IntKind.u8 1)) 5, type := 4, pos := "ref.go:87", after := #[{ on := 7, ground := Go.Ground.data }], guard := none }) (v := ?_) rfl (by kernel_rfl) (by kernel_rfl) (by kernel_rfl) (fun _ _ _ h => h) (Or.inl ⟨by rfl, ?_⟩) H0 ?_
    rotate_left
    focus (intro w' hSw; (try dsimp only at hSw); go_simp; (try with_reducible rfl))
    simp only [Act.put, List.setIfInBounds_toArray, List.set_cons_zero, List.set_cons_succ]
    rw [HXM.out]
    refine wpAnyH_take (i := 9) (oi := { dst := some 59, op := Go.Op.move (Go.Operand.tmp 10), type := 36, pos := "ref.go:87", after := #[], guard := none }) (v := ?_) rfl (by kernel_rfl) (by kernel_rfl) (by kernel_rfl) (fun _ _ _ h => h) (Or.inl ⟨by rfl, ?_⟩) H0 ?_
    rotate_left
    focus (intro w' hSw; (try dsimp only at hSw); go_simp; (try with_reducible rfl))
    simp only [Act.put, List.setIfInBounds_toArray, List.set_cons_zero, List.set_cons_succ]
    refine wpAnyH_take (i := 10) (oi := { dst := some 60, op := Go.Op.convert 36 3 (Go.Operand.tmp 59), type := 3, pos := "ref.go:87", after := #[{ on := 9, ground := Go.Ground.data }], guard := none }) (v := ?_) rfl (by kernel_rfl) (by kernel_rfl) (by kernel_rfl) (fun _ _ _ h => h) (Or.inl ⟨by rfl, ?_⟩) H0 ?_
    rotate_left
    focus (intro w' hSw; (try dsimp only at hSw); go_simp; (try with_reducible rfl))
    simp only [Act.put, List.setIfInBounds_toArray, List.set_cons_zero, List.set_cons_succ]
    refine wpAnyH_take (i := 11) (oi := { dst := some 61, op := Go.Op.move (Go.Operand.tmp 12), type := 36, pos := "ref.go:87", after := #[], guard := none }) (v := ?_) rfl (by kernel_rfl) (by kernel_rfl) (by kernel_rfl) (fun _ _ _ h => h) (Or.inl ⟨by rfl, ?_⟩) H0 ?_
    rotate_left
    focus (intro w' hSw; (try dsimp only at hSw); go_simp; (try with_reducible rfl))
    simp only [Act.put, List.setIfInBounds_toArray, List.set_cons_zero, List.set_cons_succ]
    refine wpAnyH_take (i := 12) (oi := { dst := some 62, op := Go.Op.convert 36 49 (Go.Operand.tmp 61), type := 49, pos := "ref.go:87", after := #[{ on := 11, ground := Go.Ground.data }], guard := none }) (v := ?_) rfl (by kernel_rfl) (by kernel_rfl) (by kernel_rfl) (fun _ _ _ h => h) (Or.inl ⟨by rfl, ?_⟩) H0 ?_
    rotate_left
    focus (intro w' hSw; (try dsimp only at hSw); go_simp; (try with_reducible rfl))
    simp only [Act.put, List.setIfInBounds_toArray, List.set_cons_zero, List.set_cons_succ]
    refine wpAnyH_take (i := 14) (oi := { dst := some 64, op := Go.Op.move (Go.Operand.tmp 0), type := 39, pos := "ref.go:87", after := #[], guard := none }) (v := ?_) rfl (by kernel_rfl) (by kernel_rfl) (by kernel_rfl) (fun _ _ _ h => h) (Or.inl ⟨by rfl, ?_⟩) H0 ?_
    rotate_left
    focus (intro w' hSw; (try dsimp only at hSw); go_simp; (try with_reducible rfl))
    simp only [Act.put, List.setIfInBounds_toArray, List.set_cons_zero, List.set_cons_succ]
    refine wpAnyH_take (i := 15) (oi := { dst := some 65, op := Go.Op.slice 39 (Go.Operand.tmp 64) (some (Go.Operand.const (Go.Value.int Go.IntKind.i64 64))) none none, type := 39, pos := "ref.go:87", after := #[{ on := 14, ground := Go.Ground.data }], guard := none }) (v := ?_) rfl (by kernel_rfl) (by kernel_rfl) (by kernel_rfl) (fun _ _ _ h => h) (Or.inl ⟨by rfl, ?_⟩) H0 ?_
    rotate_left
    focus (intro w' hSw; (try dsimp only at hSw); go_simp; (try with_reducible rfl))
    simp only [Act.put, List.setIfInBounds_toArray, List.set_cons_zero, List.set_cons_succ]
    refine wpAnyH_ready (rs := [13, 18]) (by kernel_rfl) (by simp) ?_
    refine (AllReadyH.cons (o := { dst := some 63, op := Go.Op.buildSlice 39 0 #[], type := 39, pos := "ref.go:87", after := #[], guard := none }) rfl (fun K hK => ?_) (AllReadyH.cons (o := { dst := some 14, op := Go.Op.alloc 51, type := 0, pos := "ref.go:87", after := #[], guard := none }) rfl (fun K hK => ?_) AllReadyH.nil))
    · skip
      go_simp
      have hr81 := rowB_empty wd
      obtain ⟨wm79, hwm79⟩ : ∃ wz, wd.alloc (.cells #[] 5) = wz := ⟨_, rfl⟩
      rw [hwm79] at hr81 ⊢
      refine hK.out _ _ (kbT H0 hr81.2) (fun Hm80 => ?_)
      clear hwm79
      clear hK K
      try simp only [Act.put, List.setIfInBounds_toArray, List.set_cons_zero, List.set_cons_succ]
      refine wpAnyH_ready (rs := [16, 18]) (by kernel_rfl) (by simp) ?_
      refine (AllReadyH.cons (o := { dst := some 66, op := Go.Op.call { callee := Go.Callee.builtin Go.Builtin.append, args := #[Go.Operand.tmp 63, Go.Operand.tmp 65], argTypes := #[39, 39] }, type := 39, pos := "ref.go:87", after := #[{ on := 13, ground := Go.Ground.data }, { on := 15, ground := Go.Ground.data }], guard := none }) rfl (fun K hK => ?_) (AllReadyH.cons (o := { dst := some 14, op := Go.Op.alloc 51, type := 0, pos := "ref.go:87", after := #[], guard := none }) rfl (fun K hK => ?_) AllReadyH.nil))
      · skip
        refine step_append_bytes rfl (.tmp 63) (.tmp 65) rfl rfl hr81 HDL.out rfl (fun h => nomatch h) (bytesAt_below HDB.out Hm80) HD0.out ?_
        intro v86 wm82 hr84 hgr85
        rw [List.nil_append] at hr84
        refine hK.out _ _ (kbT H0 hr84.2) (fun Hm83 => ?_)
        have hh93 := hr84.at2
        rw [HDL.out] at hh93
        obtain ⟨pq87, cq88, rfl, hcp89, hcm90, hby91, hnn92⟩ := hh93
        have hfr94 : ∀ B off, pq87 = some ⟨B, off, none⟩ → w0.heap.size ≤ B := fun B off h => Nat.le_trans H0.size (rowB_from hr84 B off h)
        clear hK K
        try simp only [Act.put, List.setIfInBounds_toArray, List.set_cons_zero, List.set_cons_succ]
        refine wpAnyH_take (i := 17) (oi := { dst := some 67, op := Go.Op.build 51 #[(0, Go.Operand.tmp 50), (1, Go.Operand.tmp 52), (2, Go.Operand.tmp 54), (3, Go.Operand.tmp 58), (4, Go.Operand.tmp 60), (5, Go.Operand.tmp 62), (6, Go.Operand.tmp 66)], type := 51, pos := "ref.go:87", after := #[{ on := 0, ground := Go.Ground.data }, { on := 2, ground := Go.Ground.data }, { on := 4, ground := Go.Ground.data }, { on := 8, ground := Go.Ground.data }, { on := 10, ground := Go.Ground.data }, { on := 12, ground := Go.Ground.data }, { on := 16, ground := Go.Ground.data }], guard := none }) (v := ?_) rfl (by kernel_rfl) (by kernel_rfl) (by kernel_rfl) (fun _ _ _ h => h) (Or.inl ⟨by rfl, ?_⟩) Hm83 ?_
        rotate_left
        focus (intro w' hSw; (try dsimp only at hSw); go_simp; (try with_reducible rfl))
        simp only [Act.put, List.setIfInBounds_toArray, List.set_cons_zero, List.set_cons_succ]
        refine wpAnyH_ready (rs := [18]) (by kernel_rfl) (by simp) ?_
        refine (AllReadyH.cons (o := { dst := some 14, op := Go.Op.alloc 51, type := 0, pos := "ref.go:87", after := #[], guard := none }) rfl (fun K hK => ?_) AllReadyH.nil)
        · skip
          go_simp
          obtain ⟨wm95, hwm95⟩ : ∃ wz, wm82.alloc (.cells #[.int .u64 0, .int .i64 0, .int .i64 0, .bool false, .int .i64 0, .int .u32 0, .slice none 0 0] 51) = wz := ⟨_, rfl⟩
          have hg97 : wm95.heap[wm82.heap.size]? = some (.cells #[.int .u64 0, .int .i64 0, .int .i64 0, .bool false, .int .i64 0, .int .u32 0, .slice none 0 0] 51 (0, 0)) := by rw [← hwm95]; exact heap_alloc_last wm82 _
          have hb98 : Below wm82.heap.size wm82 wm95 := by rw [← hwm95]; exact (Below.refl _ _).alloc (Nat.le_refl _) _
          have hA99 : w0.heap.size ≤ wm82.heap.size := Hm83.size
          rw [hwm95]
          have hr100 := hr84.later hb98
          have hby101 := bytesAt_below hby91 hb98
          refine hK.out _ _ (kbT Hm83 hb98) (fun Hm96 => ?_)
          clear hwm95
          clear hK K
          try simp only [Act.put, List.setIfInBounds_toArray, List.set_cons_zero, List.set_cons_succ]
          refine wpAnyH_ready (rs := [19]) (by kernel_rfl) (by simp) ?_
          refine (AllReadyH.cons (o := { dst := none, op := Go.Op.store 51 (Go.Operand.tmp 14) (Go.Operand.tmp 67), type := 0, pos := "ref.go:87", after := #[{ on := 18, ground := Go.Ground.data }, { on := 17, ground := Go.Ground.data }, { on := 16, ground := Go.Ground.chain }, { on := 0, ground := Go.Ground.phase }, { on := 1, ground := Go.Ground.phase }, { on := 2, ground := Go.Ground.phase }, { on := 3, ground := Go.Ground.phase }, { on := 4, ground := Go.Ground.phase }, { on := 5, ground := Go.Ground.phase }, { on := 6, ground := Go.Ground.phase }, { on := 7, ground := Go.Ground.phase }, { on := 8, ground := Go.Ground.phase }, { on := 9, ground := Go.Ground.phase }, { on := 10, ground := Go.Ground.phase }, { on := 11, ground := Go.Ground.phase }, { on := 12, ground := Go.Ground.phase }, { on := 13, ground := Go.Ground.phase }, { on := 14, ground := Go.Ground.phase }, { on := 15, ground := Go.Ground.phase }, { on := 16, ground := Go.Ground.phase }, { on := 17, ground := Go.Ground.phase }, { on := 18, ground := Go.Ground.phase }], guard := none }) rfl (fun K hK => ?_) AllReadyH.nil)
          · skip
            refine step_store_row rfl 51 (.tmp 14) (.tmp 67) rfl wm82.heap.size #[.int .u64 x0, .int .i64 x1, .int .i64 x2, .bool xm, .int .i64 x4, .int .u32 x5, .slice pq87 512 cq88] rfl rfl 51 #[.int .u64 0, .int .i64 0, .int .i64 0, .bool false, .int .i64 0, .int .u32 0, .slice none 0 0] hg97 rfl rfl (by simp [Value.oneCell']) ?_
            have hgz104 := setRow_heap wm95 wm82.heap.size #[.int .u64 0, .int .i64 0, .int .i64 0, .bool false, .int .i64 0, .int .u32 0, .slice none 0 0] #[.int .u64 x0, .int .i64 x1, .int .i64 x2, .bool xm, .int .i64 x4, .int .u32 x5, .slice pq87 512 cq88] 51 (0, 0) hg97
            have hbz105 := keepA7 (cs' := #[.int .u64 x0, .int .i64 x1, .int .i64 x2, .bool xm, .int .i64 x4, .int .u32 x5, .slice pq87 512 cq88]) hr100 hg97 hby101
            obtain ⟨wm102, hwm102⟩ : ∃ wz, wm95.setRow wm82.heap.size #[.int .u64 x0, .int .i64 x1, .int .i64 x2, .bool xm, .int .i64 x4, .int .u32 x5, .slice pq87 512 cq88] = wz := ⟨_, rfl⟩
            have hsz := below_setRow Hm96 hA99 #[.int .u64 x0, .int .i64 x1, .int .i64 x2, .bool xm, .int .i64 x4, .int .u32 x5, .slice pq87 512 cq88]
            rw [hwm102] at hgz104 hbz105 hsz ⊢
            refine hK.out _ _ hsz (fun Hm103 => ?_)
            clear hwm102 hsz
            clear hK K
            try simp only [Act.put, List.setIfInBounds_toArray, List.set_cons_zero, List.set_cons_succ]
            refine wpAnyH_done (by kernel_rfl) ?_ _
            go_wp2_with fail
            go_meet
            exact ⟨wm82.heap.size, _, _, rfl, hgz104, Lib.hid hbz105, hnn92, ⟨hcp89, hcm90⟩, hfr94, Lib.hid Hm103⟩
      · skip
        go_simp
        obtain ⟨wm106, hwm106⟩ : ∃ wz, wm79.alloc (.cells #[.int .u64 0, .int .i64 0, .int .i64 0, .bool false, .int .i64 0, .int .u32 0, .slice none 0 0] 51) = wz := ⟨_, rfl⟩
        have hg108 : wm106.heap[wm79.heap.size]? = some (.cells #[.int .u64 0, .int .i64 0, .int .i64 0, .bool false, .int .i64 0, .int .u32 0, .slice none 0 0] 51 (0, 0)) := by rw [← hwm106]; exact heap_alloc_last wm79 _
        have hb109 : Below wm79.heap.size wm79 wm106 := by rw [← hwm106]; exact (Below.refl _ _).alloc (Nat.le_refl _) _
        have hA110 : w0.heap.size ≤ wm79.heap.size := Hm80.size
        rw [hwm106]
        have hr111 := hr81.later hb109
        refine hK.out _ _ (kbT Hm80 hb109) (fun Hm107 => ?_)
        clear hwm106
        clear hK K
        try simp only [Act.put, List.setIfInBounds_toArray, List.set_cons_zero, List.set_cons_succ]
        refine wpAnyH_ready (rs := [16]) (by kernel_rfl) (by simp) ?_
        refine (AllReadyH.cons (o := { dst := some 66, op := Go.Op.call { callee := Go.Callee.builtin Go.Builtin.append, args := #[Go.Operand.tmp 63, Go.Operand.tmp 65], argTypes := #[39, 39] }, type := 39, pos := "ref.go:87", after := #[{ on := 13, ground := Go.Ground.data }, { on := 15, ground := Go.Ground.data }], guard := none }) rfl (fun K hK => ?_) AllReadyH.nil)
        · skip
          refine step_append_bytes rfl (.tmp 63) (.tmp 65) rfl rfl hr111 HDL.out rfl (fun h => nomatch h) (bytesAt_below HDB.out Hm107) HD0.out ?_
          intro v116 wm112 hr114 hgr115
          have hg117 := keepF hr111 hg108 hgr115
          rw [List.nil_append] at hr114
          refine hK.out _ _ (kbT H0 hr114.2) (fun Hm113 => ?_)
          have hh124 := hr114.at2
          rw [HDL.out] at hh124
          obtain ⟨pq118, cq119, rfl, hcp120, hcm121, hby122, hnn123⟩ := hh124
          have hfr125 : ∀ B off, pq118 = some ⟨B, off, none⟩ → w0.heap.size ≤ B := fun B off h => Nat.le_trans H0.size (rowB_from hr114 B off h)
          clear hK K
          try simp only [Act.put, List.setIfInBounds_toArray, List.set_cons_zero, List.set_cons_succ]
          refine wpAnyH_take (i := 17) (oi := { dst := some 67, op := Go.Op.build 51 #[(0, Go.Operand.tmp 50), (1, Go.Operand.tmp 52), (2, Go.Operand.tmp 54), (3, Go.Operand.tmp 58), (4, Go.Operand.tmp 60), (5, Go.Operand.tmp 62), (6, Go.Operand.tmp 66)], type := 51, pos := "ref.go:87", after := #[{ on := 0, ground := Go.Ground.data }, { on := 2, ground := Go.Ground.data }, { on := 4, ground := Go.Ground.data }, { on := 8, ground := Go.Ground.data }, { on := 10, ground := Go.Ground.data }, { on := 12, ground := Go.Ground.data }, { on := 16, ground := Go.Ground.data }], guard := none }) (v := ?_) rfl (by kernel_rfl) (by kernel_rfl) (by kernel_rfl) (fun _ _ _ h => h) (Or.inl ⟨by rfl, ?_⟩) Hm113 ?_
          rotate_left
          focus (intro w' hSw; (try dsimp only at hSw); go_simp; (try with_reducible rfl))
          simp only [Act.put, List.setIfInBounds_toArray, List.set_cons_zero, List.set_cons_succ]
          refine wpAnyH_ready (rs := [19]) (by kernel_rfl) (by simp) ?_
          refine (AllReadyH.cons (o := { dst := none, op := Go.Op.store 51 (Go.Operand.tmp 14) (Go.Operand.tmp 67), type := 0, pos := "ref.go:87", after := #[{ on := 18, ground := Go.Ground.data }, { on := 17, ground := Go.Ground.data }, { on := 16, ground := Go.Ground.chain }, { on := 0, ground := Go.Ground.phase }, { on := 1, ground := Go.Ground.phase }, { on := 2, ground := Go.Ground.phase }, { on := 3, ground := Go.Ground.phase }, { on := 4, ground := Go.Ground.phase }, { on := 5, ground := Go.Ground.phase }, { on := 6, ground := Go.Ground.phase }, { on := 7, ground := Go.Ground.phase }, { on := 8, ground := Go.Ground.phase }, { on := 9, ground := Go.Ground.phase }, { on := 10, ground := Go.Ground.phase }, { on := 11, ground := Go.Ground.phase }, { on := 12, ground := Go.Ground.phase }, { on := 13, ground := Go.Ground.phase }, { on := 14, ground := Go.Ground.phase }, { on := 15, ground := Go.Ground.phase }, { on := 16, ground := Go.Ground.phase }, { on := 17, ground := Go.Ground.phase }, { on := 18, ground := Go.Ground.phase }], guard := none }) rfl (fun K hK => ?_) AllReadyH.nil)
          · skip
            refine step_store_row rfl 51 (.tmp 14) (.tmp 67) rfl wm79.heap.size #[.int .u64 x0, .int .i64 x1, .int .i64 x2, .bool xm, .int .i64 x4, .int .u32 x5, .slice pq118 512 cq119] rfl rfl 51 #[.int .u64 0, .int .i64 0, .int .i64 0, .bool false, .int .i64 0, .int .u32 0, .slice none 0 0] hg117 rfl rfl (by simp [Value.oneCell']) ?_
            have hgz128 := setRow_heap wm112 wm79.heap.size #[.int .u64 0, .int .i64 0, .int .i64 0, .bool false, .int .i64 0, .int .u32 0, .slice none 0 0] #[.int .u64 x0, .int .i64 x1, .int .i64 x2, .bool xm, .int .i64 x4, .int .u32 x5, .slice pq118 512 cq119] 51 (0, 0) hg117
            have hbz129 := keepA7 (cs' := #[.int .u64 x0, .int .i64 x1, .int .i64 x2, .bool xm, .int .i64 x4, .int .u32 x5, .slice pq118 512 cq119]) hr114 hg117 hby122
            obtain ⟨wm126, hwm126⟩ : ∃ wz, wm112.setRow wm79.heap.size #[.int .u64 x0, .int .i64 x1, .int .i64 x2, .bool xm, .int .i64 x4, .int .u32 x5, .slice pq118 512 cq119] = wz := ⟨_, rfl⟩
            have hsz := below_setRow Hm113 hA110 #[.int .u64 x0, .int .i64 x1, .int .i64 x2, .bool xm, .int .i64 x4, .int .u32 x5, .slice pq118 512 cq119]
            rw [hwm126] at hgz128 hbz129 hsz ⊢
            refine hK.out _ _ hsz (fun Hm127 => ?_)
            clear hwm126 hsz
            clear hK K
            try simp only [Act.put, List.setIfInBounds_toArray, List.set_cons_zero, List.set_cons_succ]
            refine wpAnyH_done (by kernel_rfl) ?_ _
            go_wp2_with fail
            go_meet
            exact ⟨wm79.heap.size, _, _, rfl, hgz128, Lib.hid hbz129, hnn123, ⟨hcp120, hcm121⟩, hfr125, Lib.hid Hm127⟩
    · skip
      go_simp
      obtain ⟨wm130, hwm130⟩ : ∃ wz, wd.alloc (.cells #[.int .u64 0, .int .i64 0, .int .i64 0, .bool false, .int .i64 0, .int .u32 0, .slice none 0 0] 51) = wz := ⟨_, rfl⟩
      have hg132 : wm130.heap[wd.heap.size]? = some (.cells #[.int .u64 0, .int .i64 0, .int .i64 0, .bool false, .int .i64 0, .int .u32 0, .slice none 0 0] 51 (0, 0)) := by rw [← hwm130]; exact heap_alloc_last wd _
      have hb133 : Below wd.heap.size wd wm130 := by rw [← hwm130]; exact (Below.refl _ _).alloc (Nat.le_refl _) _
      have hA134 : w0.heap.size ≤ wd.heap.size := H0.size
      rw [hwm130]
      refine hK.out _ _ (kbT H0 hb133) (fun Hm131 => ?_)
      clear hwm130
      clear hK K
      try simp only [Act.put, List.setIfInBounds_toArray, List.set_cons_zero, List.set_cons_succ]
      refine wpAnyH_ready (rs := [13]) (by kernel_rfl) (by simp) ?_
      refine (AllReadyH.cons (o := { dst := some 63, op := Go.Op.buildSlice 39 0 #[], type := 39, pos := "ref.go:87", after := #[], guard := none }) rfl (fun K hK => ?_) AllReadyH.nil)
      · skip
        go_simp
        have hr137 := rowB_empty wm130
        obtain ⟨wm135, hwm135⟩ : ∃ wz, wm130.alloc (.cells #[] 5) = wz := ⟨_, rfl⟩
        rw [hwm135] at hr137 ⊢
        have hg138 := (hr137.2.block _ (Array.getElem?_eq_some_iff.1 hg132).1).trans hg132
        refine hK.out _ _ (kbT Hm131 hr137.2) (fun Hm136 => ?_)
        clear hwm135
        clear hK K
        try simp only [Act.put, List.setIfInBounds_toArray, List.set_cons_zero, List.set_cons_succ]
        refine wpAnyH_ready (rs := [16]) (by kernel_rfl) (by simp) ?_
        refine (AllReadyH.cons (o := { dst := some 66, op := Go.Op.call { callee := Go.Callee.builtin Go.Builtin.append, args := #[Go.Operand.tmp 63, Go.Operand.tmp 65], argTypes := #[39, 39] }, type := 39, pos := "ref.go:87", after := #[{ on := 13, ground := Go.Ground.data }, { on := 15, ground := Go.Ground.data }], guard := none }) rfl (fun K hK => ?_) AllReadyH.nil)
        · skip
          refine step_append_bytes rfl (.tmp 63) (.tmp 65) rfl rfl hr137 HDL.out rfl (fun h => nomatch h) (bytesAt_below HDB.out Hm136) HD0.out ?_
          intro v143 wm139 hr141 hgr142
          have hg144 := keepF hr137 hg138 hgr142
          rw [List.nil_append] at hr141
          refine hK.out _ _ (kbT Hm131 hr141.2) (fun Hm140 => ?_)
          have hh151 := hr141.at2
          rw [HDL.out] at hh151
          obtain ⟨pq145, cq146, rfl, hcp147, hcm148, hby149, hnn150⟩ := hh151
          have hfr152 : ∀ B off, pq145 = some ⟨B, off, none⟩ → w0.heap.size ≤ B := fun B off h => Nat.le_trans Hm131.size (rowB_from hr141 B off h)
          clear hK K
          try simp only [Act.put, List.setIfInBounds_toArray, List.set_cons_zero, List.set_cons_succ]
          refine wpAnyH_take (i := 17) (oi := { dst := some 67, op := Go.Op.build 51 #[(0, Go.Operand.tmp 50), (1, Go.Operand.tmp 52), (2, Go.Operand.tmp 54), (3, Go.Operand.tmp 58), (4, Go.Operand.tmp 60), (5, Go.Operand.tmp 62), (6, Go.Operand.tmp 66)], type := 51, pos := "ref.go:87", after := #[{ on := 0, ground := Go.Ground.data }, { on := 2, ground := Go.Ground.data }, { on := 4, ground := Go.Ground.data }, { on := 8, ground := Go.Ground.data }, { on := 10, ground := Go.Ground.data }, { on := 12, ground := Go.Ground.data }, { on := 16, ground := Go.Ground.data }], guard := none }) (v := ?_) rfl (by kernel_rfl) (by kernel_rfl) (by kernel_rfl) (fun _ _ _ h => h) (Or.inl ⟨by rfl, ?_⟩) Hm140 ?_
          rotate_left
          focus (intro w' hSw; (try dsimp only at hSw); go_simp; (try with_reducible rfl))
          simp only [Act.put, List.setIfInBounds_toArray, List.set_cons_zero, List.set_cons_succ]
          refine wpAnyH_ready (rs := [19]) (by kernel_rfl) (by simp) ?_
          refine (AllReadyH.cons (o := { dst := none, op := Go.Op.store 51 (Go.Operand.tmp 14) (Go.Operand.tmp 67), type := 0, pos := "ref.go:87", after := #[{ on := 18, ground := Go.Ground.data }, { on := 17, ground := Go.Ground.data }, { on := 16, ground := Go.Ground.chain }, { on := 0, ground := Go.Ground.phase }, { on := 1, ground := Go.Ground.phase }, { on := 2, ground := Go.Ground.phase }, { on := 3, ground := Go.Ground.phase }, { on := 4, ground := Go.Ground.phase }, { on := 5, ground := Go.Ground.phase }, { on := 6, ground := Go.Ground.phase }, { on := 7, ground := Go.Ground.phase }, { on := 8, ground := Go.Ground.phase }, { on := 9, ground := Go.Ground.phase }, { on := 10, ground := Go.Ground.phase }, { on := 11, ground := Go.Ground.phase }, { on := 12, ground := Go.Ground.phase }, { on := 13, ground := Go.Ground.phase }, { on := 14, ground := Go.Ground.phase }, { on := 15, ground := Go.Ground.phase }, { on := 16, ground := Go.Ground.phase }, { on := 17, ground := Go.Ground.phase }, { on := 18, ground := Go.Ground.phase }], guard := none }) rfl (fun K hK => ?_) AllReadyH.nil)
          · skip
            refine step_store_row rfl 51 (.tmp 14) (.tmp 67) rfl wd.heap.size #[.int .u64 x0, .int .i64 x1, .int .i64 x2, .bool xm, .int .i64 x4, .int .u32 x5, .slice pq145 512 cq146] rfl rfl 51 #[.int .u64 0, .int .i64 0, .int .i64 0, .bool false, .int .i64 0, .int .u32 0, .slice none 0 0] hg144 rfl rfl (by simp [Value.oneCell']) ?_
            have hgz155 := setRow_heap wm139 wd.heap.size #[.int .u64 0, .int .i64 0, .int .i64 0, .bool false, .int .i64 0, .int .u32 0, .slice none 0 0] #[.int .u64 x0, .int .i64 x1, .int .i64 x2, .bool xm, .int .i64 x4, .int .u32 x5, .slice pq145 512 cq146] 51 (0, 0) hg144
            have hbz156 := keepA7 (cs' := #[.int .u64 x0, .int .i64 x1, .int .i64 x2, .bool xm, .int .i64 x4, .int .u32 x5, .slice pq145 512 cq146]) hr141 hg144 hby149
            obtain ⟨wm153, hwm153⟩ : ∃ wz, wm139.setRow wd.heap.size #[.int .u64 x0, .int .i64 x1, .int .i64 x2, .bool xm, .int .i64 x4, .int .u32 x5, .slice pq145 512 cq146] = wz := ⟨_, rfl⟩
            have hsz := below_setRow Hm140 hA134 #[.int .u64 x0, .int .i64 x1, .int .i64 x2, .bool xm, .int .i64 x4, .int .u32 x5, .slice pq145 512 cq146]
            rw [hwm153] at hgz155 hbz156 hsz ⊢
            refine hK.out _ _ hsz (fun Hm154 => ?_)
            clear hwm153 hsz
            clear hK K
            try simp only [Act.put, List.setIfInBounds_toArray, List.set_cons_zero, List.set_cons_succ]
            refine wpAnyH_done (by kernel_rfl) ?_ _
            go_wp2_with fail
            go_meet
            exact ⟨wd.heap.size, _, _, rfl, hgz155, Lib.hid hbz156, hnn150, ⟨hcp147, hcm148⟩, hfr152, Lib.hid Hm154⟩
  case rest =>
    obtain ⟨A, q, c, rfl, hgW, HBY, hqn, hcm, hqf, HW⟩ := hcut
    rename World => wx
    have hAl : A < wx.heap.size := (Array.getElem?_eq_some_iff.1 hgW).1
    have x0c := row_cell (i := 0) hgW rfl; have x1c := row_cell (i := 1) hgW rfl; have x2c := row_cell (i := 2) hgW rfl; have x3c := row_cell (i := 3) hgW rfl; have x4c := row_cell (i := 4) hgW rfl; have x5c := row_cell (i := 5) hgW rfl; have x6c := row_cell (i := 6) hgW rfl
    have HQF := Lib.hid hqf
    have HCM := Lib.hid hcm
    have HQN := Lib.hid hqn
    clear hqf hcm hqn
    go_wp2_with (go_at_call 24; (with_reducible refine (C24.out q c _ HBY.out HQN.out).mono ?_); rintro e wa ⟨t, rfl, hr⟩; have hh2 := hr.at2; rw [HLL.out] at hh2; obtain ⟨pt, ct, rfl, -, -, hby, -⟩ := hh2; have hcv := conv_at wa pt ct ll HLB.out hby; rw [← HSL.out, HLL.out] at hcv; have hb1 := hr.2; clear hr hby; have hg2 := ((kbT HW.out hb1).block _ HS0.out).trans HG0.out; have z0 := row_cell (i := 0) hg2 rfl; have y0 := row_frozen (i := 0) hg2; have z1 := row_cell (i := 1) hg2 rfl; have y1 := row_frozen (i := 1) hg2; have z2 := row_cell (i := 2) hg2 rfl; have y2 := row_frozen (i := 2) hg2; have z3 := row_cell (i := 3) hg2 rfl; have y3 := row_frozen (i := 3) hg2; have z4 := row_cell (i := 4) hg2 rfl; have y4 := row_frozen (i := 4) hg2; have z5 := row_cell (i := 5) hg2 rfl; have y5 := row_frozen (i := 5) hg2; have z6 := row_cell (i := 6) hg2 rfl; have y6 := row_frozen (i := 6) hg2; have hgA := (hb1.block _ hAl).trans hgW; have c0 := row_cell (i := 0) hgA rfl; have c1 := row_cell (i := 1) hgA rfl; have c2 := row_cell (i := 2) hgA rfl; have c3 := row_cell (i := 3) hgA rfl; have c4 := row_cell (i := 4) hgA rfl; have c5 := row_cell (i := 5) hgA rfl; have c6 := row_cell (i := 6) hgA rfl; have HBA := Lib.hid (HB0.out.trans ((kbT HW.out hb1).mono (Nat.le_of_lt HS0.out))); have hcl := CV.out wa HBA.out)
    refine bodyPost_ret (v := .tuple #[zeroFrame, .int .i64 150]) ?_ rfl ⟨rfl, ?_⟩
    · simp [results, Try.results26, go_sem, zeroFrame, z0, z1, z2, z3, z4, z5, z6]
    · exact (((((((HBA.out.setCell (Nat.le_refl _) _).setCell (Nat.le_refl _) _).setCell (Nat.le_refl _) _).setCell (Nat.le_refl _) _).setCell (Nat.le_refl _) _).setCell (Nat.le_refl _) _).setCell (Nat.le_refl _) _)
set_option maxRecDepth 100000 in
set_option maxHeartbeats 8000000 in
theorem refDecode_yes (l : List Nat) (p : Option Addr) (cap : Nat) (w : World) (hl : l.length = 576) (hcap : 576 ≤ cap) (hc0 : cap ≤ 9223372036854775807) (hb : ∀ b ∈ l, b < 256) (hc : BytesAt w p l) (hh : frameOk (fI l) (fP l) (fM l) (fN l) 512 = true) (hq : frameS (fE l) (fI l) (fP l) (fM l) (fN l) (fK l) (l.drop 64) = l.take 64) :
    Calls Try.prog 26 #[.slice p 576 cap] w fun r w' => ∃ q c, r = .returned (.tuple #[.agg #[.int .u64 (fE l : Nat), .int .i64 (fI l : Nat), .int .i64 (fP l : Nat), .bool (fM l), .int .i64 (fN l : Nat), .int .u32 (fK l : Nat), .slice q 512 c], .int .i64 0]) ∧ Below w.heap.size w w' ∧ BytesAt w' q (l.drop 64) ∧ (q = none → c = 0) ∧ c ≤ maxLen ∧ 512 ≤ c := by
  obtain ⟨B, off, rfl, hcs⟩ := bytesAt_lt hc (fun h => by subst h; simp at hl)
  have R0 := Lib.hid fun (w' : World) (hb' : Below w.heap.size w w') => readAt_any l 8 0 (by omega) (by omega) B off cap w' (by omega) hb (bytesAt_below hc hb')
  have R1 := Lib.hid fun (w' : World) (hb' : Below w.heap.size w w') => readAt_any l 4 8 (by omega) (by omega) B off cap w' (by omega) hb (bytesAt_below hc hb')
  have R2 := Lib.hid fun (w' : World) (hb' : Below w.heap.size w w') => readAt_any l 4 12 (by omega) (by omega) B off cap w' (by omega) hb (bytesAt_below hc hb')
  have R3 := Lib.hid fun (w' : World) (hb' : Below w.heap.size w w') => readAt_any l 4 17 (by omega) (by omega) B off cap w' (by omega) hb (bytesAt_below hc hb')
  have R4 := Lib.hid fun (w' : World) (hb' : Below w.heap.size w w') => readAt_any l 4 21 (by omega) (by omega) B off cap w' (by omega) hb (bytesAt_below hc hb')
  have CV := Lib.hid fun (w' : World) (hb' : Below w.heap.size w w') => conv_at w' (some ⟨B, off, none⟩) cap l hb (bytesAt_below hc hb')
  rw [hl] at R0 R1 R2 R3 R4 CV
  simp only [Nat.reduceSub, Nat.add_zero, Nat.sub_zero, List.drop_zero] at R0 R1 R2 R3 R4
  change Hid (∀ w', Below w.heap.size w w' → Calls Try.prog 41 #[.slice (some ⟨B, off, none⟩) 576 cap, .int .i64 8] w' fun r w2 => r = .returned (.tuple #[.int .u64 (fE l : Nat), .int .i64 0]) ∧ w' = w2) at R0
  change Hid (∀ w', Below w.heap.size w w' → Calls Try.prog 41 #[.slice (some ⟨B, off + 8, none⟩) 568 (cap - 8), .int .i64 4] w' fun r w2 => r = .returned (.tuple #[.int .u64 (fI l : Nat), .int .i64 0]) ∧ w' = w2) at R1
  change Hid (∀ w', Below w.heap.size w w' → Calls Try.prog 41 #[.slice (some ⟨B, off + 12, none⟩) 564 (cap - 12), .int .i64 4] w' fun r w2 => r = .returned (.tuple #[.int .u64 (fP l : Nat), .int .i64 0]) ∧ w' = w2) at R2
  change Hid (∀ w', Below w.heap.size w w' → Calls Try.prog 41 #[.slice (some ⟨B, off + 17, none⟩) 559 (cap - 17), .int .i64 4] w' fun r w2 => r = .returned (.tuple #[.int .u64 (fN l : Nat), .int .i64 0]) ∧ w' = w2) at R3
  change Hid (∀ w', Below w.heap.size w w' → Calls Try.prog 41 #[.slice (some ⟨B, off + 21, none⟩) 555 (cap - 21), .int .i64 4] w' fun r w2 => r = .returned (.tuple #[.int .u64 (fK l : Nat), .int .i64 0]) ∧ w' = w2) at R4
  have y1 := foldN_lt' (k := 4) (fun b h => hb b (List.mem_of_mem_drop h)) (l := l.drop 8)
  change fI l < 256 ^ 4 at y1
  have y2 := foldN_lt' (k := 4) (fun b h => hb b (List.mem_of_mem_drop h)) (l := l.drop 12)
  change fP l < 256 ^ 4 at y2
  have y3 := foldN_lt' (k := 4) (fun b h => hb b (List.mem_of_mem_drop h)) (l := l.drop 17)
  change fN l < 256 ^ 4 at y3
  have y4 := foldN_lt' (k := 4) (fun b h => hb b (List.mem_of_mem_drop h)) (l := l.drop 21)
  change fK l < 256 ^ 4 at y4
  simp only [Nat.reducePow] at y1 y2 y3 y4
  have hdrop := bytesAt_from hc 64
  rw [show (some (⟨B, off, none⟩ : Addr)).map (fun x => x.add 64) = some ⟨B, off + 64, none⟩ from congrArg some (addr_plain B off 64)] at hdrop
  have HDB0 := Lib.hid hdrop
  have HDL : Hid ((l.drop 64).length = 512) := Lib.hid (by rw [List.length_drop]; omega)
  have HD0 : Hid (([] : List Nat).length + (l.drop 64).length ≤ 100000) := Lib.hid (by rw [List.length_drop, List.length_nil]; omega)
  have HDD := Lib.hid fun b (h : b ∈ l.drop 64) => hb b (List.mem_of_mem_drop h)
  have HCC := Lib.hid (hcs 16 (by omega))
  have hxm : fM l = decide (l.getD 16 0 = 1) := rfl
  have hfb := frame_bounds hh
  have C24 := Lib.hid fun q c w hbs hnn => refEncode_ok (fE l) (fI l) (fP l) (fM l) (fN l) (fK l) (foldN_lt' hb) (by have := foldN_lt' (k := 4) (fun b h => hb b (List.mem_of_mem_drop h)) (l := l.drop 21); exact this) q c (l.drop 64) (by rw [List.length_drop, hl]) (fun b h => hb b (List.mem_of_mem_drop h)) w hbs hnn hh
  simp only [frameV] at C24
  have hlb : ∀ b ∈ frameL (fE l) (fI l) (fP l) (fM l) (fN l) (fK l) (l.drop 64), b < 256 := fun b h => (List.mem_append.1 h).elim (frameS_byte _ _ _ _ _ _ _ b) (fun h => hb b (List.mem_of_mem_drop h))
  have hll : (frameL (fE l) (fI l) (fP l) (fM l) (fN l) (fK l) (l.drop 64)).length = 576 := by unfold frameL; rw [List.length_append, frameS_length, List.length_drop, hl]
  have hse : ((strOf (frameL (fE l) (fI l) (fP l) (fM l) (fN l) (fK l) (l.drop 64))).toList == (strOf l).toList) = true := by
    rw [str_beq]
    exact decide_eq_true (by unfold frameL; rw [hq, List.take_append_drop])
  generalize frameL (fE l) (fI l) (fP l) (fM l) (fN l) (fK l) (l.drop 64) = ll at *
  have HLB := Lib.hid hlb
  have HLL := Lib.hid hll
  generalize strOf l = sl at *
  obtain ⟨sll, hsl⟩ : ∃ s, s = strOf ll := ⟨_, rfl⟩
  rw [← hsl] at hse
  have HSL := Lib.hid hsl
  clear hh hq hlb hll hsl hfb
  generalize fE l = x0 at *
  generalize fI l = x1 at *
  generalize fP l = x2 at *
  generalize fM l = xm at *
  generalize fN l = x4 at *
  generalize fK l = x5 at *
  generalize l.drop 64 = dd at *
  generalize l.getD 16 0 = b16 at *
  have HXM : Hid (((b16 : Int) == 1) = xm) := Lib.hid (by rw [hxm]; rw [Bool.eq_iff_iff]; simp; omega)
  have u1 : IntKind.i64.wrap (x1 : Int) = (x1 : Int) := wrap_small (by omega) (by omega)
  have u2 : IntKind.i64.wrap (x2 : Int) = (x2 : Int) := wrap_small (by omega) (by omega)
  have u4 : IntKind.i64.wrap (x4 : Int) = (x4 : Int) := wrap_small (by omega) (by omega)
  have u5 : IntKind.u32.wrap (x5 : Int) = (x5 : Int) := by rw [wrap_u32]; omega
  have n8 : ¬ cap = 8 := by omega
  have n12 : ¬ cap = 12 := by omega
  have n17 : ¬ cap = 17 := by omega
  have n21 : ¬ cap = 21 := by omega
  have n64 : ¬ cap = 64 := by omega
  clear hcs hb hc hl hxm hdrop y1 y2 y3 y4
  go_enter Try.func26, Try.ntmps26
  go_upto_region 3 with fail
  obtain ⟨w0, hw0⟩ : ∃ w0, w.alloc (.cells #[.int .u64 0, .int .i64 0, .int .i64 0, .bool false, .int .i64 0, .int .u32 0, .slice none 0 0] 51) = w0 := ⟨_, rfl⟩
  have HB0 : Hid (Below w.heap.size w w0) := Lib.hid (by subst hw0; exact (Below.refl _ _).alloc (Nat.le_refl _) _)
  have HG0 : Hid (w0.heap[w.heap.size]? = some (.cells #[.int .u64 0, .int .i64 0, .int .i64 0, .bool false, .int .i64 0, .int .u32 0, .slice none 0 0] 51 (0, 0))) := Lib.hid (by subst hw0; exact heap_alloc_last w _)
  have HS0 : Hid (w.heap.size < w0.heap.size) := Lib.hid (by subst hw0; simp)
  rw [hw0]
  clear hw0
  go_upto_region 8 with (first
    | (go_at_call 41; (with_reducible refine (R0.out _ HB0.out).mono ?_); rintro e wn ⟨rfl, rfl⟩)
    | (go_at_call 41; (with_reducible refine (R1.out _ HB0.out).mono ?_); rintro e wn ⟨rfl, rfl⟩)
    | (go_at_call 41; (with_reducible refine (R2.out _ HB0.out).mono ?_); rintro e wn ⟨rfl, rfl⟩)
    | (go_at_call 41; (with_reducible refine (R3.out _ HB0.out).mono ?_); rintro e wn ⟨rfl, rfl⟩)
    | (go_at_call 41; (with_reducible refine (R4.out _ HB0.out).mono ?_); rintro e wn ⟨rfl, rfl⟩))
  have HDB := Lib.hid (bytesAt_below HDB0.out HB0.out)
  have HC16 : Hid (∀ w', Below w0.heap.size w0 w' → w'.cell? ⟨B, off + 16, none⟩ = some (.int .u8 b16)) := Lib.hid fun w' h => ((kbT HB0.out h).cell (lt_of_cell_some HCC.out)).trans HCC.out
  go_cut [14] from 50 to 67 (fun s14 wx => ∃ A q c, s14 = .pointer (some ⟨A, 0, none⟩) ∧ wx.heap[A]? = some (.cells #[.int .u64 x0, .int .i64 x1, .int .i64 x2, .bool xm, .int .i64 x4, .int .u32 x5, .slice q 512 c] 51 (0, 0)) ∧ Hid (BytesAt wx q dd) ∧ (q = none → c = 0) ∧ (512 ≤ c ∧ c ≤ maxLen) ∧ (∀ B off, q = some ⟨B, off, none⟩ → w0.heap.size ≤ B) ∧ Hid (Below w0.heap.size w0 wx))
  case first =>
    refine wp_region_held_drew (S := fun w' => Below w0.heap.size w0 w') (by kernel_rfl) ((Below.refl _ _).drew) (fun H0 => ?_)
    obtain ⟨wd, hwd⟩ : ∃ wd, w0.drew = wd := ⟨_, rfl⟩
    rw [hwd] at H0 ⊢
    clear hwd
    refine wpAnyH_take (i := 0) (oi := { dst := some 50, op := Go.Op.move (Go.Operand.tmp 4), type := 36, pos := "ref.go:87", after := #[], guard := none }) (v := ?_) rfl (by kernel_rfl) (by kernel_rfl) (by kernel_rfl) (fun _ _ _ h => h) (Or.inl ⟨by rfl, ?_⟩) H0 ?_
    rotate_left
    focus (intro w' hSw; (try dsimp only at hSw); go_simp; (try with_reducible rfl))
    simp only [Act.put, List.setIfInBounds_toArray, List.set_cons_zero, List.set_cons_succ]
    refine wpAnyH_take (i := 1) (oi := { dst := some 51, op := Go.Op.move (Go.Operand.tmp 6), type := 36, pos := "ref.go:87", after := #[], guard := none }) (v := ?_) rfl (by kernel_rfl) (by kernel_rfl) (by kernel_rfl) (fun _ _ _ h => h) (Or.inl ⟨by rfl, ?_⟩) H0 ?_
    rotate_left
    focus (intro w' hSw; (try dsimp only at hSw); go_simp; (try with_reducible rfl))
    simp only [Act.put, List.setIfInBounds_toArray, List.set_cons_zero, List.set_cons_succ]
    refine wpAnyH_take (i := 2) (oi := { dst := some 52, op := Go.Op.convert 36 3 (Go.Operand.tmp 51), type := 3, pos := "ref.go:87", after := #[{ on := 1, ground := Go.Ground.data }], guard := none }) (v := ?_) rfl (by kernel_rfl) (by kernel_rfl) (by kernel_rfl) (fun _ _ _ h => h) (Or.inl ⟨by rfl, ?_⟩) H0 ?_
    rotate_left
    focus (intro w' hSw; (try dsimp only at hSw); go_simp; (try with_reducible rfl))
    simp only [Act.put, List.setIfInBounds_toArray, List.set_cons_zero, List.set_cons_succ]
    refine wpAnyH_take (i := 3) (oi := { dst := some 53, op := Go.Op.move (Go.Operand.tmp 8), type := 36, pos := "ref.go:87", after := #[], guard := none }) (v := ?_) rfl (by kernel_rfl) (by kernel_rfl) (by kernel_rfl) (fun _ _ _ h => h) (Or.inl ⟨by rfl, ?_⟩) H0 ?_
    rotate_left
    focus (intro w' hSw; (try dsimp only at hSw); go_simp; (try with_reducible rfl))
    simp only [Act.put, List.setIfInBounds_toArray, List.set_cons_zero, List.set_cons_succ]
    refine wpAnyH_take (i := 4) (oi := { dst := some 54, op := Go.Op.convert 36 3 (Go.Operand.tmp 53), type := 3, pos := "ref.go:87", after := #[{ on := 3, ground := Go.Ground.data }], guard := none }) (v := ?_) rfl (by kernel_rfl) (by kernel_rfl) (by kernel_rfl) (fun _ _ _ h => h) (Or.inl ⟨by rfl, ?_⟩) H0 ?_
    rotate_left
    focus (intro w' hSw; (try dsimp only at hSw); go_simp; (try with_reducible rfl))
    simp only [Act.put, List.setIfInBounds_toArray, List.set_cons_zero, List.set_cons_succ]
    refine wpAnyH_take (i := 5) (oi := { dst := some 55, op := Go.Op.move (Go.Operand.tmp 0), type := 39, pos := "ref.go:87", after := #[], guard := none }) (v := ?_) rfl (by kernel_rfl) (by kernel_rfl) (by kernel_rfl) (fun _ _ _ h => h) (Or.inl ⟨by rfl, ?_⟩) H0 ?_
    rotate_left
    focus (intro w' hSw; (try dsimp only at hSw); go_simp; (try with_reducible rfl))
    simp only [Act.put, List.setIfInBounds_toArray, List.set_cons_zero, List.set_cons_succ]
    refine wpAnyH_take (i := 6) (oi := { dst := some 56, op := Go.Op.indexAddr 39 (Go.Operand.tmp 55) (Go.Operand.const (Go.Value.int Go.IntKind.i64 16)), type := 0, pos := "ref.go:87", after := #[{ on := 5, ground := Go.Ground.data }], guard := none }) (v := ?_) rfl (by kernel_rfl) (by kernel_rfl) (by kernel_rfl) (fun _ _ _ h => h) (Or.inl ⟨by rfl, ?_⟩) H0 ?_
    rotate_left
    focus (intro w' hSw; (try dsimp only at hSw); go_simp; (try with_reducible rfl))
    simp only [Act.put, List.setIfInBounds_toArray, List.set_cons_zero, List.set_cons_succ]
    refine wpAnyH_take (i := 7) (oi := { dst := some 57, op := Go.Op.load 5 (Go.Operand.tmp 56), type := 5, pos := "ref.go:87", after := #[{ on := 6, ground := Go.Ground.data }], guard := none }) (v := ?_) rfl (by kernel_rfl) (by kernel_rfl) (by kernel_rfl) (fun _ _ _ h => h) (Or.inl ⟨by rfl, ?_⟩) H0 ?_
    rotate_left
    focus (intro w' hSw; (try dsimp only at hSw); have hc16 := HC16.out _ hSw; go_simp; (try with_reducible rfl))
    simp only [Act.put, List.setIfInBounds_toArray, List.set_cons_zero, List.set_cons_succ]
    refine wpAnyH_take (i := 8) (oi := { dst := some 58, op := Go.Op.binOp Go.BinOp.eql 5 (Go.Operand.tmp 57) (Go.Operand.const (Go.Value.int Go.IntKind.u8 1)) 5, type := 4, pos := "ref.go:87", after := #[{ on := 7, ground := Go.Ground.data }], guard := none }) (v := ?_) rfl (by kernel_rfl) (by kernel_rfl) (by kernel_rfl) (fun _ _ _ h => h) (Or.inl ⟨by rfl, ?_⟩) H0 ?_
    rotate_left
    focus (intro w' hSw; (try dsimp only at hSw); go_simp; (try with_reducible rfl))
    simp only [Act.put, List.setIfInBounds_toArray, List.set_cons_zero, List.set_cons_succ]
    rw [HXM.out]
    refine wpAnyH_take (i := 9) (oi := { dst := some 59, op := Go.Op.move (Go.Operand.tmp 10), type := 36, pos := "ref.go:87", after := #[], guard := none }) (v := ?_) rfl (by kernel_rfl) (by kernel_rfl) (by kernel_rfl) (fun _ _ _ h => h) (Or.inl ⟨by rfl, ?_⟩) H0 ?_
    rotate_left
    focus (intro w' hSw; (try dsimp only at hSw); go_simp; (try with_reducible rfl))
    simp only [Act.put, List.setIfInBounds_toArray, List.set_cons_zero, List.set_cons_succ]
    refine wpAnyH_take (i := 10) (oi := { dst := some 60, op := Go.Op.convert 36 3 (Go.Operand.tmp 59), type := 3, pos := "ref.go:87", after := #[{ on := 9, ground := Go.Ground.data }], guard := none }) (v := ?_) rfl (by kernel_rfl) (by kernel_rfl) (by kernel_rfl) (fun _ _ _ h => h) (Or.inl ⟨by rfl, ?_⟩) H0 ?_
    rotate_left
    focus (intro w' hSw; (try dsimp only at hSw); go_simp; (try with_reducible rfl))
    simp only [Act.put, List.setIfInBounds_toArray, List.set_cons_zero, List.set_cons_succ]
    refine wpAnyH_take (i := 11) (oi := { dst := some 61, op := Go.Op.move (Go.Operand.tmp 12), type := 36, pos := "ref.go:87", after := #[], guard := none }) (v := ?_) rfl (by kernel_rfl) (by kernel_rfl) (by kernel_rfl) (fun _ _ _ h => h) (Or.inl ⟨by rfl, ?_⟩) H0 ?_
    rotate_left
    focus (intro w' hSw; (try dsimp only at hSw); go_simp; (try with_reducible rfl))
    simp only [Act.put, List.setIfInBounds_toArray, List.set_cons_zero, List.set_cons_succ]
    refine wpAnyH_take (i := 12) (oi := { dst := some 62, op := Go.Op.convert 36 49 (Go.Operand.tmp 61), type := 49, pos := "ref.go:87", after := #[{ on := 11, ground := Go.Ground.data }], guard := none }) (v := ?_) rfl (by kernel_rfl) (by kernel_rfl) (by kernel_rfl) (fun _ _ _ h => h) (Or.inl ⟨by rfl, ?_⟩) H0 ?_
    rotate_left
    focus (intro w' hSw; (try dsimp only at hSw); go_simp; (try with_reducible rfl))
    simp only [Act.put, List.setIfInBounds_toArray, List.set_cons_zero, List.set_cons_succ]
    refine wpAnyH_take (i := 14) (oi := { dst := some 64, op := Go.Op.move (Go.Operand.tmp 0), type := 39, pos := "ref.go:87", after := #[], guard := none }) (v := ?_) rfl (by kernel_rfl) (by kernel_rfl) (by kernel_rfl) (fun _ _ _ h => h) (Or.inl ⟨by rfl, ?_⟩) H0 ?_
    rotate_left
    focus (intro w' hSw; (try dsimp only at hSw); go_simp; (try with_reducible rfl))
    simp only [Act.put, List.setIfInBounds_toArray, List.set_cons_zero, List.set_cons_succ]
    refine wpAnyH_take (i := 15) (oi := { dst := some 65, op := Go.Op.slice 39 (Go.Operand.tmp 64) (some (Go.Operand.const (Go.Value.int Go.IntKind.i64 64))) none none, type := 39, pos := "ref.go:87", after := #[{ on := 14, ground := Go.Ground.data }], guard := none }) (v := ?_) rfl (by kernel_rfl) (by kernel_rfl) (by kernel_rfl) (fun _ _ _ h => h) (Or.inl ⟨by rfl, ?_⟩) H0 ?_
    rotate_left
    focus (intro w' hSw; (try dsimp only at hSw); go_simp; (try with_reducible rfl))
    simp only [Act.put, List.setIfInBounds_toArray, List.set_cons_zero, List.set_cons_succ]
    refine wpAnyH_ready (rs := [13, 18]) (by kernel_rfl) (by simp) ?_
    refine (AllReadyH.cons (o := { dst := some 63, op := Go.Op.buildSlice 39 0 #[], type := 39, pos := "ref.go:87", after := #[], guard := none }) rfl (fun K hK => ?_) (AllReadyH.cons (o := { dst := some 14, op := Go.Op.alloc 51, type := 0, pos := "ref.go:87", after := #[], guard := none }) rfl (fun K hK => ?_) AllReadyH.nil))
    · skip
      go_simp
      have hr159 := rowB_empty wd
      obtain ⟨wm157, hwm157⟩ : ∃ wz, wd.alloc (.cells #[] 5) = wz := ⟨_, rfl⟩
      rw [hwm157] at hr159 ⊢
      refine hK.out _ _ (kbT H0 hr159.2) (fun Hm158 => ?_)
      clear hwm157
      clear hK K
      try simp only [Act.put, List.setIfInBounds_toArray, List.set_cons_zero, List.set_cons_succ]
      refine wpAnyH_ready (rs := [16, 18]) (by kernel_rfl) (by simp) ?_
      refine (AllReadyH.cons (o := { dst := some 66, op := Go.Op.call { callee := Go.Callee.builtin Go.Builtin.append, args := #[Go.Operand.tmp 63, Go.Operand.tmp 65], argTypes := #[39, 39] }, type := 39, pos := "ref.go:87", after := #[{ on := 13, ground := Go.Ground.data }, { on := 15, ground := Go.Ground.data }], guard := none }) rfl (fun K hK => ?_) (AllReadyH.cons (o := { dst := some 14, op := Go.Op.alloc 51, type := 0, pos := "ref.go:87", after := #[], guard := none }) rfl (fun K hK => ?_) AllReadyH.nil))
      · skip
        refine step_append_bytes rfl (.tmp 63) (.tmp 65) rfl rfl hr159 HDL.out rfl (fun h => nomatch h) (bytesAt_below HDB.out Hm158) HD0.out ?_
        intro v164 wm160 hr162 hgr163
        rw [List.nil_append] at hr162
        refine hK.out _ _ (kbT H0 hr162.2) (fun Hm161 => ?_)
        have hh171 := hr162.at2
        rw [HDL.out] at hh171
        obtain ⟨pq165, cq166, rfl, hcp167, hcm168, hby169, hnn170⟩ := hh171
        have hfr172 : ∀ B off, pq165 = some ⟨B, off, none⟩ → w0.heap.size ≤ B := fun B off h => Nat.le_trans H0.size (rowB_from hr162 B off h)
        clear hK K
        try simp only [Act.put, List.setIfInBounds_toArray, List.set_cons_zero, List.set_cons_succ]
        refine wpAnyH_take (i := 17) (oi := { dst := some 67, op := Go.Op.build 51 #[(0, Go.Operand.tmp 50), (1, Go.Operand.tmp 52), (2, Go.Operand.tmp 54), (3, Go.Operand.tmp 58), (4, Go.Operand.tmp 60), (5, Go.Operand.tmp 62), (6, Go.Operand.tmp 66)], type := 51, pos := "ref.go:87", after := #[{ on := 0, ground := Go.Ground.data }, { on := 2, ground := Go.Ground.data }, { on := 4, ground := Go.Ground.data }, { on := 8, ground := Go.Ground.data }, { on := 10, ground := Go.Ground.data }, { on := 12, ground := Go.Ground.data }, { on := 16, ground := Go.Ground.data }], guard := none }) (v := ?_) rfl (by kernel_rfl) (by kernel_rfl) (by kernel_rfl) (fun _ _ _ h => h) (Or.inl ⟨by rfl, ?_⟩) Hm161 ?_
        rotate_left
        focus (intro w' hSw; (try dsimp only at hSw); go_simp; (try with_reducible rfl))
        simp only [Act.put, List.setIfInBounds_toArray, List.set_cons_zero, List.set_cons_succ]
        refine wpAnyH_ready (rs := [18]) (by kernel_rfl) (by simp) ?_
        refine (AllReadyH.cons (o := { dst := some 14, op := Go.Op.alloc 51, type := 0, pos := "ref.go:87", after := #[], guard := none }) rfl (fun K hK => ?_) AllReadyH.nil)
        · skip
          go_simp
          obtain ⟨wm173, hwm173⟩ : ∃ wz, wm160.alloc (.cells #[.int .u64 0, .int .i64 0, .int .i64 0, .bool false, .int .i64 0, .int .u32 0, .slice none 0 0] 51) = wz := ⟨_, rfl⟩
          have hg175 : wm173.heap[wm160.heap.size]? = some (.cells #[.int .u64 0, .int .i64 0, .int .i64 0, .bool false, .int .i64 0, .int .u32 0, .slice none 0 0] 51 (0, 0)) := by rw [← hwm173]; exact heap_alloc_last wm160 _
          have hb176 : Below wm160.heap.size wm160 wm173 := by rw [← hwm173]; exact (Below.refl _ _).alloc (Nat.le_refl _) _
          have hA177 : w0.heap.size ≤ wm160.heap.size := Hm161.size
          rw [hwm173]
          have hr178 := hr162.later hb176
          have hby179 := bytesAt_below hby169 hb176
          refine hK.out _ _ (kbT Hm161 hb176) (fun Hm174 => ?_)
          clear hwm173
          clear hK K
          try simp only [Act.put, List.setIfInBounds_toArray, List.set_cons_zero, List.set_cons_succ]
          refine wpAnyH_ready (rs := [19]) (by kernel_rfl) (by simp) ?_
          refine (AllReadyH.cons (o := { dst := none, op := Go.Op.store 51 (Go.Operand.tmp 14) (Go.Operand.tmp 67), type := 0, pos := "ref.go:87", after := #[{ on := 18, ground := Go.Ground.data }, { on := 17, ground := Go.Ground.data }, { on := 16, ground := Go.Ground.chain }, { on := 0, ground := Go.Ground.phase }, { on := 1, ground := Go.Ground.phase }, { on := 2, ground := Go.Ground.phase }, { on := 3, ground := Go.Ground.phase }, { on := 4, ground := Go.Ground.phase }, { on := 5, ground := Go.Ground.phase }, { on := 6, ground := Go.Ground.phase }, { on := 7, ground := Go.Ground.phase }, { on := 8, ground := Go.Ground.phase }, { on := 9, ground := Go.Ground.phase }, { on := 10, ground := Go.Ground.phase }, { on := 11, ground := Go.Ground.phase }, { on := 12, ground := Go.Ground.phase }, { on := 13, ground := Go.Ground.phase }, { on := 14, ground := Go.Ground.phase }, { on := 15, ground := Go.Ground.phase }, { on := 16, ground := Go.Ground.phase }, { on := 17, ground := Go.Ground.phase }, { on := 18, ground := Go.Ground.phase }], guard := none }) rfl (fun K hK => ?_) AllReadyH.nil)
          · skip
            refine step_store_row rfl 51 (.tmp 14) (.tmp 67) rfl wm160.heap.size #[.int .u64 x0, .int .i64 x1, .int .i64 x2, .bool xm, .int .i64 x4, .int .u32 x5, .slice pq165 512 cq166] rfl rfl 51 #[.int .u64 0, .int .i64 0, .int .i64 0, .bool false, .int .i64 0, .int .u32 0, .slice none 0 0] hg175 rfl rfl (by simp [Value.oneCell']) ?_
            have hgz182 := setRow_heap wm173 wm160.heap.size #[.int .u64 0, .int .i64 0, .int .i64 0, .bool false, .int .i64 0, .int .u32 0, .slice none 0 0] #[.int .u64 x0, .int .i64 x1, .int .i64 x2, .bool xm, .int .i64 x4, .int .u32 x5, .slice pq165 512 cq166] 51 (0, 0) hg175
            have hbz183 := keepA7 (cs' := #[.int .u64 x0, .int .i64 x1, .int .i64 x2, .bool xm, .int .i64 x4, .int .u32 x5, .slice pq165 512 cq166]) hr178 hg175 hby179
            obtain ⟨wm180, hwm180⟩ : ∃ wz, wm173.setRow wm160.heap.size #[.int .u64 x0, .int .i64 x1, .int .i64 x2, .bool xm, .int .i64 x4, .int .u32 x5, .slice pq165 512 cq166] = wz := ⟨_, rfl⟩
            have hsz := below_setRow Hm174 hA177 #[.int .u64 x0, .int .i64 x1, .int .i64 x2, .bool xm, .int .i64 x4, .int .u32 x5, .slice pq165 512 cq166]
            rw [hwm180] at hgz182 hbz183 hsz ⊢
            refine hK.out _ _ hsz (fun Hm181 => ?_)
            clear hwm180 hsz
            clear hK K
            try simp only [Act.put, List.setIfInBounds_toArray, List.set_cons_zero, List.set_cons_succ]
            refine wpAnyH_done (by kernel_rfl) ?_ _
            go_wp2_with fail
            go_meet
            exact ⟨wm160.heap.size, _, _, rfl, hgz182, Lib.hid hbz183, hnn170, ⟨hcp167, hcm168⟩, hfr172, Lib.hid Hm181⟩
      · skip
        go_simp
        obtain ⟨wm184, hwm184⟩ : ∃ wz, wm157.alloc (.cells #[.int .u64 0, .int .i64 0, .int .i64 0, .bool false, .int .i64 0, .int .u32 0, .slice none 0 0] 51) = wz := ⟨_, rfl⟩
        have hg186 : wm184.heap[wm157.heap.size]? = some (.cells #[.int .u64 0, .int .i64 0, .int .i64 0, .bool false, .int .i64 0, .int .u32 0, .slice none 0 0] 51 (0, 0)) := by rw [← hwm184]; exact heap_alloc_last wm157 _
        have hb187 : Below wm157.heap.size wm157 wm184 := by rw [← hwm184]; exact (Below.refl _ _).alloc (Nat.le_refl _) _
        have hA188 : w0.heap.size ≤ wm157.heap.size := Hm158.size
        rw [hwm184]
        have hr189 := hr159.later hb187
        refine hK.out _ _ (kbT Hm158 hb187) (fun Hm185 => ?_)
        clear hwm184
        clear hK K
        try simp only [Act.put, List.setIfInBounds_toArray, List.set_cons_zero, List.set_cons_succ]
        refine wpAnyH_ready (rs := [16]) (by kernel_rfl) (by simp) ?_
        refine (AllReadyH.cons (o := { dst := some 66, op := Go.Op.call { callee := Go.Callee.builtin Go.Builtin.append, args := #[Go.Operand.tmp 63, Go.Operand.tmp 65], argTypes := #[39, 39] }, type := 39, pos := "ref.go:87", after := #[{ on := 13, ground := Go.Ground.data }, { on := 15, ground := Go.Ground.data }], guard := none }) rfl (fun K hK => ?_) AllReadyH.nil)
        · skip
          refine step_append_bytes rfl (.tmp 63) (.tmp 65) rfl rfl hr189 HDL.out rfl (fun h => nomatch h) (bytesAt_below HDB.out Hm185) HD0.out ?_
          intro v194 wm190 hr192 hgr193
          have hg195 := keepF hr189 hg186 hgr193
          rw [List.nil_append] at hr192
          refine hK.out _ _ (kbT H0 hr192.2) (fun Hm191 => ?_)
          have hh202 := hr192.at2
          rw [HDL.out] at hh202
          obtain ⟨pq196, cq197, rfl, hcp198, hcm199, hby200, hnn201⟩ := hh202
          have hfr203 : ∀ B off, pq196 = some ⟨B, off, none⟩ → w0.heap.size ≤ B := fun B off h => Nat.le_trans H0.size (rowB_from hr192 B off h)
          clear hK K
          try simp only [Act.put, List.setIfInBounds_toArray, List.set_cons_zero, List.set_cons_succ]
          refine wpAnyH_take (i := 17) (oi := { dst := some 67, op := Go.Op.build 51 #[(0, Go.Operand.tmp 50), (1, Go.Operand.tmp 52), (2, Go.Operand.tmp 54), (3, Go.Operand.tmp 58), (4, Go.Operand.tmp 60), (5, Go.Operand.tmp 62), (6, Go.Operand.tmp 66)], type := 51, pos := "ref.go:87", after := #[{ on := 0, ground := Go.Ground.data }, { on := 2, ground := Go.Ground.data }, { on := 4, ground := Go.Ground.data }, { on := 8, ground := Go.Ground.data }, { on := 10, ground := Go.Ground.data }, { on := 12, ground := Go.Ground.data }, { on := 16, ground := Go.Ground.data }], guard := none }) (v := ?_) rfl (by kernel_rfl) (by kernel_rfl) (by kernel_rfl) (fun _ _ _ h => h) (Or.inl ⟨by rfl, ?_⟩) Hm191 ?_
          rotate_left
          focus (intro w' hSw; (try dsimp only at hSw); go_simp; (try with_reducible rfl))
          simp only [Act.put, List.setIfInBounds_toArray, List.set_cons_zero, List.set_cons_succ]
          refine wpAnyH_ready (rs := [19]) (by kernel_rfl) (by simp) ?_
          refine (AllReadyH.cons (o := { dst := none, op := Go.Op.store 51 (Go.Operand.tmp 14) (Go.Operand.tmp 67), type := 0, pos := "ref.go:87", after := #[{ on := 18, ground := Go.Ground.data }, { on := 17, ground := Go.Ground.data }, { on := 16, ground := Go.Ground.chain }, { on := 0, ground := Go.Ground.phase }, { on := 1, ground := Go.Ground.phase }, { on := 2, ground := Go.Ground.phase }, { on := 3, ground := Go.Ground.phase }, { on := 4, ground := Go.Ground.phase }, { on := 5, ground := Go.Ground.phase }, { on := 6, ground := Go.Ground.phase }, { on := 7, ground := Go.Ground.phase }, { on := 8, ground := Go.Ground.phase }, { on := 9, ground := Go.Ground.phase }, { on := 10, ground := Go.Ground.phase }, { on := 11, ground := Go.Ground.phase }, { on := 12, ground := Go.Ground.phase }, { on := 13, ground := Go.Ground.phase }, { on := 14, ground := Go.Ground.phase }, { on := 15, ground := Go.Ground.phase }, { on := 16, ground := Go.Ground.phase }, { on := 17, ground := Go.Ground.phase }, { on := 18, ground := Go.Ground.phase }], guard := none }) rfl (fun K hK => ?_) AllReadyH.nil)
          · skip
            refine step_store_row rfl 51 (.tmp 14) (.tmp 67) rfl wm157.heap.size #[.int .u64 x0, .int .i64 x1, .int .i64 x2, .bool xm, .int .i64 x4, .int .u32 x5, .slice pq196 512 cq197] rfl rfl 51 #[.int .u64 0, .int .i64 0, .int .i64 0, .bool false, .int .i64 0, .int .u32 0, .slice none 0 0] hg195 rfl rfl (by simp [Value.oneCell']) ?_
            have hgz206 := setRow_heap wm190 wm157.heap.size #[.int .u64 0, .int .i64 0, .int .i64 0, .bool false, .int .i64 0, .int .u32 0, .slice none 0 0] #[.int .u64 x0, .int .i64 x1, .int .i64 x2, .bool xm, .int .i64 x4, .int .u32 x5, .slice pq196 512 cq197] 51 (0, 0) hg195
            have hbz207 := keepA7 (cs' := #[.int .u64 x0, .int .i64 x1, .int .i64 x2, .bool xm, .int .i64 x4, .int .u32 x5, .slice pq196 512 cq197]) hr192 hg195 hby200
            obtain ⟨wm204, hwm204⟩ : ∃ wz, wm190.setRow wm157.heap.size #[.int .u64 x0, .int .i64 x1, .int .i64 x2, .bool xm, .int .i64 x4, .int .u32 x5, .slice pq196 512 cq197] = wz := ⟨_, rfl⟩
            have hsz := below_setRow Hm191 hA188 #[.int .u64 x0, .int .i64 x1, .int .i64 x2, .bool xm, .int .i64 x4, .int .u32 x5, .slice pq196 512 cq197]
            rw [hwm204] at hgz206 hbz207 hsz ⊢
            refine hK.out _ _ hsz (fun Hm205 => ?_)
            clear hwm204 hsz
            clear hK K
            try simp only [Act.put, List.setIfInBounds_toArray, List.set_cons_zero, List.set_cons_succ]
            refine wpAnyH_done (by kernel_rfl) ?_ _
            go_wp2_with fail
            go_meet
            exact ⟨wm157.heap.size, _, _, rfl, hgz206, Lib.hid hbz207, hnn201, ⟨hcp198, hcm199⟩, hfr203, Lib.hid Hm205⟩
    · skip
      go_simp
      obtain ⟨wm208, hwm208⟩ : ∃ wz, wd.alloc (.cells #[.int .u64 0, .int .i64 0, .int .i64 0, .bool false, .int .i64 0, .int .u32 0, .slice none 0 0] 51) = wz := ⟨_, rfl⟩
      have hg210 : wm208.heap[wd.heap.size]? = some (.cells #[.int .u64 0, .int .i64 0, .int .i64 0, .bool false, .int .i64 0, .int .u32 0, .slice none 0 0] 51 (0, 0)) := by rw [← hwm208]; exact heap_alloc_last wd _
      have hb211 : Below wd.heap.size wd wm208 := by rw [← hwm208]; exact (Below.refl _ _).alloc (Nat.le_refl _) _
      have hA212 : w0.heap.size ≤ wd.heap.size := H0.size
      rw [hwm208]
      refine hK.out _ _ (kbT H0 hb211) (fun Hm209 => ?_)
      clear hwm208
      clear hK K
      try simp only [Act.put, List.setIfInBounds_toArray, List.set_cons_zero, List.set_cons_succ]
      refine wpAnyH_ready (rs := [13]) (by kernel_rfl) (by simp) ?_
      refine (AllReadyH.cons (o := { dst := some 63, op := Go.Op.buildSlice 39 0 #[], type := 39, pos := "ref.go:87", after := #[], guard := none }) rfl (fun K hK => ?_) AllReadyH.nil)
      · skip
        go_simp
        have hr215 := rowB_empty wm208
        obtain ⟨wm213, hwm213⟩ : ∃ wz, wm208.alloc (.cells #[] 5) = wz := ⟨_, rfl⟩
        rw [hwm213] at hr215 ⊢
        have hg216 := (hr215.2.block _ (Array.getElem?_eq_some_iff.1 hg210).1).trans hg210
        refine hK.out _ _ (kbT Hm209 hr215.2) (fun Hm214 => ?_)
        clear hwm213
        clear hK K
        try simp only [Act.put, List.setIfInBounds_toArray, List.set_cons_zero, List.set_cons_succ]
        refine wpAnyH_ready (rs := [16]) (by kernel_rfl) (by simp) ?_
        refine (AllReadyH.cons (o := { dst := some 66, op := Go.Op.call { callee := Go.Callee.builtin Go.Builtin.append, args := #[Go.Operand.tmp 63, Go.Operand.tmp 65], argTypes := #[39, 39] }, type := 39, pos := "ref.go:87", after := #[{ on := 13, ground := Go.Ground.data }, { on := 15, ground := Go.Ground.data }], guard := none }) rfl (fun K hK => ?_) AllReadyH.nil)
        · skip
          refine step_append_bytes rfl (.tmp 63) (.tmp 65) rfl rfl hr215 HDL.out rfl (fun h => nomatch h) (bytesAt_below HDB.out Hm214) HD0.out ?_
          intro v221 wm217 hr219 hgr220
          have hg222 := keepF hr215 hg216 hgr220
          rw [List.nil_append] at hr219
          refine hK.out _ _ (kbT Hm209 hr219.2) (fun Hm218 => ?_)
          have hh229 := hr219.at2
          rw [HDL.out] at hh229
          obtain ⟨pq223, cq224, rfl, hcp225, hcm226, hby227, hnn228⟩ := hh229
          have hfr230 : ∀ B off, pq223 = some ⟨B, off, none⟩ → w0.heap.size ≤ B := fun B off h => Nat.le_trans Hm209.size (rowB_from hr219 B off h)
          clear hK K
          try simp only [Act.put, List.setIfInBounds_toArray, List.set_cons_zero, List.set_cons_succ]
          refine wpAnyH_take (i := 17) (oi := { dst := some 67, op := Go.Op.build 51 #[(0, Go.Operand.tmp 50), (1, Go.Operand.tmp 52), (2, Go.Operand.tmp 54), (3, Go.Operand.tmp 58), (4, Go.Operand.tmp 60), (5, Go.Operand.tmp 62), (6, Go.Operand.tmp 66)], type := 51, pos := "ref.go:87", after := #[{ on := 0, ground := Go.Ground.data }, { on := 2, ground := Go.Ground.data }, { on := 4, ground := Go.Ground.data }, { on := 8, ground := Go.Ground.data }, { on := 10, ground := Go.Ground.data }, { on := 12, ground := Go.Ground.data }, { on := 16, ground := Go.Ground.data }], guard := none }) (v := ?_) rfl (by kernel_rfl) (by kernel_rfl) (by kernel_rfl) (fun _ _ _ h => h) (Or.inl ⟨by rfl, ?_⟩) Hm218 ?_
          rotate_left
          focus (intro w' hSw; (try dsimp only at hSw); go_simp; (try with_reducible rfl))
          simp only [Act.put, List.setIfInBounds_toArray, List.set_cons_zero, List.set_cons_succ]
          refine wpAnyH_ready (rs := [19]) (by kernel_rfl) (by simp) ?_
          refine (AllReadyH.cons (o := { dst := none, op := Go.Op.store 51 (Go.Operand.tmp 14) (Go.Operand.tmp 67), type := 0, pos := "ref.go:87", after := #[{ on := 18, ground := Go.Ground.data }, { on := 17, ground := Go.Ground.data }, { on := 16, ground := Go.Ground.chain }, { on := 0, ground := Go.Ground.phase }, { on := 1, ground := Go.Ground.phase }, { on := 2, ground := Go.Ground.phase }, { on := 3, ground := Go.Ground.phase }, { on := 4, ground := Go.Ground.phase }, { on := 5, ground := Go.Ground.phase }, { on := 6, ground := Go.Ground.phase }, { on := 7, ground := Go.Ground.phase }, { on := 8, ground := Go.Ground.phase }, { on := 9, ground := Go.Ground.phase }, { on := 10, ground := Go.Ground.phase }, { on := 11, ground := Go.Ground.phase }, { on := 12, ground := Go.Ground.phase }, { on := 13, ground := Go.Ground.phase }, { on := 14, ground := Go.Ground.phase }, { on := 15, ground := Go.Ground.phase }, { on := 16, ground := Go.Ground.phase }, { on := 17, ground := Go.Ground.phase }, { on := 18, ground := Go.Ground.phase }], guard := none }) rfl (fun K hK => ?_) AllReadyH.nil)
          · skip
            refine step_store_row rfl 51 (.tmp 14) (.tmp 67) rfl wd.heap.size #[.int .u64 x0, .int .i64 x1, .int .i64 x2, .bool xm, .int .i64 x4, .int .u32 x5, .slice pq223 512 cq224] rfl rfl 51 #[.int .u64 0, .int .i64 0, .int .i64 0, .bool false, .int .i64 0, .int .u32 0, .slice none 0 0] hg222 rfl rfl (by simp [Value.oneCell']) ?_
            have hgz233 := setRow_heap wm217 wd.heap.size #[.int .u64 0, .int .i64 0, .int .i64 0, .bool false, .int .i64 0, .int .u32 0, .slice none 0 0] #[.int .u64 x0, .int .i64 x1, .int .i64 x2, .bool xm, .int .i64 x4, .int .u32 x5, .slice pq223 512 cq224] 51 (0, 0) hg222
            have hbz234 := keepA7 (cs' := #[.int .u64 x0, .int .i64 x1, .int .i64 x2, .bool xm, .int .i64 x4, .int .u32 x5, .slice pq223 512 cq224]) hr219 hg222 hby227
            obtain ⟨wm231, hwm231⟩ : ∃ wz, wm217.setRow wd.heap.size #[.int .u64 x0, .int .i64 x1, .int .i64 x2, .bool xm, .int .i64 x4, .int .u32 x5, .slice pq223 512 cq224] = wz := ⟨_, rfl⟩
            have hsz := below_setRow Hm218 hA212 #[.int .u64 x0, .int .i64 x1, .int .i64 x2, .bool xm, .int .i64 x4, .int .u32 x5, .slice pq223 512 cq224]
            rw [hwm231] at hgz233 hbz234 hsz ⊢
            refine hK.out _ _ hsz (fun Hm232 => ?_)
            clear hwm231 hsz
            clear hK K
            try simp only [Act.put, List.setIfInBounds_toArray, List.set_cons_zero, List.set_cons_succ]
            refine wpAnyH_done (by kernel_rfl) ?_ _
            go_wp2_with fail
            go_meet
            exact ⟨wd.heap.size, _, _, rfl, hgz233, Lib.hid hbz234, hnn228, ⟨hcp225, hcm226⟩, hfr230, Lib.hid Hm232⟩
  case rest =>
    obtain ⟨A, q, c, rfl, hgW, HBY, hqn, hcm, hqf, HW⟩ := hcut
    rename World => wx
    have hAl : A < wx.heap.size := (Array.getElem?_eq_some_iff.1 hgW).1
    have x0c := row_cell (i := 0) hgW rfl; have x1c := row_cell (i := 1) hgW rfl; have x2c := row_cell (i := 2) hgW rfl; have x3c := row_cell (i := 3) hgW rfl; have x4c := row_cell (i := 4) hgW rfl; have x5c := row_cell (i := 5) hgW rfl; have x6c := row_cell (i := 6) hgW rfl
    have HQF := Lib.hid hqf
    have HCM := Lib.hid hcm
    have HQN := Lib.hid hqn
    clear hqf hcm hqn
    go_wp2_with (go_at_call 24; (with_reducible refine (C24.out q c _ HBY.out HQN.out).mono ?_); rintro e wa ⟨t, rfl, hr⟩; have hh2 := hr.at2; rw [HLL.out] at hh2; obtain ⟨pt, ct, rfl, -, -, hby, -⟩ := hh2; have hcv := conv_at wa pt ct ll HLB.out hby; rw [← HSL.out, HLL.out] at hcv; have hb1 := hr.2; clear hr hby; have hg2 := ((kbT HW.out hb1).block _ HS0.out).trans HG0.out; have z0 := row_cell (i := 0) hg2 rfl; have y0 := row_frozen (i := 0) hg2; have z1 := row_cell (i := 1) hg2 rfl; have y1 := row_frozen (i := 1) hg2; have z2 := row_cell (i := 2) hg2 rfl; have y2 := row_frozen (i := 2) hg2; have z3 := row_cell (i := 3) hg2 rfl; have y3 := row_frozen (i := 3) hg2; have z4 := row_cell (i := 4) hg2 rfl; have y4 := row_frozen (i := 4) hg2; have z5 := row_cell (i := 5) hg2 rfl; have y5 := row_frozen (i := 5) hg2; have z6 := row_cell (i := 6) hg2 rfl; have y6 := row_frozen (i := 6) hg2; have hgA := (hb1.block _ hAl).trans hgW; have c0 := row_cell (i := 0) hgA rfl; have c1 := row_cell (i := 1) hgA rfl; have c2 := row_cell (i := 2) hgA rfl; have c3 := row_cell (i := 3) hgA rfl; have c4 := row_cell (i := 4) hgA rfl; have c5 := row_cell (i := 5) hgA rfl; have c6 := row_cell (i := 6) hgA rfl; have HBA := Lib.hid (HB0.out.trans ((kbT HW.out hb1).mono (Nat.le_of_lt HS0.out))); have hcl := CV.out wa HBA.out; have HBE := Lib.hid (bytesAt_below HBY.out hb1))
    refine bodyPost_ret (v := .tuple #[.agg #[.int .u64 x0, .int .i64 x1, .int .i64 x2, .bool xm, .int .i64 x4, .int .u32 x5, .slice q 512 c], .int .i64 0]) ?_ rfl ⟨q, c, rfl, ?_, ?_, HQN.out, HCM.out.2, HCM.out.1⟩
    · simp [results, Try.results26, go_sem, zeroFrame, z0, z1, z2, z3, z4, z5, z6]
    · exact (((((((HBA.out.setCell (Nat.le_refl _) _).setCell (Nat.le_refl _) _).setCell (Nat.le_refl _) _).setCell (Nat.le_refl _) _).setCell (Nat.le_refl _) _).setCell (Nat.le_refl _) _).setCell (Nat.le_refl _) _)
    · intro i hi
      obtain ⟨Bz, oz, e, cz⟩ := HBE.out i hi
      refine ⟨Bz, oz, e, (((((((But.set' _ _ _ _).trans (But.set' _ _ _ _)).trans (But.set' _ _ _ _)).trans (But.set' _ _ _ _)).trans (But.set' _ _ _ _)).trans (But.set' _ _ _ _)).trans (But.set' _ _ _ _)).cell cz ?_⟩
      intro hE
      simp only at hE
      have h1 := HQF.out Bz oz e
      have h2 := HS0.out
      omega
theorem refDecode_any (l : List Nat) (p : Option Addr) (cap : Nat) (w : World) (hcap : l.length ≤ cap) (hc0 : cap ≤ 9223372036854775807) (hb : ∀ b ∈ l, b < 256) (hc : BytesAt w p l) :
    Calls Try.prog 26 #[.slice p l.length cap] w (DecPost l w) := by
  unfold DecPost isFrame
  by_cases hl : l.length = 576
  · cases hh : frameOk (fI l) (fP l) (fM l) (fN l) 512 with
    | false =>
      simp only [hl, decide_true, Bool.true_and, Bool.false_and]
      exact (refDecode_no l p cap w hl (by omega) hc0 hb hc hh).mono fun _ _ h => ⟨h.2, .inl ⟨by trivial, h.1⟩⟩
    | true =>
      by_cases hq : frameS (fE l) (fI l) (fP l) (fM l) (fN l) (fK l) (l.drop 64) = l.take 64
      · simp only [hl, hq, decide_true, Bool.true_and]
        refine (refDecode_yes l p cap w hl (by omega) hc0 hb hc hh hq).mono ?_
        rintro e w' ⟨q, c, h1, h2, h3⟩
        exact ⟨h2, .inr ⟨by trivial, q, c, h1, h3⟩⟩
      · simp only [hl, hq, decide_true, decide_false, Bool.true_and]
        exact (refDecode_other l p cap w hl (by omega) hc0 hb hc hh hq).mono fun _ _ h => ⟨h.2, .inl ⟨by trivial, h.1⟩⟩
  · simp only [hl, decide_false, Bool.false_and]
    exact (refDecode_long l p cap w hl).mono fun _ _ h => ⟨h.2, .inl ⟨by trivial, h.1⟩⟩
end Go.Proofs.Ythnllhfdbnnjhaa
namespace Go.Proofs.Ythnllhfdbnnjhaa
open Go.RowKit Go.Shelf

set_option maxRecDepth 100000 in
set_option maxHeartbeats 1000000 in
theorem encodeF_no (E : Nat) (i p : Int) (cm : Bool) (n : Int) (k : Nat) (q : Option Addr) (ln cap : Nat) (hok : frameOk i p cm n ln = false) (w : World) :
    Calls Try.prog 23 #[frameV E i p cm n k q ln cap] w fun r w' => r = .returned (.tuple #[.slice none 0 0, .int .i64 2]) ∧ Below w.heap.size w w' := by
  have CC := Lib.hid (checkFrame_any E i p cm n k q ln cap)
  rw [if_neg (by simp [hok])] at CC
  unfold frameV at CC ⊢
  go_enter Try.func23, Try.ntmps23
  go_wp2_with (go_at_call 42; (with_reducible refine (CC.out _).mono ?_); rintro e wa ⟨rfl, hb1⟩; have B1 := Lib.hid (kbA hb1); clear hb1)
  go_ret2
  exact ⟨rfl, B1.out⟩

theorem frameL_form (E i p : Nat) (cm : Bool) (n k : Nat) (bs : List Nat) : ∃ R, frameL E i p cm n k bs = fixE 8 E ++ (fixE 4 i ++ (fixE 4 p ++ (oneL cm ++ (fixE 4 n ++ (fixE 4 k ++ R))))) := by
  refine ⟨fixE 4 (~~~ sumN (frameB E i p cm n k ++ bs)).toNat ++ (List.replicate (64 - (frameC E i p cm n k bs).length) 0 ++ bs), ?_⟩
  unfold frameL frameS padL
  generalize (64 - (frameC E i p cm n k bs).length) = z
  unfold frameC
  generalize fixE 4 (~~~ sumN (frameB E i p cm n k ++ bs)).toNat = y
  simp [frameB, partsL, framePs, List.append_assoc]
/-- A frame's bytes tell the frame. -/
theorem frame_back (E i p : Nat) (cm : Bool) (n k : Nat) (bs : List Nat) (hE : E < 2 ^ 64) (hi : i < 4294967296) (hp : p < 4294967296) (hn : n < 4294967296) (hk : k < 4294967296) :
    fE (frameL E i p cm n k bs) = E ∧ fI (frameL E i p cm n k bs) = i ∧ fP (frameL E i p cm n k bs) = p ∧ fM (frameL E i p cm n k bs) = cm ∧ fN (frameL E i p cm n k bs) = n ∧ fK (frameL E i p cm n k bs) = k := by
  obtain ⟨R, e⟩ := frameL_form E i p cm n k bs
  have l8 : (fixE 8 E).length = 8 := fixE_length _ _
  have l4 : ∀ x, (fixE 4 x).length = 4 := fun x => fixE_length _ _
  have l1 := oneL_length cm
  unfold fE fI fP fM fN fK
  rw [e]
  have d8 : ∀ X : List Nat, (fixE 8 E ++ X).drop 8 = X := fun X => List.drop_left' l8
  have d4 : ∀ (x : Nat) (X : List Nat), (fixE 4 x ++ X).drop 4 = X := fun x X => List.drop_left' (l4 x)
  have t4 : ∀ (x : Nat) (X : List Nat), (fixE 4 x ++ X).take 4 = fixE 4 x := fun x X => List.take_left' (l4 x)
  have d1 : ∀ X : List Nat, (oneL cm ++ X).drop 1 = X := fun X => List.drop_left' l1
  have e8 := d8 (fixE 4 i ++ (fixE 4 p ++ (oneL cm ++ (fixE 4 n ++ (fixE 4 k ++ R)))))
  generalize hL : fixE 8 E ++ (fixE 4 i ++ (fixE 4 p ++ (oneL cm ++ (fixE 4 n ++ (fixE 4 k ++ R))))) = L at *
  have e12 : L.drop 12 = fixE 4 p ++ (oneL cm ++ (fixE 4 n ++ (fixE 4 k ++ R))) := by rw [show 12 = 8 + 4 from rfl, ← List.drop_drop, e8, d4]
  have e16 : L.drop 16 = oneL cm ++ (fixE 4 n ++ (fixE 4 k ++ R)) := by rw [show 16 = 12 + 4 from rfl, ← List.drop_drop, e12, d4]
  have e17 : L.drop 17 = fixE 4 n ++ (fixE 4 k ++ R) := by rw [show 17 = 16 + 1 from rfl, ← List.drop_drop, e16, d1]
  have e21 : L.drop 21 = fixE 4 k ++ R := by rw [show 21 = 17 + 4 from rfl, ← List.drop_drop, e17, d4]
  refine ⟨?_, ?_, ?_, ?_, ?_, ?_⟩
  · rw [← hL, List.take_left' l8]; exact foldN_fix 8 E (by simpa using hE)
  · rw [e8, t4]; exact foldN_fix 4 i (by simpa using hi)
  · rw [e12, t4]; exact foldN_fix 4 p (by simpa using hp)
  · have h16 : L.getD 16 0 = (oneL cm ++ (fixE 4 n ++ (fixE 4 k ++ R))).getD 0 0 := by rw [← e16]; simp [List.getD_eq_getElem?_getD, List.getElem?_drop]
    rw [h16]
    cases cm <;> rfl
  · rw [e17, t4]; exact foldN_fix 4 n (by simpa using hn)
  · rw [e21, t4]; exact foldN_fix 4 k (by simpa using hk)
theorem frameL_is (E i p : Nat) (cm : Bool) (n k : Nat) (bs : List Nat) (hE : E < 2 ^ 64) (hk : k < 4294967296) (hbl : bs.length = 512) (hok : frameOk i p cm n 512 = true) : isFrame (frameL E i p cm n k bs) = true := by
  obtain ⟨h1, h2, h3, h4, h5, h6, h7, -⟩ := frame_bounds hok
  obtain ⟨b1, b2, b3, b4, b5, b6⟩ := frame_back E i p cm n k bs hE (by omega) (by omega) (by omega) hk
  have hd : (frameL E i p cm n k bs).drop 64 = bs := by unfold frameL; exact List.drop_left' (frameS_length _ _ _ _ _ _ _)
  have ht : (frameL E i p cm n k bs).take 64 = frameS E i p cm n k bs := by unfold frameL; exact List.take_left' (frameS_length _ _ _ _ _ _ _)
  unfold isFrame
  rw [b1, b2, b3, b4, b5, b6, hd, ht, frameL_length _ _ _ _ _ _ _ hbl, hok]
  simp
/-- Bytes that were told. -/
def TellP (L : List Nat) (w : World) (v : Value) (w' : World) : Prop := ∃ p c, v = .slice p L.length c ∧ BytesAt w' p L ∧ L.length ≤ c ∧ c ≤ maxLen ∧ Below w.heap.size w w'
theorem tellP_row {L : List Nat} {w w' : World} {t : Value} (h : RowB w L t w') : TellP L w t w' := by
  obtain ⟨p, c, rfl, h1, h2, h3, -⟩ := h.at2
  exact ⟨p, c, rfl, h3, h1, h2, h.2⟩
/-- A frame that was told. -/
def TellF (E : Nat) (i g : Int) (cm : Bool) (n : Int) (k : Nat) (bs : List Nat) (w : World) (v : Value) (w' : World) : Prop := ∃ q c, v = frameV E i g cm n k q bs.length c ∧ BytesAt w' q bs ∧ Below w.heap.size w w'
/-- What both answer to a list of bytes. -/
theorem decs (l : List Nat) (hb : ∀ b ∈ l, b < 256) : ∃ (E : Nat) (i g : Int) (cm : Bool) (n : Int) (k : Nat) (bs : List Nat) (x : Int), (∀ b ∈ bs, b < 256) ∧
    (∀ p cap w, l.length ≤ cap → cap ≤ 9223372036854775807 → BytesAt w p l → Calls Try.prog 25 #[.slice p l.length cap] w fun r w' => ∃ v, r = .returned (.tuple #[v, .int .i64 x]) ∧ TellF E i g cm n k bs w v w') ∧
    (∀ p cap w, l.length ≤ cap → cap ≤ 9223372036854775807 → BytesAt w p l → Calls Try.prog 26 #[.slice p l.length cap] w fun r w' => ∃ v, r = .returned (.tuple #[v, .int .i64 x]) ∧ TellF E i g cm n k bs w v w') := by
  cases hf : isFrame l with
  | false =>
    refine ⟨0, 0, 0, false, 0, 0, [], 150, (fun b h => by cases h), fun p cap w h1 h2 h3 => (decode_any l p cap w h1 h2 hb h3).mono ?_, fun p cap w h1 h2 h3 => (refDecode_any l p cap w h1 h2 hb h3).mono ?_⟩
    all_goals
      rintro e w' ⟨h4, ⟨-, rfl⟩ | ⟨h5, -⟩⟩
      · exact ⟨_, rfl, none, 0, rfl, (fun i hi => by cases hi), h4⟩
      · rw [hf] at h5; cases h5
  | true =>
    have hl : (l.drop 64).length = 512 := by
      unfold isFrame at hf
      simp only [Bool.and_eq_true, decide_eq_true_eq] at hf
      rw [List.length_drop]
      omega
    refine ⟨fE l, fI l, fP l, fM l, fN l, fK l, l.drop 64, 0, fun b h => hb b (List.mem_of_mem_drop h), fun p cap w h1 h2 h3 => (decode_any l p cap w h1 h2 hb h3).mono ?_, fun p cap w h1 h2 h3 => (refDecode_any l p cap w h1 h2 hb h3).mono ?_⟩
    all_goals
      rintro e w' ⟨h4, ⟨h5, -⟩ | ⟨-, q, c, rfl, h6, -⟩⟩
      · rw [hf] at h5; cases h5
      · exact ⟨_, rfl, q, c, by rw [hl]; rfl, h6, h4⟩
/-- What both answer to a frame. -/
theorem encs (E : Nat) (i g : Int) (cm : Bool) (n : Int) (k : Nat) (bs : List Nat) (hE : E < 2 ^ 64) (hk : k < 2 ^ 32) (hbb : ∀ b ∈ bs, b < 256) : ∃ (L : List Nat) (ex sv : Int), (∀ b ∈ L, b < 256) ∧ L.length ≤ 576 ∧
    (∀ q c w, BytesAt w q bs → (q = none → c = 0) → Calls Try.prog 23 #[frameV E i g cm n k q bs.length c] w fun r w' => ∃ v, r = .returned (.tuple #[v, .int .i64 ex]) ∧ TellP L w v w') ∧
    (∀ q c w, BytesAt w q bs → (q = none → c = 0) → Calls Try.prog 24 #[frameV E i g cm n k q bs.length c] w fun r w' => ∃ v, r = .returned (.tuple #[v, .int .i64 ex]) ∧ TellP L w v w') ∧
    (∀ q c w, BytesAt w q bs → (q = none → c = 0) → Calls Try.prog 28 #[frameV E i g cm n k q bs.length c] w fun r w' => r = .returned (.tuple #[.int .u32 sv, .int .i64 ex]) ∧ Below w.heap.size w w') ∧
    (∀ q c w, BytesAt w q bs → (q = none → c = 0) → Calls Try.prog 29 #[frameV E i g cm n k q bs.length c] w fun r w' => r = .returned (.tuple #[.int .u32 sv, .int .i64 ex]) ∧ Below w.heap.size w w') ∧
    (ex = 2 ∨ (ex = 0 ∧ ∀ p cap w, L.length ≤ cap → cap ≤ 9223372036854775807 → BytesAt w p L → Calls Try.prog 25 #[.slice p L.length cap] w fun r w' => ∃ v, r = .returned (.tuple #[v, .int .i64 0]) ∧ TellF E i g cm n k bs w v w')) := by
  cases hok : frameOk i g cm n bs.length with
  | false =>
    refine ⟨[], 2, 0, (fun b h => by cases h), by simp, fun q c w _ _ => (encodeF_no E i g cm n k q bs.length c hok w).mono ?_, fun q c w _ _ => (refEncode_no E i g cm n k q bs.length c hok w).mono ?_, fun q c w _ _ => fsum_no E i g cm n k q bs.length c hok w, fun q c w _ _ => refSumF_no E i g cm n k q bs.length c hok w, .inl rfl⟩
    all_goals
      rintro e w' ⟨rfl, h⟩
      exact ⟨_, rfl, none, 0, rfl, (fun i hi => by cases hi), Nat.le_refl _, by simp, h⟩
  | true =>
    obtain ⟨h1, h2, h3, h4, h5, h6, h7, hbl⟩ := frame_bounds hok
    obtain ⟨i, rfl⟩ := Int.eq_ofNat_of_zero_le h1
    obtain ⟨g, rfl⟩ := Int.eq_ofNat_of_zero_le h3
    obtain ⟨n, rfl⟩ := Int.eq_ofNat_of_zero_le h5
    rw [hbl] at hok
    have hk' : k < 4294967296 := by simpa using hk
    have hL := frameL_is E i g cm n k bs hE hk' hbl hok
    obtain ⟨b1, b2, b3, b4, b5, b6⟩ := frame_back E i g cm n k bs hE (by omega) (by omega) (by omega) hk'
    have hd : (frameL E i g cm n k bs).drop 64 = bs := by unfold frameL; exact List.drop_left' (frameS_length _ _ _ _ _ _ _)
    have hlb := frameL_byte E i g cm n k bs hbb
    refine ⟨frameL E i g cm n k bs, 0, ((~~~ sumN (frameB E i g cm n k ++ bs)).toNat : Nat), hlb, Nat.le_of_eq (frameL_length _ _ _ _ _ _ _ hbl), fun q c w hc hq => ?_, fun q c w hc hq => ?_, fun q c w hc hq => ?_, fun q c w hc hq => ?_, .inr ⟨rfl, fun p cap w c1 c2 hc => ?_⟩⟩
    · rw [hbl]
      refine (encode_ok E i g cm n k hE (by omega) (by omega) (by omega) hk' q c bs hbl hbb w hc hq hok).mono ?_
      rintro e w' ⟨t, rfl, h⟩
      exact ⟨_, rfl, tellP_row h⟩
    · rw [hbl]
      refine (refEncode_ok E i g cm n k hE hk' q c bs hbl hbb w hc hq hok).mono ?_
      rintro e w' ⟨t, rfl, h⟩
      exact ⟨_, rfl, tellP_row h⟩
    · rw [hbl]
      exact fsum_ok E i g cm n k hE (by omega) (by omega) (by omega) hk' q c bs hbl hbb w hc hok
    · rw [hbl]
      exact refSumF_ok E i g cm n k hE hk' q c bs hbl hbb w hc hq hok
    · refine (decode_any _ p cap w c1 c2 hlb hc).mono ?_
      rintro e w' ⟨h4, ⟨h5, -⟩ | ⟨-, q, c, rfl, h6, -⟩⟩
      · rw [hL] at h5; cases h5
      · rw [b1, b2, b3, b4, b5, b6]
        rw [hd] at h6
        exact ⟨_, rfl, q, c, by rw [hbl]; rfl, h6, h4⟩
end Go.Proofs.Ythnllhfdbnnjhaa
