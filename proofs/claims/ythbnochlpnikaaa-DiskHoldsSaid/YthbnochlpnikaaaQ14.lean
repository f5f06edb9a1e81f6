/- The chapter's rows, answered by any disk that answers as bundled. -/
import Derived.Test.YthbnochlpnikaaaQ13
namespace Go.Proofs.Ythbnochlpnikaaa
open Go.RowKit Go.Shelf

theorem sec_at {w w' : World} {c : Nat} {t : Value} (h : RowB w (List.replicate 64 c) t w') (e : t = .slice (some ⟨w.heap.size, 0, none⟩) 64 64 := by rfl) : BytesAt w' (some ⟨w.heap.size, 0, none⟩) (List.replicate 64 c) := by
  subst e
  obtain ⟨p, cap, e, -, -, hb, -⟩ := h.at'
  injection e with e1 e2 e3
  subst e1
  exact hb
theorem makeN (w : World) (n : Nat) (hn : n ≤ 100000) : (Instr.makeSlice 47 (.int .i64 n) (.int .i64 n)).run Try.prog w = .ok (.slice (some ⟨w.heap.size, 0, none⟩) n n) (w.alloc (.cells (madeCells #[.int .u8 0] n) 5)) :=
  run_make_row' (P := Try.prog) 47 5 (.int .u8 0) 1 Try.underlying47 info5 rfl .i64 .i64 n (by omega) (by omega) w
theorem bytesN (w : World) (n : Nat) : BytesAt (w.alloc (.cells (madeCells #[.int .u8 0] n) 5)) (some ⟨w.heap.size, 0, none⟩) (List.replicate n 0) := fun i hi => by
  have hi' : i < n := by simpa using hi
  refine ⟨w.heap.size, 0, rfl, ?_⟩
  rw [Nat.zero_add, (World.rowIs_made w (.int .u8 0) n 5).cell hi', replicate_getD]
  rfl
theorem torn_row : tornB 10 (secS 7) (secS 0) = strOf (List.replicate 10 7) ++ strOf (List.replicate 54 0) := by decide +kernel
theorem w1 : writeS (newS 2) 0 (secS 7) = (⟨2, [], [(0, secS 7)], -1⟩, 0) := writeS_ok (s := newS 2) (k := 0) (secS_size 7) (by decide) (by decide)
theorem w2 : stopS ⟨2, [], [(0, secS 7)], -1⟩ 0 = (⟨2, [], [(0, secS 7)], 0⟩, 0) := stopS_pos (by omega)
theorem w3 : writeS ⟨2, [], [(0, secS 7)], 0⟩ 1 (secS 7) = (⟨2, [], [(0, secS 7)], 0⟩, 140) := writeS_stop (secS_size 7) (by omega) (by simp) rfl
theorem w4 : crashS ⟨2, [], [(0, secS 7)], 0⟩ 10 [true] = (⟨2, [(0, tornB 10 (secS 7) (secS 0))], [], -1⟩, 0) := by
  have := crashS_ok (s := ⟨2, [], [(0, secS 7)], 0⟩) (tear := 10) (keep := [true]) (by omega)
  exact this
theorem w5 : readS ⟨2, [(0, tornB 10 (secS 7) (secS 0))], [], -1⟩ 0 = (strOf (List.replicate 10 7) ++ strOf (List.replicate 54 0), 0) := by
  have := readS_ok (s := ⟨2, [(0, tornB 10 (secS 7) (secS 0))], [], -1⟩) (k := 0) (by simp) (by simp)
  rw [← torn_row]
  exact this
theorem whole2 : Whole ⟨2, [], [(0, secS 7)], -1⟩ := by have := (Whole.new (n := 2) (by omega)).write 0 (secS 7); rw [w1] at this; exact this
theorem whole3 : Whole ⟨2, [], [(0, secS 7)], 0⟩ := by have := whole2.stop 0; rw [w2] at this; exact this
theorem whole4 : Whole ⟨2, [(0, tornB 10 (secS 7) (secS 0))], [], -1⟩ := by have := whole3.crash 10 [true]; rw [w4] at this; exact this
theorem few_small (s : DS) (h1 : s.sync.length ≤ 100) (h2 : s.loose.length ≤ 100) : Few s := ⟨by omega, by omega⟩
set_option maxRecDepth 100000 in
set_option maxHeartbeats 2000000 in
theorem works_any {Rep : DiskRep} (S : DiskOk Rep) (w : World) : Calls Try.prog 6 #[] w fun r w' => r = .returned (.bool true) ∧ Below w.heap.size w w' := by
  have NM := Lib.hid num_any
  have SC : Hid (∀ w, Calls Try.prog 16 #[.int .u8 7] w fun r w' => r = .returned (.slice (some ⟨w.heap.size, 0, none⟩) 64 64) ∧ RowB w (List.replicate 64 7) (.slice (some ⟨w.heap.size, 0, none⟩) 64 64) w') := Lib.hid fun w => sec_any 7 (by omega) w
  go_enter Try.func6, Try.ntmps6
  go_wp2_with fail
  refine (held_new S 2 w (by omega)).mono ?_
  rintro e wa ⟨d, rfl, hd, hb⟩
  have HD := Lib.hid hd
  have HX := Lib.hid hb
  clear hd hb
  go_wp2_with (go_at_call 12; (with_reducible refine (NM.out _ _).mono ?_); rintro e wn ⟨rfl, rfl⟩)
  refine (SC.out wa).mono ?_
  rintro e wb ⟨rfl, hs⟩
  have BS := Lib.hid (sec_at hs)
  have HX1 := Lib.hid (below_any HX.out hs.2)
  have HD1 := Lib.hid (HD.out.kept S hs.2)
  clear hs HX HD
  have WR := Lib.hid (held_write S 0 wa.heap.size 64 7 HD1.out HX1.out (Whole.new (by omega)) (few_small _ (by simp [newS]) (by simp [newS])) (by omega) (Nat.le_refl _) BS.out (by omega))
  rw [w1] at WR
  go_wp2_with fail
  refine WR.out.mono ?_
  rintro e wc ⟨rfl, hd, hb⟩
  have HD := Lib.hid hd
  have HX := Lib.hid hb
  clear hd hb WR HD1 HX1 BS
  go_wp2_with (go_at_call 12; (with_reducible refine (NM.out _ _).mono ?_); rintro e wn ⟨rfl, rfl⟩)
  have ST := held_stop S 0 (by omega) HD.out HX.out whole2
  rw [w2] at ST
  refine ST.mono ?_
  rintro e we ⟨rfl, hd, hb⟩
  have HD := Lib.hid hd
  have HX := Lib.hid hb
  clear hd hb ST
  go_wp2_with (go_at_call 12; (with_reducible refine (NM.out _ _).mono ?_); rintro e wn ⟨rfl, rfl⟩)
  refine (SC.out we).mono ?_
  rintro e wf ⟨rfl, hs⟩
  have BS := Lib.hid (sec_at hs)
  have HX1 := Lib.hid (below_any HX.out hs.2)
  have HD1 := Lib.hid (HD.out.kept S hs.2)
  clear hs HX HD
  have WR := Lib.hid (held_write S 1 we.heap.size 64 7 HD1.out HX1.out whole3 (few_small _ (by simp) (by simp)) (by omega) (Nat.le_refl _) BS.out (by omega))
  rw [w3] at WR
  go_wp2_with fail
  refine WR.out.mono ?_
  rintro e wg ⟨rfl, hd, hb⟩
  have HB : Below wg.heap.size wg (wg.alloc (.cells #[.bool true] 4)) := (Below.refl _ _).alloc (Nat.le_refl _) _
  have HX := Lib.hid (below_any hb HB)
  have hd' := hd.kept S HB
  have hbt : BoolsAt (wg.alloc (.cells #[.bool true] 4)) (some ⟨wg.heap.size, 0, none⟩) [true] := fun i b hi => by
    cases i with
    | zero => simp at hi; subst hi; exact ⟨wg.heap.size, 0, rfl, by go_cell⟩
    | succ i => simp at hi
  have CR := held_crash S 10 (some ⟨wg.heap.size, 0, none⟩) [true] 1 hd' HX.out whole3 (few_small _ (by simp) (by simp)) (by simp) hbt (fun e => by cases e) (by simp) (fun _ B off e => .inr (by injection e with e; injection e with e1 e2; omega))
  rw [w4] at CR
  have HCR := Lib.hid CR
  clear hd hb hd' hbt CR WR BS HX1 HD1 HB
  go_wp2_with fail
  refine HCR.out.mono ?_
  rintro e wh ⟨rfl, hd, hb⟩
  have HD := Lib.hid hd
  have HX := Lib.hid hb
  clear hd hb HCR
  go_wp2_with (go_at_call 12; (with_reducible refine (NM.out _ _).mono ?_); rintro e wn ⟨rfl, rfl⟩)
  have RD := held_read S 0 HD.out whole4 (few_small _ (by simp) (by simp))
  rw [w5] at RD
  refine RD.mono ?_
  rintro e wr ⟨t, l, rfl, hr, hlb, hl⟩
  replace hl : strOf l = strOf (List.replicate 10 7) ++ strOf (List.replicate 54 0) := hl
  obtain ⟨p, cap, rfl, -, -, hba, -⟩ := hr.at'
  have HX := Lib.hid (below_any HX.out (hr.2.trans (Below.refl _ _).drew) : Below w.heap.size w wr.drew)
  have CB : Hid (∀ w', Below wr.heap.size wr w' → (convert 47 9 (.slice p l.length cap)).run Try.prog w' = .ok (.string (strOf (List.replicate 10 7) ++ strOf (List.replicate 54 0))) w') := Lib.hid fun w' h => by
    rw [← hl]
    exact conv_later hba hlb h cap
  have C10 : Hid (∀ (w' : World) (B c : Nat), BytesAt w' (some ⟨B, 0, none⟩) (List.replicate 64 7) → (convert 47 9 (.slice (some ⟨B, 0, none⟩) 10 c)).run Try.prog w' = .ok (.string (strOf (List.replicate 10 7))) w') := Lib.hid fun w' B c h =>
    conv_at w' (some ⟨B, 0, none⟩) c (List.replicate 10 7) (fun b hb => by rw [List.mem_replicate] at hb; omega) (bytesAt_take h 10)
  have C54 : Hid (∀ (w' : World) (B c : Nat), BytesAt w' (some ⟨B, 0, none⟩) (List.replicate 54 0) → (convert 47 9 (.slice (some ⟨B, 0, none⟩) 54 c)).run Try.prog w' = .ok (.string (strOf (List.replicate 54 0))) w') := Lib.hid fun w' B c h =>
    conv_at w' (some ⟨B, 0, none⟩) c (List.replicate 54 0) (fun b hb => by rw [List.mem_replicate] at hb; omega) h
  have hq : ∀ (x : ByteArray), (x.toList == x.toList) = true := fun x => by simp
  have hz : ¬ 9223372036854775807 < (strOf (List.replicate 10 7)).size + (strOf (List.replicate 54 0)).size := by rw [strOf_size, strOf_size]; simp
  generalize strOf (List.replicate 10 7) = S10 at *
  generalize strOf (List.replicate 54 0) = S54 at *
  clear RD hr hlb hl hba HD
  go_wp2_with fail
  refine wp_region_held_drew (S := fun w' => Below wr.heap.size wr w') (by kernel_rfl) ((Below.refl _ _).drew) (fun H0 => ?_)
  refine wpAnyH_take (i := 0) (oi := { dst := some 36, op := Go.Op.move (Go.Operand.tmp 3), type := 3, pos := "law.go:29", after := #[], guard := none }) (v := ?_) rfl (by kernel_rfl) (by kernel_rfl) (by kernel_rfl) (fun _ _ _ h => h) (Or.inl ⟨by rfl, ?_⟩) H0 ?_
  rotate_left
  focus (intro w' hSw; (try dsimp only at hSw); go_simp; (try with_reducible rfl))
  simp only [Act.put, List.setIfInBounds_toArray, List.set_cons_zero, List.set_cons_succ]
  refine wpAnyH_take (i := 1) (oi := { dst := some 37, op := Go.Op.binOp Go.BinOp.eql 3 (Go.Operand.tmp 36) (Go.Operand.const (Go.Value.int Go.IntKind.i64 0)) 3, type := 4, pos := "law.go:29", after := #[{ on := 0, ground := Go.Ground.data }], guard := none }) (v := ?_) rfl (by kernel_rfl) (by kernel_rfl) (by kernel_rfl) (fun _ _ _ h => h) (Or.inl ⟨by rfl, ?_⟩) H0 ?_
  rotate_left
  focus (intro w' hSw; (try dsimp only at hSw); go_simp; (try with_reducible rfl))
  simp only [Act.put, List.setIfInBounds_toArray, List.set_cons_zero, List.set_cons_succ]
  refine wpAnyH_take (i := 2) (oi := { dst := some 38, op := Go.Op.move (Go.Operand.tmp 37), type := 4, pos := "law.go:29", after := #[{ on := 1, ground := Go.Ground.data }], guard := none }) (v := ?_) rfl (by kernel_rfl) (by kernel_rfl) (by kernel_rfl) (fun _ _ _ h => h) (Or.inl ⟨by rfl, ?_⟩) H0 ?_
  rotate_left
  focus (intro w' hSw; (try dsimp only at hSw); go_simp; (try with_reducible rfl))
  simp only [Act.put, List.setIfInBounds_toArray, List.set_cons_zero, List.set_cons_succ]
  refine wpAnyH_take (i := 3) (oi := { dst := some 39, op := Go.Op.move (Go.Operand.tmp 4), type := 30, pos := "law.go:29", after := #[{ on := 2, ground := Go.Ground.guard }], guard := some (2, true) }) (v := ?_) rfl (by kernel_rfl) (by kernel_rfl) (by kernel_rfl) (fun _ _ _ h => h) (Or.inl ⟨by rfl, ?_⟩) H0 ?_
  rotate_left
  focus (intro w' hSw; (try dsimp only at hSw); go_simp; (try with_reducible rfl))
  simp only [Act.put, List.setIfInBounds_toArray, List.set_cons_zero, List.set_cons_succ]
  refine wpAnyH_ready (rs := [4]) (by kernel_rfl) (by simp) ?_
  refine AllReadyH.cons (o := { dst := some 40, op := Go.Op.call { callee := Go.Callee.value (Go.Operand.func 12), args := #[Go.Operand.tmp 39], argTypes := #[30] }, type := 3, pos := "law.go:29", after := #[{ on := 3, ground := Go.Ground.data }, { on := 2, ground := Go.Ground.chain }, { on := 2, ground := Go.Ground.guard }], guard := some (2, true) }) rfl (fun K hK => ?_) ?_
  rotate_left
  exact AllReadyH.nil
  go_simp
  (go_at_call 12; (with_reducible refine (NM.out _ _).mono ?_); rintro e wn ⟨rfl, rfl⟩)
  try go_wp2_with fail
  refine hK.out _ _ H0 (fun Hn => ?_)
  clear hK K
  try simp only [Act.put, List.setIfInBounds_toArray, List.set_cons_zero, List.set_cons_succ]
  clear Hn
  refine wpAnyH_take (i := 5) (oi := { dst := some 41, op := Go.Op.binOp Go.BinOp.eql 3 (Go.Operand.tmp 40) (Go.Operand.const (Go.Value.int Go.IntKind.i64 140)) 3, type := 4, pos := "law.go:29", after := #[{ on := 4, ground := Go.Ground.data }, { on := 2, ground := Go.Ground.guard }], guard := some (2, true) }) (v := ?_) rfl (by kernel_rfl) (by kernel_rfl) (by kernel_rfl) (fun _ _ _ h => h) (Or.inl ⟨by rfl, ?_⟩) H0 ?_
  rotate_left
  focus (intro w' hSw; (try dsimp only at hSw); go_simp; (try with_reducible rfl))
  simp only [Act.put, List.setIfInBounds_toArray, List.set_cons_zero, List.set_cons_succ]
  refine wpAnyH_take (i := 6) (oi := { dst := some 42, op := Go.Op.pick (Go.Operand.tmp 38) (Go.Operand.tmp 41) (Go.Operand.const (Go.Value.bool false)), type := 4, pos := "law.go:29", after := #[{ on := 2, ground := Go.Ground.data }, { on := 5, ground := Go.Ground.data }], guard := none }) (v := ?_) rfl (by kernel_rfl) (by kernel_rfl) (by kernel_rfl) (fun _ _ _ h => h) (Or.inl ⟨by rfl, ?_⟩) H0 ?_
  rotate_left
  focus (intro w' hSw; (try dsimp only at hSw); go_simp; (try with_reducible rfl))
  simp only [Act.put, List.setIfInBounds_toArray, List.set_cons_zero, List.set_cons_succ]
  refine wpAnyH_take (i := 7) (oi := { dst := some 43, op := Go.Op.move (Go.Operand.tmp 42), type := 4, pos := "law.go:29", after := #[{ on := 6, ground := Go.Ground.data }, { on := 4, ground := Go.Ground.chain }], guard := none }) (v := ?_) rfl (by kernel_rfl) (by kernel_rfl) (by kernel_rfl) (fun _ _ _ h => h) (Or.inl ⟨by rfl, ?_⟩) H0 ?_
  rotate_left
  focus (intro w' hSw; (try dsimp only at hSw); go_simp; (try with_reducible rfl))
  simp only [Act.put, List.setIfInBounds_toArray, List.set_cons_zero, List.set_cons_succ]
  refine wpAnyH_take (i := 8) (oi := { dst := some 44, op := Go.Op.move (Go.Operand.tmp 6), type := 30, pos := "law.go:29", after := #[{ on := 7, ground := Go.Ground.guard }], guard := some (7, true) }) (v := ?_) rfl (by kernel_rfl) (by kernel_rfl) (by kernel_rfl) (fun _ _ _ h => h) (Or.inl ⟨by rfl, ?_⟩) H0 ?_
  rotate_left
  focus (intro w' hSw; (try dsimp only at hSw); go_simp; (try with_reducible rfl))
  simp only [Act.put, List.setIfInBounds_toArray, List.set_cons_zero, List.set_cons_succ]
  refine wpAnyH_ready (rs := [9]) (by kernel_rfl) (by simp) ?_
  refine AllReadyH.cons (o := { dst := some 45, op := Go.Op.call { callee := Go.Callee.value (Go.Operand.func 12), args := #[Go.Operand.tmp 44], argTypes := #[30] }, type := 3, pos := "law.go:29", after := #[{ on := 8, ground := Go.Ground.data }, { on := 7, ground := Go.Ground.chain }, { on := 7, ground := Go.Ground.guard }], guard := some (7, true) }) rfl (fun K hK => ?_) ?_
  rotate_left
  exact AllReadyH.nil
  go_simp
  (go_at_call 12; (with_reducible refine (NM.out _ _).mono ?_); rintro e wn ⟨rfl, rfl⟩)
  try go_wp2_with fail
  refine hK.out _ _ H0 (fun Hn => ?_)
  clear hK K
  try simp only [Act.put, List.setIfInBounds_toArray, List.set_cons_zero, List.set_cons_succ]
  clear Hn
  refine wpAnyH_take (i := 10) (oi := { dst := some 46, op := Go.Op.binOp Go.BinOp.eql 3 (Go.Operand.tmp 45) (Go.Operand.const (Go.Value.int Go.IntKind.i64 0)) 3, type := 4, pos := "law.go:29", after := #[{ on := 9, ground := Go.Ground.data }, { on := 7, ground := Go.Ground.guard }], guard := some (7, true) }) (v := ?_) rfl (by kernel_rfl) (by kernel_rfl) (by kernel_rfl) (fun _ _ _ h => h) (Or.inl ⟨by rfl, ?_⟩) H0 ?_
  rotate_left
  focus (intro w' hSw; (try dsimp only at hSw); go_simp; (try with_reducible rfl))
  simp only [Act.put, List.setIfInBounds_toArray, List.set_cons_zero, List.set_cons_succ]
  refine wpAnyH_take (i := 11) (oi := { dst := some 47, op := Go.Op.pick (Go.Operand.tmp 43) (Go.Operand.tmp 46) (Go.Operand.const (Go.Value.bool false)), type := 4, pos := "law.go:29", after := #[{ on := 7, ground := Go.Ground.data }, { on := 10, ground := Go.Ground.data }], guard := none }) (v := ?_) rfl (by kernel_rfl) (by kernel_rfl) (by kernel_rfl) (fun _ _ _ h => h) (Or.inl ⟨by rfl, ?_⟩) H0 ?_
  rotate_left
  focus (intro w' hSw; (try dsimp only at hSw); go_simp; (try with_reducible rfl))
  simp only [Act.put, List.setIfInBounds_toArray, List.set_cons_zero, List.set_cons_succ]
  refine wpAnyH_take (i := 12) (oi := { dst := some 48, op := Go.Op.move (Go.Operand.tmp 47), type := 4, pos := "law.go:29", after := #[{ on := 11, ground := Go.Ground.data }, { on := 9, ground := Go.Ground.chain }], guard := none }) (v := ?_) rfl (by kernel_rfl) (by kernel_rfl) (by kernel_rfl) (fun _ _ _ h => h) (Or.inl ⟨by rfl, ?_⟩) H0 ?_
  rotate_left
  focus (intro w' hSw; (try dsimp only at hSw); go_simp; (try with_reducible rfl))
  simp only [Act.put, List.setIfInBounds_toArray, List.set_cons_zero, List.set_cons_succ]
  refine wpAnyH_take (i := 13) (oi := { dst := some 49, op := Go.Op.move (Go.Operand.tmp 5), type := 47, pos := "law.go:29", after := #[{ on := 12, ground := Go.Ground.guard }], guard := some (12, true) }) (v := ?_) rfl (by kernel_rfl) (by kernel_rfl) (by kernel_rfl) (fun _ _ _ h => h) (Or.inl ⟨by rfl, ?_⟩) H0 ?_
  rotate_left
  focus (intro w' hSw; (try dsimp only at hSw); go_simp; (try with_reducible rfl))
  simp only [Act.put, List.setIfInBounds_toArray, List.set_cons_zero, List.set_cons_succ]
  refine wpAnyH_take (i := 14) (oi := { dst := some 50, op := Go.Op.convert 47 9 (Go.Operand.tmp 49), type := 9, pos := "law.go:29", after := #[{ on := 13, ground := Go.Ground.data }, { on := 12, ground := Go.Ground.guard }], guard := some (12, true) }) (v := ?_) rfl (by kernel_rfl) (by kernel_rfl) (by kernel_rfl) (fun _ _ _ h => h) (Or.inl ⟨by rfl, ?_⟩) H0 ?_
  rotate_left
  focus (intro w' hSw; (try dsimp only at hSw); have hv := CB.out _ hSw; go_simp; (try with_reducible rfl))
  simp only [Act.put, List.setIfInBounds_toArray, List.set_cons_zero, List.set_cons_succ]
  refine wpAnyH_ready (rs := [15, 18]) (by kernel_rfl) (by simp) ?_
  refine AllReadyH.cons (o := { dst := some 51, op := Go.Op.call { callee := Go.Callee.value (Go.Operand.func 16), args := #[Go.Operand.const (Go.Value.int Go.IntKind.u8 7)], argTypes := #[5] }, type := 47, pos := "law.go:29", after := #[{ on := 12, ground := Go.Ground.chain }, { on := 12, ground := Go.Ground.guard }], guard := some (12, true) }) rfl (fun K hK => ?_) ?_
  focus
    go_simp
    (go_at_call 16; (with_reducible refine (SC.out _).mono ?_); rintro e ws ⟨rfl, hs⟩)
    try go_wp2_with fail
    refine hK.out _ _ (kbT H0 hs.2) (fun Gs => ?_)
    clear hK K
    try simp only [Act.put, List.setIfInBounds_toArray, List.set_cons_zero, List.set_cons_succ]
    have HX := Lib.hid (below_any HX.out hs.2)
    refine wpAnyH_turn (S' := fun w' => Below (ws).heap.size (ws) w') (fun w' h => kbT Gs h) _ _ _ _ ?_
    have Hs := Below.refl (ws).heap.size (ws)
    have BS0 := sec_at hs
    have BS : Hid (BytesAt ws (some ⟨wr.heap.size, 0, none⟩) (List.replicate 64 7)) := Lib.hid BS0
    clear hs BS0
    refine wpAnyH_take (i := 16) (oi := { dst := some 52, op := Go.Op.slice 47 (Go.Operand.tmp 51) none (some (Go.Operand.const (Go.Value.int Go.IntKind.i64 10))) none, type := 47, pos := "law.go:29", after := #[{ on := 15, ground := Go.Ground.data }, { on := 12, ground := Go.Ground.guard }], guard := some (12, true) }) (v := ?_) rfl (by kernel_rfl) (by kernel_rfl) (by kernel_rfl) (fun _ _ _ h => h) (Or.inl ⟨by rfl, ?_⟩) Hs ?_
    rotate_left
    focus (intro w' hSw; (try dsimp only at hSw); go_simp; (try with_reducible rfl))
    simp only [Act.put, List.setIfInBounds_toArray, List.set_cons_zero, List.set_cons_succ]
    refine wpAnyH_take (i := 17) (oi := { dst := some 53, op := Go.Op.convert 47 9 (Go.Operand.tmp 52), type := 9, pos := "law.go:29", after := #[{ on := 16, ground := Go.Ground.data }, { on := 12, ground := Go.Ground.guard }], guard := some (12, true) }) (v := ?_) rfl (by kernel_rfl) (by kernel_rfl) (by kernel_rfl) (fun _ _ _ h => h) (Or.inl ⟨by rfl, ?_⟩) Hs ?_
    rotate_left
    focus (intro w' hSw; (try dsimp only at hSw); have hv := C10.out _ _ 64 (bytesAt_below BS.out hSw); go_simp; (try with_reducible rfl))
    simp only [Act.put, List.setIfInBounds_toArray, List.set_cons_zero, List.set_cons_succ]
    refine wpAnyH_ready (rs := [18]) (by kernel_rfl) (by simp) ?_
    refine AllReadyH.cons (o := { dst := some 54, op := Go.Op.makeSlice 47 (Go.Operand.const (Go.Value.int Go.IntKind.i64 54)) (Go.Operand.const (Go.Value.int Go.IntKind.i64 54)), type := 47, pos := "law.go:29", after := #[{ on := 12, ground := Go.Ground.guard }], guard := some (12, true) }) rfl (fun K hK => ?_) ?_
    rotate_left
    exact AllReadyH.nil
    have hmk : (Instr.makeSlice 47 (.int .i64 54) (.int .i64 54)).run Try.prog ws = .ok (.slice (some ⟨ws.heap.size, 0, none⟩) 54 54) (ws.alloc (.cells (madeCells #[.int .u8 0] 54) 5)) := makeN ws 54 (by omega)
    go_simp
    try go_wp2_with fail
    refine hK.out _ _ (kbT Hs ((Below.refl _ _).alloc (Nat.le_refl _) _)) (fun Gm => ?_)
    clear hK K
    try simp only [Act.put, List.setIfInBounds_toArray, List.set_cons_zero, List.set_cons_succ]
    generalize hwm : ws.alloc (.cells (madeCells #[.int .u8 0] 54) 5) = wm at *
    have BM : Hid (BytesAt wm (some ⟨ws.heap.size, 0, none⟩) (List.replicate 54 0)) := Lib.hid (by rw [← hwm]; exact bytesN (ws) 54)
    have HX := Lib.hid (below_any HX.out (by rw [← hwm]; exact (Below.refl (ws).heap.size (ws)).alloc (Nat.le_refl _) _ : Below (ws).heap.size (ws) wm))
    clear hwm
    refine wpAnyH_turn (S' := fun w' => Below (wm).heap.size (wm) w') (fun w' h => kbT Gm h) _ _ _ _ ?_
    have Hm := Below.refl (wm).heap.size (wm)
    refine wpAnyH_take (i := 19) (oi := { dst := some 55, op := Go.Op.convert 47 9 (Go.Operand.tmp 54), type := 9, pos := "law.go:29", after := #[{ on := 18, ground := Go.Ground.data }, { on := 12, ground := Go.Ground.guard }], guard := some (12, true) }) (v := ?_) rfl (by kernel_rfl) (by kernel_rfl) (by kernel_rfl) (fun _ _ _ h => h) (Or.inl ⟨by rfl, ?_⟩) Hm ?_
    rotate_left
    focus (intro w' hSw; (try dsimp only at hSw); have hv := C54.out _ _ 54 (bytesAt_below BM.out hSw); go_simp; (try with_reducible rfl))
    simp only [Act.put, List.setIfInBounds_toArray, List.set_cons_zero, List.set_cons_succ]
    refine wpAnyH_take (i := 20) (oi := { dst := some 56, op := Go.Op.binOp Go.BinOp.add 9 (Go.Operand.tmp 53) (Go.Operand.tmp 55) 9, type := 9, pos := "law.go:29", after := #[{ on := 17, ground := Go.Ground.data }, { on := 19, ground := Go.Ground.data }, { on := 12, ground := Go.Ground.guard }], guard := some (12, true) }) (v := ?_) rfl (by kernel_rfl) (by kernel_rfl) (by kernel_rfl) (fun _ _ _ h => h) (Or.inl ⟨by rfl, ?_⟩) Hm ?_
    rotate_left
    focus (intro w' hSw; (try dsimp only at hSw); go_simp; (try with_reducible rfl))
    simp only [Act.put, List.setIfInBounds_toArray, List.set_cons_zero, List.set_cons_succ]
    refine wpAnyH_take (i := 21) (oi := { dst := some 57, op := Go.Op.binOp Go.BinOp.eql 9 (Go.Operand.tmp 50) (Go.Operand.tmp 56) 9, type := 4, pos := "law.go:29", after := #[{ on := 14, ground := Go.Ground.data }, { on := 20, ground := Go.Ground.data }, { on := 12, ground := Go.Ground.guard }], guard := some (12, true) }) (v := ?_) rfl (by kernel_rfl) (by kernel_rfl) (by kernel_rfl) (fun _ _ _ h => h) (Or.inl ⟨by rfl, ?_⟩) Hm ?_
    rotate_left
    focus (intro w' hSw; (try dsimp only at hSw); go_simp; (try with_reducible rfl))
    simp only [Act.put, List.setIfInBounds_toArray, List.set_cons_zero, List.set_cons_succ]
    refine wpAnyH_take (i := 22) (oi := { dst := some 58, op := Go.Op.pick (Go.Operand.tmp 48) (Go.Operand.tmp 57) (Go.Operand.const (Go.Value.bool false)), type := 4, pos := "law.go:29", after := #[{ on := 12, ground := Go.Ground.data }, { on := 21, ground := Go.Ground.data }], guard := none }) (v := ?_) rfl (by kernel_rfl) (by kernel_rfl) (by kernel_rfl) (fun _ _ _ h => h) (Or.inl ⟨by rfl, ?_⟩) Hm ?_
    rotate_left
    focus (intro w' hSw; (try dsimp only at hSw); go_simp; (try with_reducible rfl))
    simp only [Act.put, List.setIfInBounds_toArray, List.set_cons_zero, List.set_cons_succ]
    refine wpAnyH_take (i := 23) (oi := { dst := some 0, op := Go.Op.assign (Go.Operand.tmp 58), type := 4, pos := "law.go:29", after := #[{ on := 22, ground := Go.Ground.data }, { on := 15, ground := Go.Ground.chain }, { on := 0, ground := Go.Ground.phase }, { on := 1, ground := Go.Ground.phase }, { on := 2, ground := Go.Ground.phase }, { on := 3, ground := Go.Ground.phase }, { on := 4, ground := Go.Ground.phase }, { on := 5, ground := Go.Ground.phase }, { on := 6, ground := Go.Ground.phase }, { on := 7, ground := Go.Ground.phase }, { on := 8, ground := Go.Ground.phase }, { on := 9, ground := Go.Ground.phase }, { on := 10, ground := Go.Ground.phase }, { on := 11, ground := Go.Ground.phase }, { on := 12, ground := Go.Ground.phase }, { on := 13, ground := Go.Ground.phase }, { on := 14, ground := Go.Ground.phase }, { on := 15, ground := Go.Ground.phase }, { on := 16, ground := Go.Ground.phase }, { on := 17, ground := Go.Ground.phase }, { on := 18, ground := Go.Ground.phase }, { on := 19, ground := Go.Ground.phase }, { on := 20, ground := Go.Ground.phase }, { on := 21, ground := Go.Ground.phase }, { on := 22, ground := Go.Ground.phase }], guard := none }) (v := ?_) rfl (by kernel_rfl) (by kernel_rfl) (by kernel_rfl) (fun _ _ _ h => h) (Or.inl ⟨by rfl, ?_⟩) Hm ?_
    rotate_left
    focus (intro w' hSw; (try dsimp only at hSw); go_simp; (try with_reducible rfl))
    simp only [Act.put, List.setIfInBounds_toArray, List.set_cons_zero, List.set_cons_succ]
    refine wpAnyH_done (by kernel_rfl) ?_ _
    go_wp2_with fail
    go_ret
    exact ⟨rfl, HX.out⟩
  refine AllReadyH.cons (o := { dst := some 54, op := Go.Op.makeSlice 47 (Go.Operand.const (Go.Value.int Go.IntKind.i64 54)) (Go.Operand.const (Go.Value.int Go.IntKind.i64 54)), type := 47, pos := "law.go:29", after := #[{ on := 12, ground := Go.Ground.guard }], guard := some (12, true) }) rfl (fun K hK => ?_) ?_
  focus
    have hmk : (Instr.makeSlice 47 (.int .i64 54) (.int .i64 54)).run Try.prog wr.drew = .ok (.slice (some ⟨wr.drew.heap.size, 0, none⟩) 54 54) (wr.drew.alloc (.cells (madeCells #[.int .u8 0] 54) 5)) := makeN wr.drew 54 (by omega)
    go_simp
    try go_wp2_with fail
    refine hK.out _ _ (kbT H0 ((Below.refl _ _).alloc (Nat.le_refl _) _)) (fun Gm => ?_)
    clear hK K
    try simp only [Act.put, List.setIfInBounds_toArray, List.set_cons_zero, List.set_cons_succ]
    generalize hwm : (wr.alloc (.cells (madeCells #[.int .u8 0] 54) 5)).drew = wm at *
    have BM : Hid (BytesAt wm (some ⟨wr.heap.size, 0, none⟩) (List.replicate 54 0)) := Lib.hid (by rw [← hwm]; exact bytesN (wr.drew) 54)
    have HX := Lib.hid (below_any HX.out (by rw [← hwm]; exact (Below.refl (wr.drew).heap.size (wr.drew)).alloc (Nat.le_refl _) _ : Below (wr.drew).heap.size (wr.drew) wm))
    clear hwm
    refine wpAnyH_turn (S' := fun w' => Below (wm).heap.size (wm) w') (fun w' h => kbT Gm h) _ _ _ _ ?_
    have Hm := Below.refl (wm).heap.size (wm)
    refine wpAnyH_take (i := 19) (oi := { dst := some 55, op := Go.Op.convert 47 9 (Go.Operand.tmp 54), type := 9, pos := "law.go:29", after := #[{ on := 18, ground := Go.Ground.data }, { on := 12, ground := Go.Ground.guard }], guard := some (12, true) }) (v := ?_) rfl (by kernel_rfl) (by kernel_rfl) (by kernel_rfl) (fun _ _ _ h => h) (Or.inl ⟨by rfl, ?_⟩) Hm ?_
    rotate_left
    focus (intro w' hSw; (try dsimp only at hSw); have hv := C54.out _ _ 54 (bytesAt_below BM.out hSw); go_simp; (try with_reducible rfl))
    simp only [Act.put, List.setIfInBounds_toArray, List.set_cons_zero, List.set_cons_succ]
    refine wpAnyH_ready (rs := [15]) (by kernel_rfl) (by simp) ?_
    refine AllReadyH.cons (o := { dst := some 51, op := Go.Op.call { callee := Go.Callee.value (Go.Operand.func 16), args := #[Go.Operand.const (Go.Value.int Go.IntKind.u8 7)], argTypes := #[5] }, type := 47, pos := "law.go:29", after := #[{ on := 12, ground := Go.Ground.chain }, { on := 12, ground := Go.Ground.guard }], guard := some (12, true) }) rfl (fun K hK => ?_) ?_
    rotate_left
    exact AllReadyH.nil
    go_simp
    (go_at_call 16; (with_reducible refine (SC.out _).mono ?_); rintro e ws ⟨rfl, hs⟩)
    try go_wp2_with fail
    refine hK.out _ _ (kbT Hm hs.2) (fun Gs => ?_)
    clear hK K
    try simp only [Act.put, List.setIfInBounds_toArray, List.set_cons_zero, List.set_cons_succ]
    have HX := Lib.hid (below_any HX.out hs.2)
    refine wpAnyH_turn (S' := fun w' => Below (ws).heap.size (ws) w') (fun w' h => kbT Gs h) _ _ _ _ ?_
    have Hs := Below.refl (ws).heap.size (ws)
    have BS0 := sec_at hs
    have BS : Hid (BytesAt ws (some ⟨wm.heap.size, 0, none⟩) (List.replicate 64 7)) := Lib.hid BS0
    clear hs BS0
    refine wpAnyH_take (i := 16) (oi := { dst := some 52, op := Go.Op.slice 47 (Go.Operand.tmp 51) none (some (Go.Operand.const (Go.Value.int Go.IntKind.i64 10))) none, type := 47, pos := "law.go:29", after := #[{ on := 15, ground := Go.Ground.data }, { on := 12, ground := Go.Ground.guard }], guard := some (12, true) }) (v := ?_) rfl (by kernel_rfl) (by kernel_rfl) (by kernel_rfl) (fun _ _ _ h => h) (Or.inl ⟨by rfl, ?_⟩) Hs ?_
    rotate_left
    focus (intro w' hSw; (try dsimp only at hSw); go_simp; (try with_reducible rfl))
    simp only [Act.put, List.setIfInBounds_toArray, List.set_cons_zero, List.set_cons_succ]
    refine wpAnyH_take (i := 17) (oi := { dst := some 53, op := Go.Op.convert 47 9 (Go.Operand.tmp 52), type := 9, pos := "law.go:29", after := #[{ on := 16, ground := Go.Ground.data }, { on := 12, ground := Go.Ground.guard }], guard := some (12, true) }) (v := ?_) rfl (by kernel_rfl) (by kernel_rfl) (by kernel_rfl) (fun _ _ _ h => h) (Or.inl ⟨by rfl, ?_⟩) Hs ?_
    rotate_left
    focus (intro w' hSw; (try dsimp only at hSw); have hv := C10.out _ _ 64 (bytesAt_below BS.out hSw); go_simp; (try with_reducible rfl))
    simp only [Act.put, List.setIfInBounds_toArray, List.set_cons_zero, List.set_cons_succ]
    refine wpAnyH_take (i := 20) (oi := { dst := some 56, op := Go.Op.binOp Go.BinOp.add 9 (Go.Operand.tmp 53) (Go.Operand.tmp 55) 9, type := 9, pos := "law.go:29", after := #[{ on := 17, ground := Go.Ground.data }, { on := 19, ground := Go.Ground.data }, { on := 12, ground := Go.Ground.guard }], guard := some (12, true) }) (v := ?_) rfl (by kernel_rfl) (by kernel_rfl) (by kernel_rfl) (fun _ _ _ h => h) (Or.inl ⟨by rfl, ?_⟩) Hs ?_
    rotate_left
    focus (intro w' hSw; (try dsimp only at hSw); go_simp; (try with_reducible rfl))
    simp only [Act.put, List.setIfInBounds_toArray, List.set_cons_zero, List.set_cons_succ]
    refine wpAnyH_take (i := 21) (oi := { dst := some 57, op := Go.Op.binOp Go.BinOp.eql 9 (Go.Operand.tmp 50) (Go.Operand.tmp 56) 9, type := 4, pos := "law.go:29", after := #[{ on := 14, ground := Go.Ground.data }, { on := 20, ground := Go.Ground.data }, { on := 12, ground := Go.Ground.guard }], guard := some (12, true) }) (v := ?_) rfl (by kernel_rfl) (by kernel_rfl) (by kernel_rfl) (fun _ _ _ h => h) (Or.inl ⟨by rfl, ?_⟩) Hs ?_
    rotate_left
    focus (intro w' hSw; (try dsimp only at hSw); go_simp; (try with_reducible rfl))
    simp only [Act.put, List.setIfInBounds_toArray, List.set_cons_zero, List.set_cons_succ]
    refine wpAnyH_take (i := 22) (oi := { dst := some 58, op := Go.Op.pick (Go.Operand.tmp 48) (Go.Operand.tmp 57) (Go.Operand.const (Go.Value.bool false)), type := 4, pos := "law.go:29", after := #[{ on := 12, ground := Go.Ground.data }, { on := 21, ground := Go.Ground.data }], guard := none }) (v := ?_) rfl (by kernel_rfl) (by kernel_rfl) (by kernel_rfl) (fun _ _ _ h => h) (Or.inl ⟨by rfl, ?_⟩) Hs ?_
    rotate_left
    focus (intro w' hSw; (try dsimp only at hSw); go_simp; (try with_reducible rfl))
    simp only [Act.put, List.setIfInBounds_toArray, List.set_cons_zero, List.set_cons_succ]
    refine wpAnyH_take (i := 23) (oi := { dst := some 0, op := Go.Op.assign (Go.Operand.tmp 58), type := 4, pos := "law.go:29", after := #[{ on := 22, ground := Go.Ground.data }, { on := 15, ground := Go.Ground.chain }, { on := 0, ground := Go.Ground.phase }, { on := 1, ground := Go.Ground.phase }, { on := 2, ground := Go.Ground.phase }, { on := 3, ground := Go.Ground.phase }, { on := 4, ground := Go.Ground.phase }, { on := 5, ground := Go.Ground.phase }, { on := 6, ground := Go.Ground.phase }, { on := 7, ground := Go.Ground.phase }, { on := 8, ground := Go.Ground.phase }, { on := 9, ground := Go.Ground.phase }, { on := 10, ground := Go.Ground.phase }, { on := 11, ground := Go.Ground.phase }, { on := 12, ground := Go.Ground.phase }, { on := 13, ground := Go.Ground.phase }, { on := 14, ground := Go.Ground.phase }, { on := 15, ground := Go.Ground.phase }, { on := 16, ground := Go.Ground.phase }, { on := 17, ground := Go.Ground.phase }, { on := 18, ground := Go.Ground.phase }, { on := 19, ground := Go.Ground.phase }, { on := 20, ground := Go.Ground.phase }, { on := 21, ground := Go.Ground.phase }, { on := 22, ground := Go.Ground.phase }], guard := none }) (v := ?_) rfl (by kernel_rfl) (by kernel_rfl) (by kernel_rfl) (fun _ _ _ h => h) (Or.inl ⟨by rfl, ?_⟩) Hs ?_
    rotate_left
    focus (intro w' hSw; (try dsimp only at hSw); go_simp; (try with_reducible rfl))
    simp only [Act.put, List.setIfInBounds_toArray, List.set_cons_zero, List.set_cons_succ]
    refine wpAnyH_done (by kernel_rfl) ?_ _
    go_wp2_with fail
    go_ret
    exact ⟨rfl, HX.out⟩
  exact AllReadyH.nil
end Go.Proofs.Ythbnochlpnikaaa
