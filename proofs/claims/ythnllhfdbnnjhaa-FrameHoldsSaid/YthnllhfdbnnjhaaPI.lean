/- Package frame: DecodeHead. -/
import Derived.Test.YthnllhfdbnnjhaaPH
namespace Go.Proofs.Ythnllhfdbnnjhaa
open Go.RowKit Go.Shelf

theorem u8s_bytes {l : List Nat} (hb : ∀ b ∈ l, b < 256) : u8s l = (l.map UInt8.ofNat).map fun (c : UInt8) => Value.int .u8 (c.toNat : Int) := by
  simp only [u8s, List.map_map]
  refine List.map_congr_left fun x hx => ?_
  have := hb x hx
  simp [Nat.mod_eq_of_lt this]
theorem u8s_inj {a b : List Nat} (h : u8s a = u8s b) : a = b := by
  refine List.map_inj_right (f := fun (v : Nat) => Value.int .u8 (v : Int)) ?_ |>.1 h
  intro x y e
  simp only [Value.int.injEq, true_and] at e
  exact_mod_cast e
/-- Sectors are held against each other. -/
theorem eqi_sec {a b : List Nat} (ha : a.length = 64) (hb : b.length = 64) (ha2 : ∀ x ∈ a, x < 256) (hb2 : ∀ x ∈ b, x < 256) (w : World) : (Op.equalIn 10000 84 (.agg (secA a)) (.agg (secA b))).run Try.prog w = .ok (decide (a = b)) w := by
  have e := run_equalIn_bytes (P := Try.prog) w 9998 84 5 64 Try.underlying84 Try.underlying5 Try.sizeOf5 (a.map UInt8.ofNat) (b.map UInt8.ofNat) (by simpa using ha) (by simpa using hb)
  rw [show (a.map UInt8.ofNat).map Extern.Stop.cell = u8s a from (u8s_bytes ha2).symm, show (b.map UInt8.ofNat).map Extern.Stop.cell = u8s b from (u8s_bytes hb2).symm] at e
  have e2 : (a.map UInt8.ofNat == b.map UInt8.ofNat) = decide (a = b) := by
    by_cases h : a = b
    · subst h; simp
    · rw [decide_eq_false h]
      apply Bool.eq_false_iff.2
      intro e
      apply h
      apply u8s_inj
      rw [u8s_bytes ha2, u8s_bytes hb2, eq_of_beq e]
  rw [e2] at e
  exact e
theorem eqg_sec (a b : List Nat) (x y : Operand) (op : BinOp) (w : World) : (eqGuard op 84 x y (.agg (secA a)) (.agg (secA b))).run Try.prog w = .ok () w :=
  GuardAt.agg (P := Try.prog) (T := 84) secA (by kernel_rfl) op x y a b w
theorem run_load_sec {w : World} {g off : Nat} {l : List Nat} (hb : l.length = 64) (hc : ∀ i, i < l.length → w.cell? ⟨g, off + i, none⟩ = some (.int .u8 (l.getD i 0 : Nat))) : (loadCellsFrom ⟨g, off, none⟩ 0 64 #[]).run Try.prog w = .ok (secA l) w := by
  have := run_loadCells_list (P := Try.prog) w ⟨g, off, none⟩ (u8s l) (news_u8 hc)
  rw [u8s_length, hb] at this
  exact this
theorem run_loadVar_at {w : World} {g off n : Nat} {ty : TypeId} {cs : Array Value} (ha : (isAgg ty).run Try.prog w = .ok true w) (hs : (sizeOf ty).run Try.prog w = .ok n w) (h : (loadCellsFrom ⟨g, off, none⟩ 0 n #[]).run Try.prog w = .ok cs w) : (loadVar ty ⟨g, off, none⟩).run Try.prog w = .ok (.agg cs) w := by
  simp [loadVar, Sem.run_bind, ha, hs, loadCells, h]
theorem exec_load_sec {o : Oper} {a : Act} {w : World} {x : Operand} (ho : o.op = .load 84 x) {g off : Nat} (hx : a.eval x = .pointer (some ⟨g, off, none⟩)) {l : List Nat} (hb : l.length = 64) (hc : ∀ i, i < l.length → w.cell? ⟨g, off + i, none⟩ = some (.int .u8 (l.getD i 0 : Nat))) :
    (execOp a.eval o).run Try.prog w = .ok (.value (.agg (secA l))) w := by
  unfold execOp
  simp only [ho, hx, Instr.loadAt, Instr.sureAddr, Sem.run_bind, Sem.run_pure, Result.andThen_ok, run_loadVar_at (Try.isAgg84 w) (Try.sizeOf84 w) (run_load_sec hb hc)]
def hS (l : List Nat) : Nat := foldN (l.take 8)
def hE (l : List Nat) : Nat := foldN ((l.drop 8).take 8)
def hN (l : List Nat) : Nat := foldN ((l.drop 16).take 4)
def hC (l : List Nat) : Nat := foldN ((l.drop 20).take 4)
/-- Are these the bytes of a head? -/
def isHead (l : List Nat) : Bool := decide (l.length = 64) && headOk (hN l) (hC l) && decide (headL (hS l) (hE l) (hN l) (hC l) = l)
def headV (S E n c : Int) : Value := .agg #[.int .u64 S, .int .u64 E, .int .i64 n, .int .i64 c]
/-- The head that bytes have, or the zero one. -/
def decV (l : List Nat) : Value := if isHead l then headV (hS l) (hE l) (hN l) (hC l) else headV 0 0 0 0
def decX (l : List Nat) : Int := if isHead l then 0 else 150
theorem foldN_lt' {l : List Nat} {k : Nat} (hb : ∀ b ∈ l, b < 256) : foldN (l.take k) < 256 ^ k := by
  rcases Nat.le_total k l.length with h | h
  · exact foldN_lt hb k h
  · rw [List.take_of_length_le h]
    have := foldN_lt hb l.length (Nat.le_refl _)
    rw [List.take_length] at this
    exact Nat.lt_of_lt_of_le this (Nat.pow_le_pow_right (by decide) h)
theorem zeroHead : Try.prog.built 38 [] = some #[.int .u64 0, .int .u64 0, .int .i64 0, .int .i64 0] := by kernel_rfl
set_option maxRecDepth 100000 in
set_option maxHeartbeats 1000000 in
theorem decodeHead_long (l : List Nat) (p : Option Addr) (cap : Nat) (w : World) (hl : l.length ≠ 64) :
    Calls Try.prog 21 #[.slice p l.length cap] w fun r w' => r = .returned (.tuple #[headV 0 0 0 0, .int .i64 150]) ∧ Below w.heap.size w w' := by
  generalize l.length = L at *
  have hl2 : (L : Int) ≠ 64 := by omega
  have hl3 : ((L : Int) != 64) = true := by simp [hl2]
  have HL := Lib.hid hl
  clear hl hl2
  go_enter Try.func21, Try.ntmps21
  go_wp2
  refine wp_scope_fwd 0 rfl fun J HJ => ?_
  go_wp2
  go_step3
  refine ⟨rfl, HJ.out _ _ ?_⟩
  go_wp2
  simp only [Exit.noGoto_ret]
  refine bodyPost_ret (v := .tuple #[headV 0 0 0 0, .int .i64 150]) ?_ rfl ⟨rfl, ?_⟩
  · simp [results, Try.results21, go_sem, headV]
  · exact ((Below.refl _ _).alloc (Nat.le_refl _) _).alloc (by simp) _
theorem run_arrayAt (B off cap : Nat) (w : World) : (Instr.arrayAt 84 (.slice (some ⟨B, off, none⟩) 64 cap)).run Try.prog w = .ok (.pointer (some ⟨B, off, none⟩)) w := by
  simp [Instr.arrayAt, run_underlying Try.underlying84, Result.andThen]
theorem But.set' (P i : Nat) (w : World) (v : Value) : But P w (w.setCell ⟨P, i, none⟩ v) := by
  have h : Below P w (w.setCell ⟨P, i, none⟩ v) := (Below.refl P w).setCell (Nat.le_refl P) v
  refine ⟨by simp [World.setCell], fun k hk hn => ?_, h.os, h.tape, h.output⟩
  simp only [World.setCell, Array.getElem?_modify]
  rw [if_neg (fun e => hn e.symm)]
set_option maxRecDepth 100000 in
set_option maxHeartbeats 4000000 in
theorem decodeHead_no (l : List Nat) (p : Option Addr) (cap : Nat) (w : World) (hl : l.length = 64) (hcap : 64 ≤ cap) (hc0 : cap ≤ 9223372036854775807) (hb : ∀ b ∈ l, b < 256) (hc : BytesAt w p l) (hh : headOk (hN l) (hC l) = false) :
    Calls Try.prog 21 #[.slice p 64 cap] w fun r w' => r = .returned (.tuple #[headV 0 0 0 0, .int .i64 150]) ∧ Below w.heap.size w w' := by
  have CR := Lib.hid fun (w' : World) (hb' : Below w.heap.size w w') => readHead_any l p cap w' hl hcap hc0 hb (bytesAt_below hc hb')
  have CC := Lib.hid (checkHead_any (hS l) (hE l) (hN l) (hC l))
  rw [hh] at CC
  simp only [Bool.false_eq_true, if_false] at CC
  clear hh
  change Hid (∀ w', Below w.heap.size w w' → Calls Try.prog 40 #[.slice p 64 cap] w' fun r w2 => r = .returned (.agg #[.int .u64 (hS l : Nat), .int .u64 (hE l : Nat), .int .i64 (hN l : Nat), .int .i64 (hC l : Nat)]) ∧ Below w'.heap.size w' w2) at CR
  generalize hS l = x1 at *
  generalize hE l = x2 at *
  generalize hN l = x3 at *
  generalize hC l = x4 at *
  obtain ⟨B, off, rfl, hcs⟩ := bytesAt_lt hc (fun h => by subst h; simp at hl)
  have HCS := Lib.hid hcs
  have HL := Lib.hid hl
  clear hcs hb hc hl
  go_enter Try.func21, Try.ntmps21
  go_wp2
  refine wp_scope_fwd 0 rfl fun J HJ => ?_
  go_upto_region 3 with fail
  obtain ⟨w0, hw0⟩ : ∃ w0, (w.alloc (.cells #[.int .u64 0, .int .u64 0, .int .i64 0, .int .i64 0] 38)).alloc (.cells #[.int .u64 0, .int .u64 0, .int .i64 0, .int .i64 0] 38) = w0 := ⟨_, rfl⟩
  have HB0 : Hid (Below w.heap.size w w0) := Lib.hid (by subst hw0; exact ((Below.refl _ _).alloc (Nat.le_refl _) _).alloc (by simp) _)
  have HG0 : Hid (w0.heap[w.heap.size]? = some (.cells #[.int .u64 0, .int .u64 0, .int .i64 0, .int .i64 0] 38 (0, 0))) := Lib.hid (by subst hw0; exact (((Below.refl _ _).alloc (Nat.le_refl _) _).block _ (by simp)).trans (heap_alloc_last w _))
  have HG1 : Hid (w0.heap[w.heap.size + 1]? = some (.cells #[.int .u64 0, .int .u64 0, .int .i64 0, .int .i64 0] 38 (0, 0))) := Lib.hid (by subst hw0; have := heap_alloc_last (w.alloc (.cells #[.int .u64 0, .int .u64 0, .int .i64 0, .int .i64 0] 38)) (.cells #[.int .u64 0, .int .u64 0, .int .i64 0, .int .i64 0] 38); rw [World.size_alloc] at this; exact this)
  have HS0 : Hid (w0.heap.size = w.heap.size + 2) := Lib.hid (by subst hw0; simp)
  rw [hw0]
  clear hw0
  go_upto_region 4 with (go_at_call 40; refine (CR.out _ HB0.out).mono ?_; rintro e wa ⟨rfl, hba⟩; have HBA := Lib.hid hba; have hg0 := (hba.block _ (by rw [HS0.out]; omega)).trans HG0.out; have hg1 := (hba.block _ (by rw [HS0.out]; omega)).trans HG1.out; have k0 := row_cell (i := 0) hg1 rfl; have k1 := row_cell (i := 1) hg1 rfl; have k2 := row_cell (i := 2) hg1 rfl; have k3 := row_cell (i := 3) hg1 rfl; have f0 := row_frozen (i := 0) hg1; have f1 := row_frozen (i := 1) hg1; have f2 := row_frozen (i := 2) hg1; have f3 := row_frozen (i := 3) hg1; have HGA := Lib.hid hg0; have HSA := Lib.hid hba.size; clear hg0 hg1 hba)
  obtain ⟨wb, hwb⟩ : ∃ wb, (((wa.setCell ⟨w.heap.size + 1, 0, none⟩ (.int .u64 x1)).setCell ⟨w.heap.size + 1, 1, none⟩ (.int .u64 x2)).setCell ⟨w.heap.size + 1, 2, none⟩ (.int .i64 x3)).setCell ⟨w.heap.size + 1, 3, none⟩ (.int .i64 x4) = wb := ⟨_, rfl⟩
  have m0 : Hid (wb.cell? ⟨w.heap.size + 1, 0, none⟩ = some (.int .u64 x1)) := Lib.hid (by subst hwb; go_cell)
  have m1 : Hid (wb.cell? ⟨w.heap.size + 1, 1, none⟩ = some (.int .u64 x2)) := Lib.hid (by subst hwb; go_cell)
  have m2 : Hid (wb.cell? ⟨w.heap.size + 1, 2, none⟩ = some (.int .i64 x3)) := Lib.hid (by subst hwb; go_cell)
  have m3 : Hid (wb.cell? ⟨w.heap.size + 1, 3, none⟩ = some (.int .i64 x4)) := Lib.hid (by subst hwb; go_cell)
  have HBB : Hid (Below w.heap.size w wb) := Lib.hid (by subst hwb; exact ((((HB0.out.trans (HBA.out.mono (by rw [HS0.out]; omega))).setCell (Nat.le_succ _) _).setCell (Nat.le_succ _) _).setCell (Nat.le_succ _) _).setCell (Nat.le_succ _) _)
  have HGB : Hid (wb.heap[w.heap.size]? = some (.cells #[.int .u64 0, .int .u64 0, .int .i64 0, .int .i64 0] 38 (0, 0))) := Lib.hid (by subst hwb; exact (((((But.set' _ _ _ _).trans (But.set' _ _ _ _)).trans (But.set' _ _ _ _)).trans (But.set' _ _ _ _)).row HGA.out (by omega)))
  have HSB : Hid (w.heap.size + 1 < wb.heap.size) := Lib.hid (lt_of_cell_some m0.out)
  rw [hwb]
  clear hwb k0 k1 k2 k3 f0 f1 f2 f3
  have WK : Hid (∀ w', Below wb.heap.size wb w' → (w'.cell? ⟨w.heap.size + 1, 0, none⟩ = some (.int .u64 x1) ∧ w'.cell? ⟨w.heap.size + 1, 1, none⟩ = some (.int .u64 x2) ∧ w'.cell? ⟨w.heap.size + 1, 2, none⟩ = some (.int .i64 x3) ∧ w'.cell? ⟨w.heap.size + 1, 3, none⟩ = some (.int .i64 x4)) ∧ (∀ i, i < l.length → w'.cell? ⟨B, off + i, none⟩ = some (.int .u8 (l.getD i 0 : Nat))) ∧ w'.heap[w.heap.size]? = some (.cells #[.int .u64 0, .int .u64 0, .int .i64 0, .int .i64 0] 38 (0, 0)) ∧ Below w.heap.size w w') := Lib.hid fun w' h =>
    ⟨⟨(h.cell (lt_of_cell_some m0.out)).trans m0.out, (h.cell (lt_of_cell_some m1.out)).trans m1.out, (h.cell (lt_of_cell_some m2.out)).trans m2.out, (h.cell (lt_of_cell_some m3.out)).trans m3.out⟩, fun i hi => (((kbT HBB.out h)).cell (lt_of_cell_some (HCS.out i hi))).trans (HCS.out i hi), (h.block _ (by have := HSB.out; omega)).trans HGB.out, kbT HBB.out h⟩
  refine wp_region_held_drew (S := fun w' => Below wb.heap.size wb w') (by kernel_rfl) ((Below.refl _ _).drew) (fun H0 => ?_)
  refine wpAnyH_take (i := 0) (oi := { dst := some 10, op := Go.Op.load 38 (Go.Operand.tmp 4), type := 38, pos := "frame.go:57", after := #[], guard := none }) (v := ?_) rfl (by kernel_rfl) (by kernel_rfl) (by kernel_rfl) (fun _ _ _ h => h) (Or.inl ⟨by rfl, ?_⟩) H0 ?_
  rotate_left
  focus (intro w' hSw; (try dsimp only at hSw); obtain ⟨⟨q0, q1, q2, q3⟩, -, -, -⟩ := WK.out _ hSw; go_simp; (try with_reducible rfl))
  simp only [Act.put, List.setIfInBounds_toArray, List.set_cons_zero, List.set_cons_succ]
  refine wpAnyH_ready (rs := [1]) (by kernel_rfl) (by simp) ?_
  refine AllReadyH.cons (o := { dst := some 11, op := Go.Op.call { callee := Go.Callee.value (Go.Operand.func 38), args := #[Go.Operand.tmp 10], argTypes := #[38] }, type := 24, pos := "frame.go:57", after := #[{ on := 0, ground := Go.Ground.data }], guard := none }) rfl (fun K hK => ?_) ?_
  rotate_left
  exact AllReadyH.nil
  go_simp
  (go_at_call 38; (with_reducible refine (CC.out _).mono ?_); rintro e wd ⟨rfl, hd⟩)
  try go_wp2_with fail
  refine hK.out _ _ (kbT H0 hd) (fun Hd => ?_)
  clear hK K
  try simp only [Act.put, List.setIfInBounds_toArray, List.set_cons_zero, List.set_cons_succ]
  refine wpAnyH_take (i := 2) (oi := { dst := some 12, op := Go.Op.binOp Go.BinOp.neq 24 (Go.Operand.tmp 11) (Go.Operand.const (Go.Value.int Go.IntKind.i64 0)) 24, type := 4, pos := "frame.go:57", after := #[{ on := 1, ground := Go.Ground.data }], guard := none }) (v := ?_) rfl (by kernel_rfl) (by kernel_rfl) (by kernel_rfl) (fun _ _ _ h => h) (Or.inl ⟨by rfl, ?_⟩) Hd ?_
  rotate_left
  focus (intro w' hSw; (try dsimp only at hSw); go_simp; (try with_reducible rfl))
  simp only [Act.put, List.setIfInBounds_toArray, List.set_cons_zero, List.set_cons_succ]
  refine wpAnyH_take (i := 3) (oi := { dst := some 13, op := Go.Op.move (Go.Operand.tmp 12), type := 4, pos := "frame.go:57", after := #[{ on := 2, ground := Go.Ground.data }, { on := 1, ground := Go.Ground.chain }], guard := none }) (v := ?_) rfl (by kernel_rfl) (by kernel_rfl) (by kernel_rfl) (fun _ _ _ h => h) (Or.inl ⟨by rfl, ?_⟩) Hd ?_
  rotate_left
  focus (intro w' hSw; (try dsimp only at hSw); go_simp; (try with_reducible rfl))
  simp only [Act.put, List.setIfInBounds_toArray, List.set_cons_zero, List.set_cons_succ]
  refine wpAnyH_take (i := 4) (oi := { dst := some 14, op := Go.Op.load 38 (Go.Operand.tmp 4), type := 38, pos := "frame.go:57", after := #[{ on := 3, ground := Go.Ground.guard }], guard := some (3, false) }) (v := undef) rfl (by kernel_rfl) (by kernel_rfl) (by kernel_rfl) (fun _ _ _ h => h) (Or.inr ⟨by rfl, rfl⟩) Hd ?_
  simp only [Act.put, List.setIfInBounds_toArray, List.set_cons_zero, List.set_cons_succ]
  refine wpAnyH_take (i := 5) (oi := { dst := some 15, op := Go.Op.call { callee := Go.Callee.value (Go.Operand.func 39), args := #[Go.Operand.tmp 14], argTypes := #[38] }, type := 84, pos := "frame.go:57", after := #[{ on := 4, ground := Go.Ground.data }, { on := 3, ground := Go.Ground.chain }, { on := 3, ground := Go.Ground.guard }], guard := some (3, false) }) (v := undef) rfl (by kernel_rfl) (by kernel_rfl) (by kernel_rfl) (fun _ _ _ h => h) (Or.inr ⟨by rfl, rfl⟩) Hd ?_
  simp only [Act.put, List.setIfInBounds_toArray, List.set_cons_zero, List.set_cons_succ]
  refine wpAnyH_take (i := 6) (oi := { dst := some 16, op := Go.Op.move (Go.Operand.tmp 0), type := 39, pos := "frame.go:57", after := #[{ on := 3, ground := Go.Ground.guard }], guard := some (3, false) }) (v := undef) rfl (by kernel_rfl) (by kernel_rfl) (by kernel_rfl) (fun _ _ _ h => h) (Or.inr ⟨by rfl, rfl⟩) Hd ?_
  simp only [Act.put, List.setIfInBounds_toArray, List.set_cons_zero, List.set_cons_succ]
  refine wpAnyH_take (i := 7) (oi := { dst := some 17, op := Go.Op.sliceToArrayPointer 84 (Go.Operand.tmp 16), type := 0, pos := "frame.go:57", after := #[{ on := 6, ground := Go.Ground.data }, { on := 3, ground := Go.Ground.guard }], guard := some (3, false) }) (v := undef) rfl (by kernel_rfl) (by kernel_rfl) (by kernel_rfl) (fun _ _ _ h => h) (Or.inr ⟨by rfl, rfl⟩) Hd ?_
  simp only [Act.put, List.setIfInBounds_toArray, List.set_cons_zero, List.set_cons_succ]
  refine wpAnyH_take (i := 8) (oi := { dst := some 18, op := Go.Op.load 84 (Go.Operand.tmp 17), type := 84, pos := "frame.go:57", after := #[{ on := 7, ground := Go.Ground.data }, { on := 3, ground := Go.Ground.guard }], guard := some (3, false) }) (v := undef) rfl (by kernel_rfl) (by kernel_rfl) (by kernel_rfl) (fun _ _ _ h => h) (Or.inr ⟨by rfl, rfl⟩) Hd ?_
  simp only [Act.put, List.setIfInBounds_toArray, List.set_cons_zero, List.set_cons_succ]
  refine wpAnyH_take (i := 9) (oi := { dst := some 19, op := Go.Op.binOp Go.BinOp.neq 84 (Go.Operand.tmp 15) (Go.Operand.tmp 18) 84, type := 4, pos := "frame.go:57", after := #[{ on := 5, ground := Go.Ground.data }, { on := 8, ground := Go.Ground.data }, { on := 3, ground := Go.Ground.guard }], guard := some (3, false) }) (v := undef) rfl (by kernel_rfl) (by kernel_rfl) (by kernel_rfl) (fun _ _ _ h => h) (Or.inr ⟨by rfl, rfl⟩) Hd ?_
  simp only [Act.put, List.setIfInBounds_toArray, List.set_cons_zero, List.set_cons_succ]
  refine wpAnyH_take (i := 10) (oi := { dst := some 20, op := Go.Op.pick (Go.Operand.tmp 13) (Go.Operand.const (Go.Value.bool true)) (Go.Operand.tmp 19), type := 4, pos := "frame.go:57", after := #[{ on := 3, ground := Go.Ground.data }, { on := 9, ground := Go.Ground.data }], guard := none }) (v := ?_) rfl (by kernel_rfl) (by kernel_rfl) (by kernel_rfl) (fun _ _ _ h => h) (Or.inl ⟨by rfl, ?_⟩) Hd ?_
  rotate_left
  focus (intro w' hSw; (try dsimp only at hSw); go_simp; (try with_reducible rfl))
  simp only [Act.put, List.setIfInBounds_toArray, List.set_cons_zero, List.set_cons_succ]
  refine wpAnyH_done (by kernel_rfl) ?_ _
  have hg2 := (WK.out _ Hd).2.2.1
  have HX := Lib.hid (WK.out _ Hd).2.2.2
  have z0 := row_cell (i := 0) hg2 rfl
  have z1 := row_cell (i := 1) hg2 rfl
  have z2 := row_cell (i := 2) hg2 rfl
  have z3 := row_cell (i := 3) hg2 rfl
  have y0 := row_frozen (i := 0) hg2
  have y1 := row_frozen (i := 1) hg2
  have y2 := row_frozen (i := 2) hg2
  have y3 := row_frozen (i := 3) hg2
  clear hg2
  go_wp2
  go_step3
  refine ⟨rfl, HJ.out _ _ ?_⟩
  go_wp2
  simp only [Exit.noGoto_ret]
  refine bodyPost_ret (v := .tuple #[headV 0 0 0 0, .int .i64 150]) ?_ rfl ⟨rfl, ?_⟩
  · simp [results, Try.results21, go_sem, headV, z0, z1, z2, z3]
  · exact (((HX.out.setCell (Nat.le_refl _) _).setCell (Nat.le_refl _) _).setCell (Nat.le_refl _) _).setCell (Nat.le_refl _) _
set_option maxRecDepth 100000 in
set_option maxHeartbeats 4000000 in
theorem decodeHead_other (l : List Nat) (p : Option Addr) (cap : Nat) (w : World) (hl : l.length = 64) (hcap : 64 ≤ cap) (hc0 : cap ≤ 9223372036854775807) (hb : ∀ b ∈ l, b < 256) (hc : BytesAt w p l) (hh : headOk (hN l) (hC l) = true) (hq : headL (hS l) (hE l) (hN l) (hC l) ≠ l) :
    Calls Try.prog 21 #[.slice p 64 cap] w fun r w' => r = .returned (.tuple #[headV 0 0 0 0, .int .i64 150]) ∧ Below w.heap.size w w' := by
  have CR := Lib.hid fun (w' : World) (hb' : Below w.heap.size w w') => readHead_any l p cap w' hl hcap hc0 hb (bytesAt_below hc hb')
  have CC := Lib.hid (checkHead_any (hS l) (hE l) (hN l) (hC l))
  rw [hh] at CC
  simp only [if_true] at CC
  have hbb := head_bounds hh
  have CH := Lib.hid (headSector_any (hS l) (hE l) (hN l) (hC l) (foldN_lt' hb) (foldN_lt' (fun b h => hb b (List.mem_of_mem_drop h))) (by omega) (by omega))
  have hle := eqi_sec (headL_length (hS l) (hE l) (hN l) (hC l)) hl (headL_byte (hS l) (hE l) (hN l) (hC l)) hb
  rw [decide_eq_false hq] at hle
  generalize headL (hS l) (hE l) (hN l) (hC l) = ll at *
  have hle2 := fun x y w => eqg_sec ll l x y .neq w
  clear hh hbb hq
  change Hid (∀ w', Below w.heap.size w w' → Calls Try.prog 40 #[.slice p 64 cap] w' fun r w2 => r = .returned (.agg #[.int .u64 (hS l : Nat), .int .u64 (hE l : Nat), .int .i64 (hN l : Nat), .int .i64 (hC l : Nat)]) ∧ Below w'.heap.size w' w2) at CR
  generalize hS l = x1 at *
  generalize hE l = x2 at *
  generalize hN l = x3 at *
  generalize hC l = x4 at *
  obtain ⟨B, off, rfl, hcs⟩ := bytesAt_lt hc (fun h => by subst h; simp at hl)
  have HCS := Lib.hid hcs
  have HL := Lib.hid hl
  clear hcs hb hc hl
  go_enter Try.func21, Try.ntmps21
  go_wp2
  refine wp_scope_fwd 0 rfl fun J HJ => ?_
  go_upto_region 3 with fail
  obtain ⟨w0, hw0⟩ : ∃ w0, (w.alloc (.cells #[.int .u64 0, .int .u64 0, .int .i64 0, .int .i64 0] 38)).alloc (.cells #[.int .u64 0, .int .u64 0, .int .i64 0, .int .i64 0] 38) = w0 := ⟨_, rfl⟩
  have HB0 : Hid (Below w.heap.size w w0) := Lib.hid (by subst hw0; exact ((Below.refl _ _).alloc (Nat.le_refl _) _).alloc (by simp) _)
  have HG0 : Hid (w0.heap[w.heap.size]? = some (.cells #[.int .u64 0, .int .u64 0, .int .i64 0, .int .i64 0] 38 (0, 0))) := Lib.hid (by subst hw0; exact (((Below.refl _ _).alloc (Nat.le_refl _) _).block _ (by simp)).trans (heap_alloc_last w _))
  have HG1 : Hid (w0.heap[w.heap.size + 1]? = some (.cells #[.int .u64 0, .int .u64 0, .int .i64 0, .int .i64 0] 38 (0, 0))) := Lib.hid (by subst hw0; have := heap_alloc_last (w.alloc (.cells #[.int .u64 0, .int .u64 0, .int .i64 0, .int .i64 0] 38)) (.cells #[.int .u64 0, .int .u64 0, .int .i64 0, .int .i64 0] 38); rw [World.size_alloc] at this; exact this)
  have HS0 : Hid (w0.heap.size = w.heap.size + 2) := Lib.hid (by subst hw0; simp)
  rw [hw0]
  clear hw0
  go_upto_region 4 with (go_at_call 40; refine (CR.out _ HB0.out).mono ?_; rintro e wa ⟨rfl, hba⟩; have HBA := Lib.hid hba; have hg0 := (hba.block _ (by rw [HS0.out]; omega)).trans HG0.out; have hg1 := (hba.block _ (by rw [HS0.out]; omega)).trans HG1.out; have k0 := row_cell (i := 0) hg1 rfl; have k1 := row_cell (i := 1) hg1 rfl; have k2 := row_cell (i := 2) hg1 rfl; have k3 := row_cell (i := 3) hg1 rfl; have f0 := row_frozen (i := 0) hg1; have f1 := row_frozen (i := 1) hg1; have f2 := row_frozen (i := 2) hg1; have f3 := row_frozen (i := 3) hg1; have HGA := Lib.hid hg0; have HSA := Lib.hid hba.size; clear hg0 hg1 hba)
  obtain ⟨wb, hwb⟩ : ∃ wb, (((wa.setCell ⟨w.heap.size + 1, 0, none⟩ (.int .u64 x1)).setCell ⟨w.heap.size + 1, 1, none⟩ (.int .u64 x2)).setCell ⟨w.heap.size + 1, 2, none⟩ (.int .i64 x3)).setCell ⟨w.heap.size + 1, 3, none⟩ (.int .i64 x4) = wb := ⟨_, rfl⟩
  have m0 : Hid (wb.cell? ⟨w.heap.size + 1, 0, none⟩ = some (.int .u64 x1)) := Lib.hid (by subst hwb; go_cell)
  have m1 : Hid (wb.cell? ⟨w.heap.size + 1, 1, none⟩ = some (.int .u64 x2)) := Lib.hid (by subst hwb; go_cell)
  have m2 : Hid (wb.cell? ⟨w.heap.size + 1, 2, none⟩ = some (.int .i64 x3)) := Lib.hid (by subst hwb; go_cell)
  have m3 : Hid (wb.cell? ⟨w.heap.size + 1, 3, none⟩ = some (.int .i64 x4)) := Lib.hid (by subst hwb; go_cell)
  have HBB : Hid (Below w.heap.size w wb) := Lib.hid (by subst hwb; exact ((((HB0.out.trans (HBA.out.mono (by rw [HS0.out]; omega))).setCell (Nat.le_succ _) _).setCell (Nat.le_succ _) _).setCell (Nat.le_succ _) _).setCell (Nat.le_succ _) _)
  have HGB : Hid (wb.heap[w.heap.size]? = some (.cells #[.int .u64 0, .int .u64 0, .int .i64 0, .int .i64 0] 38 (0, 0))) := Lib.hid (by subst hwb; exact (((((But.set' _ _ _ _).trans (But.set' _ _ _ _)).trans (But.set' _ _ _ _)).trans (But.set' _ _ _ _)).row HGA.out (by omega)))
  have HSB : Hid (w.heap.size + 1 < wb.heap.size) := Lib.hid (lt_of_cell_some m0.out)
  rw [hwb]
  clear hwb k0 k1 k2 k3 f0 f1 f2 f3
  have WK : Hid (∀ w', Below wb.heap.size wb w' → (w'.cell? ⟨w.heap.size + 1, 0, none⟩ = some (.int .u64 x1) ∧ w'.cell? ⟨w.heap.size + 1, 1, none⟩ = some (.int .u64 x2) ∧ w'.cell? ⟨w.heap.size + 1, 2, none⟩ = some (.int .i64 x3) ∧ w'.cell? ⟨w.heap.size + 1, 3, none⟩ = some (.int .i64 x4)) ∧ (∀ i, i < l.length → w'.cell? ⟨B, off + i, none⟩ = some (.int .u8 (l.getD i 0 : Nat))) ∧ w'.heap[w.heap.size]? = some (.cells #[.int .u64 0, .int .u64 0, .int .i64 0, .int .i64 0] 38 (0, 0)) ∧ Below w.heap.size w w') := Lib.hid fun w' h =>
    ⟨⟨(h.cell (lt_of_cell_some m0.out)).trans m0.out, (h.cell (lt_of_cell_some m1.out)).trans m1.out, (h.cell (lt_of_cell_some m2.out)).trans m2.out, (h.cell (lt_of_cell_some m3.out)).trans m3.out⟩, fun i hi => (((kbT HBB.out h)).cell (lt_of_cell_some (HCS.out i hi))).trans (HCS.out i hi), (h.block _ (by have := HSB.out; omega)).trans HGB.out, kbT HBB.out h⟩
  have hap := run_arrayAt B off cap
  refine wp_region_held_drew (S := fun w' => Below wb.heap.size wb w') (by kernel_rfl) ((Below.refl _ _).drew) (fun H0 => ?_)
  refine wpAnyH_take (i := 0) (oi := { dst := some 10, op := Go.Op.load 38 (Go.Operand.tmp 4), type := 38, pos := "frame.go:57", after := #[], guard := none }) (v := ?_) rfl (by kernel_rfl) (by kernel_rfl) (by kernel_rfl) (fun _ _ _ h => h) (Or.inl ⟨by rfl, ?_⟩) H0 ?_
  rotate_left
  focus (intro w' hSw; (try dsimp only at hSw); obtain ⟨⟨q0, q1, q2, q3⟩, -, -, -⟩ := WK.out _ hSw; go_simp; (try with_reducible rfl))
  simp only [Act.put, List.setIfInBounds_toArray, List.set_cons_zero, List.set_cons_succ]
  refine wpAnyH_ready (rs := [1]) (by kernel_rfl) (by simp) ?_
  refine AllReadyH.cons (o := { dst := some 11, op := Go.Op.call { callee := Go.Callee.value (Go.Operand.func 38), args := #[Go.Operand.tmp 10], argTypes := #[38] }, type := 24, pos := "frame.go:57", after := #[{ on := 0, ground := Go.Ground.data }], guard := none }) rfl (fun K hK => ?_) ?_
  rotate_left
  exact AllReadyH.nil
  go_simp
  (go_at_call 38; (with_reducible refine (CC.out _).mono ?_); rintro e wd ⟨rfl, hd⟩)
  try go_wp2_with fail
  refine hK.out _ _ (kbT H0 hd) (fun Hd => ?_)
  clear hK K
  try simp only [Act.put, List.setIfInBounds_toArray, List.set_cons_zero, List.set_cons_succ]
  refine wpAnyH_take (i := 2) (oi := { dst := some 12, op := Go.Op.binOp Go.BinOp.neq 24 (Go.Operand.tmp 11) (Go.Operand.const (Go.Value.int Go.IntKind.i64 0)) 24, type := 4, pos := "frame.go:57", after := #[{ on := 1, ground := Go.Ground.data }], guard := none }) (v := ?_) rfl (by kernel_rfl) (by kernel_rfl) (by kernel_rfl) (fun _ _ _ h => h) (Or.inl ⟨by rfl, ?_⟩) Hd ?_
  rotate_left
  focus (intro w' hSw; (try dsimp only at hSw); go_simp; (try with_reducible rfl))
  simp only [Act.put, List.setIfInBounds_toArray, List.set_cons_zero, List.set_cons_succ]
  refine wpAnyH_take (i := 3) (oi := { dst := some 13, op := Go.Op.move (Go.Operand.tmp 12), type := 4, pos := "frame.go:57", after := #[{ on := 2, ground := Go.Ground.data }, { on := 1, ground := Go.Ground.chain }], guard := none }) (v := ?_) rfl (by kernel_rfl) (by kernel_rfl) (by kernel_rfl) (fun _ _ _ h => h) (Or.inl ⟨by rfl, ?_⟩) Hd ?_
  rotate_left
  focus (intro w' hSw; (try dsimp only at hSw); go_simp; (try with_reducible rfl))
  simp only [Act.put, List.setIfInBounds_toArray, List.set_cons_zero, List.set_cons_succ]
  refine wpAnyH_take (i := 4) (oi := { dst := some 14, op := Go.Op.load 38 (Go.Operand.tmp 4), type := 38, pos := "frame.go:57", after := #[{ on := 3, ground := Go.Ground.guard }], guard := some (3, false) }) (v := ?_) rfl (by kernel_rfl) (by kernel_rfl) (by kernel_rfl) (fun _ _ _ h => h) (Or.inl ⟨by rfl, ?_⟩) Hd ?_
  rotate_left
  focus (intro w' hSw; (try dsimp only at hSw); obtain ⟨⟨q0, q1, q2, q3⟩, -, -, -⟩ := WK.out _ hSw; go_simp; (try with_reducible rfl))
  simp only [Act.put, List.setIfInBounds_toArray, List.set_cons_zero, List.set_cons_succ]
  refine wpAnyH_take (i := 6) (oi := { dst := some 16, op := Go.Op.move (Go.Operand.tmp 0), type := 39, pos := "frame.go:57", after := #[{ on := 3, ground := Go.Ground.guard }], guard := some (3, false) }) (v := ?_) rfl (by kernel_rfl) (by kernel_rfl) (by kernel_rfl) (fun _ _ _ h => h) (Or.inl ⟨by rfl, ?_⟩) Hd ?_
  rotate_left
  focus (intro w' hSw; (try dsimp only at hSw); go_simp; (try with_reducible rfl))
  simp only [Act.put, List.setIfInBounds_toArray, List.set_cons_zero, List.set_cons_succ]
  refine wpAnyH_take (i := 7) (oi := { dst := some 17, op := Go.Op.sliceToArrayPointer 84 (Go.Operand.tmp 16), type := 0, pos := "frame.go:57", after := #[{ on := 6, ground := Go.Ground.data }, { on := 3, ground := Go.Ground.guard }], guard := some (3, false) }) (v := ?_) rfl (by kernel_rfl) (by kernel_rfl) (by kernel_rfl) (fun _ _ _ h => h) (Or.inl ⟨by rfl, ?_⟩) Hd ?_
  rotate_left
  focus (intro w' hSw; (try dsimp only at hSw); go_simp; (try with_reducible rfl))
  simp only [Act.put, List.setIfInBounds_toArray, List.set_cons_zero, List.set_cons_succ]
  refine wpAnyH_take (i := 8) (oi := { dst := some 18, op := Go.Op.load 84 (Go.Operand.tmp 17), type := 84, pos := "frame.go:57", after := #[{ on := 7, ground := Go.Ground.data }, { on := 3, ground := Go.Ground.guard }], guard := some (3, false) }) (v := .agg (secA l)) rfl (by kernel_rfl) (by kernel_rfl) (by kernel_rfl) (fun _ _ _ h => h) (Or.inl ⟨by rfl, fun w' hSw => exec_load_sec (x := .tmp 17) rfl rfl HL.out (WK.out _ hSw).2.1⟩) Hd ?_
  simp only [Act.put, List.setIfInBounds_toArray, List.set_cons_zero, List.set_cons_succ]
  refine wpAnyH_ready (rs := [5]) (by kernel_rfl) (by simp) ?_
  refine AllReadyH.cons (o := { dst := some 15, op := Go.Op.call { callee := Go.Callee.value (Go.Operand.func 39), args := #[Go.Operand.tmp 14], argTypes := #[38] }, type := 84, pos := "frame.go:57", after := #[{ on := 4, ground := Go.Ground.data }, { on := 3, ground := Go.Ground.chain }, { on := 3, ground := Go.Ground.guard }], guard := some (3, false) }) rfl (fun K hK => ?_) ?_
  rotate_left
  exact AllReadyH.nil
  go_simp
  (go_at_call 39; (with_reducible refine (CH.out _).mono ?_); rintro e we ⟨rfl, he'⟩)
  try go_wp2_with fail
  refine hK.out _ _ (kbT Hd he') (fun He => ?_)
  clear hK K
  try simp only [Act.put, List.setIfInBounds_toArray, List.set_cons_zero, List.set_cons_succ]
  refine wpAnyH_take (i := 9) (oi := { dst := some 19, op := Go.Op.binOp Go.BinOp.neq 84 (Go.Operand.tmp 15) (Go.Operand.tmp 18) 84, type := 4, pos := "frame.go:57", after := #[{ on := 5, ground := Go.Ground.data }, { on := 8, ground := Go.Ground.data }, { on := 3, ground := Go.Ground.guard }], guard := some (3, false) }) (v := ?_) rfl (by kernel_rfl) (by kernel_rfl) (by kernel_rfl) (fun _ _ _ h => h) (Or.inl ⟨by rfl, ?_⟩) He ?_
  rotate_left
  focus (intro w' hSw; (try dsimp only at hSw); go_simp; (try with_reducible rfl))
  simp only [Act.put, List.setIfInBounds_toArray, List.set_cons_zero, List.set_cons_succ]
  refine wpAnyH_take (i := 10) (oi := { dst := some 20, op := Go.Op.pick (Go.Operand.tmp 13) (Go.Operand.const (Go.Value.bool true)) (Go.Operand.tmp 19), type := 4, pos := "frame.go:57", after := #[{ on := 3, ground := Go.Ground.data }, { on := 9, ground := Go.Ground.data }], guard := none }) (v := ?_) rfl (by kernel_rfl) (by kernel_rfl) (by kernel_rfl) (fun _ _ _ h => h) (Or.inl ⟨by rfl, ?_⟩) He ?_
  rotate_left
  focus (intro w' hSw; (try dsimp only at hSw); go_simp; (try with_reducible rfl))
  simp only [Act.put, List.setIfInBounds_toArray, List.set_cons_zero, List.set_cons_succ]
  refine wpAnyH_done (by kernel_rfl) ?_ _
  have hg2 := (WK.out _ He).2.2.1
  have HX := Lib.hid (WK.out _ He).2.2.2
  have z0 := row_cell (i := 0) hg2 rfl
  have z1 := row_cell (i := 1) hg2 rfl
  have z2 := row_cell (i := 2) hg2 rfl
  have z3 := row_cell (i := 3) hg2 rfl
  have y0 := row_frozen (i := 0) hg2
  have y1 := row_frozen (i := 1) hg2
  have y2 := row_frozen (i := 2) hg2
  have y3 := row_frozen (i := 3) hg2
  clear hg2
  go_wp2
  go_step3
  refine ⟨rfl, HJ.out _ _ ?_⟩
  go_wp2
  simp only [Exit.noGoto_ret]
  refine bodyPost_ret (v := .tuple #[headV 0 0 0 0, .int .i64 150]) ?_ rfl ⟨rfl, ?_⟩
  · simp [results, Try.results21, go_sem, headV, z0, z1, z2, z3]
  · exact (((HX.out.setCell (Nat.le_refl _) _).setCell (Nat.le_refl _) _).setCell (Nat.le_refl _) _).setCell (Nat.le_refl _) _
set_option maxRecDepth 100000 in
set_option maxHeartbeats 4000000 in
theorem decodeHead_yes (l : List Nat) (p : Option Addr) (cap : Nat) (w : World) (hl : l.length = 64) (hcap : 64 ≤ cap) (hc0 : cap ≤ 9223372036854775807) (hb : ∀ b ∈ l, b < 256) (hc : BytesAt w p l) (hh : headOk (hN l) (hC l) = true) (hq : headL (hS l) (hE l) (hN l) (hC l) = l) :
    Calls Try.prog 21 #[.slice p 64 cap] w fun r w' => r = .returned (.tuple #[headV (hS l) (hE l) (hN l) (hC l), .int .i64 0]) ∧ Below w.heap.size w w' := by
  have CR := Lib.hid fun (w' : World) (hb' : Below w.heap.size w w') => readHead_any l p cap w' hl hcap hc0 hb (bytesAt_below hc hb')
  have CC := Lib.hid (checkHead_any (hS l) (hE l) (hN l) (hC l))
  rw [hh] at CC
  simp only [if_true] at CC
  have hbb := head_bounds hh
  have CH := Lib.hid (headSector_any (hS l) (hE l) (hN l) (hC l) (foldN_lt' hb) (foldN_lt' (fun b h => hb b (List.mem_of_mem_drop h))) (by omega) (by omega))
  have hle := eqi_sec (headL_length (hS l) (hE l) (hN l) (hC l)) hl (headL_byte (hS l) (hE l) (hN l) (hC l)) hb
  rw [decide_eq_true hq] at hle
  generalize headL (hS l) (hE l) (hN l) (hC l) = ll at *
  have hle2 := fun x y w => eqg_sec ll l x y .neq w
  clear hh hbb hq
  change Hid (∀ w', Below w.heap.size w w' → Calls Try.prog 40 #[.slice p 64 cap] w' fun r w2 => r = .returned (.agg #[.int .u64 (hS l : Nat), .int .u64 (hE l : Nat), .int .i64 (hN l : Nat), .int .i64 (hC l : Nat)]) ∧ Below w'.heap.size w' w2) at CR
  generalize hS l = x1 at *
  generalize hE l = x2 at *
  generalize hN l = x3 at *
  generalize hC l = x4 at *
  obtain ⟨B, off, rfl, hcs⟩ := bytesAt_lt hc (fun h => by subst h; simp at hl)
  have HCS := Lib.hid hcs
  have HL := Lib.hid hl
  clear hcs hb hc hl
  go_enter Try.func21, Try.ntmps21
  go_wp2
  refine wp_scope_fwd 0 rfl fun J HJ => ?_
  go_upto_region 3 with fail
  obtain ⟨w0, hw0⟩ : ∃ w0, (w.alloc (.cells #[.int .u64 0, .int .u64 0, .int .i64 0, .int .i64 0] 38)).alloc (.cells #[.int .u64 0, .int .u64 0, .int .i64 0, .int .i64 0] 38) = w0 := ⟨_, rfl⟩
  have HB0 : Hid (Below w.heap.size w w0) := Lib.hid (by subst hw0; exact ((Below.refl _ _).alloc (Nat.le_refl _) _).alloc (by simp) _)
  have HG0 : Hid (w0.heap[w.heap.size]? = some (.cells #[.int .u64 0, .int .u64 0, .int .i64 0, .int .i64 0] 38 (0, 0))) := Lib.hid (by subst hw0; exact (((Below.refl _ _).alloc (Nat.le_refl _) _).block _ (by simp)).trans (heap_alloc_last w _))
  have HG1 : Hid (w0.heap[w.heap.size + 1]? = some (.cells #[.int .u64 0, .int .u64 0, .int .i64 0, .int .i64 0] 38 (0, 0))) := Lib.hid (by subst hw0; have := heap_alloc_last (w.alloc (.cells #[.int .u64 0, .int .u64 0, .int .i64 0, .int .i64 0] 38)) (.cells #[.int .u64 0, .int .u64 0, .int .i64 0, .int .i64 0] 38); rw [World.size_alloc] at this; exact this)
  have HS0 : Hid (w0.heap.size = w.heap.size + 2) := Lib.hid (by subst hw0; simp)
  rw [hw0]
  clear hw0
  go_upto_region 4 with (go_at_call 40; refine (CR.out _ HB0.out).mono ?_; rintro e wa ⟨rfl, hba⟩; have HBA := Lib.hid hba; have hg0 := (hba.block _ (by rw [HS0.out]; omega)).trans HG0.out; have hg1 := (hba.block _ (by rw [HS0.out]; omega)).trans HG1.out; have k0 := row_cell (i := 0) hg1 rfl; have k1 := row_cell (i := 1) hg1 rfl; have k2 := row_cell (i := 2) hg1 rfl; have k3 := row_cell (i := 3) hg1 rfl; have f0 := row_frozen (i := 0) hg1; have f1 := row_frozen (i := 1) hg1; have f2 := row_frozen (i := 2) hg1; have f3 := row_frozen (i := 3) hg1; have HGA := Lib.hid hg0; have HSA := Lib.hid hba.size; clear hg0 hg1 hba)
  obtain ⟨wb, hwb⟩ : ∃ wb, (((wa.setCell ⟨w.heap.size + 1, 0, none⟩ (.int .u64 x1)).setCell ⟨w.heap.size + 1, 1, none⟩ (.int .u64 x2)).setCell ⟨w.heap.size + 1, 2, none⟩ (.int .i64 x3)).setCell ⟨w.heap.size + 1, 3, none⟩ (.int .i64 x4) = wb := ⟨_, rfl⟩
  have m0 : Hid (wb.cell? ⟨w.heap.size + 1, 0, none⟩ = some (.int .u64 x1)) := Lib.hid (by subst hwb; go_cell)
  have m1 : Hid (wb.cell? ⟨w.heap.size + 1, 1, none⟩ = some (.int .u64 x2)) := Lib.hid (by subst hwb; go_cell)
  have m2 : Hid (wb.cell? ⟨w.heap.size + 1, 2, none⟩ = some (.int .i64 x3)) := Lib.hid (by subst hwb; go_cell)
  have m3 : Hid (wb.cell? ⟨w.heap.size + 1, 3, none⟩ = some (.int .i64 x4)) := Lib.hid (by subst hwb; go_cell)
  have HBB : Hid (Below w.heap.size w wb) := Lib.hid (by subst hwb; exact ((((HB0.out.trans (HBA.out.mono (by rw [HS0.out]; omega))).setCell (Nat.le_succ _) _).setCell (Nat.le_succ _) _).setCell (Nat.le_succ _) _).setCell (Nat.le_succ _) _)
  have HGB : Hid (wb.heap[w.heap.size]? = some (.cells #[.int .u64 0, .int .u64 0, .int .i64 0, .int .i64 0] 38 (0, 0))) := Lib.hid (by subst hwb; exact (((((But.set' _ _ _ _).trans (But.set' _ _ _ _)).trans (But.set' _ _ _ _)).trans (But.set' _ _ _ _)).row HGA.out (by omega)))
  have HSB : Hid (w.heap.size + 1 < wb.heap.size) := Lib.hid (lt_of_cell_some m0.out)
  rw [hwb]
  clear hwb k0 k1 k2 k3 f0 f1 f2 f3
  have WK : Hid (∀ w', Below wb.heap.size wb w' → (w'.cell? ⟨w.heap.size + 1, 0, none⟩ = some (.int .u64 x1) ∧ w'.cell? ⟨w.heap.size + 1, 1, none⟩ = some (.int .u64 x2) ∧ w'.cell? ⟨w.heap.size + 1, 2, none⟩ = some (.int .i64 x3) ∧ w'.cell? ⟨w.heap.size + 1, 3, none⟩ = some (.int .i64 x4)) ∧ (∀ i, i < l.length → w'.cell? ⟨B, off + i, none⟩ = some (.int .u8 (l.getD i 0 : Nat))) ∧ w'.heap[w.heap.size]? = some (.cells #[.int .u64 0, .int .u64 0, .int .i64 0, .int .i64 0] 38 (0, 0)) ∧ Below w.heap.size w w') := Lib.hid fun w' h =>
    ⟨⟨(h.cell (lt_of_cell_some m0.out)).trans m0.out, (h.cell (lt_of_cell_some m1.out)).trans m1.out, (h.cell (lt_of_cell_some m2.out)).trans m2.out, (h.cell (lt_of_cell_some m3.out)).trans m3.out⟩, fun i hi => (((kbT HBB.out h)).cell (lt_of_cell_some (HCS.out i hi))).trans (HCS.out i hi), (h.block _ (by have := HSB.out; omega)).trans HGB.out, kbT HBB.out h⟩
  have hap := run_arrayAt B off cap
  refine wp_region_held_drew (S := fun w' => Below wb.heap.size wb w') (by kernel_rfl) ((Below.refl _ _).drew) (fun H0 => ?_)
  refine wpAnyH_take (i := 0) (oi := { dst := some 10, op := Go.Op.load 38 (Go.Operand.tmp 4), type := 38, pos := "frame.go:57", after := #[], guard := none }) (v := ?_) rfl (by kernel_rfl) (by kernel_rfl) (by kernel_rfl) (fun _ _ _ h => h) (Or.inl ⟨by rfl, ?_⟩) H0 ?_
  rotate_left
  focus (intro w' hSw; (try dsimp only at hSw); obtain ⟨⟨q0, q1, q2, q3⟩, -, -, -⟩ := WK.out _ hSw; go_simp; (try with_reducible rfl))
  simp only [Act.put, List.setIfInBounds_toArray, List.set_cons_zero, List.set_cons_succ]
  refine wpAnyH_ready (rs := [1]) (by kernel_rfl) (by simp) ?_
  refine AllReadyH.cons (o := { dst := some 11, op := Go.Op.call { callee := Go.Callee.value (Go.Operand.func 38), args := #[Go.Operand.tmp 10], argTypes := #[38] }, type := 24, pos := "frame.go:57", after := #[{ on := 0, ground := Go.Ground.data }], guard := none }) rfl (fun K hK => ?_) ?_
  rotate_left
  exact AllReadyH.nil
  go_simp
  (go_at_call 38; (with_reducible refine (CC.out _).mono ?_); rintro e wd ⟨rfl, hd⟩)
  try go_wp2_with fail
  refine hK.out _ _ (kbT H0 hd) (fun Hd => ?_)
  clear hK K
  try simp only [Act.put, List.setIfInBounds_toArray, List.set_cons_zero, List.set_cons_succ]
  refine wpAnyH_take (i := 2) (oi := { dst := some 12, op := Go.Op.binOp Go.BinOp.neq 24 (Go.Operand.tmp 11) (Go.Operand.const (Go.Value.int Go.IntKind.i64 0)) 24, type := 4, pos := "frame.go:57", after := #[{ on := 1, ground := Go.Ground.data }], guard := none }) (v := ?_) rfl (by kernel_rfl) (by kernel_rfl) (by kernel_rfl) (fun _ _ _ h => h) (Or.inl ⟨by rfl, ?_⟩) Hd ?_
  rotate_left
  focus (intro w' hSw; (try dsimp only at hSw); go_simp; (try with_reducible rfl))
  simp only [Act.put, List.setIfInBounds_toArray, List.set_cons_zero, List.set_cons_succ]
  refine wpAnyH_take (i := 3) (oi := { dst := some 13, op := Go.Op.move (Go.Operand.tmp 12), type := 4, pos := "frame.go:57", after := #[{ on := 2, ground := Go.Ground.data }, { on := 1, ground := Go.Ground.chain }], guard := none }) (v := ?_) rfl (by kernel_rfl) (by kernel_rfl) (by kernel_rfl) (fun _ _ _ h => h) (Or.inl ⟨by rfl, ?_⟩) Hd ?_
  rotate_left
  focus (intro w' hSw; (try dsimp only at hSw); go_simp; (try with_reducible rfl))
  simp only [Act.put, List.setIfInBounds_toArray, List.set_cons_zero, List.set_cons_succ]
  refine wpAnyH_take (i := 4) (oi := { dst := some 14, op := Go.Op.load 38 (Go.Operand.tmp 4), type := 38, pos := "frame.go:57", after := #[{ on := 3, ground := Go.Ground.guard }], guard := some (3, false) }) (v := ?_) rfl (by kernel_rfl) (by kernel_rfl) (by kernel_rfl) (fun _ _ _ h => h) (Or.inl ⟨by rfl, ?_⟩) Hd ?_
  rotate_left
  focus (intro w' hSw; (try dsimp only at hSw); obtain ⟨⟨q0, q1, q2, q3⟩, -, -, -⟩ := WK.out _ hSw; go_simp; (try with_reducible rfl))
  simp only [Act.put, List.setIfInBounds_toArray, List.set_cons_zero, List.set_cons_succ]
  refine wpAnyH_take (i := 6) (oi := { dst := some 16, op := Go.Op.move (Go.Operand.tmp 0), type := 39, pos := "frame.go:57", after := #[{ on := 3, ground := Go.Ground.guard }], guard := some (3, false) }) (v := ?_) rfl (by kernel_rfl) (by kernel_rfl) (by kernel_rfl) (fun _ _ _ h => h) (Or.inl ⟨by rfl, ?_⟩) Hd ?_
  rotate_left
  focus (intro w' hSw; (try dsimp only at hSw); go_simp; (try with_reducible rfl))
  simp only [Act.put, List.setIfInBounds_toArray, List.set_cons_zero, List.set_cons_succ]
  refine wpAnyH_take (i := 7) (oi := { dst := some 17, op := Go.Op.sliceToArrayPointer 84 (Go.Operand.tmp 16), type := 0, pos := "frame.go:57", after := #[{ on := 6, ground := Go.Ground.data }, { on := 3, ground := Go.Ground.guard }], guard := some (3, false) }) (v := ?_) rfl (by kernel_rfl) (by kernel_rfl) (by kernel_rfl) (fun _ _ _ h => h) (Or.inl ⟨by rfl, ?_⟩) Hd ?_
  rotate_left
  focus (intro w' hSw; (try dsimp only at hSw); go_simp; (try with_reducible rfl))
  simp only [Act.put, List.setIfInBounds_toArray, List.set_cons_zero, List.set_cons_succ]
  refine wpAnyH_take (i := 8) (oi := { dst := some 18, op := Go.Op.load 84 (Go.Operand.tmp 17), type := 84, pos := "frame.go:57", after := #[{ on := 7, ground := Go.Ground.data }, { on := 3, ground := Go.Ground.guard }], guard := some (3, false) }) (v := .agg (secA l)) rfl (by kernel_rfl) (by kernel_rfl) (by kernel_rfl) (fun _ _ _ h => h) (Or.inl ⟨by rfl, fun w' hSw => exec_load_sec (x := .tmp 17) rfl rfl HL.out (WK.out _ hSw).2.1⟩) Hd ?_
  simp only [Act.put, List.setIfInBounds_toArray, List.set_cons_zero, List.set_cons_succ]
  refine wpAnyH_ready (rs := [5]) (by kernel_rfl) (by simp) ?_
  refine AllReadyH.cons (o := { dst := some 15, op := Go.Op.call { callee := Go.Callee.value (Go.Operand.func 39), args := #[Go.Operand.tmp 14], argTypes := #[38] }, type := 84, pos := "frame.go:57", after := #[{ on := 4, ground := Go.Ground.data }, { on := 3, ground := Go.Ground.chain }, { on := 3, ground := Go.Ground.guard }], guard := some (3, false) }) rfl (fun K hK => ?_) ?_
  rotate_left
  exact AllReadyH.nil
  go_simp
  (go_at_call 39; (with_reducible refine (CH.out _).mono ?_); rintro e we ⟨rfl, he'⟩)
  try go_wp2_with fail
  refine hK.out _ _ (kbT Hd he') (fun He => ?_)
  clear hK K
  try simp only [Act.put, List.setIfInBounds_toArray, List.set_cons_zero, List.set_cons_succ]
  refine wpAnyH_take (i := 9) (oi := { dst := some 19, op := Go.Op.binOp Go.BinOp.neq 84 (Go.Operand.tmp 15) (Go.Operand.tmp 18) 84, type := 4, pos := "frame.go:57", after := #[{ on := 5, ground := Go.Ground.data }, { on := 8, ground := Go.Ground.data }, { on := 3, ground := Go.Ground.guard }], guard := some (3, false) }) (v := ?_) rfl (by kernel_rfl) (by kernel_rfl) (by kernel_rfl) (fun _ _ _ h => h) (Or.inl ⟨by rfl, ?_⟩) He ?_
  rotate_left
  focus (intro w' hSw; (try dsimp only at hSw); go_simp; (try with_reducible rfl))
  simp only [Act.put, List.setIfInBounds_toArray, List.set_cons_zero, List.set_cons_succ]
  refine wpAnyH_take (i := 10) (oi := { dst := some 20, op := Go.Op.pick (Go.Operand.tmp 13) (Go.Operand.const (Go.Value.bool true)) (Go.Operand.tmp 19), type := 4, pos := "frame.go:57", after := #[{ on := 3, ground := Go.Ground.data }, { on := 9, ground := Go.Ground.data }], guard := none }) (v := ?_) rfl (by kernel_rfl) (by kernel_rfl) (by kernel_rfl) (fun _ _ _ h => h) (Or.inl ⟨by rfl, ?_⟩) He ?_
  rotate_left
  focus (intro w' hSw; (try dsimp only at hSw); go_simp; (try with_reducible rfl))
  simp only [Act.put, List.setIfInBounds_toArray, List.set_cons_zero, List.set_cons_succ]
  refine wpAnyH_done (by kernel_rfl) ?_ _
  have hg2 := (WK.out _ He).2.2.1
  have HX := Lib.hid (WK.out _ He).2.2.2
  have z0 := row_cell (i := 0) hg2 rfl
  have z1 := row_cell (i := 1) hg2 rfl
  have z2 := row_cell (i := 2) hg2 rfl
  have z3 := row_cell (i := 3) hg2 rfl
  have y0 := row_frozen (i := 0) hg2
  have y1 := row_frozen (i := 1) hg2
  have y2 := row_frozen (i := 2) hg2
  have y3 := row_frozen (i := 3) hg2
  clear hg2
  have hk := (WK.out _ He).1
  obtain ⟨q0, q1, q2, q3⟩ := hk
  go_wp2
  simp only [Exit.jump]
  refine bodyPost_ret (v := .tuple #[headV x1 x2 x3 x4, .int .i64 0]) ?_ rfl ⟨rfl, ?_⟩
  · simp [results, Try.results21, go_sem, headV, z0, z1, z2, z3]
  · exact (((HX.out.setCell (Nat.le_refl _) _).setCell (Nat.le_refl _) _).setCell (Nat.le_refl _) _).setCell (Nat.le_refl _) _
theorem decodeHead_any (l : List Nat) (p : Option Addr) (cap : Nat) (w : World) (hcap : l.length ≤ cap) (hc0 : cap ≤ 9223372036854775807) (hb : ∀ b ∈ l, b < 256) (hc : BytesAt w p l) :
    Calls Try.prog 21 #[.slice p l.length cap] w fun r w' => r = .returned (.tuple #[decV l, .int .i64 (decX l)]) ∧ Below w.heap.size w w' := by
  unfold decV decX isHead
  by_cases hl : l.length = 64
  · cases hh : headOk (hN l) (hC l) with
    | false =>
      simp only [hl, decide_true, Bool.true_and, Bool.false_and, Bool.false_eq_true, if_false]
      exact decodeHead_no l p cap w hl (by omega) hc0 hb hc hh
    | true =>
      by_cases hq : headL (hS l) (hE l) (hN l) (hC l) = l
      · simp only [hl, hq, decide_true, Bool.true_and, if_true]
        exact decodeHead_yes l p cap w hl (by omega) hc0 hb hc hh hq
      · simp only [hl, hq, decide_true, decide_false, Bool.true_and, Bool.false_eq_true, if_false]
        exact decodeHead_other l p cap w hl (by omega) hc0 hb hc hh hq
  · simp only [hl, decide_false, Bool.false_and, Bool.false_eq_true, if_false]
    exact decodeHead_long l p cap w hl
end Go.Proofs.Ythnllhfdbnnjhaa
