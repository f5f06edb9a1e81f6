import Derived.Test.YtoknfdgejiachaaKQ
namespace Go.Proofs.Ytoknfdgejiachaa
open Go.RowKit Go.Shelf

/-- What stands behind a region of Do's way. -/
theorem box_start (w : World) (s : Value) (o : Int) : (((w.alloc (.cells #[s, .int .i64 o] 67)).alloc (vObj 0 0 ⟨#[]⟩))).cell? ⟨w.heap.size, 0, none⟩ = some s ∧ ((w.alloc (.cells #[s, .int .i64 o] 67)).alloc (vObj 0 0 ⟨#[]⟩)).cell? ⟨w.heap.size, 1, none⟩ = some (.int .i64 o) ∧ NulAt ((w.alloc (.cells #[s, .int .i64 o] 67)).alloc (vObj 0 0 ⟨#[]⟩)) (w.heap.size + 1) ∧ Below w.heap.size w ((w.alloc (.cells #[s, .int .i64 o] 67)).alloc (vObj 0 0 ⟨#[]⟩)) :=
  ⟨by go_cell, by go_cell, ⟨by go_cell, by go_cell, by go_cell, by go_cell, by go_cell, by go_cell, by simp⟩, ((Below.refl _ _).alloc (Nat.le_refl _) _).alloc (by simp) _⟩
set_option maxRecDepth 100000 in
set_option maxHeartbeats 2000000 in
theorem done_null (o : Int) (p : Option Addr) (n cap : Nat) (h13 : (o == 13) = false) (h14 : (o == 14) = false) (h17 : (o == 17) = false) (h18 : (o == 18) = false) (w : World)
    (N : Hid (∀ w', Below w.heap.size w w' → Calls Try.prog 51 #[.slice p n cap] w' fun r w2 => r = .returned (.bool true) ∧ Below w'.heap.size w' w2)) :
    Calls Try.prog 28 #[.agg #[.slice p n cap, .int .i64 o]] w fun r w' => r = .returned (val nul) ∧ Below w.heap.size w w' := by
  go_enter Try.func28, Try.ntmps28
  go_wp2_with (go_at_call 51; refine (N.out _ (box_start _ _ _).2.2.2).mono ?_; rintro e wa ⟨rfl, hb⟩; obtain ⟨f0, f1, f2, g0, g1, g2, hs⟩ := nul_kept (A := w.heap.size + 1) hb (by go_cell) (by go_cell) (by go_cell) (by go_cell) (by go_cell) (by go_cell); have x0 : wa.cell? ⟨w.heap.size, 0, none⟩ = some (.slice p n cap) := (hb.cell (by simp; omega)).trans (by go_cell); have x1 : wa.cell? ⟨w.heap.size, 1, none⟩ = some (.int .i64 o) := (hb.cell (by simp; omega)).trans (by go_cell); have hB : Below w.heap.size w wa := (box_start w (.slice p n cap) o).2.2.2.trans (hb.mono (by simp; omega)))
  refine bodyPost_ret (v := val nul) ?_ rfl ⟨rfl, ((hB.setCell (by simp) _).setCell (by simp) _).setCell (by simp) _⟩
  simp [results, Try.results28, go_sem, f0, f1, f2]
set_option maxRecDepth 100000 in
set_option maxHeartbeats 2000000 in
theorem done_ok (o : Int) (x : V3) (p : Option Addr) (n cap : Nat) (F : Nat) (R : Value) (h13 : (o == 13) = false) (h14 : (o == 14) = false) (h17 : (o == 17) = false) (h18 : (o == 18) = false) (w : World)
    (N : Hid (∀ w', Below w.heap.size w w' → Calls Try.prog 51 #[.slice p n cap] w' fun r w2 => r = .returned (.bool false) ∧ Below w'.heap.size w' w2))
    (hen : ∀ (args : Array Value) (w : World), (callFunc F args).run Try.prog w = .ok (.enter F args) w)
    (hix : ∀ w : World, (Instr.index 61 (.agg TABLE) (.int .i64 o)).run Try.prog w = .ok R w)
    (hfd : ∀ w : World, (Instr.field 60 R 4).run Try.prog w = .ok (.func (.func F) #[] #[]) w)
    (WY : Hid (∀ w', Below w.heap.size w w' → Calls Try.prog F #[.agg #[.slice p n cap, .int .i64 o]] w' fun r w2 => r = .returned (val x) ∧ Below w'.heap.size w' w2)) :
    Calls Try.prog 28 #[.agg #[.slice p n cap, .int .i64 o]] w fun r w' => r = .returned (val x) ∧ Below w.heap.size w w' := by
  go_enter Try.func28, Try.ntmps28
  go_wp2_with (go_at_call 51; refine (N.out _ (box_start _ _ _).2.2.2).mono ?_; rintro e wa ⟨rfl, hb⟩; obtain ⟨f0, f1, f2, g0, g1, g2, hs⟩ := nul_kept (A := w.heap.size + 1) hb (by go_cell) (by go_cell) (by go_cell) (by go_cell) (by go_cell) (by go_cell); have x0 : wa.cell? ⟨w.heap.size, 0, none⟩ = some (.slice p n cap) := (hb.cell (by simp; omega)).trans (by go_cell); have x1 : wa.cell? ⟨w.heap.size, 1, none⟩ = some (.int .i64 o) := (hb.cell (by simp; omega)).trans (by go_cell); have hB : Below w.heap.size w wa := (box_start w (.slice p n cap) o).2.2.2.trans (hb.mono (by simp; omega)))
  have hl0 : w.heap.size < wa.heap.size := by omega
  have HB := Lib.hid hB
  have HT := Lib.hid ((hB.alloc hB.size (.cells TABLE 61)).drew)
  have WZ := Lib.hid (WY.out _ ((hB.alloc hB.size (.cells TABLE 61)).drew))
  have XX : Hid (∀ wz, Below (wa.alloc (.cells TABLE 61)).drew.heap.size (wa.alloc (.cells TABLE 61)).drew wz → NulAt wz (w.heap.size + 1)) := Lib.hid fun wz hb => nul_kept (A := w.heap.size + 1) hb (by go_cell) (by go_cell) (by go_cell) (by go_cell) (by go_cell) (by go_cell)
  have XT : Hid ((wa.alloc (.cells TABLE 61)).drew.cell? ⟨w.heap.size, 0, none⟩ = some (.slice p n cap) ∧ (wa.alloc (.cells TABLE 61)).drew.cell? ⟨w.heap.size, 1, none⟩ = some (.int .i64 o)) := Lib.hid ⟨by go_cell, by go_cell⟩
  clear hB
  go_region_held3 (fun w' => w'.cell? ⟨w.heap.size, 0, none⟩ = some (.slice p n cap) ∧ w'.cell? ⟨w.heap.size, 1, none⟩ = some (.int .i64 o) ∧ Below w.heap.size w w')
    (first
      | assumption
      | exact ⟨x0, x1, HB.out.drew⟩
      | (refine ws_below ?_ ((Below.refl _ _).alloc (Nat.le_refl _) _); assumption)
      | (refine ws_below ?_ (((Below.refl _ _).alloc (Nat.le_refl _) _).drew); exact ⟨x0, x1, HB.out⟩)
      | exact HZ.out
      | (refine ws_set (ws_set (ws_set ?_ ?_) ?_) ?_; (focus assumption); (focus omega); (focus omega); (focus omega)))
    (first
      | (go_at_call 22; refine (table_any _).mono ?_; rintro e wt ⟨rfl, rfl⟩)
      | (refine WZ.out.mono ?_; rintro e wz ⟨rfl, hb⟩; have hN := XX.out _ hb; obtain ⟨q0, q1, q2, r0, r1, r2, hs2⟩ := hN; have HZ := Lib.hid (ws_below ⟨XT.out.1, XT.out.2, HT.out⟩ hb)))
  obtain ⟨-, -, hfin⟩ := ‹_ ∧ _ ∧ Below _ _ _›
  go_wp2
  refine bodyPost_ret (v := val x) ?_ rfl ⟨rfl, hfin⟩
  simp [results, Try.results28, go_sem, q0, q1, q2]
set_option maxRecDepth 100000 in
set_option maxHeartbeats 2000000 in
theorem done_no (o : Int) (q : Int) (p : Option Addr) (n cap : Nat) (F : Nat) (R : Value) (h13 : (o == 13) = false) (h14 : (o == 14) = false) (h17 : (o == 17) = false) (h18 : (o == 18) = false) (w : World)
    (N : Hid (∀ w', Below w.heap.size w w' → Calls Try.prog 51 #[.slice p n cap] w' fun r w2 => r = .returned (.bool false) ∧ Below w'.heap.size w' w2))
    (hen : ∀ (args : Array Value) (w : World), (callFunc F args).run Try.prog w = .ok (.enter F args) w)
    (hix : ∀ w : World, (Instr.index 61 (.agg TABLE) (.int .i64 o)).run Try.prog w = .ok R w)
    (hfd : ∀ w : World, (Instr.field 60 R 4).run Try.prog w = .ok (.func (.func F) #[] #[]) w)
    (WY : Hid (∀ w', Below w.heap.size w w' → Calls Try.prog F #[.agg #[.slice p n cap, .int .i64 o]] w' fun r w2 => r = .panicked (gaveUp q) ∧ Below w'.heap.size w' w2)) :
    Calls Try.prog 28 #[.agg #[.slice p n cap, .int .i64 o]] w fun r w' => r = .panicked (gaveUp q) ∧ Below w.heap.size w w' := by
  go_enter Try.func28, Try.ntmps28
  go_wp2_with (go_at_call 51; refine (N.out _ (box_start _ _ _).2.2.2).mono ?_; rintro e wa ⟨rfl, hb⟩; obtain ⟨f0, f1, f2, g0, g1, g2, hs⟩ := nul_kept (A := w.heap.size + 1) hb (by go_cell) (by go_cell) (by go_cell) (by go_cell) (by go_cell) (by go_cell); have x0 : wa.cell? ⟨w.heap.size, 0, none⟩ = some (.slice p n cap) := (hb.cell (by simp; omega)).trans (by go_cell); have x1 : wa.cell? ⟨w.heap.size, 1, none⟩ = some (.int .i64 o) := (hb.cell (by simp; omega)).trans (by go_cell); have hB : Below w.heap.size w wa := (box_start w (.slice p n cap) o).2.2.2.trans (hb.mono (by simp; omega)))
  have hl0 : w.heap.size < wa.heap.size := by omega
  have HB := Lib.hid hB
  have HT := Lib.hid ((hB.alloc hB.size (.cells TABLE 61)).drew)
  have WZ := Lib.hid (WY.out _ ((hB.alloc hB.size (.cells TABLE 61)).drew))
  have XX : Hid (∀ wz, Below (wa.alloc (.cells TABLE 61)).drew.heap.size (wa.alloc (.cells TABLE 61)).drew wz → NulAt wz (w.heap.size + 1)) := Lib.hid fun wz hb => nul_kept (A := w.heap.size + 1) hb (by go_cell) (by go_cell) (by go_cell) (by go_cell) (by go_cell) (by go_cell)
  have XT : Hid ((wa.alloc (.cells TABLE 61)).drew.cell? ⟨w.heap.size, 0, none⟩ = some (.slice p n cap) ∧ (wa.alloc (.cells TABLE 61)).drew.cell? ⟨w.heap.size, 1, none⟩ = some (.int .i64 o)) := Lib.hid ⟨by go_cell, by go_cell⟩
  clear hB
  refine wp_region_held_drew (S := fun w' => w'.cell? ⟨w.heap.size, 0, none⟩ = some (.slice p n cap) ∧ w'.cell? ⟨w.heap.size, 1, none⟩ = some (.int .i64 o) ∧ Below w.heap.size w w') (by kernel_rfl) ⟨x0, x1, HB.out.drew⟩ (fun H0 => ?_)
  refine wpAnyH_take (i := 1) (oi := { dst := some 15, op := Go.Op.fieldAddr 67 (Go.Operand.tmp 1) 1, type := 0, pos := "work.go:67", after := #[], guard := none }) (v := ?_) rfl (by kernel_rfl) (by kernel_rfl) (by kernel_rfl) (fun _ _ _ h => h) (Or.inl ⟨by rfl, ?_⟩) H0 ?_
  rotate_left
  focus (intro w hSw; (try dsimp only at hSw); go_simp; (try with_reducible rfl))
  simp only [Act.put, List.setIfInBounds_toArray, List.set_cons_zero, List.set_cons_succ]
  refine wpAnyH_take (i := 2) (oi := { dst := some 16, op := Go.Op.load 30 (Go.Operand.tmp 15), type := 30, pos := "work.go:67", after := #[{ on := 1, ground := Go.Ground.data }], guard := none }) (v := ?_) rfl (by kernel_rfl) (by kernel_rfl) (by kernel_rfl) (fun _ _ _ h => h) (Or.inl ⟨by rfl, ?_⟩) H0 ?_
  rotate_left
  focus (intro w hSw; (try dsimp only at hSw); go_simp; (try with_reducible rfl))
  simp only [Act.put, List.setIfInBounds_toArray, List.set_cons_zero, List.set_cons_succ]
  refine wpAnyH_take (i := 5) (oi := { dst := some 19, op := Go.Op.load 67 (Go.Operand.tmp 1), type := 67, pos := "work.go:67", after := #[], guard := none }) (v := ?_) rfl (by kernel_rfl) (by kernel_rfl) (by kernel_rfl) (fun _ _ _ h => h) (Or.inl ⟨by rfl, ?_⟩) H0 ?_
  rotate_left
  focus (intro w hSw; (try dsimp only at hSw); go_simp; (try with_reducible rfl))
  simp only [Act.put, List.setIfInBounds_toArray, List.set_cons_zero, List.set_cons_succ]
  refine wpAnyH_ready (rs := [0]) (by kernel_rfl) (by simp) ?_
  refine AllReadyH.cons (o := { dst := some 14, op := Go.Op.call { callee := Go.Callee.value (Go.Operand.func 22), args := #[], argTypes := #[] }, type := 61, pos := "work.go:67", after := #[], guard := none }) rfl (fun K hK => ?_) AllReadyH.nil
  go_simp
  (go_at_call 22; refine (table_any _).mono ?_; rintro e wt ⟨rfl, rfl⟩)
  try go_wp2_with fail
  refine hK.out _ _ ⟨XT.out.1, XT.out.2, HT.out⟩ (fun H1 => ?_)
  clear hK K H0
  try simp only [Act.put, List.setIfInBounds_toArray, List.set_cons_zero, List.set_cons_succ]
  refine wpAnyH_take (i := 3) (oi := { dst := some 17, op := Go.Op.index 61 (Go.Operand.tmp 14) (Go.Operand.tmp 16), type := 60, pos := "work.go:67", after := #[{ on := 0, ground := Go.Ground.data }, { on := 2, ground := Go.Ground.data }], guard := none }) (v := ?_) rfl (by kernel_rfl) (by kernel_rfl) (by kernel_rfl) (fun _ _ _ h => h) (Or.inl ⟨by rfl, ?_⟩) H1 ?_
  rotate_left
  focus (intro w hSw; (try dsimp only at hSw); go_simp; (try with_reducible rfl))
  simp only [Act.put, List.setIfInBounds_toArray, List.set_cons_zero, List.set_cons_succ]
  refine wpAnyH_take (i := 4) (oi := { dst := some 18, op := Go.Op.field 60 (Go.Operand.tmp 17) 4, type := 58, pos := "work.go:67", after := #[{ on := 3, ground := Go.Ground.data }], guard := none }) (v := ?_) rfl (by kernel_rfl) (by kernel_rfl) (by kernel_rfl) (fun _ _ _ h => h) (Or.inl ⟨by rfl, ?_⟩) H1 ?_
  rotate_left
  focus (intro w hSw; (try dsimp only at hSw); go_simp; (try with_reducible rfl))
  simp only [Act.put, List.setIfInBounds_toArray, List.set_cons_zero, List.set_cons_succ]
  refine wpAnyH_ready (rs := [6]) (by kernel_rfl) (by simp) ?_
  refine AllReadyH.cons (o := { dst := some 20, op := Go.Op.call { callee := Go.Callee.value (Go.Operand.tmp 18), args := #[Go.Operand.tmp 19], argTypes := #[67] }, type := 45, pos := "work.go:67", after := #[{ on := 4, ground := Go.Ground.data }, { on := 5, ground := Go.Ground.data }, { on := 0, ground := Go.Ground.chain }], guard := none }) rfl (fun K hK => ?_) AllReadyH.nil
  go_simp
  refine WZ.out.mono ?_
  rintro e wz ⟨rfl, hb⟩
  exact ⟨rfl, rfl, HT.out.trans (hb.mono HT.out.size)⟩
set_option maxRecDepth 100000 in
set_option maxHeartbeats 2000000 in
theorem done_s13 (x : V3) (p : Option Addr) (n cap : Nat) (F : Nat) (R : Value)  (w : World)
    (hen : ∀ (args : Array Value) (w : World), (callFunc F args).run Try.prog w = .ok (.enter F args) w)
    (hix : ∀ w : World, (Instr.index 61 (.agg TABLE) (.int .i64 13)).run Try.prog w = .ok R w)
    (hfd : ∀ w : World, (Instr.field 60 R 4).run Try.prog w = .ok (.func (.func F) #[] #[]) w)
    (WY : Hid (∀ w', Below w.heap.size w w' → Calls Try.prog F #[.agg #[.slice p n cap, .int .i64 13]] w' fun r w2 => r = .returned (val x) ∧ Below w'.heap.size w' w2)) :
    Calls Try.prog 28 #[.agg #[.slice p n cap, .int .i64 13]] w fun r w' => r = .returned (val x) ∧ Below w.heap.size w w' := by
  go_enter Try.func28, Try.ntmps28
  go_wp2_with fail
  obtain ⟨x0, x1, ⟨f0, f1, f2, g0, g1, g2, hs⟩, hB⟩ := box_start w (.slice p n cap) 13
  generalize (w.alloc (Obj.cells #[Value.slice p n cap, Value.int IntKind.i64 13] 67)).alloc (vObj 0 0 ⟨#[]⟩) = wa at *
  have hl0 : w.heap.size < wa.heap.size := by omega
  have HB := Lib.hid hB
  have HT := Lib.hid ((hB.alloc hB.size (.cells TABLE 61)).drew)
  have WZ := Lib.hid (WY.out _ ((hB.alloc hB.size (.cells TABLE 61)).drew))
  have XX : Hid (∀ wz, Below (wa.alloc (.cells TABLE 61)).drew.heap.size (wa.alloc (.cells TABLE 61)).drew wz → NulAt wz (w.heap.size + 1)) := Lib.hid fun wz hb => nul_kept (A := w.heap.size + 1) hb (by go_cell) (by go_cell) (by go_cell) (by go_cell) (by go_cell) (by go_cell)
  have XT : Hid ((wa.alloc (.cells TABLE 61)).drew.cell? ⟨w.heap.size, 0, none⟩ = some (.slice p n cap) ∧ (wa.alloc (.cells TABLE 61)).drew.cell? ⟨w.heap.size, 1, none⟩ = some (.int .i64 13)) := Lib.hid ⟨by go_cell, by go_cell⟩
  clear hB
  go_region_held3 (fun w' => w'.cell? ⟨w.heap.size, 0, none⟩ = some (.slice p n cap) ∧ w'.cell? ⟨w.heap.size, 1, none⟩ = some (.int .i64 13) ∧ Below w.heap.size w w')
    (first
      | assumption
      | exact ⟨x0, x1, HB.out.drew⟩
      | (refine ws_below ?_ ((Below.refl _ _).alloc (Nat.le_refl _) _); assumption)
      | (refine ws_below ?_ (((Below.refl _ _).alloc (Nat.le_refl _) _).drew); exact ⟨x0, x1, HB.out⟩)
      | exact HZ.out
      | (refine ws_set (ws_set (ws_set ?_ ?_) ?_) ?_; (focus assumption); (focus omega); (focus omega); (focus omega)))
    (first
      | (go_at_call 22; refine (table_any _).mono ?_; rintro e wt ⟨rfl, rfl⟩)
      | (refine WZ.out.mono ?_; rintro e wz ⟨rfl, hb⟩; have hN := XX.out _ hb; obtain ⟨q0, q1, q2, r0, r1, r2, hs2⟩ := hN; have HZ := Lib.hid (ws_below ⟨XT.out.1, XT.out.2, HT.out⟩ hb)))
  obtain ⟨-, -, hfin⟩ := ‹_ ∧ _ ∧ Below _ _ _›
  go_wp2
  refine bodyPost_ret (v := val x) ?_ rfl ⟨rfl, hfin⟩
  simp [results, Try.results28, go_sem, q0, q1, q2]
set_option maxRecDepth 100000 in
set_option maxHeartbeats 2000000 in
theorem done_s14 (x : V3) (p : Option Addr) (n cap : Nat) (F : Nat) (R : Value)  (w : World)
    (hen : ∀ (args : Array Value) (w : World), (callFunc F args).run Try.prog w = .ok (.enter F args) w)
    (hix : ∀ w : World, (Instr.index 61 (.agg TABLE) (.int .i64 14)).run Try.prog w = .ok R w)
    (hfd : ∀ w : World, (Instr.field 60 R 4).run Try.prog w = .ok (.func (.func F) #[] #[]) w)
    (WY : Hid (∀ w', Below w.heap.size w w' → Calls Try.prog F #[.agg #[.slice p n cap, .int .i64 14]] w' fun r w2 => r = .returned (val x) ∧ Below w'.heap.size w' w2)) :
    Calls Try.prog 28 #[.agg #[.slice p n cap, .int .i64 14]] w fun r w' => r = .returned (val x) ∧ Below w.heap.size w w' := by
  go_enter Try.func28, Try.ntmps28
  go_wp2_with fail
  obtain ⟨x0, x1, ⟨f0, f1, f2, g0, g1, g2, hs⟩, hB⟩ := box_start w (.slice p n cap) 14
  generalize (w.alloc (Obj.cells #[Value.slice p n cap, Value.int IntKind.i64 14] 67)).alloc (vObj 0 0 ⟨#[]⟩) = wa at *
  have hl0 : w.heap.size < wa.heap.size := by omega
  have HB := Lib.hid hB
  have HT := Lib.hid ((hB.alloc hB.size (.cells TABLE 61)).drew)
  have WZ := Lib.hid (WY.out _ ((hB.alloc hB.size (.cells TABLE 61)).drew))
  have XX : Hid (∀ wz, Below (wa.alloc (.cells TABLE 61)).drew.heap.size (wa.alloc (.cells TABLE 61)).drew wz → NulAt wz (w.heap.size + 1)) := Lib.hid fun wz hb => nul_kept (A := w.heap.size + 1) hb (by go_cell) (by go_cell) (by go_cell) (by go_cell) (by go_cell) (by go_cell)
  have XT : Hid ((wa.alloc (.cells TABLE 61)).drew.cell? ⟨w.heap.size, 0, none⟩ = some (.slice p n cap) ∧ (wa.alloc (.cells TABLE 61)).drew.cell? ⟨w.heap.size, 1, none⟩ = some (.int .i64 14)) := Lib.hid ⟨by go_cell, by go_cell⟩
  clear hB
  go_region_held3 (fun w' => w'.cell? ⟨w.heap.size, 0, none⟩ = some (.slice p n cap) ∧ w'.cell? ⟨w.heap.size, 1, none⟩ = some (.int .i64 14) ∧ Below w.heap.size w w')
    (first
      | assumption
      | exact ⟨x0, x1, HB.out.drew⟩
      | (refine ws_below ?_ ((Below.refl _ _).alloc (Nat.le_refl _) _); assumption)
      | (refine ws_below ?_ (((Below.refl _ _).alloc (Nat.le_refl _) _).drew); exact ⟨x0, x1, HB.out⟩)
      | exact HZ.out
      | (refine ws_set (ws_set (ws_set ?_ ?_) ?_) ?_; (focus assumption); (focus omega); (focus omega); (focus omega)))
    (first
      | (go_at_call 22; refine (table_any _).mono ?_; rintro e wt ⟨rfl, rfl⟩)
      | (refine WZ.out.mono ?_; rintro e wz ⟨rfl, hb⟩; have hN := XX.out _ hb; obtain ⟨q0, q1, q2, r0, r1, r2, hs2⟩ := hN; have HZ := Lib.hid (ws_below ⟨XT.out.1, XT.out.2, HT.out⟩ hb)))
  obtain ⟨-, -, hfin⟩ := ‹_ ∧ _ ∧ Below _ _ _›
  go_wp2
  refine bodyPost_ret (v := val x) ?_ rfl ⟨rfl, hfin⟩
  simp [results, Try.results28, go_sem, q0, q1, q2]
set_option maxRecDepth 100000 in
set_option maxHeartbeats 2000000 in
theorem done_s17 (x : V3) (p : Option Addr) (n cap : Nat) (F : Nat) (R : Value)  (w : World)
    (hen : ∀ (args : Array Value) (w : World), (callFunc F args).run Try.prog w = .ok (.enter F args) w)
    (hix : ∀ w : World, (Instr.index 61 (.agg TABLE) (.int .i64 17)).run Try.prog w = .ok R w)
    (hfd : ∀ w : World, (Instr.field 60 R 4).run Try.prog w = .ok (.func (.func F) #[] #[]) w)
    (WY : Hid (∀ w', Below w.heap.size w w' → Calls Try.prog F #[.agg #[.slice p n cap, .int .i64 17]] w' fun r w2 => r = .returned (val x) ∧ Below w'.heap.size w' w2)) :
    Calls Try.prog 28 #[.agg #[.slice p n cap, .int .i64 17]] w fun r w' => r = .returned (val x) ∧ Below w.heap.size w w' := by
  go_enter Try.func28, Try.ntmps28
  go_wp2_with fail
  obtain ⟨x0, x1, ⟨f0, f1, f2, g0, g1, g2, hs⟩, hB⟩ := box_start w (.slice p n cap) 17
  generalize (w.alloc (Obj.cells #[Value.slice p n cap, Value.int IntKind.i64 17] 67)).alloc (vObj 0 0 ⟨#[]⟩) = wa at *
  have hl0 : w.heap.size < wa.heap.size := by omega
  have HB := Lib.hid hB
  have HT := Lib.hid ((hB.alloc hB.size (.cells TABLE 61)).drew)
  have WZ := Lib.hid (WY.out _ ((hB.alloc hB.size (.cells TABLE 61)).drew))
  have XX : Hid (∀ wz, Below (wa.alloc (.cells TABLE 61)).drew.heap.size (wa.alloc (.cells TABLE 61)).drew wz → NulAt wz (w.heap.size + 1)) := Lib.hid fun wz hb => nul_kept (A := w.heap.size + 1) hb (by go_cell) (by go_cell) (by go_cell) (by go_cell) (by go_cell) (by go_cell)
  have XT : Hid ((wa.alloc (.cells TABLE 61)).drew.cell? ⟨w.heap.size, 0, none⟩ = some (.slice p n cap) ∧ (wa.alloc (.cells TABLE 61)).drew.cell? ⟨w.heap.size, 1, none⟩ = some (.int .i64 17)) := Lib.hid ⟨by go_cell, by go_cell⟩
  clear hB
  go_region_held3 (fun w' => w'.cell? ⟨w.heap.size, 0, none⟩ = some (.slice p n cap) ∧ w'.cell? ⟨w.heap.size, 1, none⟩ = some (.int .i64 17) ∧ Below w.heap.size w w')
    (first
      | assumption
      | exact ⟨x0, x1, HB.out.drew⟩
      | (refine ws_below ?_ ((Below.refl _ _).alloc (Nat.le_refl _) _); assumption)
      | (refine ws_below ?_ (((Below.refl _ _).alloc (Nat.le_refl _) _).drew); exact ⟨x0, x1, HB.out⟩)
      | exact HZ.out
      | (refine ws_set (ws_set (ws_set ?_ ?_) ?_) ?_; (focus assumption); (focus omega); (focus omega); (focus omega)))
    (first
      | (go_at_call 22; refine (table_any _).mono ?_; rintro e wt ⟨rfl, rfl⟩)
      | (refine WZ.out.mono ?_; rintro e wz ⟨rfl, hb⟩; have hN := XX.out _ hb; obtain ⟨q0, q1, q2, r0, r1, r2, hs2⟩ := hN; have HZ := Lib.hid (ws_below ⟨XT.out.1, XT.out.2, HT.out⟩ hb)))
  obtain ⟨-, -, hfin⟩ := ‹_ ∧ _ ∧ Below _ _ _›
  go_wp2
  refine bodyPost_ret (v := val x) ?_ rfl ⟨rfl, hfin⟩
  simp [results, Try.results28, go_sem, q0, q1, q2]
set_option maxRecDepth 100000 in
set_option maxHeartbeats 2000000 in
theorem done_s18 (x : V3) (p : Option Addr) (n cap : Nat) (F : Nat) (R : Value)  (w : World)
    (hen : ∀ (args : Array Value) (w : World), (callFunc F args).run Try.prog w = .ok (.enter F args) w)
    (hix : ∀ w : World, (Instr.index 61 (.agg TABLE) (.int .i64 18)).run Try.prog w = .ok R w)
    (hfd : ∀ w : World, (Instr.field 60 R 4).run Try.prog w = .ok (.func (.func F) #[] #[]) w)
    (WY : Hid (∀ w', Below w.heap.size w w' → Calls Try.prog F #[.agg #[.slice p n cap, .int .i64 18]] w' fun r w2 => r = .returned (val x) ∧ Below w'.heap.size w' w2)) :
    Calls Try.prog 28 #[.agg #[.slice p n cap, .int .i64 18]] w fun r w' => r = .returned (val x) ∧ Below w.heap.size w w' := by
  go_enter Try.func28, Try.ntmps28
  go_wp2_with fail
  obtain ⟨x0, x1, ⟨f0, f1, f2, g0, g1, g2, hs⟩, hB⟩ := box_start w (.slice p n cap) 18
  generalize (w.alloc (Obj.cells #[Value.slice p n cap, Value.int IntKind.i64 18] 67)).alloc (vObj 0 0 ⟨#[]⟩) = wa at *
  have hl0 : w.heap.size < wa.heap.size := by omega
  have HB := Lib.hid hB
  have HT := Lib.hid ((hB.alloc hB.size (.cells TABLE 61)).drew)
  have WZ := Lib.hid (WY.out _ ((hB.alloc hB.size (.cells TABLE 61)).drew))
  have XX : Hid (∀ wz, Below (wa.alloc (.cells TABLE 61)).drew.heap.size (wa.alloc (.cells TABLE 61)).drew wz → NulAt wz (w.heap.size + 1)) := Lib.hid fun wz hb => nul_kept (A := w.heap.size + 1) hb (by go_cell) (by go_cell) (by go_cell) (by go_cell) (by go_cell) (by go_cell)
  have XT : Hid ((wa.alloc (.cells TABLE 61)).drew.cell? ⟨w.heap.size, 0, none⟩ = some (.slice p n cap) ∧ (wa.alloc (.cells TABLE 61)).drew.cell? ⟨w.heap.size, 1, none⟩ = some (.int .i64 18)) := Lib.hid ⟨by go_cell, by go_cell⟩
  clear hB
  go_region_held3 (fun w' => w'.cell? ⟨w.heap.size, 0, none⟩ = some (.slice p n cap) ∧ w'.cell? ⟨w.heap.size, 1, none⟩ = some (.int .i64 18) ∧ Below w.heap.size w w')
    (first
      | assumption
      | exact ⟨x0, x1, HB.out.drew⟩
      | (refine ws_below ?_ ((Below.refl _ _).alloc (Nat.le_refl _) _); assumption)
      | (refine ws_below ?_ (((Below.refl _ _).alloc (Nat.le_refl _) _).drew); exact ⟨x0, x1, HB.out⟩)
      | exact HZ.out
      | (refine ws_set (ws_set (ws_set ?_ ?_) ?_) ?_; (focus assumption); (focus omega); (focus omega); (focus omega)))
    (first
      | (go_at_call 22; refine (table_any _).mono ?_; rintro e wt ⟨rfl, rfl⟩)
      | (refine WZ.out.mono ?_; rintro e wz ⟨rfl, hb⟩; have hN := XX.out _ hb; obtain ⟨q0, q1, q2, r0, r1, r2, hs2⟩ := hN; have HZ := Lib.hid (ws_below ⟨XT.out.1, XT.out.2, HT.out⟩ hb)))
  obtain ⟨-, -, hfin⟩ := ‹_ ∧ _ ∧ Below _ _ _›
  go_wp2
  refine bodyPost_ret (v := val x) ?_ rfl ⟨rfl, hfin⟩
  simp [results, Try.results28, go_sem, q0, q1, q2]
end Go.Proofs.Ytoknfdgejiachaa
