/- Package frame: what stands where a frame's parts lie. -/
import Derived.Test.YthnllhfdbnnjhaaPS
namespace Go.Proofs.Ythnllhfdbnnjhaa
open Go.RowKit Go.Shelf

def fE (l : List Nat) : Nat := foldN (l.take 8)
def fI (l : List Nat) : Nat := foldN ((l.drop 8).take 4)
def fP (l : List Nat) : Nat := foldN ((l.drop 12).take 4)
def fM (l : List Nat) : Bool := decide (l.getD 16 0 = 1)
def fN (l : List Nat) : Nat := foldN ((l.drop 17).take 4)
def fK (l : List Nat) : Nat := foldN ((l.drop 21).take 4)
theorem take1_any (P : Nat) (p : Option Addr) (c : Nat) (v : List Nat) (w0 w : World) (h : 1 ≤ v.length) (hv : c ≤ 9223372036854775807) (hP : w0.heap.size ≤ P) (R : RestP (· < w0.heap.size) w P p c v) :
    Calls Try.prog 61 #[.pointer (some ⟨P, 0, none⟩), .int .i64 1] w fun r w' => r = .returned (.slice p 1 1) ∧ But P w w' ∧ ∃ p' c', c' ≤ c ∧ RestP (· < w0.heap.size) w' P p' c' (v.drop 1) := by
  refine (ftake_rest 1 P p c v w h hv R).mono ?_
  rintro e w' ⟨rfl, rfl⟩
  exact ⟨rfl, But.set P w _, _, _, Nat.sub_le _ _, R.next h⟩
set_option maxRecDepth 100000 in
set_option maxHeartbeats 8000000 in
theorem readFrame_any (l : List Nat) (B off : Nat) (cap : Nat) (w : World) (hl : l.length = 576) (hcap : 576 ≤ cap) (hc0 : cap ≤ 9223372036854775807) (hb : ∀ b ∈ l, b < 256) (hc : BytesAt w (some ⟨B, off, none⟩) l) :
    Calls Try.prog 45 #[.slice (some ⟨B, off, none⟩) 576 cap] w fun r w' => ∃ q c, r = .returned (.agg #[.int .u64 (fE l : Nat), .int .i64 (fI l : Nat), .int .i64 (fP l : Nat), .bool (fM l), .int .i64 (fN l : Nat), .int .u32 (fK l : Nat), .slice q 512 c]) ∧ Below w.heap.size w w' ∧ BytesAt w' q (l.drop 64) ∧ (q = none → c = 0) ∧ c ≤ maxLen ∧ 512 ≤ c ∧ ∀ a, q = some a → w.heap.size < a.block := by
  have HR := rest_start w (.cells #[.int .u64 0, .int .i64 0, .int .i64 0, .bool false, .int .i64 0, .int .u32 0, .slice none 0 0] 51) (some ⟨B, off, none⟩) cap l 109 (by omega) (by omega) hc
  rw [hl] at HR
  have db : ∀ k, ∀ b ∈ l.drop k, b < 256 := fun k b h => hb b (List.mem_of_mem_drop h)
  have C1 := Lib.hid fun w1 c' p' (hc' : c' ≤ cap) R => num8_any (w.heap.size + 1) p' c' l w w1 (by omega) (by omega) hb (by omega) R
  have C2 := Lib.hid fun w1 c' p' (hc' : c' ≤ cap) R => num4_any (w.heap.size + 1) p' c' (l.drop 8) w w1 (by rw [List.length_drop]; omega) (by omega) (db 8) (by omega) R
  have C3 := Lib.hid fun w1 c' p' (hc' : c' ≤ cap) R => num4_any (w.heap.size + 1) p' c' (l.drop 12) w w1 (by rw [List.length_drop]; omega) (by omega) (db 12) (by omega) R
  have C4 := Lib.hid fun w1 c' p' (hc' : c' ≤ cap) R => take1_any (w.heap.size + 1) p' c' (l.drop 16) w w1 (by rw [List.length_drop]; omega) (by omega) (by omega) R
  have C5 := Lib.hid fun w1 c' p' (hc' : c' ≤ cap) R => num4_any (w.heap.size + 1) p' c' (l.drop 17) w w1 (by rw [List.length_drop]; omega) (by omega) (db 17) (by omega) R
  have C6 := Lib.hid fun w1 c' p' (hc' : c' ≤ cap) R => num4u_any (w.heap.size + 1) p' c' (l.drop 21) w w1 (by rw [List.length_drop]; omega) (by omega) (db 21) (by omega) R
  simp only [List.drop_drop, Nat.reduceAdd] at C2 C3 C4 C5
  have CK := Lib.hid fun (w' : World) (h : Below w.heap.size w w') => clone_any (l.drop 64) (some ⟨B, off + 64, none⟩) (cap - 64) w' (by rw [List.length_drop]; omega) (by
    have h2 := bytesAt_from (bytesAt_below hc h) 64
    rwa [show (some (⟨B, off, none⟩ : Addr)).map (fun x => x.add 64) = some ⟨B, off + 64, none⟩ from congrArg some (addr_plain B off 64)] at h2)
  have hdl : (l.drop 64).length = 512 := by rw [List.length_drop, hl]
  rw [hdl] at CK
  have n64 : ¬ cap = 64 := by omega
  generalize l.drop 64 = dd at *
  have HDL := Lib.hid hdl
  have HL := Lib.hid hl
  change Hid (∀ w1 c' p', c' ≤ cap → _ → Calls Try.prog 55 _ w1 fun r w' => r = .returned (.int .u64 (fE l : Nat)) ∧ _) at C1
  change Hid (∀ w1 c' p', c' ≤ cap → _ → Calls Try.prog 57 _ w1 fun r w' => r = .returned (.int .i64 (fI l : Nat)) ∧ _) at C2
  change Hid (∀ w1 c' p', c' ≤ cap → _ → Calls Try.prog 57 _ w1 fun r w' => r = .returned (.int .i64 (fP l : Nat)) ∧ _) at C3
  change Hid (∀ w1 c' p', c' ≤ cap → _ → Calls Try.prog 57 _ w1 fun r w' => r = .returned (.int .i64 (fN l : Nat)) ∧ _) at C5
  change Hid (∀ w1 c' p', c' ≤ cap → _ → Calls Try.prog 62 _ w1 fun r w' => r = .returned (.int .u32 (fK l : Nat)) ∧ _) at C6
  have HR := Lib.hid HR
  have HB0 : Hid (Below w.heap.size w ((w.alloc (.cells #[.int .u64 0, .int .i64 0, .int .i64 0, .bool false, .int .i64 0, .int .u32 0, .slice none 0 0] 51)).alloc (.cells #[.slice (some ⟨B, off, none⟩) 576 cap] 109))) := Lib.hid (((Below.refl _ _).alloc (Nat.le_refl _) _).alloc (by simp) _)
  have HG0 : Hid (((w.alloc (.cells #[.int .u64 0, .int .i64 0, .int .i64 0, .bool false, .int .i64 0, .int .u32 0, .slice none 0 0] 51)).alloc (.cells #[.slice (some ⟨B, off, none⟩) 576 cap] 109)).heap[w.heap.size]? = some (.cells #[.int .u64 0, .int .i64 0, .int .i64 0, .bool false, .int .i64 0, .int .u32 0, .slice none 0 0] 51 (0, 0))) := Lib.hid ((((Below.refl _ _).alloc (Nat.le_refl _) _).block _ (by simp)).trans (heap_alloc_last w _))
  have HS0 : Hid (w.heap.size < ((w.alloc (.cells #[.int .u64 0, .int .i64 0, .int .i64 0, .bool false, .int .i64 0, .int .u32 0, .slice none 0 0] 51)).alloc (.cells #[.slice (some ⟨B, off, none⟩) 576 cap] 109)).heap.size) := Lib.hid (by simp; omega)
  have hfm : fM l = decide (l.getD 16 0 = 1) := rfl
  generalize fE l = x1 at *
  generalize fI l = x2 at *
  generalize fP l = x3 at *
  generalize fN l = x5 at *
  generalize fK l = x6 at *
  generalize fM l = xm at *
  have hcap0 : cap ≤ cap := Nat.le_refl _
  have HW : Hid (w.heap.size ≠ w.heap.size + 1) := Lib.hid (by omega)
  clear hl hb hc db hdl
  go_enter Try.func45, Try.ntmps45
  go_upto_region 2 with fail
  obtain ⟨w0, hw0⟩ : ∃ w0, (w.alloc (.cells #[.int .u64 0, .int .i64 0, .int .i64 0, .bool false, .int .i64 0, .int .u32 0, .slice none 0 0] 51)).alloc (.cells #[.slice (some ⟨B, off, none⟩) 576 cap] 109) = w0 := ⟨_, rfl⟩
  rw [hw0] at HR HB0 HG0 HS0 ⊢
  clear hw0
  refine wp_region_held_drew (S := fun w' => Below w.heap.size w w') (by kernel_rfl) HB0.out.drew (fun H0 => ?_)
  obtain ⟨wd, hwd⟩ : ∃ wd, w0.drew = wd := ⟨_, rfl⟩
  have HR0 := Lib.hid (HR.out.but (show Below w0.heap.size w0 wd by rw [← hwd]; exact (Below.refl _ _).drew))
  have HG := Lib.hid ((show Below w0.heap.size w0 wd by rw [← hwd]; exact (Below.refl _ _).drew).block _ HS0.out |>.trans HG0.out)
  rw [hwd] at H0 ⊢
  clear hwd
  refine wpAnyH_take (i := 0) (oi := { dst := some 8, op := Go.Op.move (Go.Operand.tmp 3), type := 105, pos := "reader.go:45", after := #[], guard := none }) (v := ?_) rfl (by kernel_rfl) (by kernel_rfl) (by kernel_rfl) (fun _ _ _ h => h) (Or.inl ⟨by rfl, ?_⟩) H0 ?_
  rotate_left
  focus (intro w' hSw; (try dsimp only at hSw); go_simp; (try with_reducible rfl))
  simp only [Act.put, List.setIfInBounds_toArray, List.set_cons_zero, List.set_cons_succ]
  refine wpAnyH_take (i := 2) (oi := { dst := some 10, op := Go.Op.move (Go.Operand.tmp 3), type := 105, pos := "reader.go:45", after := #[], guard := none }) (v := ?_) rfl (by kernel_rfl) (by kernel_rfl) (by kernel_rfl) (fun _ _ _ h => h) (Or.inl ⟨by rfl, ?_⟩) H0 ?_
  rotate_left
  focus (intro w' hSw; (try dsimp only at hSw); go_simp; (try with_reducible rfl))
  simp only [Act.put, List.setIfInBounds_toArray, List.set_cons_zero, List.set_cons_succ]
  refine wpAnyH_take (i := 4) (oi := { dst := some 12, op := Go.Op.move (Go.Operand.tmp 3), type := 105, pos := "reader.go:45", after := #[], guard := none }) (v := ?_) rfl (by kernel_rfl) (by kernel_rfl) (by kernel_rfl) (fun _ _ _ h => h) (Or.inl ⟨by rfl, ?_⟩) H0 ?_
  rotate_left
  focus (intro w' hSw; (try dsimp only at hSw); go_simp; (try with_reducible rfl))
  simp only [Act.put, List.setIfInBounds_toArray, List.set_cons_zero, List.set_cons_succ]
  refine wpAnyH_take (i := 6) (oi := { dst := some 14, op := Go.Op.move (Go.Operand.tmp 3), type := 105, pos := "reader.go:45", after := #[], guard := none }) (v := ?_) rfl (by kernel_rfl) (by kernel_rfl) (by kernel_rfl) (fun _ _ _ h => h) (Or.inl ⟨by rfl, ?_⟩) H0 ?_
  rotate_left
  focus (intro w' hSw; (try dsimp only at hSw); go_simp; (try with_reducible rfl))
  simp only [Act.put, List.setIfInBounds_toArray, List.set_cons_zero, List.set_cons_succ]
  refine wpAnyH_take (i := 7) (oi := { dst := some 15, op := Go.Op.nilCheck (Go.Operand.tmp 14), type := 0, pos := "reader.go:45", after := #[{ on := 6, ground := Go.Ground.data }], guard := none }) (v := ?_) rfl (by kernel_rfl) (by kernel_rfl) (by kernel_rfl) (fun _ _ _ h => h) (Or.inl ⟨by rfl, ?_⟩) H0 ?_
  rotate_left
  focus (intro w' hSw; (try dsimp only at hSw); go_simp; (try with_reducible rfl))
  simp only [Act.put, List.setIfInBounds_toArray, List.set_cons_zero, List.set_cons_succ]
  refine wpAnyH_take (i := 8) (oi := { dst := some 16, op := Go.Op.fieldAddr 109 (Go.Operand.tmp 15) 0, type := 0, pos := "reader.go:45", after := #[{ on := 7, ground := Go.Ground.data }], guard := none }) (v := ?_) rfl (by kernel_rfl) (by kernel_rfl) (by kernel_rfl) (fun _ _ _ h => h) (Or.inl ⟨by rfl, ?_⟩) H0 ?_
  rotate_left
  focus (intro w' hSw; (try dsimp only at hSw); go_simp; (try with_reducible rfl))
  simp only [Act.put, List.setIfInBounds_toArray, List.set_cons_zero, List.set_cons_succ]
  refine wpAnyH_take (i := 13) (oi := { dst := some 21, op := Go.Op.move (Go.Operand.tmp 3), type := 105, pos := "reader.go:45", after := #[], guard := none }) (v := ?_) rfl (by kernel_rfl) (by kernel_rfl) (by kernel_rfl) (fun _ _ _ h => h) (Or.inl ⟨by rfl, ?_⟩) H0 ?_
  rotate_left
  focus (intro w' hSw; (try dsimp only at hSw); go_simp; (try with_reducible rfl))
  simp only [Act.put, List.setIfInBounds_toArray, List.set_cons_zero, List.set_cons_succ]
  refine wpAnyH_take (i := 15) (oi := { dst := some 23, op := Go.Op.move (Go.Operand.tmp 3), type := 105, pos := "reader.go:45", after := #[], guard := none }) (v := ?_) rfl (by kernel_rfl) (by kernel_rfl) (by kernel_rfl) (fun _ _ _ h => h) (Or.inl ⟨by rfl, ?_⟩) H0 ?_
  rotate_left
  focus (intro w' hSw; (try dsimp only at hSw); go_simp; (try with_reducible rfl))
  simp only [Act.put, List.setIfInBounds_toArray, List.set_cons_zero, List.set_cons_succ]
  refine wpAnyH_take (i := 17) (oi := { dst := some 25, op := Go.Op.move (Go.Operand.tmp 0), type := 39, pos := "reader.go:45", after := #[], guard := none }) (v := ?_) rfl (by kernel_rfl) (by kernel_rfl) (by kernel_rfl) (fun _ _ _ h => h) (Or.inl ⟨by rfl, ?_⟩) H0 ?_
  rotate_left
  focus (intro w' hSw; (try dsimp only at hSw); go_simp; (try with_reducible rfl))
  simp only [Act.put, List.setIfInBounds_toArray, List.set_cons_zero, List.set_cons_succ]
  refine wpAnyH_take (i := 18) (oi := { dst := some 26, op := Go.Op.slice 39 (Go.Operand.tmp 25) (some (Go.Operand.const (Go.Value.int Go.IntKind.i64 64))) none none, type := 39, pos := "reader.go:45", after := #[{ on := 17, ground := Go.Ground.data }], guard := none }) (v := ?_) rfl (by kernel_rfl) (by kernel_rfl) (by kernel_rfl) (fun _ _ _ h => h) (Or.inl ⟨by rfl, ?_⟩) H0 ?_
  rotate_left
  focus (intro w' hSw; (try dsimp only at hSw); go_simp; (try with_reducible rfl))
  simp only [Act.put, List.setIfInBounds_toArray, List.set_cons_zero, List.set_cons_succ]
  refine wpAnyH_ready (rs := [1]) (by kernel_rfl) (by simp) ?_
  refine AllReadyH.cons (o := { dst := some 9, op := Go.Op.call { callee := Go.Callee.value (Go.Operand.func 55), args := #[Go.Operand.tmp 8, Go.Operand.const (Go.Value.int Go.IntKind.i64 8), Go.Operand.func 56], argTypes := #[105, 3, 111] }, type := 36, pos := "reader.go:46", after := #[{ on := 0, ground := Go.Ground.data }], guard := none }) rfl (fun K hK => ?_) ?_
  rotate_left
  exact AllReadyH.nil
  go_simp
  (go_at_call 55; (with_reducible refine (C1.out _ _ _ hcap0 HR0.out).mono ?_); rintro e w1 ⟨rfl, hbt, p1, c1, hc1', hr1⟩)
  try go_wp2_with fail
  have hc1 := Nat.le_trans hc1' hcap0
  have HR1 := Lib.hid hr1
  have HG := Lib.hid (hbt.row HG.out HW.out)
  have HB1 := hbt.below H0 (Nat.le_succ _)
  clear hr1 hbt
  refine hK.out _ _ HB1 (fun H1 => ?_)
  clear hK K
  try simp only [Act.put, List.setIfInBounds_toArray, List.set_cons_zero, List.set_cons_succ]
  refine wpAnyH_ready (rs := [3]) (by kernel_rfl) (by simp) ?_
  refine AllReadyH.cons (o := { dst := some 11, op := Go.Op.call { callee := Go.Callee.value (Go.Operand.func 57), args := #[Go.Operand.tmp 10, Go.Operand.const (Go.Value.int Go.IntKind.i64 4), Go.Operand.func 58], argTypes := #[105, 3, 113] }, type := 3, pos := "reader.go:47", after := #[{ on := 2, ground := Go.Ground.data }, { on := 1, ground := Go.Ground.chain }], guard := none }) rfl (fun K hK => ?_) ?_
  rotate_left
  exact AllReadyH.nil
  go_simp
  (go_at_call 57; (with_reducible refine (C2.out _ _ _ hc1 HR1.out).mono ?_); rintro e w2 ⟨rfl, hbt, p2, c2, hc2', hr2⟩)
  try go_wp2_with fail
  have hc2 := Nat.le_trans hc2' hc1
  have HR2 := Lib.hid hr2
  have HG := Lib.hid (hbt.row HG.out HW.out)
  have HB2 := hbt.below H1 (Nat.le_succ _)
  clear hr2 hbt
  refine hK.out _ _ HB2 (fun H2 => ?_)
  clear hK K
  try simp only [Act.put, List.setIfInBounds_toArray, List.set_cons_zero, List.set_cons_succ]
  refine wpAnyH_ready (rs := [5]) (by kernel_rfl) (by simp) ?_
  refine AllReadyH.cons (o := { dst := some 13, op := Go.Op.call { callee := Go.Callee.value (Go.Operand.func 57), args := #[Go.Operand.tmp 12, Go.Operand.const (Go.Value.int Go.IntKind.i64 4), Go.Operand.func 58], argTypes := #[105, 3, 113] }, type := 3, pos := "reader.go:48", after := #[{ on := 4, ground := Go.Ground.data }, { on := 3, ground := Go.Ground.chain }], guard := none }) rfl (fun K hK => ?_) ?_
  rotate_left
  exact AllReadyH.nil
  go_simp
  (go_at_call 57; (with_reducible refine (C3.out _ _ _ hc2 HR2.out).mono ?_); rintro e w3 ⟨rfl, hbt, p3, c3, hc3', hr3⟩)
  try go_wp2_with fail
  have hc3 := Nat.le_trans hc3' hc2
  have HR3 := Lib.hid hr3
  have HG := Lib.hid (hbt.row HG.out HW.out)
  have HB3 := hbt.below H2 (Nat.le_succ _)
  clear hr3 hbt
  refine hK.out _ _ HB3 (fun H3 => ?_)
  clear hK K
  try simp only [Act.put, List.setIfInBounds_toArray, List.set_cons_zero, List.set_cons_succ]
  obtain ⟨Bq, oq, hpq, hTq, hcq⟩ := HR3.out.bytes 0 (by rw [List.length_drop]; have := HL.out; omega)
  subst hpq
  have hq16 : (l.drop 16).getD 0 0 = l.getD 16 0 := by simp [List.getD_eq_getElem?_getD, List.getElem?_drop]
  rw [hq16, Nat.add_zero] at hcq
  have HCQ : Hid (∀ w', Below w.heap.size w w' → w'.cell? ⟨Bq, oq, none⟩ = some (.int .u8 (l.getD 16 0 : Nat))) := Lib.hid fun w' h => ((h.cell (p := ⟨Bq, oq, none⟩) hTq).trans (H3.cell (p := ⟨Bq, oq, none⟩) hTq).symm).trans hcq
  clear hcq hq16
  generalize l.getD 16 0 = b16 at *
  refine wpAnyH_ready (rs := [9]) (by kernel_rfl) (by simp) ?_
  refine AllReadyH.cons (o := { dst := some 17, op := Go.Op.call { callee := Go.Callee.value (Go.Operand.func 61), args := #[Go.Operand.tmp 16, Go.Operand.const (Go.Value.int Go.IntKind.i64 1)], argTypes := #[107, 3] }, type := 39, pos := "reader.go:49", after := #[{ on := 8, ground := Go.Ground.data }, { on := 5, ground := Go.Ground.chain }], guard := none }) rfl (fun K hK => ?_) ?_
  rotate_left
  exact AllReadyH.nil
  go_simp
  (go_at_call 61; (with_reducible refine (C4.out _ _ _ hc3 HR3.out).mono ?_); rintro e w4 ⟨rfl, hbt, p4, c4, hc4', hr4⟩)
  try go_wp2_with fail
  have hc4 := Nat.le_trans hc4' hc3
  have HR4 := Lib.hid hr4
  have HG := Lib.hid (hbt.row HG.out HW.out)
  have HB4 := hbt.below H3 (Nat.le_succ _)
  clear hr4 hbt
  refine hK.out _ _ HB4 (fun H4 => ?_)
  clear hK K
  try simp only [Act.put, List.setIfInBounds_toArray, List.set_cons_zero, List.set_cons_succ]
  refine wpAnyH_take (i := 10) (oi := { dst := some 18, op := Go.Op.indexAddr 39 (Go.Operand.tmp 17) (Go.Operand.const (Go.Value.int Go.IntKind.i64 0)), type := 0, pos := "reader.go:45", after := #[{ on := 9, ground := Go.Ground.data }], guard := none }) (v := ?_) rfl (by kernel_rfl) (by kernel_rfl) (by kernel_rfl) (fun _ _ _ h => h) (Or.inl ⟨by rfl, ?_⟩) H4 ?_
  rotate_left
  focus (intro w' hSw; (try dsimp only at hSw); go_simp; (try with_reducible rfl))
  simp only [Act.put, List.setIfInBounds_toArray, List.set_cons_zero, List.set_cons_succ]
  refine wpAnyH_take (i := 11) (oi := { dst := some 19, op := Go.Op.load 5 (Go.Operand.tmp 18), type := 5, pos := "reader.go:45", after := #[{ on := 10, ground := Go.Ground.data }], guard := none }) (v := ?_) rfl (by kernel_rfl) (by kernel_rfl) (by kernel_rfl) (fun _ _ _ h => h) (Or.inl ⟨by rfl, ?_⟩) H4 ?_
  rotate_left
  focus (intro w' hSw; (try dsimp only at hSw); have kq := HCQ.out _ hSw; go_simp; (try with_reducible rfl))
  simp only [Act.put, List.setIfInBounds_toArray, List.set_cons_zero, List.set_cons_succ]
  refine wpAnyH_take (i := 12) (oi := { dst := some 20, op := Go.Op.binOp Go.BinOp.eql 5 (Go.Operand.tmp 19) (Go.Operand.const (Go.Value.int Go.IntKind.u8 1)) 5, type := 4, pos := "reader.go:45", after := #[{ on := 11, ground := Go.Ground.data }], guard := none }) (v := ?_) rfl (by kernel_rfl) (by kernel_rfl) (by kernel_rfl) (fun _ _ _ h => h) (Or.inl ⟨by rfl, ?_⟩) H4 ?_
  rotate_left
  focus (intro w' hSw; (try dsimp only at hSw); go_simp; (try with_reducible rfl))
  simp only [Act.put, List.setIfInBounds_toArray, List.set_cons_zero, List.set_cons_succ]
  refine wpAnyH_ready (rs := [14]) (by kernel_rfl) (by simp) ?_
  refine AllReadyH.cons (o := { dst := some 22, op := Go.Op.call { callee := Go.Callee.value (Go.Operand.func 57), args := #[Go.Operand.tmp 21, Go.Operand.const (Go.Value.int Go.IntKind.i64 4), Go.Operand.func 58], argTypes := #[105, 3, 113] }, type := 3, pos := "reader.go:50", after := #[{ on := 13, ground := Go.Ground.data }, { on := 9, ground := Go.Ground.chain }], guard := none }) rfl (fun K hK => ?_) ?_
  rotate_left
  exact AllReadyH.nil
  go_simp
  (go_at_call 57; (with_reducible refine (C5.out _ _ _ hc4 HR4.out).mono ?_); rintro e w5 ⟨rfl, hbt, p5, c5, hc5', hr5⟩)
  try go_wp2_with fail
  have hc5 := Nat.le_trans hc5' hc4
  have HR5 := Lib.hid hr5
  have HG := Lib.hid (hbt.row HG.out HW.out)
  have HB5 := hbt.below H4 (Nat.le_succ _)
  clear hr5 hbt
  refine hK.out _ _ HB5 (fun H5 => ?_)
  clear hK K
  try simp only [Act.put, List.setIfInBounds_toArray, List.set_cons_zero, List.set_cons_succ]
  refine wpAnyH_ready (rs := [16]) (by kernel_rfl) (by simp) ?_
  refine AllReadyH.cons (o := { dst := some 24, op := Go.Op.call { callee := Go.Callee.value (Go.Operand.func 62), args := #[Go.Operand.tmp 23, Go.Operand.const (Go.Value.int Go.IntKind.i64 4), Go.Operand.func 58], argTypes := #[105, 3, 113] }, type := 49, pos := "reader.go:51", after := #[{ on := 15, ground := Go.Ground.data }, { on := 14, ground := Go.Ground.chain }], guard := none }) rfl (fun K hK => ?_) ?_
  rotate_left
  exact AllReadyH.nil
  go_simp
  (go_at_call 62; (with_reducible refine (C6.out _ _ _ hc5 HR5.out).mono ?_); rintro e w6 ⟨rfl, hbt, p6, c6, hc6', hr6⟩)
  try go_wp2_with fail
  have hc6 := Nat.le_trans hc6' hc5
  have HR6 := Lib.hid hr6
  have HG := Lib.hid (hbt.row HG.out HW.out)
  have HB6 := hbt.below H5 (Nat.le_succ _)
  clear hr6 hbt
  refine hK.out _ _ HB6 (fun H6 => ?_)
  clear hK K
  try simp only [Act.put, List.setIfInBounds_toArray, List.set_cons_zero, List.set_cons_succ]
  refine wpAnyH_ready (rs := [19]) (by kernel_rfl) (by simp) ?_
  refine AllReadyH.cons (o := { dst := some 27, op := Go.Op.call { callee := Go.Callee.value (Go.Operand.func 47), args := #[Go.Operand.tmp 26], argTypes := #[39] }, type := 39, pos := "reader.go:52", after := #[{ on := 18, ground := Go.Ground.data }, { on := 16, ground := Go.Ground.chain }], guard := none }) rfl (fun K hK => ?_) ?_
  rotate_left
  exact AllReadyH.nil
  go_simp
  (go_at_call 47; (with_reducible refine (CK.out _ H6).mono ?_); rintro e w7 ⟨t, rfl, hr⟩)
  try go_wp2_with fail
  obtain ⟨q, c7, rfl, hcq7, hcm7, hby, hn7⟩ := (Tell.of hr).at'
  have kz := row_cell (i := 0) HG.out rfl
  have HG := Lib.hid ((hr.2.block _ (Array.getElem?_eq_some_iff.1 HG.out).1).trans HG.out)
  refine hK.out _ _ (kbT H6 hr.2) (fun H7 => ?_)
  clear hK K
  try simp only [Act.put, List.setIfInBounds_toArray, List.set_cons_zero, List.set_cons_succ]
  refine wpAnyH_take (i := 20) (oi := { dst := some 28, op := Go.Op.build 51 #[(0, Go.Operand.tmp 9), (1, Go.Operand.tmp 11), (2, Go.Operand.tmp 13), (3, Go.Operand.tmp 20), (4, Go.Operand.tmp 22), (5, Go.Operand.tmp 24), (6, Go.Operand.tmp 27)], type := 51, pos := "reader.go:45", after := #[{ on := 1, ground := Go.Ground.data }, { on := 3, ground := Go.Ground.data }, { on := 5, ground := Go.Ground.data }, { on := 12, ground := Go.Ground.data }, { on := 14, ground := Go.Ground.data }, { on := 16, ground := Go.Ground.data }, { on := 19, ground := Go.Ground.data }], guard := none }) (v := ?_) rfl (by kernel_rfl) (by kernel_rfl) (by kernel_rfl) (fun _ _ _ h => h) (Or.inl ⟨by rfl, ?_⟩) H7 ?_
  rotate_left
  focus (intro w' hSw; (try dsimp only at hSw); go_simp; (try with_reducible rfl))
  simp only [Act.put, List.setIfInBounds_toArray, List.set_cons_zero, List.set_cons_succ]
  refine wpAnyH_ready (rs := [21]) (by kernel_rfl) (by simp) ?_
  refine AllReadyH.cons (o := { dst := none, op := Go.Op.store 51 (Go.Operand.tmp 2) (Go.Operand.tmp 28), type := 0, pos := "reader.go:45", after := #[{ on := 20, ground := Go.Ground.data }, { on := 19, ground := Go.Ground.chain }, { on := 0, ground := Go.Ground.phase }, { on := 1, ground := Go.Ground.phase }, { on := 2, ground := Go.Ground.phase }, { on := 3, ground := Go.Ground.phase }, { on := 4, ground := Go.Ground.phase }, { on := 5, ground := Go.Ground.phase }, { on := 6, ground := Go.Ground.phase }, { on := 7, ground := Go.Ground.phase }, { on := 8, ground := Go.Ground.phase }, { on := 9, ground := Go.Ground.phase }, { on := 10, ground := Go.Ground.phase }, { on := 11, ground := Go.Ground.phase }, { on := 12, ground := Go.Ground.phase }, { on := 13, ground := Go.Ground.phase }, { on := 14, ground := Go.Ground.phase }, { on := 15, ground := Go.Ground.phase }, { on := 16, ground := Go.Ground.phase }, { on := 17, ground := Go.Ground.phase }, { on := 18, ground := Go.Ground.phase }, { on := 19, ground := Go.Ground.phase }, { on := 20, ground := Go.Ground.phase }], guard := none }) rfl (fun K hK => ?_) ?_
  rotate_left
  exact AllReadyH.nil
  have k0 := row_cell (i := 0) HG.out rfl
  have k1 := row_cell (i := 1) HG.out rfl
  have k2 := row_cell (i := 2) HG.out rfl
  have k3 := row_cell (i := 3) HG.out rfl
  have k4 := row_cell (i := 4) HG.out rfl
  have k5 := row_cell (i := 5) HG.out rfl
  have k6 := row_cell (i := 6) HG.out rfl
  have f0 := row_frozen (i := 0) HG.out
  have f1 := row_frozen (i := 1) HG.out
  have f2 := row_frozen (i := 2) HG.out
  have f3 := row_frozen (i := 3) HG.out
  have f4 := row_frozen (i := 4) HG.out
  have f5 := row_frozen (i := 5) HG.out
  have f6 := row_frozen (i := 6) HG.out
  go_simp
  refine hK.out _ _ (((((((H7.setCell (Nat.le_refl _) _).setCell (Nat.le_refl _) _).setCell (Nat.le_refl _) _).setCell (Nat.le_refl _) _).setCell (Nat.le_refl _) _).setCell (Nat.le_refl _) _).setCell (Nat.le_refl _) _) (fun H8 => ?_)
  clear hK K
  try simp only [Act.put, List.setIfInBounds_toArray, List.set_cons_zero, List.set_cons_succ]
  refine wpAnyH_done (by kernel_rfl) ?_ _
  go_wp2_with fail
  refine bodyPost_ret (v := .agg #[.int .u64 x1, .int .i64 x2, .int .i64 x3, .bool (decide (b16 = 1)), .int .i64 x5, .int .u32 x6, .slice q 512 c7]) ?_ rfl ⟨q, c7, ?_, H8, ?_, hn7.1, hcm7, ?_, fun a ha => Nat.lt_of_lt_of_le (lt_of_cell_some kz) (hn7.2 a ha)⟩
  · have hbb : ((b16 : Int) == 1) = decide (b16 = 1) := by
      by_cases hq : b16 = 1
      · subst hq; rfl
      · rw [decide_eq_false hq]
        simp only [beq_eq_false_iff_ne, ne_eq]
        omega
    simp [results, Try.results45, go_sem, k0, k1, k2, k3, k4, k5, k6, hbb, HDL.out]
  · rw [hfm]
  · have hlt : w.heap.size < w6.heap.size := lt_of_cell_some kz
    intro i hi
    obtain ⟨Bz, oz, e, cz⟩ := hby i hi
    have hge := hn7.2 _ e
    exact ⟨Bz, oz, e, (((((((But.set' _ _ _ _).trans (But.set' _ _ _ _)).trans (But.set' _ _ _ _)).trans (But.set' _ _ _ _)).trans (But.set' _ _ _ _)).trans (But.set' _ _ _ _)).trans (But.set' _ _ _ _)).cell cz (by simp only at hge ⊢; omega)⟩
  · have := HDL.out; omega
end Go.Proofs.Ythnllhfdbnnjhaa
