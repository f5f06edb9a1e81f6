/- Parts: K15 K16 K17 K18 K19 K20 K21 K22 K23 K25 W5 W6 W7. -/
import Derived.Test.YtdanigigjainjaaGreatHB4
import Derived.Deep.RegionHeld3
import Derived.Shelf.SlMaps.Clone
import Derived.Laws.Cover3
namespace Go.Proofs.YtdanigigjainjaaGreat.Dk
open Go.RowKit Go.Shelf
set_option maxRecDepth 100000
set_option maxHeartbeats 1000000

theorem exec_load_sec {o : Oper} {a : Act} {w : World} {x : Operand} (ho : o.op = .load 105 x) {g off : Nat} (hx : a.eval x = .pointer (some ⟨g, off, none⟩)) {b : ByteArray} (hb : b.size = 64) (hc : ∀ j v, (bL b)[j]? = some v → w.cell? ⟨g, off + j, none⟩ = some v) :
    (execOp a.eval o).run Tryz.prog w = .ok (.value (.agg (bV b))) w := by
  unfold execOp
  simp only [ho, hx, Instr.loadAt, Instr.sureAddr, Sem.run_bind, Sem.run_pure, Result.andThen_ok, run_loadVar_at (Tryz.isAgg105 w) (Tryz.sizeOf105 w) (run_load_sec hb hc)]
/-- The sectors behind the first k writes, as they were synced. -/
def setG (l : List (Nat × ByteArray)) (G f : Nat → ByteArray) : Nat → Nat → ByteArray
  | 0 => f
  | k + 1 => upd (setG l G f k) (l.getD k (0, secS 0)).1 (G (l.getD k (0, secS 0)).1)
theorem setG_next {l : List (Nat × ByteArray)} {G f : Nat → ByteArray} {i : Nat} {x : Nat × ByteArray} (h : l[i]? = some x) : setG l G f (i + 1) = upd (setG l G f i) x.1 (G x.1) := by
  have : l.getD i (0, secS 0) = x := by rw [List.getD_eq_getElem?_getD, h]; rfl
  rw [setG, this]
theorem setG_in {l : List (Nat × ByteArray)} {G f : Nat → ByteArray} : ∀ {k i : Nat} {x : Nat × ByteArray}, i < k → k ≤ l.length → l[i]? = some x → setG l G f k x.1 = G x.1
  | k + 1, i, x, hi, hk, hx => by
    have hy := List.getElem?_eq_getElem (show k < l.length by omega)
    rw [setG_next hy]
    unfold upd
    by_cases e : x.1 = l[k].1
    · rw [if_pos e, e]
    · rw [if_neg e]
      rcases Nat.lt_or_ge i k with h | h
      · exact setG_in h (by omega) hx
      · obtain rfl : i = k := by omega
        rw [hx] at hy
        injection hy with hy
        exact absurd (by rw [hy]) e
theorem setG_out {l : List (Nat × ByteArray)} {G f : Nat → ByteArray} {j : Nat} (h : ∀ x ∈ l, x.1 ≠ j) : ∀ {k : Nat}, k ≤ l.length → setG l G f k j = f j
  | 0, _ => rfl
  | k + 1, hk => by
    have hy := List.getElem?_eq_getElem (show k < l.length by omega)
    rw [setG_next hy]
    unfold upd
    rw [if_neg (fun e => h _ (List.getElem_mem (show k < l.length by omega)) e.symm)]
    exact setG_out h (by omega)
theorem setF_out {l : List (Nat × ByteArray)} {last : Nat} {f : Nat → ByteArray} {j : Nat} (h : ∀ x ∈ l, x.1 ≠ j) : ∀ {k : Nat}, k ≤ l.length → setF l last f k j = f j
  | 0, _ => rfl
  | k + 1, hk => by
    have hy := List.getElem?_eq_getElem (show k < l.length by omega)
    rw [setF_next hy]
    unfold upd
    rw [if_neg (fun e => h _ (List.getElem_mem (show k < l.length by omega)) e.symm)]
    exact setF_out h (by omega)
theorem setF_size {l : List (Nat × ByteArray)} {last : Nat} {f : Nat → ByteArray} (hl : ∀ x ∈ l, x.2.size = 64) (hn : last ≤ 64) {m : Nat} (hf : ∀ j, j < m → (f j).size = 64) (hx : ∀ x ∈ l, x.1 < m) : ∀ {k : Nat}, k ≤ l.length → ∀ j, j < m → (setF l last f k j).size = 64
  | 0, _, j, hj => hf j hj
  | k + 1, hk, j, hj => by
    have hm := List.getElem_mem (show k < l.length by omega)
    rw [setF_next (List.getElem?_eq_getElem (show k < l.length by omega))]
    unfold upd
    split
    · exact tornB_size' (by split <;> omega) (hl _ hm) (setF_size hl hn hf hx (by omega) _ (hx _ hm))
    · exact setF_size hl hn hf hx (by omega) j hj
/-- All is as it was synced, when what is loose was gone over. -/
theorem setG_all {s : DS} {l : List (Nat × ByteArray)} {last : Nat} (hsub : ∀ x ∈ l, ∃ y ∈ s.loose, y.1 = x.1) (j : Nat) : setG s.loose (setF l last (lastS s.sync) l.length) (sectorS s) s.loose.length j = setF l last (lastS s.sync) l.length j := by
  by_cases h : ∃ x ∈ s.loose, x.1 = j
  · obtain ⟨x, hx, rfl⟩ := h
    obtain ⟨i, hi, e⟩ := List.getElem_of_mem hx
    exact setG_in hi (Nat.le_refl _) (by rw [List.getElem?_eq_getElem hi, e])
  · have h' : ∀ x ∈ s.loose, x.1 ≠ j := fun x hx e => h ⟨x, hx, e⟩
    rw [setG_out h' (Nat.le_refl _), setF_out (fun x hx e => by
      obtain ⟨y, hy, e2⟩ := hsub x hx
      exact h' y hy (e2.trans e)) (Nat.le_refl _)]
    unfold sectorS
    exact lastS_apart _ _ _ h'
theorem cut_64 (b : ByteArray) (w : World) : Calls Tryz.prog 85 #[.agg (bV b), .int .i64 64] w fun r w' => r = .returned (.slice (some ⟨w.heap.size, 0, none⟩) 64 64) ∧ w' = w.alloc (.cells (bV b) 105) := cut_any b 64 (Nat.le_refl _) w
set_option maxRecDepth 100000 in
set_option maxHeartbeats 2000000 in
theorem settle_any {w : World} {B b1 b2 : Nat} {v : Value} {s : DS} (h : DiskAt w B b1 b2 v s) (hW : Whole s) (hF : Few s) {q : Option Addr} {cap : Nat} {l : List (Nat × ByteArray)} (hr : w.ownsRow 0 107 65 (.slice q l.length cap) l.length (wcs l)) (hl : ∀ x ∈ l, x.1 < s.many ∧ x.2.size = 64) (hlen : l.length ≤ 100000)
    (last : Nat) (hlast : last ≤ 64) (S' : List (Nat × ByteArray)) (hS : ∀ k, k < s.many → lastS S' k = setF l last (lastS s.sync) l.length k) (hsub : ∀ x ∈ l, ∃ y ∈ s.loose, y.1 = x.1) :
    Calls Tryz.prog 59 #[.pointer (some ⟨B, 0, none⟩), .slice q l.length cap, .int .i64 last] w fun r w' => r = .returned (.tuple #[]) ∧ DiskAt w' B b1 b2 (.slice none 0 0) ⟨s.many, S', [], s.left⟩ ∧ Apart (fun j => j = B ∨ j = b1 ∨ j = b2) w w' := by
  have hWR : Hid (∀ k : Nat, k < l.length → IntKind.i64.wrap ((l.length : Int) - 1) = (l.length : Int) - 1) := Lib.hid fun k hk => by simp [IntKind.wrap, IntKind.signed, IntKind.bits]; omega
  have hB2 : b2 ≠ B := h.sync.cells h.cells
  have HR := Lib.hid hr
  have HLs := Lib.hid hl
  have HD := Lib.hid h
  have HW := Lib.hid hW
  have HFW := Lib.hid hF
  have HSS := Lib.hid hS
  have HSUB := Lib.hid hsub
  have hne := h.ne
  have hB1 : b1 ≠ B := h.now.cells h.cells
  have hv1 := row_apart h.now h.row
  have hv2 := row_apart h.sync h.row
  obtain ⟨q2, c2, rfl⟩ : ∃ q2 c2, v = .slice q2 s.loose.length c2 := by
    rcases h.row.2 with ⟨e, h0⟩ | ⟨g, cap', cur, e, -⟩
    · exact ⟨none, 0, by rw [e, h0]⟩
    · exact ⟨_, _, e⟩
  clear hr hl hW hF hS hsub h
  go_enter Tryz.func59, Tryz.ntmps59
  go_wp2
  go_loopw [13] (fun i wr => ∃ k : Nat, k ≤ l.length ∧ i = .int .i64 k ∧ Hid (MapIs wr b2 s.many (setF l last (lastS s.sync) k)) ∧ Hid (Apart (fun j => j = b2) w wr)) (fun i _ => (l.length - intOf i).toNat)
  case atStart => exact ⟨0, Nat.zero_le _, by first | rfl | go_num, Lib.hid HD.out.sync, Lib.hid (Apart.refl _ _)⟩
  case round =>
    obtain ⟨k, hk, rfl, M, A⟩ := hrel
    by_cases hlt : k < l.length
    · obtain ⟨x, hx⟩ : ∃ x, l[k]? = some x := ⟨_, List.getElem?_eq_getElem hlt⟩
      obtain ⟨hx1, hx2⟩ := HLs.out x (List.mem_of_getElem? hx)
      have hkeep : ∀ j, j < w.heap.size → j ≠ b2 → wr.heap[j]? = w.heap[j]? := A.out.block
      have x1 : wr.cell? ⟨B, 1, none⟩ = some (.map (some b2)) := (World.cell?_of_block (w := w) (hkeep B (lt_of_heap HD.out.cells) (fun e => hB2 e.symm))).trans HD.out.cell.2.1
      have lB : B < wr.heap.size := Nat.lt_of_lt_of_le (lt_of_heap HD.out.cells) A.out.size
      have l2 : b2 < wr.heap.size := Nat.lt_of_lt_of_le HD.out.sync.lt A.out.size
      obtain ⟨g, cap', e1, hrow⟩ : ∃ g cap', Value.slice q l.length cap = .slice (some ⟨g, 0, none⟩) l.length cap' ∧ ∀ j v, (Value.int .i64 (x.1 : Int) :: bL x.2)[j]? = some v → wr.cell? ⟨g, k * 65 + j, none⟩ = some v := by
        rcases HR.out.2 with ⟨e, h0⟩ | ⟨g, cap', cur, e, -, hg, rest⟩
        · omega
        · refine ⟨g, cap', e, fun j u hu => ?_⟩
          have hgb : g ≠ b2 := fun e => HD.out.sync.cells hg e.symm
          have hr2 := HR.out
          rw [e] at hr2
          rw [← row_cells hr2 (fun y hy => (HLs.out y hy).2) hx j u hu]
          exact World.cell?_of_block (w := w) (hkeep g (lt_of_heap hg) hgb)
      injection e1 with e1 _ e3
      subst e1 e3
      have HRW := Lib.hid hrow
      clear hrow
      have HX := Lib.hid hx
      clear hx
      obtain ⟨at', b⟩ := x
      replace hx1 : at' < s.many := hx1
      replace hx2 : b.size = 64 := hx2
      have hw1 := hWR.out k hlt
      have K1 : Hid (∀ w', Apart (fun j => j = b2) (wr.alloc (.cells (wV at' b) 107)) w' → w'.cell? ⟨B, 1, none⟩ = some (.map (some b2)) ∧ w'.cell? ⟨wr.heap.size, 0, none⟩ = some (.int .i64 at') ∧ ∀ j v, (bL b)[j]? = some v → w'.cell? ⟨wr.heap.size, 1 + j, none⟩ = some v) := Lib.hid fun w' h => by
        obtain ⟨L0, L1⟩ := box_write wr at' b
        refine ⟨(World.cell?_of_block (w := wr.alloc (.cells (wV at' b) 107)) (h.block B (by simp; omega) (fun e => hB2 e.symm))).trans (by go_cell), (World.cell?_of_block (w := wr.alloc (.cells (wV at' b) 107)) (h.block wr.heap.size (by simp) (Nat.ne_of_gt l2))).trans L0, fun j v hv => (World.cell?_of_block (w := wr.alloc (.cells (wV at' b) 107)) (h.block wr.heap.size (by simp) (Nat.ne_of_gt l2))).trans (L1 j v hv)⟩
      have M1 := Lib.hid (M.out.below (w' := wr.alloc (.cells (wV at' b) 107)) ((Below.refl _ _).alloc (Nat.le_refl _) _))
      by_cases hend : k + 1 = l.length
      · have hq : ((k : Int) == (l.length : Int) - 1) = true := by simp; omega
        have HEND := Lib.hid hend
        clear hend hkeep
        go_wp2_with (first
          | (refine wpList_load_write rfl _ rfl rfl hx2 HRW.out ?_)
          | (refine wpList_store_row rfl 107 _ _ rfl wr.heap.size (wV at' b) rfl rfl 107 _ (heap_alloc_new wr _) (by rw [wV_size hx2]; kernel_rfl) (by rw [wV_size hx2]; kernel_rfl) (wV_one _ _) ?_; rw [World.setRow_alloc_new])
          | fail)
        have HNM : Hid (last ≤ 64) := Lib.hid hlast
        refine wp_region_held_drew (S := fun w' => Apart (fun j => j = b2) (wr.alloc (.cells (wV at' b) 107)) w') (by kernel_rfl) ⟨rfl, rfl, rfl, Nat.le_refl _, fun _ _ _ => rfl⟩ (fun H0 => ?_)
        refine wpAnyH_take (i := 0) (oi := { dst := some 24, op := Go.Op.move (Go.Operand.tmp 0), type := 24, pos := "disk.go:152", after := #[], guard := none }) (v := ?_) rfl (by kernel_rfl) (by kernel_rfl) (by kernel_rfl) (fun _ _ _ h => h) (Or.inl ⟨by rfl, ?_⟩) H0 ?_
        rotate_left
        focus (intro w' hSw; (try dsimp only at hSw); go_simp; (try with_reducible rfl))
        simp only [Act.put, List.setIfInBounds_toArray, List.set_cons_zero, List.set_cons_succ]
        refine wpAnyH_take (i := 1) (oi := { dst := some 25, op := Go.Op.nilCheck (Go.Operand.tmp 24), type := 0, pos := "disk.go:152", after := #[{ on := 0, ground := Go.Ground.data }], guard := none }) (v := ?_) rfl (by kernel_rfl) (by kernel_rfl) (by kernel_rfl) (fun _ _ _ h => h) (Or.inl ⟨by rfl, ?_⟩) H0 ?_
        rotate_left
        focus (intro w' hSw; (try dsimp only at hSw); go_simp; (try with_reducible rfl))
        simp only [Act.put, List.setIfInBounds_toArray, List.set_cons_zero, List.set_cons_succ]
        refine wpAnyH_take (i := 2) (oi := { dst := some 26, op := Go.Op.fieldAddr 91 (Go.Operand.tmp 25) 1, type := 0, pos := "disk.go:152", after := #[{ on := 1, ground := Go.Ground.data }], guard := none }) (v := ?_) rfl (by kernel_rfl) (by kernel_rfl) (by kernel_rfl) (fun _ _ _ h => h) (Or.inl ⟨by rfl, ?_⟩) H0 ?_
        rotate_left
        focus (intro w' hSw; (try dsimp only at hSw); go_simp; (try with_reducible rfl))
        simp only [Act.put, List.setIfInBounds_toArray, List.set_cons_zero, List.set_cons_succ]
        refine wpAnyH_take (i := 3) (oi := { dst := some 27, op := Go.Op.load 85 (Go.Operand.tmp 26), type := 85, pos := "disk.go:152", after := #[{ on := 2, ground := Go.Ground.data }], guard := none }) (v := ?_) rfl (by kernel_rfl) (by kernel_rfl) (by kernel_rfl) (fun _ _ _ h => h) (Or.inl ⟨by rfl, ?_⟩) H0 ?_
        rotate_left
        focus (intro w' hSw; (try dsimp only at hSw); have c1 := (K1.out _ hSw).1; go_simp; (try with_reducible rfl))
        simp only [Act.put, List.setIfInBounds_toArray, List.set_cons_zero, List.set_cons_succ]
        refine wpAnyH_take (i := 4) (oi := { dst := some 28, op := Go.Op.fieldAddr 107 (Go.Operand.tmp 7) 0, type := 0, pos := "disk.go:152", after := #[], guard := none }) (v := ?_) rfl (by kernel_rfl) (by kernel_rfl) (by kernel_rfl) (fun _ _ _ h => h) (Or.inl ⟨by rfl, ?_⟩) H0 ?_
        rotate_left
        focus (intro w' hSw; (try dsimp only at hSw); go_simp; (try with_reducible rfl))
        simp only [Act.put, List.setIfInBounds_toArray, List.set_cons_zero, List.set_cons_succ]
        refine wpAnyH_take (i := 5) (oi := { dst := some 29, op := Go.Op.load 3 (Go.Operand.tmp 28), type := 3, pos := "disk.go:152", after := #[{ on := 4, ground := Go.Ground.data }], guard := none }) (v := ?_) rfl (by kernel_rfl) (by kernel_rfl) (by kernel_rfl) (fun _ _ _ h => h) (Or.inl ⟨by rfl, ?_⟩) H0 ?_
        rotate_left
        focus (intro w' hSw; (try dsimp only at hSw); have c1 := (K1.out _ hSw).2.1; go_simp; (try with_reducible rfl))
        simp only [Act.put, List.setIfInBounds_toArray, List.set_cons_zero, List.set_cons_succ]
        refine wpAnyH_take (i := 6) (oi := { dst := some 30, op := Go.Op.fieldAddr 107 (Go.Operand.tmp 7) 1, type := 0, pos := "disk.go:152", after := #[], guard := none }) (v := ?_) rfl (by kernel_rfl) (by kernel_rfl) (by kernel_rfl) (fun _ _ _ h => h) (Or.inl ⟨by rfl, ?_⟩) H0 ?_
        rotate_left
        focus (intro w' hSw; (try dsimp only at hSw); go_simp; (try with_reducible rfl))
        simp only [Act.put, List.setIfInBounds_toArray, List.set_cons_zero, List.set_cons_succ]
        refine wpAnyH_take (i := 7) (oi := { dst := some 31, op := Go.Op.load 105 (Go.Operand.tmp 30), type := 105, pos := "disk.go:152", after := #[{ on := 6, ground := Go.Ground.data }], guard := none }) (v := ?_) rfl (by kernel_rfl) (by kernel_rfl) (by kernel_rfl) (fun _ _ _ h => h) (Or.inl ⟨by rfl, ?_⟩) H0 ?_
        rotate_left
        focus (intro w' hSw; (try dsimp only at hSw); refine exec_load_sec (x := .tmp 30) ?_ ?_ hx2 (K1.out _ hSw).2.2 <;> rfl)
        simp only [Act.put, List.setIfInBounds_toArray, List.set_cons_zero, List.set_cons_succ]
        refine wpAnyH_take (i := 8) (oi := { dst := some 32, op := Go.Op.move (Go.Operand.tmp 8), type := 3, pos := "disk.go:152", after := #[], guard := none }) (v := ?_) rfl (by kernel_rfl) (by kernel_rfl) (by kernel_rfl) (fun _ _ _ h => h) (Or.inl ⟨by rfl, ?_⟩) H0 ?_
        rotate_left
        focus (intro w' hSw; (try dsimp only at hSw); go_simp; (try with_reducible rfl))
        simp only [Act.put, List.setIfInBounds_toArray, List.set_cons_zero, List.set_cons_succ]
        refine wpAnyH_ready (rs := [9]) (by kernel_rfl) (by simp) ?_
        refine AllReadyH.cons (o := { dst := some 33, op := Go.Op.call { callee := Go.Callee.value (Go.Operand.func 85), args := #[Go.Operand.tmp 31, Go.Operand.tmp 32], argTypes := #[105, 3] }, type := 49, pos := "disk.go:152", after := #[{ on := 7, ground := Go.Ground.data }, { on := 8, ground := Go.Ground.data }], guard := none }) rfl (fun K hK => ?_) ?_
        rotate_left
        exact AllReadyH.nil
        go_simp
        (go_at_call 85; (with_reducible refine (cut_any b last HNM.out _).mono ?_); rintro e w2 ⟨rfl, hw2⟩)
        have B2 : Below (wr.alloc (.cells (wV at' b) 107)).heap.size (wr.alloc (.cells (wV at' b) 107)) w2 := by rw [hw2]; exact (Below.refl (wr.alloc (.cells (wV at' b) 107)).heap.size (wr.alloc (.cells (wV at' b) 107))).drew.alloc (Nat.le_refl _) _
        have BT : BytesAt w2 (some ⟨wr.heap.size + 1, 0, none⟩) ((natL b).take last) := by rw [hw2]; have := bytesAt_cut (wr.alloc (.cells (wV at' b) 107)).drew b last; rwa [show (wr.alloc (.cells (wV at' b) 107)).drew.heap.size = wr.heap.size + 1 by simp] at this
        clear hw2
        try go_wp2_with fail
        refine hK.out _ _ (Below.apart B2 _) (fun H1 => ?_)
        clear hK K
        try simp only [Act.put, List.setIfInBounds_toArray, List.set_cons_zero, List.set_cons_succ]
        refine wpAnyH_ready (rs := [10]) (by kernel_rfl) (by simp) ?_
        refine AllReadyH.cons (o := { dst := some 34, op := Go.Op.call { callee := Go.Callee.value (Go.Operand.func 84), args := #[Go.Operand.tmp 27, Go.Operand.tmp 29, Go.Operand.tmp 33], argTypes := #[85, 3, 49] }, type := 0, pos := "disk.go:152", after := #[{ on := 3, ground := Go.Ground.data }, { on := 5, ground := Go.Ground.data }, { on := 9, ground := Go.Ground.data }, { on := 9, ground := Go.Ground.chain }], guard := none }) rfl (fun K hK => ?_) ?_
        rotate_left
        exact AllReadyH.nil
        go_simp
        (go_at_call 84; refine (lay_torn_any (M1.out.below B2) hx1 HNM.out hx2 BT).mono ?_; rintro e w3 ⟨rfl, M3, A3⟩)
        try go_wp2_with fail
        have A4 := H1.trans A3 (fun j hj => .inl hj)
        refine hK.out _ _ A4 (fun H2 => ?_)
        clear hK K
        try simp only [Act.put, List.setIfInBounds_toArray, List.set_cons_zero, List.set_cons_succ]
        refine wpAnyH_done (by kernel_rfl) ?_ _
        go_wp2_with fail
        refine ⟨⟨k + 1, hlt, by first | rfl | go_num, Lib.hid ?_, Lib.hid ?_⟩, by simp [intOf]; omega⟩
        focus (rw [setF_next HX.out, if_pos HEND.out]; exact M3)
        focus exact (A.out.trans (Below.apart ((Below.refl wr.heap.size wr).alloc (Nat.le_refl _) _) (fun _ => False)) (fun j hj => hj.elim)).trans A4 (fun j hj => .inl hj)

      · have hq : ((k : Int) == (l.length : Int) - 1) = false := by simp; omega
        have HEND := Lib.hid hend
        clear hend hkeep
        go_wp2_with (first
          | (refine wpList_load_write rfl _ rfl rfl hx2 HRW.out ?_)
          | (refine wpList_store_row rfl 107 _ _ rfl wr.heap.size (wV at' b) rfl rfl 107 _ (heap_alloc_new wr _) (by rw [wV_size hx2]; kernel_rfl) (by rw [wV_size hx2]; kernel_rfl) (wV_one _ _) ?_; rw [World.setRow_alloc_new])
          | fail)
        have HNM : Hid (64 ≤ 64) := Lib.hid (Nat.le_refl _)
        refine wp_region_held_drew (S := fun w' => Apart (fun j => j = b2) (wr.alloc (.cells (wV at' b) 107)) w') (by kernel_rfl) ⟨rfl, rfl, rfl, Nat.le_refl _, fun _ _ _ => rfl⟩ (fun H0 => ?_)
        refine wpAnyH_take (i := 0) (oi := { dst := some 24, op := Go.Op.move (Go.Operand.tmp 0), type := 24, pos := "disk.go:152", after := #[], guard := none }) (v := ?_) rfl (by kernel_rfl) (by kernel_rfl) (by kernel_rfl) (fun _ _ _ h => h) (Or.inl ⟨by rfl, ?_⟩) H0 ?_
        rotate_left
        focus (intro w' hSw; (try dsimp only at hSw); go_simp; (try with_reducible rfl))
        simp only [Act.put, List.setIfInBounds_toArray, List.set_cons_zero, List.set_cons_succ]
        refine wpAnyH_take (i := 1) (oi := { dst := some 25, op := Go.Op.nilCheck (Go.Operand.tmp 24), type := 0, pos := "disk.go:152", after := #[{ on := 0, ground := Go.Ground.data }], guard := none }) (v := ?_) rfl (by kernel_rfl) (by kernel_rfl) (by kernel_rfl) (fun _ _ _ h => h) (Or.inl ⟨by rfl, ?_⟩) H0 ?_
        rotate_left
        focus (intro w' hSw; (try dsimp only at hSw); go_simp; (try with_reducible rfl))
        simp only [Act.put, List.setIfInBounds_toArray, List.set_cons_zero, List.set_cons_succ]
        refine wpAnyH_take (i := 2) (oi := { dst := some 26, op := Go.Op.fieldAddr 91 (Go.Operand.tmp 25) 1, type := 0, pos := "disk.go:152", after := #[{ on := 1, ground := Go.Ground.data }], guard := none }) (v := ?_) rfl (by kernel_rfl) (by kernel_rfl) (by kernel_rfl) (fun _ _ _ h => h) (Or.inl ⟨by rfl, ?_⟩) H0 ?_
        rotate_left
        focus (intro w' hSw; (try dsimp only at hSw); go_simp; (try with_reducible rfl))
        simp only [Act.put, List.setIfInBounds_toArray, List.set_cons_zero, List.set_cons_succ]
        refine wpAnyH_take (i := 3) (oi := { dst := some 27, op := Go.Op.load 85 (Go.Operand.tmp 26), type := 85, pos := "disk.go:152", after := #[{ on := 2, ground := Go.Ground.data }], guard := none }) (v := ?_) rfl (by kernel_rfl) (by kernel_rfl) (by kernel_rfl) (fun _ _ _ h => h) (Or.inl ⟨by rfl, ?_⟩) H0 ?_
        rotate_left
        focus (intro w' hSw; (try dsimp only at hSw); have c1 := (K1.out _ hSw).1; go_simp; (try with_reducible rfl))
        simp only [Act.put, List.setIfInBounds_toArray, List.set_cons_zero, List.set_cons_succ]
        refine wpAnyH_take (i := 4) (oi := { dst := some 28, op := Go.Op.fieldAddr 107 (Go.Operand.tmp 7) 0, type := 0, pos := "disk.go:152", after := #[], guard := none }) (v := ?_) rfl (by kernel_rfl) (by kernel_rfl) (by kernel_rfl) (fun _ _ _ h => h) (Or.inl ⟨by rfl, ?_⟩) H0 ?_
        rotate_left
        focus (intro w' hSw; (try dsimp only at hSw); go_simp; (try with_reducible rfl))
        simp only [Act.put, List.setIfInBounds_toArray, List.set_cons_zero, List.set_cons_succ]
        refine wpAnyH_take (i := 5) (oi := { dst := some 29, op := Go.Op.load 3 (Go.Operand.tmp 28), type := 3, pos := "disk.go:152", after := #[{ on := 4, ground := Go.Ground.data }], guard := none }) (v := ?_) rfl (by kernel_rfl) (by kernel_rfl) (by kernel_rfl) (fun _ _ _ h => h) (Or.inl ⟨by rfl, ?_⟩) H0 ?_
        rotate_left
        focus (intro w' hSw; (try dsimp only at hSw); have c1 := (K1.out _ hSw).2.1; go_simp; (try with_reducible rfl))
        simp only [Act.put, List.setIfInBounds_toArray, List.set_cons_zero, List.set_cons_succ]
        refine wpAnyH_take (i := 6) (oi := { dst := some 30, op := Go.Op.fieldAddr 107 (Go.Operand.tmp 7) 1, type := 0, pos := "disk.go:152", after := #[], guard := none }) (v := ?_) rfl (by kernel_rfl) (by kernel_rfl) (by kernel_rfl) (fun _ _ _ h => h) (Or.inl ⟨by rfl, ?_⟩) H0 ?_
        rotate_left
        focus (intro w' hSw; (try dsimp only at hSw); go_simp; (try with_reducible rfl))
        simp only [Act.put, List.setIfInBounds_toArray, List.set_cons_zero, List.set_cons_succ]
        refine wpAnyH_take (i := 7) (oi := { dst := some 31, op := Go.Op.load 105 (Go.Operand.tmp 30), type := 105, pos := "disk.go:152", after := #[{ on := 6, ground := Go.Ground.data }], guard := none }) (v := ?_) rfl (by kernel_rfl) (by kernel_rfl) (by kernel_rfl) (fun _ _ _ h => h) (Or.inl ⟨by rfl, ?_⟩) H0 ?_
        rotate_left
        focus (intro w' hSw; (try dsimp only at hSw); refine exec_load_sec (x := .tmp 30) ?_ ?_ hx2 (K1.out _ hSw).2.2 <;> rfl)
        simp only [Act.put, List.setIfInBounds_toArray, List.set_cons_zero, List.set_cons_succ]
        refine wpAnyH_take (i := 8) (oi := { dst := some 32, op := Go.Op.move (Go.Operand.tmp 8), type := 3, pos := "disk.go:152", after := #[], guard := none }) (v := ?_) rfl (by kernel_rfl) (by kernel_rfl) (by kernel_rfl) (fun _ _ _ h => h) (Or.inl ⟨by rfl, ?_⟩) H0 ?_
        rotate_left
        focus (intro w' hSw; (try dsimp only at hSw); go_simp; (try with_reducible rfl))
        simp only [Act.put, List.setIfInBounds_toArray, List.set_cons_zero, List.set_cons_succ]
        refine wpAnyH_ready (rs := [9]) (by kernel_rfl) (by simp) ?_
        refine AllReadyH.cons (o := { dst := some 33, op := Go.Op.call { callee := Go.Callee.value (Go.Operand.func 85), args := #[Go.Operand.tmp 31, Go.Operand.tmp 32], argTypes := #[105, 3] }, type := 49, pos := "disk.go:152", after := #[{ on := 7, ground := Go.Ground.data }, { on := 8, ground := Go.Ground.data }], guard := none }) rfl (fun K hK => ?_) ?_
        rotate_left
        exact AllReadyH.nil
        go_simp
        (go_at_call 85; (with_reducible refine (cut_64 b _).mono ?_); rintro e w2 ⟨rfl, hw2⟩)
        have B2 : Below (wr.alloc (.cells (wV at' b) 107)).heap.size (wr.alloc (.cells (wV at' b) 107)) w2 := by rw [hw2]; exact (Below.refl (wr.alloc (.cells (wV at' b) 107)).heap.size (wr.alloc (.cells (wV at' b) 107))).drew.alloc (Nat.le_refl _) _
        have BT : BytesAt w2 (some ⟨wr.heap.size + 1, 0, none⟩) ((natL b).take 64) := by rw [hw2]; have := bytesAt_cut (wr.alloc (.cells (wV at' b) 107)).drew b 64; rwa [show (wr.alloc (.cells (wV at' b) 107)).drew.heap.size = wr.heap.size + 1 by simp] at this
        clear hw2
        try go_wp2_with fail
        refine hK.out _ _ (Below.apart B2 _) (fun H1 => ?_)
        clear hK K
        try simp only [Act.put, List.setIfInBounds_toArray, List.set_cons_zero, List.set_cons_succ]
        refine wpAnyH_ready (rs := [10]) (by kernel_rfl) (by simp) ?_
        refine AllReadyH.cons (o := { dst := some 34, op := Go.Op.call { callee := Go.Callee.value (Go.Operand.func 84), args := #[Go.Operand.tmp 27, Go.Operand.tmp 29, Go.Operand.tmp 33], argTypes := #[85, 3, 49] }, type := 0, pos := "disk.go:152", after := #[{ on := 3, ground := Go.Ground.data }, { on := 5, ground := Go.Ground.data }, { on := 9, ground := Go.Ground.data }, { on := 9, ground := Go.Ground.chain }], guard := none }) rfl (fun K hK => ?_) ?_
        rotate_left
        exact AllReadyH.nil
        go_simp
        (go_at_call 84; refine (lay_torn_any (M1.out.below B2) hx1 HNM.out hx2 BT).mono ?_; rintro e w3 ⟨rfl, M3, A3⟩)
        try go_wp2_with fail
        have A4 := H1.trans A3 (fun j hj => .inl hj)
        refine hK.out _ _ A4 (fun H2 => ?_)
        clear hK K
        try simp only [Act.put, List.setIfInBounds_toArray, List.set_cons_zero, List.set_cons_succ]
        refine wpAnyH_done (by kernel_rfl) ?_ _
        go_wp2_with fail
        refine ⟨⟨k + 1, hlt, by first | rfl | go_num, Lib.hid ?_, Lib.hid ?_⟩, by simp [intOf]; omega⟩
        focus (rw [setF_next HX.out, if_neg HEND.out]; exact M3)
        focus exact (A.out.trans (Below.apart ((Below.refl wr.heap.size wr).alloc (Nat.le_refl _) _) (fun _ => False)) (fun j hj => hj.elim)).trans A4 (fun j hj => .inl hj)

    · obtain rfl : k = l.length := by omega
      have hGs : ∀ j, j < s.many → (setF l last (lastS s.sync) l.length j).size = 64 := setF_size (fun x hx => (HLs.out x hx).2) hlast (fun j _ => lastS_size (fun x hx => (HW.out.sync x hx).2) j) (fun x hx => (HLs.out x hx).1) (Nat.le_refl _)
      have HALL := Lib.hid (fun j => setG_all (s := s) (l := l) (last := last) HSUB.out j)
      have HSL : Hid (∀ k, k < s.many → lastS S' k = setF l last (lastS s.sync) l.length k) := HSS
      generalize hG : setF l last (lastS s.sync) l.length = G at *
      clear hG
      have hkeep : ∀ j, j < w.heap.size → j ≠ b2 → wr.heap[j]? = w.heap[j]? := A.out.block
      have CB := Lib.hid ((hkeep B (lt_of_heap HD.out.cells) (fun e => hB2 e.symm)).trans HD.out.cells)
      have lB : B < wr.heap.size := Nat.lt_of_lt_of_le (lt_of_heap HD.out.cells) A.out.size
      have l1 : b1 < wr.heap.size := Nat.lt_of_lt_of_le HD.out.now.lt A.out.size
      have l2 : b2 < wr.heap.size := Nat.lt_of_lt_of_le HD.out.sync.lt A.out.size
      have x3 : wr.cell? ⟨B, 3, none⟩ = some (.slice q2 s.loose.length c2) := cell_of_row wr B 3 _ 91 (0, 0) CB.out
      have M0 : MapIs wr b1 s.many (sectorS s) := HD.out.now.of_block (hkeep b1 HD.out.now.lt hne)
      have hn2 : s.loose.length ≤ 20000 := HFW.out.2
      go_wp2
      go_loopw [41] (fun i wz => ∃ k : Nat, k ≤ s.loose.length ∧ i = .int .i64 k ∧ Hid (MapIs wz b1 s.many (setG s.loose G (sectorS s) k)) ∧ Hid (Apart (fun j => j = b1) wr wz)) (fun i _ => (s.loose.length - intOf i).toNat)
      case atStart => exact ⟨0, Nat.zero_le _, by first | rfl | go_num, Lib.hid M0, Lib.hid (Apart.refl _ _)⟩
      case round =>
        rename World => wz
        obtain ⟨k, hk2, rfl, MZ, AZ⟩ := hrel
        by_cases hlt : k < s.loose.length
        · obtain ⟨x, hx⟩ : ∃ x, s.loose[k]? = some x := ⟨_, List.getElem?_eq_getElem hlt⟩
          obtain ⟨hx1, hx2⟩ := HW.out.loose x (List.mem_of_getElem? hx)
          have zkeep : ∀ j, j < wr.heap.size → j ≠ b1 → wz.heap[j]? = wr.heap[j]? := AZ.out.block
          have zsz := AZ.out.size
          have x0 : wz.cell? ⟨B, 0, none⟩ = some (.map (some b1)) := (World.cell?_of_block (w := wr) (zkeep B lB (fun e => hB1 e.symm))).trans (cell_of_row wr B 0 _ 91 (0, 0) CB.out)
          have x1 : wz.cell? ⟨B, 1, none⟩ = some (.map (some b2)) := (World.cell?_of_block (w := wr) (zkeep B lB (fun e => hB1 e.symm))).trans (cell_of_row wr B 1 _ 91 (0, 0) CB.out)
          obtain ⟨g, cap', e1, hrow⟩ : ∃ g cap', Value.slice q2 s.loose.length c2 = .slice (some ⟨g, 0, none⟩) s.loose.length cap' ∧ ∀ j v, (Value.int .i64 (x.1 : Int) :: bL x.2)[j]? = some v → wz.cell? ⟨g, k * 65 + j, none⟩ = some v := by
            rcases HD.out.row.2 with ⟨e, h0⟩ | ⟨g, cap', cur, e, -, hg, rest⟩
            · omega
            · refine ⟨g, cap', e, fun j u hu => ?_⟩
              have hg2 : g ≠ b2 := fun e => HD.out.sync.cells hg e.symm
              have hg1 : g ≠ b1 := fun e => HD.out.now.cells hg e.symm
              have hr2 := HD.out.row
              rw [e] at hr2
              rw [← row_cells hr2 (fun y hy => (HW.out.loose y hy).2) hx j u hu]
              have lg := lt_of_heap hg
              exact (World.cell?_of_block (w := wr) (zkeep g (Nat.lt_of_lt_of_le lg A.out.size) hg1)).trans (World.cell?_of_block (w := w) (hkeep g lg hg2))
          injection e1 with e1 _ e3
          subst e1 e3
          have HRW := Lib.hid hrow
          clear hrow
          have HX := Lib.hid hx
          clear hx
          obtain ⟨at', b⟩ := x
          replace hx1 : at' < s.many := hx1
          replace hx2 : b.size = 64 := hx2
          have lBz : B < wz.heap.size := by omega
          have l1z : b1 < wz.heap.size := by omega
          have l2z : b2 < wz.heap.size := by omega
          have K1 : Hid (∀ w', Apart (fun j => j = b1) (wz.alloc (.cells (wV at' b) 107)) w' → w'.cell? ⟨B, 0, none⟩ = some (.map (some b1)) ∧ w'.cell? ⟨B, 1, none⟩ = some (.map (some b2)) ∧ w'.cell? ⟨wz.heap.size, 0, none⟩ = some (.int .i64 at')) := Lib.hid fun w' h => by
            obtain ⟨L0, L1⟩ := box_write wz at' b
            exact ⟨(World.cell?_of_block (w := wz.alloc (.cells (wV at' b) 107)) (h.block B (by simp; omega) (fun e => hB1 e.symm))).trans (by go_cell), (World.cell?_of_block (w := wz.alloc (.cells (wV at' b) 107)) (h.block B (by simp; omega) (fun e => hB1 e.symm))).trans (by go_cell), (World.cell?_of_block (w := wz.alloc (.cells (wV at' b) 107)) (h.block wz.heap.size (by simp) (Nat.ne_of_gt l1z))).trans L0⟩
          have M1 := Lib.hid (MZ.out.below (w' := wz.alloc (.cells (wV at' b) 107)) ((Below.refl _ _).alloc (Nat.le_refl _) _))
          have MG : Hid (∀ w', Apart (fun j => j = b1) (wz.alloc (.cells (wV at' b) 107)) w' → MapIs w' b2 s.many G) := Lib.hid fun w' h => M.out.of_block ((h.block b2 (by simp; omega) (fun e => hne e.symm)).trans ((Below.heap_alloc wz _ b2 l2z).trans (zkeep b2 l2 (fun e => hne e.symm))))
          clear zkeep hkeep
          go_wp2_with (first
            | (refine wpList_load_write rfl _ rfl rfl hx2 HRW.out ?_)
            | (refine wpList_store_row rfl 107 _ _ rfl wz.heap.size (wV at' b) rfl rfl 107 _ (heap_alloc_new wz _) (by rw [wV_size hx2]; kernel_rfl) (by rw [wV_size hx2]; kernel_rfl) (wV_one _ _) ?_; rw [World.setRow_alloc_new])
            | fail)
          refine wp_region_held_drew (S := fun w' => Apart (fun j => j = b1) (wz.alloc (.cells (wV at' b) 107)) w') (by kernel_rfl) ⟨rfl, rfl, rfl, Nat.le_refl _, fun _ _ _ => rfl⟩ (fun H0 => ?_)
          refine wpAnyH_take (i := 0) (oi := { dst := some 45, op := Go.Op.move (Go.Operand.tmp 0), type := 24, pos := "disk.go:155", after := #[], guard := none }) (v := ?_) rfl (by kernel_rfl) (by kernel_rfl) (by kernel_rfl) (fun _ _ _ h => h) (Or.inl ⟨by rfl, ?_⟩) H0 ?_
          rotate_left
          focus (intro w' hSw; (try dsimp only at hSw); go_simp; (try with_reducible rfl))
          simp only [Act.put, List.setIfInBounds_toArray, List.set_cons_zero, List.set_cons_succ]
          refine wpAnyH_take (i := 1) (oi := { dst := some 46, op := Go.Op.nilCheck (Go.Operand.tmp 45), type := 0, pos := "disk.go:155", after := #[{ on := 0, ground := Go.Ground.data }], guard := none }) (v := ?_) rfl (by kernel_rfl) (by kernel_rfl) (by kernel_rfl) (fun _ _ _ h => h) (Or.inl ⟨by rfl, ?_⟩) H0 ?_
          rotate_left
          focus (intro w' hSw; (try dsimp only at hSw); go_simp; (try with_reducible rfl))
          simp only [Act.put, List.setIfInBounds_toArray, List.set_cons_zero, List.set_cons_succ]
          refine wpAnyH_take (i := 2) (oi := { dst := some 47, op := Go.Op.fieldAddr 91 (Go.Operand.tmp 46) 0, type := 0, pos := "disk.go:155", after := #[{ on := 1, ground := Go.Ground.data }], guard := none }) (v := ?_) rfl (by kernel_rfl) (by kernel_rfl) (by kernel_rfl) (fun _ _ _ h => h) (Or.inl ⟨by rfl, ?_⟩) H0 ?_
          rotate_left
          focus (intro w' hSw; (try dsimp only at hSw); go_simp; (try with_reducible rfl))
          simp only [Act.put, List.setIfInBounds_toArray, List.set_cons_zero, List.set_cons_succ]
          refine wpAnyH_take (i := 3) (oi := { dst := some 48, op := Go.Op.load 85 (Go.Operand.tmp 47), type := 85, pos := "disk.go:155", after := #[{ on := 2, ground := Go.Ground.data }], guard := none }) (v := ?_) rfl (by kernel_rfl) (by kernel_rfl) (by kernel_rfl) (fun _ _ _ h => h) (Or.inl ⟨by rfl, ?_⟩) H0 ?_
          rotate_left
          focus (intro w' hSw; (try dsimp only at hSw); have c1 := (K1.out _ hSw).1; go_simp; (try with_reducible rfl))
          simp only [Act.put, List.setIfInBounds_toArray, List.set_cons_zero, List.set_cons_succ]
          refine wpAnyH_take (i := 4) (oi := { dst := some 49, op := Go.Op.fieldAddr 107 (Go.Operand.tmp 10) 0, type := 0, pos := "disk.go:155", after := #[], guard := none }) (v := ?_) rfl (by kernel_rfl) (by kernel_rfl) (by kernel_rfl) (fun _ _ _ h => h) (Or.inl ⟨by rfl, ?_⟩) H0 ?_
          rotate_left
          focus (intro w' hSw; (try dsimp only at hSw); go_simp; (try with_reducible rfl))
          simp only [Act.put, List.setIfInBounds_toArray, List.set_cons_zero, List.set_cons_succ]
          refine wpAnyH_take (i := 5) (oi := { dst := some 50, op := Go.Op.load 3 (Go.Operand.tmp 49), type := 3, pos := "disk.go:155", after := #[{ on := 4, ground := Go.Ground.data }], guard := none }) (v := ?_) rfl (by kernel_rfl) (by kernel_rfl) (by kernel_rfl) (fun _ _ _ h => h) (Or.inl ⟨by rfl, ?_⟩) H0 ?_
          rotate_left
          focus (intro w' hSw; (try dsimp only at hSw); have c1 := (K1.out _ hSw).2.2; go_simp; (try with_reducible rfl))
          simp only [Act.put, List.setIfInBounds_toArray, List.set_cons_zero, List.set_cons_succ]
          refine wpAnyH_take (i := 6) (oi := { dst := some 51, op := Go.Op.move (Go.Operand.tmp 0), type := 24, pos := "disk.go:155", after := #[], guard := none }) (v := ?_) rfl (by kernel_rfl) (by kernel_rfl) (by kernel_rfl) (fun _ _ _ h => h) (Or.inl ⟨by rfl, ?_⟩) H0 ?_
          rotate_left
          focus (intro w' hSw; (try dsimp only at hSw); go_simp; (try with_reducible rfl))
          simp only [Act.put, List.setIfInBounds_toArray, List.set_cons_zero, List.set_cons_succ]
          refine wpAnyH_take (i := 7) (oi := { dst := some 52, op := Go.Op.nilCheck (Go.Operand.tmp 51), type := 0, pos := "disk.go:155", after := #[{ on := 6, ground := Go.Ground.data }], guard := none }) (v := ?_) rfl (by kernel_rfl) (by kernel_rfl) (by kernel_rfl) (fun _ _ _ h => h) (Or.inl ⟨by rfl, ?_⟩) H0 ?_
          rotate_left
          focus (intro w' hSw; (try dsimp only at hSw); go_simp; (try with_reducible rfl))
          simp only [Act.put, List.setIfInBounds_toArray, List.set_cons_zero, List.set_cons_succ]
          refine wpAnyH_take (i := 8) (oi := { dst := some 53, op := Go.Op.fieldAddr 91 (Go.Operand.tmp 52) 1, type := 0, pos := "disk.go:155", after := #[{ on := 7, ground := Go.Ground.data }], guard := none }) (v := ?_) rfl (by kernel_rfl) (by kernel_rfl) (by kernel_rfl) (fun _ _ _ h => h) (Or.inl ⟨by rfl, ?_⟩) H0 ?_
          rotate_left
          focus (intro w' hSw; (try dsimp only at hSw); go_simp; (try with_reducible rfl))
          simp only [Act.put, List.setIfInBounds_toArray, List.set_cons_zero, List.set_cons_succ]
          refine wpAnyH_take (i := 9) (oi := { dst := some 54, op := Go.Op.load 85 (Go.Operand.tmp 53), type := 85, pos := "disk.go:155", after := #[{ on := 8, ground := Go.Ground.data }], guard := none }) (v := ?_) rfl (by kernel_rfl) (by kernel_rfl) (by kernel_rfl) (fun _ _ _ h => h) (Or.inl ⟨by rfl, ?_⟩) H0 ?_
          rotate_left
          focus (intro w' hSw; (try dsimp only at hSw); have c1 := (K1.out _ hSw).2.1; go_simp; (try with_reducible rfl))
          simp only [Act.put, List.setIfInBounds_toArray, List.set_cons_zero, List.set_cons_succ]
          refine wpAnyH_take (i := 10) (oi := { dst := some 55, op := Go.Op.fieldAddr 107 (Go.Operand.tmp 10) 0, type := 0, pos := "disk.go:155", after := #[], guard := none }) (v := ?_) rfl (by kernel_rfl) (by kernel_rfl) (by kernel_rfl) (fun _ _ _ h => h) (Or.inl ⟨by rfl, ?_⟩) H0 ?_
          rotate_left
          focus (intro w' hSw; (try dsimp only at hSw); go_simp; (try with_reducible rfl))
          simp only [Act.put, List.setIfInBounds_toArray, List.set_cons_zero, List.set_cons_succ]
          refine wpAnyH_take (i := 11) (oi := { dst := some 56, op := Go.Op.load 3 (Go.Operand.tmp 55), type := 3, pos := "disk.go:155", after := #[{ on := 10, ground := Go.Ground.data }], guard := none }) (v := ?_) rfl (by kernel_rfl) (by kernel_rfl) (by kernel_rfl) (fun _ _ _ h => h) (Or.inl ⟨by rfl, ?_⟩) H0 ?_
          rotate_left
          focus (intro w' hSw; (try dsimp only at hSw); have c1 := (K1.out _ hSw).2.2; go_simp; (try with_reducible rfl))
          simp only [Act.put, List.setIfInBounds_toArray, List.set_cons_zero, List.set_cons_succ]
          refine wpAnyH_ready (rs := [12]) (by kernel_rfl) (by simp) ?_
          refine AllReadyH.cons (o := { dst := some 57, op := Go.Op.call { callee := Go.Callee.value (Go.Operand.func 86), args := #[Go.Operand.tmp 54, Go.Operand.tmp 56], argTypes := #[85, 3] }, type := 49, pos := "disk.go:155", after := #[{ on := 9, ground := Go.Ground.data }, { on := 11, ground := Go.Ground.data }], guard := none }) rfl (fun K hK => ?_) ?_
          rotate_left
          exact AllReadyH.nil
          go_simp
          (go_at_call 86; (with_reducible refine (bytes_any (MG.out _ H0) hx1).mono ?_); rintro e w2 ⟨rfl, hw2⟩)
          have B2 : Below (wz.alloc (.cells (wV at' b) 107)).heap.size (wz.alloc (.cells (wV at' b) 107)) w2 := by rw [hw2]; exact ((Below.refl (wz.alloc (.cells (wV at' b) 107)).heap.size (wz.alloc (.cells (wV at' b) 107))).drew.alloc (Nat.le_refl _) _).alloc (by simp) _
          have BT : BytesAt w2 (some ⟨wz.heap.size + 2, 0, none⟩) ((natL (G at')).take 64) := by rw [hw2]; have := bytesAt_cut ((wz.alloc (.cells (wV at' b) 107)).drew.alloc (.cells #[.map (some b2)] 85)) (G at') 64; rwa [show ((wz.alloc (.cells (wV at' b) 107)).drew.alloc (.cells #[.map (some b2)] 85)).heap.size = wz.heap.size + 2 by simp] at this
          clear hw2
          try go_wp2_with fail
          refine hK.out _ _ (Below.apart B2 _) (fun H1 => ?_)
          clear hK K
          try simp only [Act.put, List.setIfInBounds_toArray, List.set_cons_zero, List.set_cons_succ]
          refine wpAnyH_ready (rs := [13]) (by kernel_rfl) (by simp) ?_
          refine AllReadyH.cons (o := { dst := some 58, op := Go.Op.call { callee := Go.Callee.value (Go.Operand.func 84), args := #[Go.Operand.tmp 48, Go.Operand.tmp 50, Go.Operand.tmp 57], argTypes := #[85, 3, 49] }, type := 0, pos := "disk.go:155", after := #[{ on := 3, ground := Go.Ground.data }, { on := 5, ground := Go.Ground.data }, { on := 12, ground := Go.Ground.data }, { on := 12, ground := Go.Ground.chain }], guard := none }) rfl (fun K hK => ?_) ?_
          rotate_left
          exact AllReadyH.nil
          go_simp
          (go_at_call 84; refine (lay_torn_any (M1.out.below B2) hx1 (Nat.le_refl 64) (hGs _ hx1) BT).mono ?_; rintro e w3 ⟨rfl, M3, A3⟩)
          try go_wp2_with fail
          have A4 := H1.trans A3 (fun j hj => .inl hj)
          refine hK.out _ _ A4 (fun H2 => ?_)
          clear hK K
          try simp only [Act.put, List.setIfInBounds_toArray, List.set_cons_zero, List.set_cons_succ]
          refine wpAnyH_done (by kernel_rfl) ?_ _
          go_wp2_with fail
          refine ⟨⟨k + 1, hlt, by first | rfl | go_num, Lib.hid ?_, Lib.hid ?_⟩, by simp [intOf]; omega⟩
          focus (rw [setG_next HX.out]; rw [tornB_64 (hGs _ hx1) (MZ.out.size _ hx1)] at M3; exact M3)
          focus exact (AZ.out.trans (Below.apart ((Below.refl wz.heap.size wz).alloc (Nat.le_refl _) _) (fun _ => False)) (fun j hj => hj.elim)).trans A4 (fun j hj => .inl hj)
        · obtain rfl : k = s.loose.length := by omega
          have zB := (AZ.out.block B lB (fun e => hB1 e.symm)).trans CB.out
          have f3 := frozen_of_row wz B 3 _ 91 zB
          have y3 : wz.cell? ⟨B, 3, none⟩ = some (.slice q2 s.loose.length c2) := cell_of_row wz B 3 _ 91 (0, 0) zB
          go_wp2
          go_end0
          refine ⟨rfl, ⟨?_, HD.out.left, hne, ⟨rfl, .inl ⟨rfl, rfl⟩⟩, by simp [Value.ownBlock], ?_, ?_⟩, ?_⟩
          · rw [heap_setCell_same wz B 3 _ 91 _ zB]
            rfl
          · refine ((MZ.out.of_block (heap_setCell_other wz ⟨B, 3, none⟩ b1 _ hB1))).congr fun j hj => ?_
            rw [HALL.out]
            unfold sectorS
            rw [List.append_nil, HSL.out j hj]
          · refine (M.out.of_block ((heap_setCell_other wz ⟨B, 3, none⟩ b2 _ hB2).trans (AZ.out.block b2 l2 (fun e => hne e.symm)))).congr fun j hj => ?_
            rw [HSL.out j hj]
          · exact ((A.out.wide (fun j hj => .inr (.inr hj))).trans AZ.out (fun j hj => .inl (.inr (.inl hj)))).trans (apart_set wz B 3 _) (fun j hj => .inl (.inl hj))
end Go.Proofs.YtdanigigjainjaaGreat.Dk
namespace Go.Proofs.YtdanigigjainjaaGreat.Dk
open Go.RowKit Go.Shelf
set_option maxRecDepth 100000
set_option maxHeartbeats 1000000

theorem ref_sync (B : Nat) (s : DS) : refE [qHalted B s] = (syncS s).2 := by
  rw [refE_if (p := s.left = 0) rfl]
  unfold syncS
  split <;> rfl
theorem lastS_upd (l : List (Nat × ByteArray)) (w : Nat × ByteArray) : lastS (l ++ [w]) = upd (lastS l) w.1 w.2 := by
  funext k
  rw [lastS_snoc]
  unfold upd
  by_cases e : w.1 = k
  · rw [if_pos e, if_pos e.symm]
  · rw [if_neg e, if_neg (fun x => e x.symm)]
/-- Where nothing is torn, each sector is as it was written last. -/
theorem setF_whole {m : Nat} {sync l : List (Nat × ByteArray)} (hs : ∀ x ∈ sync, x.2.size = 64) (hl : ∀ x ∈ l, x.2.size = 64) : ∀ k, k ≤ l.length → setF l 64 (lastS sync) k = lastS (sync ++ l.take k)
  | 0, _ => by simp [setF]
  | k + 1, hk => by
    have hx := List.getElem?_eq_getElem (show k < l.length by omega)
    rw [setF_next hx, setF_whole (m := m) hs hl k (by omega), List.take_add_one, hx, Option.toList_some, ← List.append_assoc, lastS_upd]
    congr 1
    rw [ite_self, tornB_64 (hl _ (List.getElem_mem (show k < l.length by omega)))]
    exact lastS_size (fun w hw => by
      rcases List.mem_append.1 hw with hw | hw
      · exact hs w hw
      · exact hl w (List.mem_of_mem_take hw)) _
theorem apart_foot {w w' : World} {B b1 b2 : Nat} {v : Value} (h : Apart (fun j => j = B ∨ j = b1 ∨ j = b2) w w') : Apart (FootOf B b1 b2 v) w w' := h.wide (fun j hj => by
  rcases hj with e | e | e
  · exact .inl e
  · exact .inr (.inl e)
  · exact .inr (.inr (.inl e)))
set_option maxRecDepth 100000 in
set_option maxHeartbeats 3000000 in
theorem dsync_any {w : World} {d : Value} {s : DS} {F : Nat → Prop} (h : RepD w d s F) (hW : Whole s) (hF : Few s) :
    Calls Tryz.prog 89 #[d] w fun r w' => r = .returned (.int .i64 (syncS s).2) ∧ Goes RepD d (syncS s).1 F w w' := by
  obtain ⟨B, b1, b2, v, rfl, h, rfl⟩ := h
  have hm := hW.many.1
  go_enter Tryz.func89, Tryz.ntmps89
  go_wp2_with fail
  refine (halted_any _ _).mono ?_
  rintro e wa ⟨rfl, Ba⟩
  go_wp2_with fail
  refine (refuse1 (q1 := qHalted B s) (h.below Ba) hm (qHalted_ok (h.below Ba) hm)).mono ?_
  rintro e wb ⟨rfl, Bb⟩
  rw [ref_sync]
  have hC := kbP Ba Bb
  have hD := h.below hC
  by_cases h0 : s.left = 0
  · have e : syncS s = (s, 140) := by unfold syncS; rw [if_pos h0]
    rw [e]
    go_wp2_with fail
    go_ret
    rw [e]
    exact ⟨rfl, goes_at hD (fun j hj => .inl hj) (Below.apart hC _)⟩
  · have e : syncS s = (⟨s.many, s.sync ++ s.loose, [], doneL s.left⟩, 0) := by unfold syncS; rw [if_neg h0]
    rw [e]
    have HE := Lib.hid e
    clear e
    obtain ⟨q, c, rfl⟩ : ∃ q c, v = .slice q s.loose.length c := by
      rcases h.row.2 with ⟨e, h0⟩ | ⟨g, cap', cur, e, -⟩
      · exact ⟨none, 0, by rw [e, h0]⟩
      · exact ⟨_, _, e⟩
    obtain ⟨-, -, -, c3, -, -⟩ := hD.cell
    have ST : Hid (Calls Tryz.prog 59 #[.pointer (some ⟨B, 0, none⟩), .slice q s.loose.length c, .int .i64 64] wb fun r w' => r = .returned (.tuple #[]) ∧ DiskAt w' B b1 b2 (.slice none 0 0) ⟨s.many, s.sync ++ s.loose, [], s.left⟩ ∧ Apart (fun j => j = B ∨ j = b1 ∨ j = b2) wb w') := Lib.hid (settle_any hD hW hF hD.row hW.loose (by have := hF.2; omega) 64 (Nat.le_refl _) (s.sync ++ s.loose) (fun k hk => by
      rw [setF_whole (m := s.many) (fun x hx => (hW.sync x hx).2) (fun x hx => (hW.loose x hx).2) _ (Nat.le_refl _), List.take_length]) (fun x hx => ⟨x, hx, rfl⟩))
    have HL := Lib.hid hW.left
    clear hW hF
    go_wp2_with (first
      | (go_at_call 59; (with_reducible refine ST.out.mono ?_); rintro e wc ⟨rfl, Dc, Ac⟩)
      | (go_at_call 114; refine (count_any Dc h0 HL.out).mono ?_; rintro e wd ⟨rfl, Dd, Ad⟩))
    go_ret
    rw [HE.out]
    exact ⟨rfl, goes_at Dd (fun j hj => by cases hj) (apart_foot (((Below.apart hC _).trans Ac (fun j hj => .inl hj)).trans Ad (fun j hj => .inl (.inl hj))))⟩
end Go.Proofs.YtdanigigjainjaaGreat.Dk
namespace Go.Proofs.YtdanigigjainjaaGreat.Dk
open Go.RowKit Go.Shelf
set_option maxRecDepth 100000
set_option maxHeartbeats 1000000

/-- Of the first k writes those that are kept. -/
def keptL (l : List (Nat × ByteArray)) (keep : List Bool) : Nat → List (Nat × ByteArray)
  | 0 => []
  | k + 1 => if keep.getD k false then keptL l keep k ++ [l.getD k (0, secS 0)] else keptL l keep k
theorem keptL_mem {l : List (Nat × ByteArray)} {keep : List Bool} : ∀ {k : Nat}, k ≤ l.length → ∀ x ∈ keptL l keep k, x ∈ l
  | 0, _, x, hx => by cases hx
  | k + 1, hk, x, hx => by
    unfold keptL at hx
    split at hx
    · rcases List.mem_append.1 hx with hx | hx
      · exact keptL_mem (by omega) x hx
      · rw [List.mem_singleton] at hx
        subst hx
        exact getD_mem (by omega)
    · exact keptL_mem (by omega) x hx
theorem keptL_length {l : List (Nat × ByteArray)} {keep : List Bool} : ∀ (k : Nat), (keptL l keep k).length ≤ k
  | 0 => Nat.le_refl _
  | k + 1 => by
    have := keptL_length (l := l) (keep := keep) k
    unfold keptL
    split
    · simp; omega
    · omega
theorem keptL_more {l : List (Nat × ByteArray)} {keep : List Bool} (i : Nat) : ∀ j, ∃ r, keptL l keep (i + j) = keptL l keep i ++ r
  | 0 => ⟨[], by simp⟩
  | j + 1 => by
    obtain ⟨r, hr⟩ := keptL_more (l := l) (keep := keep) i j
    rw [← Nat.add_assoc]
    have e : keptL l keep (i + j + 1) = if keep.getD (i + j) false then keptL l keep (i + j) ++ [l.getD (i + j) (0, secS 0)] else keptL l keep (i + j) := rfl
    rw [e]
    split
    · rw [hr]
      exact ⟨r ++ [_], by rw [List.append_assoc]⟩
    · exact ⟨r, hr⟩
theorem keptL_rest {l : List (Nat × ByteArray)} {keep : List Bool} {i : Nat} : ∀ j, (∀ t, i ≤ t → t < i + j → keep.getD t false = false) → keptL l keep (i + j) = keptL l keep i
  | 0, _ => rfl
  | j + 1, h => by
    rw [← Nat.add_assoc]
    rw [keptL, if_neg (fun e => Bool.false_ne_true ((h (i + j) (by omega) (by omega)).symm.trans e))]
    exact keptL_rest j (fun t h1 h2 => h t h1 (by omega))
theorem tornF_last (keep : List Bool) : ∀ n, (∀ j : Nat, j < n → tornF keep n < j → keep.getD j false = false) ∧ (∀ t : Nat, tornF keep n = t → keep.getD t false = true)
  | 0 => ⟨fun j hj => absurd hj (Nat.not_lt_zero j), fun t h => by simp [tornF] at h⟩
  | n + 1 => by
    obtain ⟨h1, h2⟩ := tornF_last keep n
    unfold tornF
    by_cases hk : keep.getD n false = true
    · rw [if_pos hk]
      refine ⟨fun j hj hlt => by omega, fun t ht => ?_⟩
      obtain rfl : n = t := by omega
      exact hk
    · rw [if_neg hk]
      refine ⟨fun j hj hlt => ?_, h2⟩
      rcases Nat.lt_or_ge j n with h | h
      · exact h1 j h hlt
      · obtain rfl : j = n := by omega
        simpa using hk
theorem torn_rest {s : DS} {keep : List Bool} {j : Nat} (hj : tornS s keep < j) (hl : j < s.loose.length) : keep.getD j false = false := by
  rcases Nat.lt_or_ge j keep.length with h | h
  · exact (tornF_last keep (min s.loose.length keep.length)).1 j (by omega) hj
  · rw [List.getD_eq_getElem?_getD, List.getElem?_eq_none h]; rfl
theorem keptL_torn (s : DS) (keep : List Bool) : keptL s.loose keep s.loose.length = keptL s.loose keep (tornS s keep + 1).toNat := by
  have h1 := tornS_range s keep
  obtain ⟨j, hj⟩ : ∃ j, s.loose.length = (tornS s keep + 1).toNat + j := ⟨s.loose.length - (tornS s keep + 1).toNat, by omega⟩
  rw [hj]
  exact keptL_rest j (fun t h2 h3 => torn_rest (s := s) (by omega) (by omega))
def lastN (tear : Nat) : Nat := if tear = 0 then 64 else tear
/-- What the document keeps, sector by sector. -/
theorem crash_set {s : DS} {keep : List Bool} {tear : Nat} (hW : Whole s) (ht : tear ≤ 63) : ∀ i, i ≤ (tornS s keep + 1).toNat →
    lastS (crashF keep s.loose tear (tornS s keep) s.sync i) = setF (keptL s.loose keep s.loose.length) (lastN tear) (lastS s.sync) (keptL s.loose keep i).length
  | 0, _ => rfl
  | i + 1, hi => by
    have ih := crash_set (keep := keep) (tear := tear) hW ht i (by omega)
    have hr := tornS_range s keep
    have hil : i < s.loose.length := by omega
    have hxm : s.loose.getD i (0, secS 0) ∈ s.loose := getD_mem hil
    have hx := hW.loose _ hxm
    by_cases hk : keep.getD i false = true
    · have e1 : keptL s.loose keep (i + 1) = keptL s.loose keep i ++ [s.loose.getD i (0, secS 0)] := by rw [keptL, if_pos hk]
      have hKi : (keptL s.loose keep s.loose.length)[(keptL s.loose keep i).length]? = some (s.loose.getD i (0, secS 0)) := by
        obtain ⟨r, hr2⟩ := keptL_more (l := s.loose) (keep := keep) (i + 1) (s.loose.length - (i + 1))
        rw [show i + 1 + (s.loose.length - (i + 1)) = s.loose.length by omega, e1] at hr2
        rw [hr2, List.append_assoc, List.getElem?_append_right (Nat.le_refl _)]
        simp
      have e2 : (keptL s.loose keep (i + 1)).length = (keptL s.loose keep i).length + 1 := by rw [e1]; simp
      have hend : (keptL s.loose keep i).length + 1 = (keptL s.loose keep s.loose.length).length ↔ (i : Int) = tornS s keep := by
        rw [keptL_torn]
        constructor
        · intro h
          rcases Int.lt_trichotomy (i : Int) (tornS s keep) with hlt | heq | hgt
          · obtain ⟨t, ht2⟩ : ∃ t : Nat, tornS s keep = t := ⟨(tornS s keep).toNat, by omega⟩
            have hkt := (tornF_last keep (min s.loose.length keep.length)).2 t (by rw [← ht2]; rfl)
            obtain ⟨r, hr2⟩ := keptL_more (l := s.loose) (keep := keep) (i + 1) (t - (i + 1))
            rw [show i + 1 + (t - (i + 1)) = t by omega] at hr2
            have e3 : keptL s.loose keep (t + 1) = keptL s.loose keep t ++ [s.loose.getD t (0, secS 0)] := by rw [keptL, if_pos hkt]
            rw [show (tornS s keep + 1).toNat = t + 1 by omega, e3, hr2] at h
            simp [e2] at h
          · exact heq
          · omega
        · intro h
          rw [show (tornS s keep + 1).toNat = i + 1 by omega, e2]
      rw [crashF, if_pos hk, lastS_upd, e2, setF_next hKi, ih]
      congr 1
      have hsz : (setF (keptL s.loose keep s.loose.length) (lastN tear) (lastS s.sync) (keptL s.loose keep i).length (s.loose.getD i (0, secS 0)).1).size = 64 := by
        rw [← ih]
        exact lastS_size (fun w hw => (crashF_whole (m := s.many) ht (fun w hw => hW.sync w hw) (fun w hw => hW.loose w hw) i (by omega) w hw).2) _
      by_cases he : (i : Int) = tornS s keep
      · rw [if_pos (hend.2 he)]
        by_cases h0 : 0 < tear
        · rw [if_pos ⟨he, h0⟩]
          unfold lastN
          rw [if_neg (by omega)]
        · rw [if_neg (fun h => h0 h.2)]
          have el : lastN tear = 64 := by unfold lastN; rw [if_pos (by omega)]
          rw [el] at hsz ⊢
          rw [tornB_64 hx.2 hsz]
      · rw [if_neg (fun h => he h.1), if_neg (fun h => he (hend.1 h)), tornB_64 hx.2 hsz]
    · rw [crashF, if_neg hk, ih, keptL, if_neg hk]
theorem crash_last {s : DS} {keep : List Bool} {tear : Nat} (hW : Whole s) (ht : tear ≤ 63) : lastS (crashF keep s.loose tear (tornS s keep) s.sync (tornS s keep + 1).toNat) = setF (keptL s.loose keep s.loose.length) (lastN tear) (lastS s.sync) (keptL s.loose keep s.loose.length).length := by
  rw [crash_set hW ht _ (Nat.le_refl _), ← keptL_torn]
end Go.Proofs.YtdanigigjainjaaGreat.Dk
namespace Go.Proofs.YtdanigigjainjaaGreat.Dk
open Go.RowKit Go.Shelf
set_option maxRecDepth 100000
set_option maxHeartbeats 1000000

set_option maxRecDepth 100000 in
set_option maxHeartbeats 1500000 in
theorem crash1_any {A k : Nat} {p : Option Addr} {keep : List Bool} {c : Nat} {w : World} (h : w.cell? ⟨A, 0, none⟩ = some (.slice p keep.length c)) (hk : Hid (BoolsAt w p keep)) (hkl : keep.length ≤ 9223372036854775807) :
    Calls Tryz.prog 61 #[.int .i64 k, .pointer (some ⟨A, 0, none⟩)] w fun r w' => r = .returned (.bool (keep.getD k false)) ∧ w = w' := by
  by_cases hlt : k < keep.length
  · have hd : decide ((k : Int) < keep.length) = true := decide_eq_true (by omega)
    obtain ⟨b, hb⟩ : ∃ b, keep[k]? = some b := ⟨_, List.getElem?_eq_getElem hlt⟩
    obtain ⟨B, off, rfl, hc⟩ := hk.out k b hb
    have e : keep.getD k false = b := by rw [List.getD_eq_getElem?_getD, hb]; rfl
    rw [e]
    clear e hb
    go_enter Tryz.func61, Tryz.ntmps61
    go_wp2
    all_goals first
      | (go_ret; exact ⟨rfl, rfl⟩)
      | skip
  · have hd : decide ((k : Int) < keep.length) = false := decide_eq_false (by omega)
    have e : keep.getD k false = false := by rw [List.getD_eq_getElem?_getD, List.getElem?_eq_none (by omega)]; rfl
    rw [e]
    clear e
    go_enter Tryz.func61, Tryz.ntmps61
    go_wp2
    all_goals first
      | (go_ret; exact ⟨rfl, rfl⟩)
      | skip
end Go.Proofs.YtdanigigjainjaaGreat.Dk
namespace Go.Proofs.YtdanigigjainjaaGreat.Dk
open Go.RowKit Go.Shelf
set_option maxRecDepth 100000
set_option maxHeartbeats 1000000

theorem wpList_row_write {ops : Array Oper} {rest : List Oper} {o : Oper} {a : Act} {w : World} {Q : Exit → Act → World → Prop} (hg : o.guard = none) (x : Operand) (ho : o.op = .buildSlice 87 1 #[(0, x)]) {k : Int} {c : ByteArray} (hc : c.size = 64) (hx : a.eval x = .agg (wV k c))
    (h : wpList Tryz.prog ops Q rest (a.put o.dst (.slice (some ⟨w.heap.size, 0, none⟩) 1 1)) (w.alloc (.cells (wV k c) 107))) : wpList Tryz.prog ops Q (o :: rest) a w := by
  refine wpList_plain hg fun K hK => ?_
  unfold Oper.wp execOp
  have e : (#[(0, x)] : Array (Nat × Operand)).map (fun (i, x) => (i, a.eval x)) = #[(0, .agg (wV k c))] := by simp [hx]
  simp only [ho, Sem.run_bind, e, run_row_write hc, Result.andThen_ok]
  exact hK _ _ h
theorem ownsRow_raise {w : World} {b b' : Nat} {e : TypeId} {size : Nat} {v : Value} {n : Nat} {xs : List Value} (h : w.ownsRow b e size v n xs) (hb : ∀ j, v.ownBlock = some j → b' ≤ j) : w.ownsRow b' e size v n xs := by
  refine ⟨h.1, ?_⟩
  rcases h.2 with h | ⟨g, cap, cur, rfl, hg, rest⟩
  · exact .inl h
  · exact .inr ⟨g, cap, cur, rfl, hb g rfl, rest⟩
set_option maxRecDepth 100000 in
set_option maxHeartbeats 2000000 in
theorem asked_any {A : Nat} {p : Option Addr} {keep : List Bool} {c : Nat} {w : World} (hbox : w.cell? ⟨A, 0, none⟩ = some (.slice p keep.length c)) (hk : Hid (BoolsAt w p keep)) (hkl : keep.length ≤ 9223372036854775807) {q : Option Addr} {cap : Nat} {l : List (Nat × ByteArray)} (hr : w.ownsRow 0 107 65 (.slice q l.length cap) l.length (wcs l)) (hl : ∀ x ∈ l, x.2.size = 64) (hlen : l.length ≤ 20000) :
    Calls Tryz.prog 60 #[.slice q l.length cap, .func (.func 61) #[] #[.pointer (some ⟨A, 0, none⟩)]] w fun r w' => ∃ u, r = .returned u ∧ w'.ownsRow w.heap.size 107 65 u (keptL l keep l.length).length (wcs (keptL l keep l.length)) ∧ Below w.heap.size w w' := by
  have HR := Lib.hid hr
  have HLs := Lib.hid hl
  have HBX := Lib.hid hbox
  clear hr hl hbox
  go_enter Tryz.func60, Tryz.ntmps60
  go_wp2
  go_loopw [5, 10] (fun y i wr => ∃ k : Nat, k ≤ l.length ∧ i = .int .i64 k ∧ Hid (wr.ownsRow w.heap.size 107 65 y (keptL l keep k).length (wcs (keptL l keep k))) ∧ Hid (Below w.heap.size w wr)) (fun y i _ => (l.length - intOf i).toNat)
  case atStart => exact ⟨0, Nat.zero_le _, by first | rfl | go_num, Lib.hid ⟨rfl, .inl ⟨rfl, rfl⟩⟩, Lib.hid (Below.refl _ _)⟩
  case round =>
    obtain ⟨k, hk2, rfl, RY, B⟩ := hrel
    by_cases hlt : k < l.length
    · obtain ⟨x, hx⟩ : ∃ x, l[k]? = some x := ⟨_, List.getElem?_eq_getElem hlt⟩
      have hx2 := HLs.out x (List.mem_of_getElem? hx)
      obtain ⟨g, cap', e1, hrow⟩ : ∃ g cap', Value.slice q l.length cap = .slice (some ⟨g, 0, none⟩) l.length cap' ∧ ∀ j v, (Value.int .i64 (x.1 : Int) :: bL x.2)[j]? = some v → wr.cell? ⟨g, k * 65 + j, none⟩ = some v := by
        rcases HR.out.2 with ⟨e, h0⟩ | ⟨g, cap', cur, e, -, hg, rest⟩
        · omega
        · refine ⟨g, cap', e, fun j u hu => ?_⟩
          have hr2 := HR.out
          rw [e] at hr2
          exact below_kept B.out _ _ (row_cells hr2 HLs.out hx j u hu)
      injection e1 with e1 _ e3
      subst e1 e3
      have HRW := Lib.hid hrow
      clear hrow
      have hgd : l.getD k (0, secS 0) = x := by rw [List.getD_eq_getElem?_getD, hx]; rfl
      have HG := Lib.hid hgd
      clear hx hgd
      obtain ⟨at', b⟩ := x
      replace hx2 : b.size = 64 := hx2
      have B1 : Below w.heap.size w (wr.alloc (.cells (wV at' b) 107)) := B.out.alloc B.out.size _
      have C := Lib.hid (crash1_any (k := k) (below_kept B1 _ _ HBX.out) (Lib.hid (hk.out.below B1)) hkl)
      have HB1 := Lib.hid B1
      clear B1
      cases hkk : keep.getD k false
      · rw [hkk] at C
        have e : keptL l keep (k + 1) = keptL l keep k := by rw [keptL, hkk]; rfl
        have HE := Lib.hid e
        clear e hkk
        go_wp2_with (first
          | (refine wpList_load_write rfl _ rfl rfl hx2 HRW.out ?_)
          | (refine wpList_store_row rfl 107 _ _ rfl wr.heap.size (wV at' b) rfl rfl 107 _ (heap_alloc_new wr _) (by rw [wV_size hx2]; kernel_rfl) (by rw [wV_size hx2]; kernel_rfl) (wV_one _ _) ?_; rw [World.setRow_alloc_new])
          | (go_at_call 61; (with_reducible refine C.out.mono ?_); rintro e w2 ⟨rfl, rfl⟩)
          | fail)
        refine ⟨⟨k + 1, hlt, by first | rfl | go_num, Lib.hid ?_, Lib.hid HB1.out⟩, by simp [intOf]; omega⟩
        rw [HE.out]
        exact ownsRow_kept RY.out (fun j hj => Below.heap_alloc wr _ j (RY.out.lt j hj).2)
      · rw [hkk] at C
        have e : keptL l keep (k + 1) = keptL l keep k ++ [(at', b)] := by rw [keptL, hkk, HG.out]; rfl
        have HE := Lib.hid e
        clear e hkk
        have L0 : ∀ j v, (Value.int .i64 (at' : Int) :: bL b)[j]? = some v → (wr.alloc (.cells (wV at' b) 107)).cell? ⟨wr.heap.size, 0 + j, none⟩ = some v := fun j v hv => by
          rw [Nat.zero_add, cell_of_row (wr.alloc (.cells (wV at' b) 107)) wr.heap.size j _ 107 (0, 0) (heap_alloc_new wr _)]
          simpa [wV] using hv
        have HL0 := Lib.hid L0
        clear L0
        have RZ : Hid (((wr.alloc (.cells (wV at' b) 107)).alloc (.cells (wV at' b) 107)).ownsRow 0 107 65 _ (keptL l keep k).length (wcs (keptL l keep k))) := Lib.hid (ownsRow_base (ownsRow_kept RY.out (fun j hj => (Below.heap_alloc _ _ j (by have := (RY.out.lt j hj).2; simp; omega)).trans (Below.heap_alloc wr _ j (RY.out.lt j hj).2))) (Nat.zero_le _))
        have HN : (keptL l keep k).length ≤ 100000 := by have := keptL_length (l := l) (keep := keep) k; omega
        go_wp2_with (first
          | (refine wpList_load_write rfl _ rfl rfl hx2 HRW.out ?_)
          | (refine wpList_store_row rfl 107 _ _ rfl wr.heap.size (wV at' b) rfl rfl 107 _ (heap_alloc_new wr _) (by rw [wV_size hx2]; kernel_rfl) (by rw [wV_size hx2]; kernel_rfl) (wV_one _ _) ?_; rw [World.setRow_alloc_new])
          | (go_at_call 61; (with_reducible refine C.out.mono ?_); rintro e w2 ⟨rfl, rfl⟩)
          | (refine wpList_load_write rfl _ rfl rfl hx2 HL0.out ?_)
          | (refine wpList_row_write rfl _ rfl hx2 rfl ?_)
          | (at_builtin; go_frame; refine wpList_append_write rfl _ _ rfl rfl RZ.out rfl hx2 (heap_alloc_new _ _) HN ?_; intro v' w2 hr2 hg2 hj2)
          | fail)
        refine ⟨⟨k + 1, hlt, by first | rfl | go_num, Lib.hid ?_, Lib.hid ?_⟩, by simp [intOf]; omega⟩
        · rw [HE.out, List.length_append, List.length_singleton]
          refine ownsRow_raise hr2 (fun j hj => ?_)
          rcases hj2 j hj with h | h
          · exact ownsRow_new RY.out j h
          · have := B.out.size
            simp at h
            omega
        · exact (HB1.out.alloc HB1.out.size _).grown hg2 (by have := HB1.out.size; simp at this ⊢; omega) (fun j hj => ownsRow_new RY.out j hj)
    · obtain rfl : k = l.length := by omega
      go_wp2
      go_ret
      exact ⟨_, rfl, RY.out, B.out⟩
end Go.Proofs.YtdanigigjainjaaGreat.Dk
namespace Go.Proofs.YtdanigigjainjaaGreat.Dk
open Go.RowKit Go.Shelf
set_option maxRecDepth 100000
set_option maxHeartbeats 1000000

theorem ref_crash (A A' : Nat) (tear : Int) (s : DS) (keep : List Bool) : refE [qBelow A tear, qAbove A' tear] = (crashS s tear keep).2 := by
  rw [refE_if (p := tear < 0) rfl, refE_if (p := 64 ≤ tear) rfl]
  unfold crashS
  by_cases h1 : tear < 0
  · rw [if_pos h1, if_pos (.inl h1)]; rfl
  · rw [if_neg h1]
    by_cases h2 : 64 ≤ tear
    · rw [if_pos h2, if_pos (.inr (by omega))]; rfl
    · rw [if_neg h2, if_neg (by omega)]; rfl
theorem crash_end {w : World} {B b1 b2 : Nat} {v : Value} {m : Nat} {S' L : List (Nat × ByteArray)} {n : Int} (h : DiskAt w B b1 b2 v ⟨m, S', L, n⟩) : DiskAt ((w.setCell ⟨B, 4, none⟩ (.bool false)).setCell ⟨B, 5, none⟩ (.int .i64 0)) B b1 b2 v ⟨m, S', L, -1⟩ ∧ Apart (fun j => j = B) w ((w.setCell ⟨B, 4, none⟩ (.bool false)).setCell ⟨B, 5, none⟩ (.int .i64 0)) := by
  have e1 := heap_setCell_same w B 4 _ 91 (.bool false) h.cells
  refine ⟨h.turn (-1) (by omega) ?_ (fun k hk => by rw [heap_setCell_other _ _ _ _ (by exact hk), heap_setCell_other _ _ _ _ (by exact hk)]), (apart_set w B 4 _).trans (apart_set _ B 5 _) (fun j hj => .inl hj)⟩
  rw [heap_setCell_same _ B 5 _ 91 _ e1]
  rfl
set_option maxRecDepth 100000 in
set_option maxHeartbeats 2000000 in
theorem dcrash_any {w : World} {d : Value} {s : DS} {F : Nat → Prop} (tear : Int) (p : Option Addr) (keep : List Bool) (cap : Nat) (h : RepD w d s F) (hW : Whole s) (hF : Few s) (hkl : keep.length ≤ 9223372036854775807) (hin : BoolsAt w p keep) :
    Calls Tryz.prog 26 #[d, .int .i64 tear, .slice p keep.length cap] w fun r w' => r = .returned (.int .i64 (crashS s tear keep).2) ∧ Goes RepD d (crashS s tear keep).1 F w w' := by
  obtain ⟨B, b1, b2, v, rfl, h, rfl⟩ := h
  have hm := hW.many.1
  have B0 : Below w.heap.size w (w.alloc (.cells #[.slice p keep.length cap] 64)) := (Below.refl _ _).alloc (Nat.le_refl _) _
  have x0 : (w.alloc (.cells #[.slice p keep.length cap] 64)).cell? ⟨w.heap.size, 0, none⟩ = some (.slice p keep.length cap) := by go_cell
  have HIN := Lib.hid hin
  clear hin
  go_enter Tryz.func26, Tryz.ntmps26
  go_wp2_with fail
  generalize hw0 : w.alloc (.cells #[.slice p keep.length cap] 64) = w0 at *
  clear hw0
  refine (below_any2 _ _).mono ?_
  rintro e wa ⟨rfl, a0, Ba⟩
  go_wp2_with fail
  refine (above_any2 _ _).mono ?_
  rintro e wb ⟨rfl, a1, Bb⟩
  go_wp2_with fail
  have hB := kbP (kbP B0 Ba) Bb
  refine (refuse2 (q1 := qBelow w0.heap.size tear) (q2 := qAbove wa.heap.size tear) (h.below hB) hm (qBelow_ok (below_kept Bb _ _ a0)) (qAbove_ok a1)).mono ?_
  rintro e wc ⟨rfl, Bc⟩
  rw [ref_crash _ _ _ s keep]
  have hC := kbP hB Bc
  have hD := h.below hC
  have X0 : wc.cell? ⟨w.heap.size, 0, none⟩ = some (.slice p keep.length cap) := below_kept (kbP (kbP Ba Bb) Bc) _ _ x0
  clear a0 a1
  by_cases h0 : tear < 0 ∨ 63 < tear
  · have e : crashS s tear keep = (s, 2) := by unfold crashS; rw [if_pos h0]
    rw [e]
    go_wp2_with fail
    go_ret
    rw [e]
    exact ⟨rfl, goes_at hD (fun j hj => .inl hj) (Below.apart hC _)⟩
  · obtain ⟨t, rfl⟩ : ∃ t : Nat, tear = t := ⟨tear.toNat, by omega⟩
    have ht : t ≤ 63 := by omega
    have e : crashS s t keep = (⟨s.many, crashF keep s.loose t (tornS s keep) s.sync (tornS s keep + 1).toNat, [], -1⟩, 0) := by
      unfold crashS
      rw [if_neg h0, Int.toNat_natCast]
    rw [e]
    have HE := Lib.hid e
    clear e h0
    obtain ⟨q, c, rfl⟩ : ∃ q c, v = .slice q s.loose.length c := by
      rcases h.row.2 with ⟨e, h0⟩ | ⟨g, cap', cur, e, -⟩
      · exact ⟨none, 0, by rw [e, h0]⟩
      · exact ⟨_, _, e⟩
    obtain ⟨-, -, -, c3, -, -⟩ := hD.cell
    have AS := Lib.hid (asked_any (A := w.heap.size) X0 (Lib.hid (HIN.out.below hC)) hkl hD.row (fun x hx => (hW.loose x hx).2) hF.2)
    have ST : Hid (∀ (wd : World) (n : Nat) (q' : Option Addr) (c' : Nat), n = lastN t → Below wc.heap.size wc wd → wd.ownsRow wc.heap.size 107 65 (.slice q' (keptL s.loose keep s.loose.length).length c') (keptL s.loose keep s.loose.length).length (wcs (keptL s.loose keep s.loose.length)) →
        Calls Tryz.prog 59 #[.pointer (some ⟨B, 0, none⟩), .slice q' (keptL s.loose keep s.loose.length).length c', .int .i64 n] wd fun r w' => r = .returned (.tuple #[]) ∧ DiskAt w' B b1 b2 (.slice none 0 0) ⟨s.many, crashF keep s.loose t (tornS s keep) s.sync (tornS s keep + 1).toNat, [], s.left⟩ ∧ Apart (fun j => j = B ∨ j = b1 ∨ j = b2) wd w') := Lib.hid fun wd n q' c' hn hb hr => by
      subst hn
      refine settle_any (hD.below hb) hW hF (ownsRow_base hr (Nat.zero_le _)) (fun x hx => hW.loose x (keptL_mem (Nat.le_refl _) x hx)) (by have := keptL_length (l := s.loose) (keep := keep) s.loose.length; have := hF.2; omega) (lastN t) (by unfold lastN; split <;> omega) _ (fun k _ => by rw [crash_last hW ht]) (fun x hx => ⟨x, keptL_mem (Nat.le_refl _) x hx, rfl⟩)
    clear hF hW
    by_cases hz : t = 0
    · have hq : ((t : Int) == 0) = true := by simp [hz]
      have hn : (64 : Nat) = lastN t := by unfold lastN; rw [if_pos hz]
      have HN := Lib.hid hn
      clear hn hz
      go_wp2_with (first
        | (go_at_call 60; (with_reducible refine AS.out.mono ?_); rintro e wd ⟨u, rfl, hru, Bd⟩; obtain ⟨q', c', rfl⟩ : ∃ q' c', u = .slice q' (keptL s.loose keep s.loose.length).length c' := by (rcases hru.2 with ⟨e, h0⟩ | ⟨g, cap', cur, e, -⟩; exact ⟨none, 0, by rw [e, h0]⟩; exact ⟨_, _, e⟩))
        | (go_at_call 59; refine (ST.out wd 64 q' c' HN.out Bd hru).mono ?_; rintro e we ⟨rfl, De, Ae⟩; have f4 := De.frozen 4; have f5 := De.frozen 5; obtain ⟨-, -, -, -, y4, y5⟩ := De.cell)
        | fail)
      go_ret
      rw [HE.out]
      obtain ⟨D5, A5⟩ := crash_end De
      exact ⟨rfl, goes_at D5 (fun j hj => by cases hj) (apart_foot ((((Below.apart (kbP hC Bd) _).trans Ae (fun j hj => .inl hj)).trans A5 (fun j hj => .inl (.inl hj)))))⟩
    · have hq : ((t : Int) == 0) = false := by simp [hz]
      have hn : t = lastN t := by unfold lastN; rw [if_neg hz]
      have HN := Lib.hid hn
      clear hn hz
      go_wp2_with (first
        | (go_at_call 60; (with_reducible refine AS.out.mono ?_); rintro e wd ⟨u, rfl, hru, Bd⟩; obtain ⟨q', c', rfl⟩ : ∃ q' c', u = .slice q' (keptL s.loose keep s.loose.length).length c' := by (rcases hru.2 with ⟨e, h0⟩ | ⟨g, cap', cur, e, -⟩; exact ⟨none, 0, by rw [e, h0]⟩; exact ⟨_, _, e⟩))
        | (go_at_call 59; refine (ST.out wd t q' c' HN.out Bd hru).mono ?_; rintro e we ⟨rfl, De, Ae⟩; have f4 := De.frozen 4; have f5 := De.frozen 5; obtain ⟨-, -, -, -, y4, y5⟩ := De.cell)
        | fail)
      go_ret
      rw [HE.out]
      obtain ⟨D5, A5⟩ := crash_end De
      exact ⟨rfl, goes_at D5 (fun j hj => by cases hj) (apart_foot ((((Below.apart (kbP hC Bd) _).trans Ae (fun j hj => .inl hj)).trans A5 (fun j hj => .inl (.inl hj)))))⟩
end Go.Proofs.YtdanigigjainjaaGreat.Dk
namespace Go.Proofs.YtdanigigjainjaaGreat.Dk
open Go.RowKit Go.Shelf
set_option maxRecDepth 100000
set_option maxHeartbeats 1000000

set_option maxRecDepth 100000 in
set_option maxHeartbeats 3000000 in
theorem mclone_run (b : Nat) (es : Array MapEntry) (clock : Nat) (w : World) (hb : w.heap[b]? = some (.map es clock)) :
    Calls Tryz.prog 81 #[.map (some b)] w fun e w' => e = .returned (.map (some w.heap.size)) ∧ w' = w.alloc (.map es clock) := by
  have hq := fun w => run_eql_map_nil_sl (P := Tryz.prog) w 83 _ _ (some b) Tryz.underlying83
  go_enter Tryz.func81, Tryz.ntmps81
  go_wp2
  rw [run_callFunc_extern Tryz.func74 (by kernel_rfl) (by kernel_rfl) (by kernel_rfl) (e := Extern.MapsClone.clone) (by kernel_rfl), run_maps_clone_sl w 83 hb]
  simp only [Result.andThen]
  rw [Oper.upon_value]
  go_wp2
  rw [run_typeAssert_map_sl _ 83 20 _ _ _ Tryz.underlying83]
  simp only [Result.andThen]
  rw [Oper.upon_value]
  go_wp2
  go_ret
  exact ⟨rfl, rfl⟩
theorem mclone_any {b m : Nat} {f : Nat → ByteArray} {w : World} (h : MapIs w b m f) :
    Calls Tryz.prog 81 #[.map (some b)] w fun e w' => e = .returned (.map (some w.heap.size)) ∧ MapIs w' w.heap.size m f ∧ Below w.heap.size w w' ∧ w'.heap.size = w.heap.size + 1 := by
  obtain ⟨D, ⟨es, clock, hb, F, hs, hD⟩, hd⟩ := h.own
  refine (mclone_run b es clock w hb).mono ?_
  rintro e w' ⟨rfl, rfl⟩
  exact ⟨rfl, ⟨h.le, h.size, D, ⟨es, clock, heap_alloc_new w _, F, hs, hD⟩, hd⟩, (Below.refl _ _).alloc (Nat.le_refl _) _, by simp⟩
set_option maxRecDepth 100000 in
set_option maxHeartbeats 3000000 in
theorem clone_any {b m : Nat} {f : Nat → ByteArray} {w : World} (h : MapIs w b m f) :
    Calls Tryz.prog 54 #[.agg #[.map (some b)]] w fun e w' => ∃ b', e = .returned (.agg #[.map (some b')]) ∧ w.heap.size ≤ b' ∧ MapIs w' b' m f ∧ Below w.heap.size w w' := by
  have B2 : Below w.heap.size w ((w.alloc (.cells #[.map (some b)] 85)).alloc (.cells #[.map none] 85)) := ((Below.refl _ _).alloc (Nat.le_refl _) _).alloc (by simp) _
  have C := Lib.hid (mclone_any (h.below B2))
  go_enter Tryz.func54, Tryz.ntmps54
  go_wp2_with fail
  refine C.out.mono ?_
  rintro e w2 ⟨rfl, M2, Bx, hs2⟩
  have l1 : w.heap.size + 1 < w2.heap.size := by simp at hs2; omega
  have f1 : w2.frozen? ⟨w.heap.size + 1, 0, none⟩ = false := (Bx.frozen (p := ⟨w.heap.size + 1, 0, none⟩) (by simp)).trans (by go_cell)
  have c1 : w2.cell? ⟨w.heap.size + 1, 0, none⟩ = some (.map none) := (Bx.cell (p := ⟨w.heap.size + 1, 0, none⟩) (by simp)).trans (by go_cell)
  have HM := Lib.hid M2
  have HB := Lib.hid (kbP B2 Bx)
  have e3 : ((w.alloc (.cells #[.map (some b)] 85)).alloc (.cells #[.map none] 85)).heap.size = w.heap.size + 2 := by simp
  rw [e3] at HM
  clear M2 Bx hs2 C B2 e3
  go_wp2_with fail
  refine bodyPost_ret (v := .agg #[.map (some (w.heap.size + 2))]) ?_ rfl ⟨_, rfl, by omega, HM.out.of_block (heap_setCell_other w2 _ _ _ (by simp)), HB.out.setCell (by simp) _⟩
  simp [results, Tryz.results54, go_sem, c1]
/-- A row of writes, copied. -/
theorem nil_slice (w : World) (a : Option Addr) (n c : Nat) : (binOp .eql 87 (.slice a n c) (.slice none 0 0)).run Tryz.prog w = .ok (.bool a.isNone) w := by
  simp only [binOp]
  rw [Sem.run_bind, run_equal_slice_nil w 87 107 a n c Tryz.underlying87]
  rfl
theorem row_empty (w : World) : (w.alloc (.cells #[] 107)).ownsRow w.heap.size 107 65 (.slice (some ⟨w.heap.size, 0, none⟩) 0 0) 0 [] :=
  ⟨rfl, .inr ⟨w.heap.size, 0, #[], rfl, Nat.le_refl _, heap_alloc_new _ _, Nat.le_refl _, by unfold maxLen; omega, rfl, rfl⟩⟩
set_option maxRecDepth 100000 in
set_option maxHeartbeats 3000000 in
theorem sclone_any {w : World} {v : Value} {l : List (Nat × ByteArray)} (h : w.ownsRow 0 107 65 v l.length (wcs l)) (hl : l.length ≤ 100000) :
    Calls Tryz.prog 55 #[v] w fun e w' => ∃ u, e = .returned u ∧ w'.ownsRow w.heap.size 107 65 u l.length (wcs l) ∧ Below w.heap.size w w' := by
  have qn := nil_slice
  rcases h.2 with ⟨rfl, h0⟩ | ⟨g, cap, cur, rfl, -, hg, hn, hcm, hcs, htake⟩
  · have : l = [] := List.eq_nil_of_length_eq_zero h0
    subst this
    go_enter Tryz.func55, Tryz.ntmps55
    go_wp2
    go_ret
    exact ⟨_, rfl, ⟨rfl, .inl ⟨rfl, rfl⟩⟩, Below.refl _ _⟩
  · have B1 : Below w.heap.size w (w.alloc (.cells #[] 107)) := (Below.refl _ _).alloc (Nat.le_refl _) _
    have hr : (w.alloc (.cells #[] 107)).ownsRow 0 107 65 (.slice (some ⟨g, 0, none⟩) l.length cap) l.length (wcs l) := ownsRow_kept h (fun j hj => Below.heap_alloc w _ j (h.lt j hj).2)
    have hnews := Lib.hid (fun j u hu => hr.cells (g := g) rfl j u hu)
    have hlen := Lib.hid h.1
    have RE := Lib.hid (row_empty w)
    obtain ⟨i, hi, hz0, hz1, hz2⟩ := info_parts info78
    have hz : (Value.agg z78).cells.size = 65 := by simp [Value.cells, z78]
    clear hr h hg hcs htake
    go_enter Tryz.func55, Tryz.ntmps55
    go_wp2_with (first
      | (at_builtin; (try go_frame); refine wpList_append_own _ rfl _ _ 87 rfl w.heap.size 107 i (.agg z78) 65 72 Tryz.underlying87 hi hz0 hz1 hz2 hz (by omega) _ _ _ rfl RE.out ⟨g, 0, none⟩ l.length cap (wcs l) rfl hlen.out hnews.out (wcs_one l) (by unfold maxLen; omega) (by omega) (by simp) ?_; intro v' w2 hr2 hg2 _)
      | fail)
    go_ret
    refine ⟨_, rfl, ?_, B1.grown hg2 (by simp) (fun j hj => by cases hj; exact Nat.le_refl _)⟩
    simpa using hr2
end Go.Proofs.YtdanigigjainjaaGreat.Dk
namespace Go.Proofs.YtdanigigjainjaaGreat.Dk
open Go.RowKit Go.Shelf
set_option maxRecDepth 100000
set_option maxHeartbeats 1000000

theorem row_form {w : World} {b : Nat} {e : TypeId} {size : Nat} {v : Value} {n : Nat} {xs : List Value} (h : w.ownsRow b e size v n xs) : ∃ q c, v = .slice q n c := by
  rcases h.2 with ⟨e, h0⟩ | ⟨g, cap', cur, e, -⟩
  · exact ⟨none, 0, by rw [e, h0]⟩
  · exact ⟨_, _, e⟩
set_option maxRecDepth 100000 in
set_option maxHeartbeats 2000000 in
theorem dcopy_any {wc : World} {d : Value} {s : DS} {F : Nat → Prop} (h : RepD wc d s F) (hW : Whole s) (hF : Few s) :
    Calls Tryz.prog 24 #[d] wc fun r w' => ∃ d' F', r = .returned d' ∧ RepD w' d' s F' ∧ (∀ k, F' k → wc.heap.size ≤ k) ∧ Below wc.heap.size wc w' := by
  obtain ⟨B, b1, b2, v, rfl, h, rfl⟩ := h
  have HD := Lib.hid h
  have HN : Hid (s.loose.length ≤ 100000) := Lib.hid (by have := hF.2; omega)
  have C := none_any h.cell.2.2.1 (by have := hW.many.1; omega)
  clear h hW hF
  go_enter Tryz.func24, Tryz.ntmps24
  go_wp2_with (first
    | (go_at_call 53; refine C.mono ?_; rintro e w' ⟨rfl, rfl⟩)
    | fail)
  refine wp_region_held_drew (S := fun w' => Below wc.heap.size wc w') (by kernel_rfl) (Below.refl _ _).drew (fun H0 => ?_)
  refine wpAnyH_take (i := 0) (oi := { dst := some 5, op := Go.Op.move (Go.Operand.tmp 0), type := 24, pos := "disk.go:124", after := #[], guard := none }) (v := ?_) rfl (by kernel_rfl) (by kernel_rfl) (by kernel_rfl) (fun _ _ _ h => h) (Or.inl ⟨by rfl, ?_⟩) H0 ?_
  rotate_left
  focus (intro w' hSw; (try dsimp only at hSw); go_simp; (try with_reducible rfl))
  simp only [Act.put, List.setIfInBounds_toArray, List.set_cons_zero, List.set_cons_succ]
  refine wpAnyH_take (i := 1) (oi := { dst := some 6, op := Go.Op.nilCheck (Go.Operand.tmp 5), type := 0, pos := "disk.go:124", after := #[{ on := 0, ground := Go.Ground.data }], guard := none }) (v := ?_) rfl (by kernel_rfl) (by kernel_rfl) (by kernel_rfl) (fun _ _ _ h => h) (Or.inl ⟨by rfl, ?_⟩) H0 ?_
  rotate_left
  focus (intro w' hSw; (try dsimp only at hSw); go_simp; (try with_reducible rfl))
  simp only [Act.put, List.setIfInBounds_toArray, List.set_cons_zero, List.set_cons_succ]
  refine wpAnyH_take (i := 2) (oi := { dst := some 7, op := Go.Op.fieldAddr 91 (Go.Operand.tmp 6) 0, type := 0, pos := "disk.go:124", after := #[{ on := 1, ground := Go.Ground.data }], guard := none }) (v := ?_) rfl (by kernel_rfl) (by kernel_rfl) (by kernel_rfl) (fun _ _ _ h => h) (Or.inl ⟨by rfl, ?_⟩) H0 ?_
  rotate_left
  focus (intro w' hSw; (try dsimp only at hSw); go_simp; (try with_reducible rfl))
  simp only [Act.put, List.setIfInBounds_toArray, List.set_cons_zero, List.set_cons_succ]
  refine wpAnyH_take (i := 3) (oi := { dst := some 8, op := Go.Op.load 85 (Go.Operand.tmp 7), type := 85, pos := "disk.go:124", after := #[{ on := 2, ground := Go.Ground.data }], guard := none }) (v := ?_) rfl (by kernel_rfl) (by kernel_rfl) (by kernel_rfl) (fun _ _ _ h => h) (Or.inl ⟨by rfl, ?_⟩) H0 ?_
  rotate_left
  focus (intro w' hSw; (try dsimp only at hSw); obtain ⟨c0, c1, c2, c3, c4, c5⟩ := (HD.out.below hSw).cell; go_simp; (try with_reducible rfl))
  simp only [Act.put, List.setIfInBounds_toArray, List.set_cons_zero, List.set_cons_succ]
  refine wpAnyH_take (i := 5) (oi := { dst := some 10, op := Go.Op.move (Go.Operand.tmp 0), type := 24, pos := "disk.go:124", after := #[], guard := none }) (v := ?_) rfl (by kernel_rfl) (by kernel_rfl) (by kernel_rfl) (fun _ _ _ h => h) (Or.inl ⟨by rfl, ?_⟩) H0 ?_
  rotate_left
  focus (intro w' hSw; (try dsimp only at hSw); go_simp; (try with_reducible rfl))
  simp only [Act.put, List.setIfInBounds_toArray, List.set_cons_zero, List.set_cons_succ]
  refine wpAnyH_take (i := 6) (oi := { dst := some 11, op := Go.Op.nilCheck (Go.Operand.tmp 10), type := 0, pos := "disk.go:124", after := #[{ on := 5, ground := Go.Ground.data }], guard := none }) (v := ?_) rfl (by kernel_rfl) (by kernel_rfl) (by kernel_rfl) (fun _ _ _ h => h) (Or.inl ⟨by rfl, ?_⟩) H0 ?_
  rotate_left
  focus (intro w' hSw; (try dsimp only at hSw); go_simp; (try with_reducible rfl))
  simp only [Act.put, List.setIfInBounds_toArray, List.set_cons_zero, List.set_cons_succ]
  refine wpAnyH_take (i := 7) (oi := { dst := some 12, op := Go.Op.fieldAddr 91 (Go.Operand.tmp 11) 1, type := 0, pos := "disk.go:124", after := #[{ on := 6, ground := Go.Ground.data }], guard := none }) (v := ?_) rfl (by kernel_rfl) (by kernel_rfl) (by kernel_rfl) (fun _ _ _ h => h) (Or.inl ⟨by rfl, ?_⟩) H0 ?_
  rotate_left
  focus (intro w' hSw; (try dsimp only at hSw); go_simp; (try with_reducible rfl))
  simp only [Act.put, List.setIfInBounds_toArray, List.set_cons_zero, List.set_cons_succ]
  refine wpAnyH_take (i := 8) (oi := { dst := some 13, op := Go.Op.load 85 (Go.Operand.tmp 12), type := 85, pos := "disk.go:124", after := #[{ on := 7, ground := Go.Ground.data }], guard := none }) (v := ?_) rfl (by kernel_rfl) (by kernel_rfl) (by kernel_rfl) (fun _ _ _ h => h) (Or.inl ⟨by rfl, ?_⟩) H0 ?_
  rotate_left
  focus (intro w' hSw; (try dsimp only at hSw); obtain ⟨c0, c1, c2, c3, c4, c5⟩ := (HD.out.below hSw).cell; go_simp; (try with_reducible rfl))
  simp only [Act.put, List.setIfInBounds_toArray, List.set_cons_zero, List.set_cons_succ]
  refine wpAnyH_take (i := 10) (oi := { dst := some 15, op := Go.Op.move (Go.Operand.tmp 0), type := 24, pos := "disk.go:124", after := #[], guard := none }) (v := ?_) rfl (by kernel_rfl) (by kernel_rfl) (by kernel_rfl) (fun _ _ _ h => h) (Or.inl ⟨by rfl, ?_⟩) H0 ?_
  rotate_left
  focus (intro w' hSw; (try dsimp only at hSw); go_simp; (try with_reducible rfl))
  simp only [Act.put, List.setIfInBounds_toArray, List.set_cons_zero, List.set_cons_succ]
  refine wpAnyH_take (i := 11) (oi := { dst := some 16, op := Go.Op.nilCheck (Go.Operand.tmp 15), type := 0, pos := "disk.go:124", after := #[{ on := 10, ground := Go.Ground.data }], guard := none }) (v := ?_) rfl (by kernel_rfl) (by kernel_rfl) (by kernel_rfl) (fun _ _ _ h => h) (Or.inl ⟨by rfl, ?_⟩) H0 ?_
  rotate_left
  focus (intro w' hSw; (try dsimp only at hSw); go_simp; (try with_reducible rfl))
  simp only [Act.put, List.setIfInBounds_toArray, List.set_cons_zero, List.set_cons_succ]
  refine wpAnyH_take (i := 12) (oi := { dst := some 17, op := Go.Op.fieldAddr 91 (Go.Operand.tmp 16) 2, type := 0, pos := "disk.go:124", after := #[{ on := 11, ground := Go.Ground.data }], guard := none }) (v := ?_) rfl (by kernel_rfl) (by kernel_rfl) (by kernel_rfl) (fun _ _ _ h => h) (Or.inl ⟨by rfl, ?_⟩) H0 ?_
  rotate_left
  focus (intro w' hSw; (try dsimp only at hSw); go_simp; (try with_reducible rfl))
  simp only [Act.put, List.setIfInBounds_toArray, List.set_cons_zero, List.set_cons_succ]
  refine wpAnyH_take (i := 13) (oi := { dst := some 18, op := Go.Op.load 3 (Go.Operand.tmp 17), type := 3, pos := "disk.go:124", after := #[{ on := 12, ground := Go.Ground.data }], guard := none }) (v := ?_) rfl (by kernel_rfl) (by kernel_rfl) (by kernel_rfl) (fun _ _ _ h => h) (Or.inl ⟨by rfl, ?_⟩) H0 ?_
  rotate_left
  focus (intro w' hSw; (try dsimp only at hSw); obtain ⟨c0, c1, c2, c3, c4, c5⟩ := (HD.out.below hSw).cell; go_simp; (try with_reducible rfl))
  simp only [Act.put, List.setIfInBounds_toArray, List.set_cons_zero, List.set_cons_succ]
  refine wpAnyH_take (i := 14) (oi := { dst := some 19, op := Go.Op.move (Go.Operand.tmp 0), type := 24, pos := "disk.go:124", after := #[], guard := none }) (v := ?_) rfl (by kernel_rfl) (by kernel_rfl) (by kernel_rfl) (fun _ _ _ h => h) (Or.inl ⟨by rfl, ?_⟩) H0 ?_
  rotate_left
  focus (intro w' hSw; (try dsimp only at hSw); go_simp; (try with_reducible rfl))
  simp only [Act.put, List.setIfInBounds_toArray, List.set_cons_zero, List.set_cons_succ]
  refine wpAnyH_take (i := 15) (oi := { dst := some 20, op := Go.Op.nilCheck (Go.Operand.tmp 19), type := 0, pos := "disk.go:124", after := #[{ on := 14, ground := Go.Ground.data }], guard := none }) (v := ?_) rfl (by kernel_rfl) (by kernel_rfl) (by kernel_rfl) (fun _ _ _ h => h) (Or.inl ⟨by rfl, ?_⟩) H0 ?_
  rotate_left
  focus (intro w' hSw; (try dsimp only at hSw); go_simp; (try with_reducible rfl))
  simp only [Act.put, List.setIfInBounds_toArray, List.set_cons_zero, List.set_cons_succ]
  refine wpAnyH_take (i := 16) (oi := { dst := some 21, op := Go.Op.fieldAddr 91 (Go.Operand.tmp 20) 3, type := 0, pos := "disk.go:124", after := #[{ on := 15, ground := Go.Ground.data }], guard := none }) (v := ?_) rfl (by kernel_rfl) (by kernel_rfl) (by kernel_rfl) (fun _ _ _ h => h) (Or.inl ⟨by rfl, ?_⟩) H0 ?_
  rotate_left
  focus (intro w' hSw; (try dsimp only at hSw); go_simp; (try with_reducible rfl))
  simp only [Act.put, List.setIfInBounds_toArray, List.set_cons_zero, List.set_cons_succ]
  refine wpAnyH_take (i := 17) (oi := { dst := some 22, op := Go.Op.load 87 (Go.Operand.tmp 21), type := 87, pos := "disk.go:124", after := #[{ on := 16, ground := Go.Ground.data }], guard := none }) (v := ?_) rfl (by kernel_rfl) (by kernel_rfl) (by kernel_rfl) (fun _ _ _ h => h) (Or.inl ⟨by rfl, ?_⟩) H0 ?_
  rotate_left
  focus (intro w' hSw; (try dsimp only at hSw); obtain ⟨c0, c1, c2, c3, c4, c5⟩ := (HD.out.below hSw).cell; go_simp; (try with_reducible rfl))
  simp only [Act.put, List.setIfInBounds_toArray, List.set_cons_zero, List.set_cons_succ]
  refine wpAnyH_take (i := 19) (oi := { dst := some 24, op := Go.Op.move (Go.Operand.tmp 0), type := 24, pos := "disk.go:124", after := #[], guard := none }) (v := ?_) rfl (by kernel_rfl) (by kernel_rfl) (by kernel_rfl) (fun _ _ _ h => h) (Or.inl ⟨by rfl, ?_⟩) H0 ?_
  rotate_left
  focus (intro w' hSw; (try dsimp only at hSw); go_simp; (try with_reducible rfl))
  simp only [Act.put, List.setIfInBounds_toArray, List.set_cons_zero, List.set_cons_succ]
  refine wpAnyH_take (i := 20) (oi := { dst := some 25, op := Go.Op.nilCheck (Go.Operand.tmp 24), type := 0, pos := "disk.go:124", after := #[{ on := 19, ground := Go.Ground.data }], guard := none }) (v := ?_) rfl (by kernel_rfl) (by kernel_rfl) (by kernel_rfl) (fun _ _ _ h => h) (Or.inl ⟨by rfl, ?_⟩) H0 ?_
  rotate_left
  focus (intro w' hSw; (try dsimp only at hSw); go_simp; (try with_reducible rfl))
  simp only [Act.put, List.setIfInBounds_toArray, List.set_cons_zero, List.set_cons_succ]
  refine wpAnyH_take (i := 21) (oi := { dst := some 26, op := Go.Op.fieldAddr 91 (Go.Operand.tmp 25) 4, type := 0, pos := "disk.go:124", after := #[{ on := 20, ground := Go.Ground.data }], guard := none }) (v := ?_) rfl (by kernel_rfl) (by kernel_rfl) (by kernel_rfl) (fun _ _ _ h => h) (Or.inl ⟨by rfl, ?_⟩) H0 ?_
  rotate_left
  focus (intro w' hSw; (try dsimp only at hSw); go_simp; (try with_reducible rfl))
  simp only [Act.put, List.setIfInBounds_toArray, List.set_cons_zero, List.set_cons_succ]
  refine wpAnyH_take (i := 22) (oi := { dst := some 27, op := Go.Op.load 89 (Go.Operand.tmp 26), type := 89, pos := "disk.go:124", after := #[{ on := 21, ground := Go.Ground.data }], guard := none }) (v := ?_) rfl (by kernel_rfl) (by kernel_rfl) (by kernel_rfl) (fun _ _ _ h => h) (Or.inl ⟨by rfl, ?_⟩) H0 ?_
  rotate_left
  focus (intro w' hSw; (try dsimp only at hSw); obtain ⟨c0, c1, c2, c3, c4, c5⟩ := (HD.out.below hSw).cell; go_simp; (try with_reducible rfl))
  simp only [Act.put, List.setIfInBounds_toArray, List.set_cons_zero, List.set_cons_succ]
  refine wpAnyH_ready (rs := [4]) (by kernel_rfl) (by simp) ?_
  refine AllReadyH.cons (o := { dst := some 9, op := Go.Op.call { callee := Go.Callee.value (Go.Operand.func 54), args := #[Go.Operand.tmp 8], argTypes := #[85] }, type := 85, pos := "disk.go:124", after := #[{ on := 3, ground := Go.Ground.data }], guard := none }) rfl (fun K hK => ?_) ?_
  rotate_left
  exact AllReadyH.nil
  go_simp
  (go_at_call 54; refine (clone_any (HD.out.below H0).now).mono ?_; rintro e wa ⟨n1, rfl, hn1, M1, Ba⟩)
  try go_wp2_with fail
  refine hK.out _ _ (H0.trans (Ba.mono H0.size)) (fun H1 => ?_)
  clear hK K
  try simp only [Act.put, List.setIfInBounds_toArray, List.set_cons_zero, List.set_cons_succ]
  refine wpAnyH_ready (rs := [9]) (by kernel_rfl) (by simp) ?_
  refine AllReadyH.cons (o := { dst := some 14, op := Go.Op.call { callee := Go.Callee.value (Go.Operand.func 54), args := #[Go.Operand.tmp 13], argTypes := #[85] }, type := 85, pos := "disk.go:124", after := #[{ on := 8, ground := Go.Ground.data }, { on := 4, ground := Go.Ground.chain }], guard := none }) rfl (fun K hK => ?_) ?_
  rotate_left
  exact AllReadyH.nil
  go_simp
  (go_at_call 54; refine (clone_any (HD.out.below H1).sync).mono ?_; rintro e wb ⟨n2, rfl, hn2, M2, Bb⟩)
  try go_wp2_with fail
  refine hK.out _ _ (H1.trans (Bb.mono H1.size)) (fun H2 => ?_)
  clear hK K
  try simp only [Act.put, List.setIfInBounds_toArray, List.set_cons_zero, List.set_cons_succ]
  refine wpAnyH_ready (rs := [18]) (by kernel_rfl) (by simp) ?_
  refine AllReadyH.cons (o := { dst := some 23, op := Go.Op.call { callee := Go.Callee.value (Go.Operand.func 55), args := #[Go.Operand.tmp 22], argTypes := #[87] }, type := 87, pos := "disk.go:124", after := #[{ on := 17, ground := Go.Ground.data }, { on := 9, ground := Go.Ground.chain }], guard := none }) rfl (fun K hK => ?_) ?_
  rotate_left
  exact AllReadyH.nil
  go_simp
  (go_at_call 55; refine (sclone_any (HD.out.below H2).row HN.out).mono ?_; rintro e we ⟨u, rfl, hu, Be⟩; obtain ⟨qu, cu, rfl⟩ : ∃ q' c', u = .slice q' s.loose.length c' := row_form hu)
  try go_wp2_with fail
  refine hK.out _ _ (H2.trans (Be.mono H2.size)) (fun H3 => ?_)
  clear hK K
  try simp only [Act.put, List.setIfInBounds_toArray, List.set_cons_zero, List.set_cons_succ]
  refine wpAnyH_take (i := 23) (oi := { dst := some 28, op := Go.Op.build 91 #[(0, Go.Operand.tmp 9), (1, Go.Operand.tmp 14), (2, Go.Operand.tmp 18), (3, Go.Operand.tmp 23), (4, Go.Operand.tmp 27)], type := 91, pos := "disk.go:124", after := #[{ on := 4, ground := Go.Ground.data }, { on := 9, ground := Go.Ground.data }, { on := 13, ground := Go.Ground.data }, { on := 18, ground := Go.Ground.data }, { on := 22, ground := Go.Ground.data }], guard := none }) (v := ?_) rfl (by kernel_rfl) (by kernel_rfl) (by kernel_rfl) (fun _ _ _ h => h) (Or.inl ⟨by rfl, ?_⟩) H3 ?_
  rotate_left
  focus (intro w' hSw; (try dsimp only at hSw); go_simp; (try with_reducible rfl))
  simp only [Act.put, List.setIfInBounds_toArray, List.set_cons_zero, List.set_cons_succ]
  refine wpAnyH_ready (rs := [24]) (by kernel_rfl) (by simp) ?_
  refine AllReadyH.cons (o := { dst := some 29, op := Go.Op.box 91 (Go.Operand.tmp 28), type := 24, pos := "disk.go:124", after := #[{ on := 23, ground := Go.Ground.data }], guard := none }) rfl (fun K hK => ?_) ?_
  rotate_left
  exact AllReadyH.nil
  go_simp
  try go_wp2_with fail
  refine hK.out _ _ (H3.alloc H3.size _) (fun H4 => ?_)
  clear hK K
  try simp only [Act.put, List.setIfInBounds_toArray, List.set_cons_zero, List.set_cons_succ]
  refine wpAnyH_take (i := 25) (oi := { dst := some 2, op := Go.Op.assign (Go.Operand.tmp 29), type := 24, pos := "disk.go:124", after := #[{ on := 24, ground := Go.Ground.data }, { on := 18, ground := Go.Ground.chain }, { on := 0, ground := Go.Ground.phase }, { on := 1, ground := Go.Ground.phase }, { on := 2, ground := Go.Ground.phase }, { on := 3, ground := Go.Ground.phase }, { on := 4, ground := Go.Ground.phase }, { on := 5, ground := Go.Ground.phase }, { on := 6, ground := Go.Ground.phase }, { on := 7, ground := Go.Ground.phase }, { on := 8, ground := Go.Ground.phase }, { on := 9, ground := Go.Ground.phase }, { on := 10, ground := Go.Ground.phase }, { on := 11, ground := Go.Ground.phase }, { on := 12, ground := Go.Ground.phase }, { on := 13, ground := Go.Ground.phase }, { on := 14, ground := Go.Ground.phase }, { on := 15, ground := Go.Ground.phase }, { on := 16, ground := Go.Ground.phase }, { on := 17, ground := Go.Ground.phase }, { on := 18, ground := Go.Ground.phase }, { on := 19, ground := Go.Ground.phase }, { on := 20, ground := Go.Ground.phase }, { on := 21, ground := Go.Ground.phase }, { on := 22, ground := Go.Ground.phase }, { on := 23, ground := Go.Ground.phase }, { on := 24, ground := Go.Ground.phase }], guard := none }) (v := ?_) rfl (by kernel_rfl) (by kernel_rfl) (by kernel_rfl) (fun _ _ _ h => h) (Or.inl ⟨by rfl, ?_⟩) H4 ?_
  rotate_left
  focus (intro w' hSw; (try dsimp only at hSw); go_simp; (try with_reducible rfl))
  simp only [Act.put, List.setIfInBounds_toArray, List.set_cons_zero, List.set_cons_succ]
  refine wpAnyH_done (by kernel_rfl) ?_ _
  go_wp2_with fail
  go_ret
  have em : (max s.left 0 : Int) = (s.left.toNat : Int) := by omega
  rw [em] at H4 ⊢
  have hlt := (hu.lt)
  have s0 := H0.size
  have sa := Ba.size
  have sb := Bb.size
  have se := Be.size
  have s0' : wc.drew.heap.size = wc.heap.size := rfl
  have B5 : Below we.heap.size we (we.alloc (.cells #[.map (some n1), .map (some n2), .int .i64 s.many, .slice qu s.loose.length cu, .bool (decide (0 ≤ s.left)), .int .i64 (s.left.toNat : Int)] 91)) := (Below.refl _ _).alloc (Nat.le_refl _) _
  have l1 := M1.lt
  have hu2 : ∀ j, (Value.slice qu s.loose.length cu).ownBlock = some j → wb.heap.size ≤ j ∧ j < we.heap.size := fun j hj => hlt j hj
  refine ⟨_, _, rfl, ⟨we.heap.size, n1, n2, _, rfl, ⟨heap_alloc_new _ _, HD.out.left, by omega, ?_, fun e => by have := hu2 _ e; omega, ((M1.below Bb).below Be).below B5, (M2.below Be).below B5⟩, rfl⟩, ?_, H4⟩
  · exact ownsRow_kept (ownsRow_base hu (Nat.zero_le _)) (fun j hj => B5.block j (hu2 j hj).2)
  · rintro k (rfl | rfl | rfl | hk)
    · omega
    · omega
    · omega
    · have := hu2 _ hk; omega
end Go.Proofs.YtdanigigjainjaaGreat.Dk
namespace Go.Proofs.YtdanigigjainjaaGreat.Dk
open Go.RowKit Go.Shelf
set_option maxRecDepth 100000
set_option maxHeartbeats 1000000

theorem diskOk : DiskOk RepD where
  low := repD_low
  keep := repD_keep
  new := dnew_any
  write := fun w d s F k p l cap h hW hF _ hin => dwrite_any k p l cap h hW hF hin
  sync := fun w d s F h hW hF => dsync_any h hW hF
  stop := fun w d s F n h hW hn => dstop_any n h hW hn
  crash := fun w d s F tear p keep cap h hW hF hk hin => dcrash_any tear p keep cap h hW hF (by omega) hin.at'
  read := fun w d s F k h hW _ => dread_any k h hW
  copy := fun w d s F h hW hF => dcopy_any h hW hF
end Go.Proofs.YtdanigigjainjaaGreat.Dk
namespace Go.Proofs.YtdanigigjainjaaGreat.Dk
open Go.RowKit Go.Shelf
set_option maxRecDepth 100000
set_option maxHeartbeats 1000000

set_option maxRecDepth 100000 in
set_option maxHeartbeats 1500000 in
theorem dlen_any {w : World} {B b1 b2 : Nat} {v : Value} {s : DS} (h : DiskAt w B b1 b2 v s) (hm : 1 ≤ s.many) : Calls Tryz.prog 69 #[.pointer (some ⟨B, 0, none⟩)] w fun r w' => r = .returned (.int .i64 s.many) ∧ w = w' := by
  obtain ⟨-, -, c2, -, -, -⟩ := h.cell
  have C := none_any c2 (by omega)
  go_enter Tryz.func69, Tryz.ntmps69
  go_wp2_with (first
    | (go_at_call 53; refine C.mono ?_; rintro e w' ⟨rfl, rfl⟩)
    | fail)
  go_ret
  exact ⟨rfl, rfl⟩
theorem dstopped_any {w : World} {B b1 b2 : Nat} {v : Value} {s : DS} (h : DiskAt w B b1 b2 v s) (hm : 1 ≤ s.many) : Calls Tryz.prog 96 #[.pointer (some ⟨B, 0, none⟩)] w fun r w' => r = .returned (.bool (decide (s.left = 0))) ∧ w = w' := by
  obtain ⟨-, -, c2, -, c4, c5⟩ := h.cell
  refine (stopped_any c2 (by omega) c4 c5).mono ?_
  rintro e w2 ⟨rfl, e⟩
  exact ⟨by rw [left_zero], e⟩
end Go.Proofs.YtdanigigjainjaaGreat.Dk
namespace Go.Proofs.YtdanigigjainjaaGreat
open Go.RowKit Go.Shelf
attribute [local go_sem] Oper.semAt_some

/-- So many sectors of bytes are written, up to the first error. -/
def layTo (s : Dk.DS) (at' : Nat) (l : List Nat) : Nat → Dk.DS × Int
  | 0 => (s, 0)
  | k + 1 => if (layTo s at' l k).2 = 0 then Dk.writeS (layTo s at' l k).1 ((at' + k : Nat) : Int) (Dk.strOf (secL l k)) else layTo s at' l k
def layS (s : Dk.DS) (at' : Nat) (l : List Nat) : Dk.DS × Int := layTo s at' l (secN l.length)
theorem layTo_stays {s : Dk.DS} {at' : Nat} {l : List Nat} {k : Nat} (h : (layTo s at' l k).2 ≠ 0) : ∀ n, k ≤ n → layTo s at' l n = layTo s at' l k := fun n hn => by
  induction n with
  | zero => obtain rfl : k = 0 := by omega
            rfl
  | succ n ih =>
    rcases Nat.lt_or_ge n k with h1 | h1
    · obtain rfl : k = n + 1 := by omega
      rfl
    · have e := ih h1
      rw [layTo, e, if_neg h]
theorem layTo_whole {s : Dk.DS} {at' : Nat} {l : List Nat} (h : Dk.Whole s) : ∀ k, Dk.Whole (layTo s at' l k).1
  | 0 => h
  | k + 1 => by
    rw [layTo]
    split
    · exact (layTo_whole h k).write _ _
    · exact layTo_whole h k
theorem writeS_sync (s : Dk.DS) (k : Int) (b : ByteArray) : (Dk.writeS s k b).1.sync = s.sync ∧ (Dk.writeS s k b).1.loose.length ≤ s.loose.length + 1 := by
  unfold Dk.writeS
  split
  · exact ⟨rfl, by simp⟩
  · split
    · exact ⟨rfl, by simp⟩
    · split
      · exact ⟨rfl, by simp⟩
      · exact ⟨rfl, by simp⟩
theorem layTo_few {s : Dk.DS} {at' : Nat} {l : List Nat} : ∀ k, (layTo s at' l k).1.sync = s.sync ∧ (layTo s at' l k).1.loose.length ≤ s.loose.length + k
  | 0 => ⟨rfl, Nat.le_refl _⟩
  | k + 1 => by
    rw [layTo]
    have h := layTo_few (s := s) (at' := at') (l := l) k
    split
    · have h2 := writeS_sync (layTo s at' l k).1 ((at' + k : Nat) : Int) (Dk.strOf (secL l k))
      exact ⟨h2.1.trans h.1, by omega⟩
    · exact ⟨h.1, by omega⟩
theorem range_next' {pre : List (Nat × Option Addr)} {x : Nat × Option Addr} {n : Nat} (h : (pre ++ [x]).map (·.1) <+: List.range n) : x.1 = pre.length ∧ pre.length < n := by
  have hl : ((pre ++ [x]).map (·.1)).length ≤ n := by have := h.length_le; rw [List.length_range] at this; exact this
  rw [List.length_map, List.length_append, List.length_singleton] at hl
  have h2 := List.prefix_iff_eq_take.1 h
  have h3 : ((pre ++ [x]).map (·.1))[pre.length]? = some x.1 := by rw [List.map_append, List.getElem?_append_right (by rw [List.length_map]; exact Nat.le_refl _), List.length_map, Nat.sub_self]; rfl
  rw [h2, List.getElem?_take, List.length_map, List.length_append, List.length_singleton, if_pos (by omega), List.getElem?_range (by omega)] at h3
  injection h3 with h3
  exact ⟨h3.symm, by omega⟩
set_option maxRecDepth 100000 in
set_option maxHeartbeats 3000000 in
theorem cut_new (l : List Nat) (p : Option Addr) (cap : Nat) (w : World) (hl : l.length ≤ 100000) (hc : BytesAt w p l) :
    Calls Tryz.prog 153 #[.slice p l.length cap] w fun r w' => ∃ Bo p2 c2, r = .returned (.func (.func 176) #[] #[.pointer (some ⟨Bo, 0, none⟩)]) ∧ w'.cell? ⟨Bo, 0, none⟩ = some (.slice p2 l.length c2) ∧ BytesAt w' p2 l ∧ Below w.heap.size w w' ∧ w.heap.size ≤ Bo ∧ ∀ k, inB p2 l.length k → w.heap.size ≤ k := by
  have hmf : ∀ (fn : Fn) (first cap : Array Value) (w : World), (Instr.makeFunc fn first cap).run Tryz.prog w = .ok (.func fn first cap) w := fun _ _ _ _ => rfl
  have CC := Lib.hid (clone_any l p cap w hl hc)
  have HL := Lib.hid hl
  generalize hn : l.length = n at *
  clear hl hc
  go_enter Tryz.func153, Tryz.ntmps153
  go_wp2_with (go_at_call 44; refine CC.out.mono ?_; rintro e w1 ⟨t, rfl, hr⟩; obtain ⟨p2, c2, rfl, h1, h2, h3, -⟩ := hr.at2; have HR := Lib.hid (And.intro hr.2 (And.intro h1 (And.intro h2 (And.intro h3 (rowB_base hr))))); rw [hn]; clear hr h1 h2 h3)
  obtain ⟨hb, h1, h2, h3, h4⟩ := HR.out
  have hb2 : Below w1.heap.size w1 (w1.alloc (.cells #[.slice p2 n c2] 49)) := (Below.refl _ _).alloc (Nat.le_refl _) _
  go_ret
  exact ⟨w1.heap.size, p2, c2, rfl, by go_cell, bytesAt_below h3 hb2, kbT hb hb2, hb.size, fun k h => by obtain ⟨-, off, e⟩ := h; exact h4 k off e⟩
/-- Where lay stands: the disk behind so many sectors, in the blocks X. -/
structure LayNow (w : World) (F : Foot) (d : Value) (f pg : Int) (at' : Nat) (s : Dk.DS) (e : Value) (X : Foot) (V : World) : Prop where
  rep : Dk.RepD V d s X
  apart : Dk.Apart F w V
  c0 : V.cell? ⟨w.heap.size, 0, none⟩ = some d
  c1 : V.cell? ⟨w.heap.size + 1, 0, none⟩ = some (.int .i64 (at' : Int))
  c2 : V.cell? ⟨w.heap.size + 1 + 1, 0, none⟩ = some e
  fz : V.frozen? ⟨w.heap.size + 1 + 1, 0, none⟩ = false
theorem LayNow.stay {w : World} {F : Foot} {d : Value} {f pg : Int} {at' : Nat} {s : Dk.DS} {e : Value} {b : Nat} {X : Foot} {A C : World} (h : LayNow w F d f pg at' s e X A) (hb : w.heap.size + 3 ≤ b) (hs : Stay b X A C) : LayNow w F d f pg at' s e X C where
  rep := Dk.diskOk.keep _ _ _ _ _ h.rep hs.size (fun k hk => hs.block k (.inr hk))
  apart := ⟨hs.os.trans h.apart.os, hs.tape.trans h.apart.tape, hs.output.trans h.apart.output, Nat.le_trans h.apart.size hs.size, fun k hk hF => (hs.block k (.inl (by omega))).trans (h.apart.block k hk hF)⟩
  c0 := (World.cell?_of_block (hs.block _ (.inl (by simp only; omega)))).trans h.c0
  c1 := (World.cell?_of_block (hs.block _ (.inl (by simp only; omega)))).trans h.c1
  c2 := (World.cell?_of_block (hs.block _ (.inl (by simp only; omega)))).trans h.c2
  fz := (World.frozen?_of_block (a := ⟨w.heap.size + 1 + 1, 0, none⟩) (hs.block (w.heap.size + 1 + 1) (.inl (by omega)))).trans h.fz
theorem LayNow.goes {w : World} {F : Foot} {d : Value} {f pg : Int} {at' : Nat} {s s' : Dk.DS} {e : Value} {X X' : Foot} {A C : World} (h : LayNow w F d f pg at' s e X A) (hX : ∀ k, X k → F k ∨ w.heap.size + 3 ≤ k) (hF : ∀ k, F k → k < w.heap.size) (hr : Dk.RepD C d s' X') (ha : Dk.Apart X A C) : LayNow w F d f pg at' s' e X' C := by
  have hn : ∀ k, w.heap.size ≤ k → k < w.heap.size + 3 → ¬ X k := fun k h1 h2 hx => (hX k hx).elim (fun h => by have := hF k h; omega) (fun h => by omega)
  have l0 := lt_of_cell_some h.c0
  have l1 := lt_of_cell_some h.c1
  have l2 := lt_of_cell_some h.c2
  simp only at l0 l1 l2
  refine ⟨hr, ⟨ha.os.trans h.apart.os, ha.tape.trans h.apart.tape, ha.output.trans h.apart.output, Nat.le_trans h.apart.size ha.size, fun k hk hnF => (ha.block k (Nat.lt_of_lt_of_le hk h.apart.size) (fun hx => (hX k hx).elim hnF (fun h => by omega))).trans (h.apart.block k hk hnF)⟩, ?_, ?_, ?_, ?_⟩
  · exact (World.cell?_of_block (ha.block w.heap.size l0 (hn w.heap.size (by omega) (by omega)))).trans h.c0
  · exact (World.cell?_of_block (ha.block (w.heap.size + 1) l1 (hn (w.heap.size + 1) (by omega) (by omega)))).trans h.c1
  · exact (World.cell?_of_block (ha.block (w.heap.size + 1 + 1) l2 (hn (w.heap.size + 1 + 1) (by omega) (by omega)))).trans h.c2
  · exact (World.frozen?_of_block (a := ⟨w.heap.size + 1 + 1, 0, none⟩) (ha.block (w.heap.size + 1 + 1) l2 (hn (w.heap.size + 1 + 1) (by omega) (by omega)))).trans h.fz
end Go.Proofs.YtdanigigjainjaaGreat
namespace Go.Proofs.YtdanigigjainjaaGreat
open Go.RowKit Go.Shelf
attribute [local go_sem] Oper.semAt_some

theorem LayNow.set {w : World} {F : Foot} {d : Value} {f pg : Int} {at' : Nat} {s : Dk.DS} {e e' : Value} {X : Foot} {V : World} (h : LayNow w F d f pg at' s e X V) (hX : ¬ X (w.heap.size + 1 + 1)) : LayNow w F d f pg at' s e' X (V.setCell ⟨w.heap.size + 1 + 1, 0, none⟩ e') where
  rep := Dk.diskOk.keep _ _ _ _ _ h.rep (by simp) (fun k hk => Below.heap_setCell _ _ _ _ (by rintro rfl; exact hX hk))
  apart := ⟨h.apart.os, h.apart.tape, h.apart.output, by simpa using h.apart.size, fun k hk hF => (Below.heap_setCell _ _ _ _ (by simp only; omega)).trans (h.apart.block k hk hF)⟩
  c0 := by have := h.c0; have := h.c2; go_cell
  c1 := by have := h.c1; have := h.c2; go_cell
  c2 := by have := h.c2; go_cell
  fz := by have := h.fz; have := h.c2; go_simp
theorem LayNow.put {w : World} {F : Foot} {d : Value} {f pg : Int} {at' : Nat} {s : Dk.DS} {e : Value} {X : Foot} {V : World} {D : Nat} {o o' : Obj} (h : LayNow w F d f pg at' s e X V) (_ : V.heap[D]? = some o) (hD : w.heap.size + 3 ≤ D) (hX : ∀ k, X k → k ≠ D) (hF : ∀ k, X k → F k ∨ w.heap.size ≤ k) :
    (V.putObj D o').cell? ⟨w.heap.size + 1 + 1, 0, none⟩ = some e ∧ Dk.Goes Dk.RepD d s F w (V.putObj D o') := by
  have hs := Stay.put (b := w.heap.size + 3) (X := X) V o' (l := D) hD (fun hx => hX _ hx rfl)
  have h2 := h.stay (Nat.le_refl _) hs
  exact ⟨h2.c2, X, h2.rep, hF, h2.apart⟩
set_option maxRecDepth 100000 in
set_option maxHeartbeats 4000000 in
theorem lay_any (s : Dk.DS) (d : Value) (f pg : Int) (at' : Nat) (l : List Nat) (p : Option Addr) (cap : Nat) (F : Foot) (w : World) (hR : Dk.RepD w d s F) (hW : Dk.Whole s) (hf : s.sync.length ≤ 30000 ∧ s.loose.length + secN l.length ≤ 20000) (hl : l.length ≤ 100000) (hat : at' ≤ 100000) (hlb : ∀ b ∈ l, b < 256) (hb : BytesAt w p l) :
    Calls Tryz.prog 127 #[.agg #[d, .int .i64 f, .int .i64 pg], .int .i64 at', .slice p l.length cap] w fun r w' => r = .returned (.int .i64 (layS s at' l).2) ∧ Dk.Goes Dk.RepD d (layS s at' l).1 F w w' := by
  have hFw : ∀ k, F k → k < w.heap.size := Dk.diskOk.low _ _ _ _ hR
  obtain ⟨Bd, hBd⟩ : ∃ Bd, d = .pointer (some ⟨Bd, 0, none⟩) := by obtain ⟨B, _, _, _, e, -⟩ := hR; exact ⟨B, e⟩
  subst hBd
  obtain ⟨w0, hw0⟩ : ∃ w0, w0 = ((w.alloc (.cells #[.pointer (some ⟨Bd, 0, none⟩), .int .i64 f, .int .i64 pg] 37)).alloc (.cells #[.int .i64 at'] 3)).alloc (.cells #[.int .i64 0] 25) := ⟨_, rfl⟩
  have B0 : Below w.heap.size w w0 := by subst hw0; exact (((Below.refl _ _).alloc (Nat.le_refl _) _).alloc (by simp) _).alloc (by simp; omega) _
  have S0 : w0.heap.size = w.heap.size + 3 := by subst hw0; simp
  have CC := Lib.hid (cut_new l p cap w0 hl (bytesAt_below hb B0))
  have q0 : w0.cell? ⟨w.heap.size, 0, none⟩ = some (.pointer (some ⟨Bd, 0, none⟩)) := by subst hw0; go_cell
  have q1 : w0.cell? ⟨w.heap.size + 1, 0, none⟩ = some (.int .i64 (at' : Int)) := by subst hw0; go_cell
  have q2 : w0.cell? ⟨w.heap.size + 1 + 1, 0, none⟩ = some (.int .i64 0) := by subst hw0; go_cell
  have q4 : w0.frozen? ⟨w.heap.size + 1 + 1, 0, none⟩ = false := by subst hw0; go_simp
  refine (callsIn_wide (n := 12)).1 ?_
  refine callsIn_of_wp_marks Tryz.func127 rfl trivial ?_ rfl
  simp only [Tryz.ntmps127, List.size_toArray, List.length_cons, List.length_nil, Nat.reduceAdd, Nat.reduceSub, Array.replicate_succ, Array.replicate_zero, List.push_toArray, List.append_toArray, List.nil_append, List.cons_append]
  gi_wp2_with (first
    | (rw [← hw0]; refine ⟨trivial, (callsIn_wide.2 CC.out).mono ?_⟩; rintro e w1 ⟨Bo, p2, c2, rfl, ho, hy, hb1, hs1, hin⟩; have HY := Lib.hid (And.intro ho (And.intro hy (And.intro hb1 (And.intro hs1 hin)))); clear ho hy hb1 hs1 hin)
    | fail)
  obtain ⟨ho, hy, hb1, hs1, hin⟩ := HY.out
  have hsz : w.heap.size + 3 ≤ w1.heap.size := by have := hb1.size; omega
  have L0 : LayNow w F (.pointer (some ⟨Bd, 0, none⟩)) f pg at' s (.int .i64 0) F w1 := ⟨Dk.diskOk.keep _ _ _ _ _ hR (kbT B0 hb1).size (fun k hk => (kbT B0 hb1).block k (hFw k hk)), Dk.Below.apart (kbT B0 hb1) F, (hb1.cell (lt_of_cell_some q0)).trans q0, (hb1.cell (lt_of_cell_some q1)).trans q1, (hb1.cell (lt_of_cell_some q2)).trans q2, (hb1.frozen (lt_of_cell_some q2)).trans q4⟩
  have HL0 := Lib.hid L0
  clear HY CC L0 q0 q1 q2 q4 hw0 hb1 B0 hR hb
  gi_wp2
  have hNn : ∀ k, w.heap.size ≤ k → k < w.heap.size + 3 → ¬ F k := fun k h1 _ h => by have := hFw k h; omega
  have hBo : Bo < w1.heap.size := by have := lt_of_cell_some ho; simpa using this
  have hMl : ∀ k, (k = Bo ∨ inB p2 l.length k) → w.heap.size + 3 ≤ k ∧ k < w1.heap.size := fun k h => h.elim (fun h => by omega) (fun h => ⟨by have := hin k h; omega, inB_lt hy h⟩)
  refine range_sep (n := 12) rfl (by omega) (gf := 176) (lb := #[.pointer (some ⟨Bo, 0, none⟩)]) rfl trivial (enters_of Tryz.func176 (by kernel_rfl) rfl)
    (cut_sep (12 - 1) (by omega) l p2 c2 Bo w1 hl hy ho) (fun x X A k o o' hk hc h => ⟨bytesAt_put h.1 hk hc, h.2⟩)
    F (fun k h => ⟨by have := hFw k h; omega, fun h' => by have := (hMl k h').1; have := hFw k h; omega⟩)
    (fun k h => (hMl k h).2) (Below.refl _ _) (fun _ => rfl)
    (fun pre X V => (layTo s at' l pre.length).2 = 0 ∧ LayNow w F (.pointer (some ⟨Bd, 0, none⟩)) f pg at' (layTo s at' l pre.length).1 (.int .i64 0) X V)
    (fun c pre X V => c = .ret ∧ (layTo s at' l pre.length).2 ≠ 0 ∧ pre.length ≤ secN l.length ∧ LayNow w F (.pointer (some ⟨Bd, 0, none⟩)) f pg at' (layTo s at' l pre.length).1 (.int .i64 (layTo s at' l pre.length).2) X V)
    (fun pre X A C h hs => ⟨h.1, h.2.stay hsz hs⟩)
    (fun c pre X A C h hs => ⟨h.1, h.2.1, h.2.2.1, h.2.2.2.stay hsz hs⟩)
    ⟨rfl, HL0.out⟩
    (fun x => { tmps := #[.agg #[.pointer (some ⟨Bd, 0, none⟩), .int .i64 f, .int .i64 pg], .int .i64 at', .slice p l.length cap, .pointer (some ⟨w.heap.size, 0, none⟩), .pointer (some ⟨w.heap.size + 1, 0, none⟩), undef, .pointer (some ⟨w.heap.size + 1 + 1, 0, none⟩), .int .i64 (x.1 : Int), .slice x.2 (secL l x.1).length (secL l x.1).length, undef, .slice p l.length cap, .func (.func 176) #[] #[.pointer (some ⟨Bo, 0, none⟩)], .int .i64 (x.1 : Int), .slice x.2 (secL l x.1).length (secL l x.1).length, undef, undef, undef, undef, undef, undef, undef, undef, undef, undef], defers := [] }) ?assign ?body ?done ?stop
  case assign =>
    intro ly x V K hK
    gi_wp2
    exact hK
  case body =>
    rintro ly pre x X V ⟨h0, hN⟩ hs hX hlen hsp hT
    obtain ⟨hx, hpn⟩ := range_next' hsp
    have h64 := secN_lt.1 hpn
    have hsn : secN l.length ≤ 2000 := by unfold secN; omega
    have HLN : Hid ((pre ++ [x]).length = pre.length + 1) := Lib.hid (by rw [List.length_append, List.length_singleton])
    generalize pre ++ [x] = pre' at HLN hsp ⊢
    obtain ⟨k, q⟩ := x
    simp only at hx
    subst hx
    generalize hk : pre.length = k at *
    have e1 : layTo s at' l (k + 1) = Dk.writeS (layTo s at' l k).1 ((at' + k : Nat) : Int) (Dk.strOf (secL l k)) := by rw [layTo, if_pos h0]
    have hm : 0 < (secL l k).length := by rw [secL_length]; omega
    have hm2 : (secL l k).length ≤ 64 := by rw [secL_length]; omega
    have hin2 : Dk.BytesIn V X q (secL l k) (secL l k).length := ⟨hT.1, fun b h => hlb b (List.mem_of_mem_drop (List.mem_of_mem_take h)), (fun e => by obtain ⟨B, off, e', -⟩ := hT.1 0 hm; rw [e] at e'; exact absurd e' (by simp)), ⟨Nat.le_refl _, by omega⟩, fun _ B off e => hT.2 B ⟨hm, off, e⟩⟩
    have few := layTo_few (s := s) (at' := at') (l := l) k
    have CW := Lib.hid (Dk.diskOk.write V _ _ X ((at' + k : Nat) : Int) q (secL l k) (secL l k).length hN.rep (layTo_whole hW k) ⟨by rw [few.1]; exact hf.1, by omega⟩ (by omega) hin2)
    rw [← e1, show ((at' + k : Nat) : Int) = (at' : Int) + (k : Int) from by omega] at CW
    have hw1 : IntKind.i64.wrap ((at' : Int) + (k : Int)) = (at' : Int) + (k : Int) := wrap_small (by omega) (by omega)
    have HG : Hid (∀ W3, Dk.Goes Dk.RepD (.pointer (some ⟨Bd, 0, none⟩)) (layTo s at' l (k + 1)).1 X V W3 → ∃ X' : Foot, (∀ k, X' k → k < W3.heap.size ∧ (X k ∨ V.heap.size ≤ k)) ∧ KpX (fun k => k = Bo ∨ inB p2 l.length k) w1.heap.size X V W3 ∧ LayNow w F (.pointer (some ⟨Bd, 0, none⟩)) f pg at' (layTo s at' l (k + 1)).1 (.int .i64 0) X' W3) := Lib.hid fun W3 hg => by
      obtain ⟨X', hr, hsub, ha⟩ := hg
      exact ⟨X', fun k hk => ⟨Dk.diskOk.low _ _ _ _ hr k hk, hsub k hk⟩, ⟨ha.size, fun k h1 _ h3 => ha.block k h1 h3⟩, hN.goes (fun k hk => (hX k hk).2.imp id (fun h => by omega)) hFw hr ha⟩
    have k0 := hN.c0
    have k1 := hN.c1
    have HS := Lib.hid (And.intro hsz hs)
    have HM := Lib.hid hMl
    have HP := Lib.hid hpn
    have HXn : Hid (¬ X (w.heap.size + 1 + 1) ∧ w.heap.size + 1 + 1 < V.heap.size) := Lib.hid ⟨fun h => (hX _ h).2.elim (hNn _ (by omega) (by omega)) (fun h => by omega), by have := lt_of_cell_some hN.c2; simpa using this⟩
    clear e1 hin2 few hT hsp hlen hN h64 hsz hs hm hm2 hMl hpn hX hNn ho hy hin
    obtain ⟨⟨st, en⟩, hst⟩ : ∃ r, layTo s at' l (k + 1) = r := ⟨_, rfl⟩
    rw [hst] at CW HG
    simp only at CW HG
    have HST := Lib.hid hst
    clear hst
    by_cases he : en = 0
    · subst he
      gi_wp2_with (refine ⟨trivial, (CallsIn.inRound ly (callsIn_wide.2 CW.out)).mono ?_⟩; rintro e W3 ⟨rfl, hg⟩; obtain ⟨X', g1, g2, g3⟩ := HG.out W3 hg; have HR := Lib.hid (And.intro g1 (And.intro g2 g3)); clear g1 g2 g3 hg)
      obtain ⟨g1, g2, g3⟩ := HR.out
      exact ⟨g2, X', g1, by rw [HLN.out, HST.out], by rw [HLN.out, HST.out]; exact g3⟩
    · have hne : (en == 0) = false := by simpa using he
      have HE := Lib.hid he
      clear he
      gi_wp2_with (refine ⟨trivial, (CallsIn.inRound ly (callsIn_wide.2 CW.out)).mono ?_⟩; rintro e W3 ⟨rfl, hg⟩; obtain ⟨X', g1, g2, g3⟩ := HG.out W3 hg; have HR := Lib.hid (And.intro g1 (And.intro g2 g3)); have q2 := g3.c2; have q3 := g3.fz; clear g1 g2 g3 hg)
      obtain ⟨g1, g2, g3⟩ := HR.out
      have hn : ¬ X' (w.heap.size + 1 + 1) := fun h => (g1 _ h).2.elim HXn.out.1 (fun h => by have := HXn.out.2; omega)
      refine ⟨⟨by simpa using g2.1, fun k h1 h2 h3 => (Below.heap_setCell _ _ _ _ ?_).trans (g2.2 k h1 h2 h3)⟩, X', fun k hk => ⟨by have := (g1 k hk).1; simpa using this, (g1 k hk).2⟩, rfl, by rw [HLN.out, HST.out]; exact HE.out, by rw [HLN.out]; exact HP.out, ?_⟩
      · have := HS.out.1
        rintro rfl
        exact h2.elim (fun h => by simp only at h; omega) (fun h => by have := (HM.out _ h).1; simp only at this; omega)
      · rw [HLN.out, HST.out]
        exact g3.set hn
  case done =>
    rintro D xs X V hD hX hxs ⟨h0, hN⟩ hK
    have hxl : xs.length = secN l.length := by have := congrArg List.length hxs; simpa using this
    rw [hxl] at h0 hN
    have q2 := hN.c2
    have q3 := hN.fz
    have HN := Lib.hid hN
    have H0 := Lib.hid h0
    clear h0 hN
    gi_wp2
    have hV : (V.setCell ⟨w.heap.size + 1 + 1, 0, none⟩ (.int .i64 0)).heap[D]? = some (.deferred (some [])) := (Below.heap_setCell _ _ _ _ (by simp only; omega)).trans hK
    have hn : ¬ X (w.heap.size + 1 + 1) := fun h => (hX _ h).2.1.elim (hNn _ (by omega) (by omega)) (fun h => by omega)
    have hfin := (HN.out.set (e' := .int .i64 0) hn).put (o' := .deferred none) hV (by omega) (fun k hk => (hX k hk).2.2) (fun k hk => (hX k hk).2.1.imp id (fun h => by omega))
    have q5 := HN.out.c2
    refine ⟨by simp, .inl ⟨_, _, rfl, run_takeDeferred hV, ?_⟩⟩
    refine ⟨.int .i64 0, ?_, by unfold layS; rw [H0.out], hfin.2⟩
    have hc := hfin.1
    simp [results, Tryz.results127, go_sem, hc]
  case stop =>
    rintro D c pre X V hD hX hsp ⟨rfl, h0, hpl, hN⟩ hK
    have q2 := hN.c2
    have HN := Lib.hid hN
    have H0 := Lib.hid h0
    clear h0 hN
    gi_wp2
    have hfin := HN.out.put (o' := .deferred none) hK (by omega) (fun k hk => (hX k hk).2.2) (fun k hk => (hX k hk).2.1.imp id (fun h => by omega))
    refine ⟨by simp, .inl ⟨_, _, rfl, run_takeDeferred hK, ?_⟩⟩
    have e := layTo_stays H0.out _ hpl
    refine ⟨.int .i64 (layTo s at' l pre.length).2, ?_, by unfold layS; rw [e], by unfold layS; rw [e]; exact hfin.2⟩
    have hc := hfin.1
    simp [results, Tryz.results127, go_sem, hc]
end Go.Proofs.YtdanigigjainjaaGreat
namespace Go.Proofs.YtdanigigjainjaaGreat
open Go.RowKit Go.Shelf
attribute [local go_sem] Oper.semAt_some

/-- A function's value: which one, its receiver, what it holds. -/
structure FnV where
  g : Nat
  first : Array Value
  caps : Array Value
abbrev FnV.v (f : FnV) : Value := .func (.func f.g) f.first f.caps
set_option maxRecDepth 100000 in
set_option maxHeartbeats 4000000 in
theorem first_any (fs : List FnV) (p : Option Addr) (c : Nat) (J : Nat → World → Prop) (R : Int → World → Prop) (w : World) (hn : fs.length ≤ 10000)
    (hent : ∀ f ∈ fs, ∀ args w, (callFunc f.g args).run Tryz.prog w = .ok (.enter f.g args) w)
    (hcell : ∀ i W, J i W → i < fs.length → ∃ B off, p = some ⟨B, off, none⟩ ∧ W.cell? ⟨B, off + i, none⟩ = some ((fs.map FnV.v).getD i undef))
    (hcall : ∀ i f W, fs[i]? = some f → J i W → Calls Tryz.prog f.g (f.first ++ #[] ++ f.caps) W fun r W' => ∃ e, r = .returned (.int .i64 e) ∧ (e = 0 → J (i + 1) W') ∧ (e ≠ 0 → R e W'))
    (hfin : ∀ W, J fs.length W → R 0 W) (h0 : J 0 w) :
    Calls Tryz.prog 38 #[.slice p fs.length c] w fun r w' => ∃ e, r = .returned (.int .i64 e) ∧ R e w' := by
  have H0 := Lib.hid h0
  have HC := Lib.hid hcell
  have HK := Lib.hid hcall
  have HF := Lib.hid hfin
  have HE := Lib.hid hent
  clear h0 hcell hcall hfin hent
  go_enter Tryz.func38, Tryz.ntmps38
  go_wp2
  refine wp_scope_fwd 0 rfl fun JJ HJJ => ?_
  go_wp2
  go_loopw [8] (fun i W => ∃ k : Nat, k ≤ fs.length ∧ i = .int .i64 (k : Int) ∧ Hid (J k W)) (fun i _ => (fs.length - intOf i).toNat)
  case atStart => exact ⟨0, Nat.zero_le _, rfl, H0⟩
  case round =>
    obtain ⟨k, hk, rfl, HJ⟩ := hrel
    by_cases hlt : k < fs.length
    · obtain ⟨B, off, rfl, hcl⟩ := HC.out k _ HJ.out hlt
      obtain ⟨f, hf⟩ : ∃ f, fs[k]? = some f := ⟨_, List.getElem?_eq_getElem hlt⟩
      have hv : (fs.map FnV.v).getD k undef = f.v := by rw [List.getD_eq_getElem?_getD, List.getElem?_map, hf]; rfl
      rw [hv] at hcl
      have hltI : (k : Int) < (fs.length : Nat) := by omega
      have hcl2 := HE.out f (List.mem_of_getElem? hf) (f.first ++ f.caps) wr
      have CK := Lib.hid (HK.out k f wr hf HJ.out)
      simp only [Array.append_empty] at CK
      go_wp2
      refine CK.out.mono ?_
      rintro r W3 ⟨e, rfl, hg, hb⟩
      by_cases he : e = 0
      · subst he
        have HG := Lib.hid (hg rfl)
        clear hg hb
        go_wp2
        go_roundw
        case rel => exact ⟨k + 1, hlt, by first | rfl | go_num, HG⟩
        case measure => simp [intOf]; omega
      · have HB := Lib.hid (hb he)
        have hne : (e == 0) = false := by simpa using he
        clear hg hb
        go_wp2
        go_step3
        refine ⟨rfl, HJJ.out _ _ ?_⟩
        go_wp2
        simp only [Exit.noGoto_ret]
        go_ret
        exact ⟨e, rfl, HB.out⟩
    · obtain rfl : k = fs.length := by omega
      have HB := Lib.hid (HF.out _ HJ.out)
      go_wp2
      simp only [Exit.jump]
      go_ret
      exact ⟨0, rfl, HB.out⟩
end Go.Proofs.YtdanigigjainjaaGreat
