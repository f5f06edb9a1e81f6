/- Writes are made to last. -/
import Derived.Test.YthbnochlpnikaaaK14
import Derived.Deep.RegionHeld3
namespace Go.Proofs.Ythbnochlpnikaaa
open Go.RowKit Go.Shelf

theorem exec_load_sec {o : Oper} {a : Act} {w : World} {x : Operand} (ho : o.op = .load 76 x) {g off : Nat} (hx : a.eval x = .pointer (some ⟨g, off, none⟩)) {b : ByteArray} (hb : b.size = 64) (hc : ∀ j v, (bL b)[j]? = some v → w.cell? ⟨g, off + j, none⟩ = some v) :
    (execOp a.eval o).run Try.prog w = .ok (.value (.agg (bV b))) w := by
  unfold execOp
  simp only [ho, hx, Instr.loadAt, Instr.sureAddr, Sem.run_bind, Sem.run_pure, Result.andThen_ok, run_loadVar_at (Try.isAgg76 w) (Try.sizeOf76 w) (run_load_sec hb hc)]
/-- The sectors behind the first k writes, as they were synced. -/
def setG (l : List (Nat × ByteArray)) (G f : Nat → ByteArray) : Nat → Nat → ByteArray
  | 0 => f
  | k + 1 => upd (setG l G f k) (l.getD k (0, secS 0)).1 (G (l.getD k (0, secS 0)).1)
theorem setG_next {l : List (Nat × ByteArray)} {G f : Nat → ByteArray} {i : Nat} {x : Nat × ByteArray} (h : l[i]? = some x) : setG l G f (i + 1) = upd (setG l G f i) x.1 (G x.1) := by
  have : l.getD i (0, secS 0) = x := by rw [List.getD_eq_getElem?_getD, h]; rfl
  rw [setG, this]
theorem setG_in {l : List (Nat × ByteArray)} {G f : Nat → ByteArray} : ∀ {k i : Nat} {x : Nat × ByteArray}, i < k → k ≤ l.length → l[i]? = some x → setG l G f k x.1 = G x.1
  | k + 1, i, x, hi, hk, hx => by
    have hy := List.getElem?_eq_getElem (show k < l.length by omega)
    rw [setG_next hy]
    unfold upd
    by_cases e : x.1 = l[k].1
    · rw [if_pos e, e]
    · rw [if_neg e]
      rcases Nat.lt_or_ge i k with h | h
      · exact setG_in h (by omega) hx
      · obtain rfl : i = k := by omega
        rw [hx] at hy
        injection hy with hy
        exact absurd (by rw [hy]) e
theorem setG_out {l : List (Nat × ByteArray)} {G f : Nat → ByteArray} {j : Nat} (h : ∀ x ∈ l, x.1 ≠ j) : ∀ {k : Nat}, k ≤ l.length → setG l G f k j = f j
  | 0, _ => rfl
  | k + 1, hk => by
    have hy := List.getElem?_eq_getElem (show k < l.length by omega)
    rw [setG_next hy]
    unfold upd
    rw [if_neg (fun e => h _ (List.getElem_mem (show k < l.length by omega)) e.symm)]
    exact setG_out h (by omega)
theorem setF_out {l : List (Nat × ByteArray)} {last : Nat} {f : Nat → ByteArray} {j : Nat} (h : ∀ x ∈ l, x.1 ≠ j) : ∀ {k : Nat}, k ≤ l.length → setF l last f k j = f j
  | 0, _ => rfl
  | k + 1, hk => by
    have hy := List.getElem?_eq_getElem (show k < l.length by omega)
    rw [setF_next hy]
    unfold upd
    rw [if_neg (fun e => h _ (List.getElem_mem (show k < l.length by omega)) e.symm)]
    exact setF_out h (by omega)
theorem setF_size {l : List (Nat × ByteArray)} {last : Nat} {f : Nat → ByteArray} (hl : ∀ x ∈ l, x.2.size = 64) (hn : last ≤ 64) {m : Nat} (hf : ∀ j, j < m → (f j).size = 64) (hx : ∀ x ∈ l, x.1 < m) : ∀ {k : Nat}, k ≤ l.length → ∀ j, j < m → (setF l last f k j).size = 64
  | 0, _, j, hj => hf j hj
  | k + 1, hk, j, hj => by
    have hm := List.getElem_mem (show k < l.length by omega)
    rw [setF_next (List.getElem?_eq_getElem (show k < l.length by omega))]
    unfold upd
    split
    · exact tornB_size' (by split <;> omega) (hl _ hm) (setF_size hl hn hf hx (by omega) _ (hx _ hm))
    · exact setF_size hl hn hf hx (by omega) j hj
/-- All is as it was synced, when what is loose was gone over. -/
theorem setG_all {s : DS} {l : List (Nat × ByteArray)} {last : Nat} (hsub : ∀ x ∈ l, ∃ y ∈ s.loose, y.1 = x.1) (j : Nat) : setG s.loose (setF l last (lastS s.sync) l.length) (sectorS s) s.loose.length j = setF l last (lastS s.sync) l.length j := by
  by_cases h : ∃ x ∈ s.loose, x.1 = j
  · obtain ⟨x, hx, rfl⟩ := h
    obtain ⟨i, hi, e⟩ := List.getElem_of_mem hx
    exact setG_in hi (Nat.le_refl _) (by rw [List.getElem?_eq_getElem hi, e])
  · have h' : ∀ x ∈ s.loose, x.1 ≠ j := fun x hx e => h ⟨x, hx, e⟩
    rw [setG_out h' (Nat.le_refl _), setF_out (fun x hx e => by
      obtain ⟨y, hy, e2⟩ := hsub x hx
      exact h' y hy (e2.trans e)) (Nat.le_refl _)]
    unfold sectorS
    exact lastS_apart _ _ _ h'
theorem cut_64 (b : ByteArray) (w : World) : Calls Try.prog 56 #[.agg (bV b), .int .i64 64] w fun r w' => r = .returned (.slice (some ⟨w.heap.size, 0, none⟩) 64 64) ∧ w' = w.alloc (.cells (bV b) 76) := cut_any b 64 (Nat.le_refl _) w
set_option maxRecDepth 100000 in
set_option maxHeartbeats 2000000 in
theorem settle_any {w : World} {B b1 b2 : Nat} {v : Value} {s : DS} (h : DiskAt w B b1 b2 v s) (hW : Whole s) (hF : Few s) {q : Option Addr} {cap : Nat} {l : List (Nat × ByteArray)} (hr : w.ownsRow 0 78 65 (.slice q l.length cap) l.length (wcs l)) (hl : ∀ x ∈ l, x.1 < s.many ∧ x.2.size = 64) (hlen : l.length ≤ 100000)
    (last : Nat) (hlast : last ≤ 64) (S' : List (Nat × ByteArray)) (hS : ∀ k, k < s.many → lastS S' k = setF l last (lastS s.sync) l.length k) (hsub : ∀ x ∈ l, ∃ y ∈ s.loose, y.1 = x.1) :
    Calls Try.prog 45 #[.pointer (some ⟨B, 0, none⟩), .slice q l.length cap, .int .i64 last] w fun r w' => r = .returned (.tuple #[]) ∧ DiskAt w' B b1 b2 (.slice none 0 0) ⟨s.many, S', [], s.left⟩ ∧ Apart (fun j => j = B ∨ j = b1 ∨ j = b2) w w' := by
  have hWR : Hid (∀ k : Nat, k < l.length → IntKind.i64.wrap ((l.length : Int) - 1) = (l.length : Int) - 1) := Lib.hid fun k hk => by simp [IntKind.wrap, IntKind.signed, IntKind.bits]; omega
  have hB2 : b2 ≠ B := h.sync.cells h.cells
  have HR := Lib.hid hr
  have HLs := Lib.hid hl
  have HD := Lib.hid h
  have HW := Lib.hid hW
  have HFW := Lib.hid hF
  have HSS := Lib.hid hS
  have HSUB := Lib.hid hsub
  have hne := h.ne
  have hB1 : b1 ≠ B := h.now.cells h.cells
  have hv1 := row_apart h.now h.row
  have hv2 := row_apart h.sync h.row
  obtain ⟨q2, c2, rfl⟩ : ∃ q2 c2, v = .slice q2 s.loose.length c2 := by
    rcases h.row.2 with ⟨e, h0⟩ | ⟨g, cap', cur, e, -⟩
    · exact ⟨none, 0, by rw [e, h0]⟩
    · exact ⟨_, _, e⟩
  clear hr hl hW hF hS hsub h
  go_enter Try.func45, Try.ntmps45
  go_wp2
  go_loopw [13] (fun i wr => ∃ k : Nat, k ≤ l.length ∧ i = .int .i64 k ∧ Hid (MapIs wr b2 s.many (setF l last (lastS s.sync) k)) ∧ Hid (Apart (fun j => j = b2) w wr)) (fun i _ => (l.length - intOf i).toNat)
  case atStart => exact ⟨0, Nat.zero_le _, by first | rfl | go_num, Lib.hid HD.out.sync, Lib.hid (Apart.refl _ _)⟩
  case round =>
    obtain ⟨k, hk, rfl, M, A⟩ := hrel
    by_cases hlt : k < l.length
    · obtain ⟨x, hx⟩ : ∃ x, l[k]? = some x := ⟨_, List.getElem?_eq_getElem hlt⟩
      obtain ⟨hx1, hx2⟩ := HLs.out x (List.mem_of_getElem? hx)
      have hkeep : ∀ j, j < w.heap.size → j ≠ b2 → wr.heap[j]? = w.heap[j]? := A.out.block
      have x1 : wr.cell? ⟨B, 1, none⟩ = some (.map (some b2)) := (World.cell?_of_block (w := w) (hkeep B (lt_of_heap HD.out.cells) (fun e => hB2 e.symm))).trans HD.out.cell.2.1
      have lB : B < wr.heap.size := Nat.lt_of_lt_of_le (lt_of_heap HD.out.cells) A.out.size
      have l2 : b2 < wr.heap.size := Nat.lt_of_lt_of_le HD.out.sync.lt A.out.size
      obtain ⟨g, cap', e1, hrow⟩ : ∃ g cap', Value.slice q l.length cap = .slice (some ⟨g, 0, none⟩) l.length cap' ∧ ∀ j v, (Value.int .i64 (x.1 : Int) :: bL x.2)[j]? = some v → wr.cell? ⟨g, k * 65 + j, none⟩ = some v := by
        rcases HR.out.2 with ⟨e, h0⟩ | ⟨g, cap', cur, e, -, hg, rest⟩
        · omega
        · refine ⟨g, cap', e, fun j u hu => ?_⟩
          have hgb : g ≠ b2 := fun e => HD.out.sync.cells hg e.symm
          have hr2 := HR.out
          rw [e] at hr2
          rw [← row_cells hr2 (fun y hy => (HLs.out y hy).2) hx j u hu]
          exact World.cell?_of_block (w := w) (hkeep g (lt_of_heap hg) hgb)
      injection e1 with e1 _ e3
      subst e1 e3
      have HRW := Lib.hid hrow
      clear hrow
      have HX := Lib.hid hx
      clear hx
      obtain ⟨at', b⟩ := x
      replace hx1 : at' < s.many := hx1
      replace hx2 : b.size = 64 := hx2
      have hw1 := hWR.out k hlt
      have K1 : Hid (∀ w', Apart (fun j => j = b2) (wr.alloc (.cells (wV at' b) 78)) w' → w'.cell? ⟨B, 1, none⟩ = some (.map (some b2)) ∧ w'.cell? ⟨wr.heap.size, 0, none⟩ = some (.int .i64 at') ∧ ∀ j v, (bL b)[j]? = some v → w'.cell? ⟨wr.heap.size, 1 + j, none⟩ = some v) := Lib.hid fun w' h => by
        obtain ⟨L0, L1⟩ := box_write wr at' b
        refine ⟨(World.cell?_of_block (w := wr.alloc (.cells (wV at' b) 78)) (h.block B (by simp; omega) (fun e => hB2 e.symm))).trans (by go_cell), (World.cell?_of_block (w := wr.alloc (.cells (wV at' b) 78)) (h.block wr.heap.size (by simp) (Nat.ne_of_gt l2))).trans L0, fun j v hv => (World.cell?_of_block (w := wr.alloc (.cells (wV at' b) 78)) (h.block wr.heap.size (by simp) (Nat.ne_of_gt l2))).trans (L1 j v hv)⟩
      have M1 := Lib.hid (M.out.below (w' := wr.alloc (.cells (wV at' b) 78)) ((Below.refl _ _).alloc (Nat.le_refl _) _))
      by_cases hend : k + 1 = l.length
      · have hq : ((k : Int) == (l.length : Int) - 1) = true := by simp; omega
        have HEND := Lib.hid hend
        clear hend hkeep
        go_wp2_with (first
          | (refine wpList_load_write rfl _ rfl rfl hx2 HRW.out ?_)
          | (refine wpList_store_row rfl 78 _ _ rfl wr.heap.size (wV at' b) rfl rfl 78 _ (heap_alloc_new wr _) (by rw [wV_size hx2]; kernel_rfl) (by rw [wV_size hx2]; kernel_rfl) (wV_one _ _) ?_; rw [World.setRow_alloc_new])
          | fail)
        have HNM : Hid (last ≤ 64) := Lib.hid hlast
        refine wp_region_held_drew (S := fun w' => Apart (fun j => j = b2) (wr.alloc (.cells (wV at' b) 78)) w') (by kernel_rfl) ⟨rfl, rfl, rfl, Nat.le_refl _, fun _ _ _ => rfl⟩ (fun H0 => ?_)
        refine wpAnyH_take (i := 0) (oi := { dst := some 24, op := Go.Op.move (Go.Operand.tmp 0), type := 29, pos := "disk.go:152", after := #[], guard := none }) (v := ?_) rfl (by kernel_rfl) (by kernel_rfl) (by kernel_rfl) (fun _ _ _ h => h) (Or.inl ⟨by rfl, ?_⟩) H0 ?_
        rotate_left
        focus (intro w' hSw; (try dsimp only at hSw); go_simp; (try with_reducible rfl))
        simp only [Act.put, List.setIfInBounds_toArray, List.set_cons_zero, List.set_cons_succ]
        refine wpAnyH_take (i := 1) (oi := { dst := some 25, op := Go.Op.nilCheck (Go.Operand.tmp 24), type := 0, pos := "disk.go:152", after := #[{ on := 0, ground := Go.Ground.data }], guard := none }) (v := ?_) rfl (by kernel_rfl) (by kernel_rfl) (by kernel_rfl) (fun _ _ _ h => h) (Or.inl ⟨by rfl, ?_⟩) H0 ?_
        rotate_left
        focus (intro w' hSw; (try dsimp only at hSw); go_simp; (try with_reducible rfl))
        simp only [Act.put, List.setIfInBounds_toArray, List.set_cons_zero, List.set_cons_succ]
        refine wpAnyH_take (i := 2) (oi := { dst := some 26, op := Go.Op.fieldAddr 65 (Go.Operand.tmp 25) 1, type := 0, pos := "disk.go:152", after := #[{ on := 1, ground := Go.Ground.data }], guard := none }) (v := ?_) rfl (by kernel_rfl) (by kernel_rfl) (by kernel_rfl) (fun _ _ _ h => h) (Or.inl ⟨by rfl, ?_⟩) H0 ?_
        rotate_left
        focus (intro w' hSw; (try dsimp only at hSw); go_simp; (try with_reducible rfl))
        simp only [Act.put, List.setIfInBounds_toArray, List.set_cons_zero, List.set_cons_succ]
        refine wpAnyH_take (i := 3) (oi := { dst := some 27, op := Go.Op.load 59 (Go.Operand.tmp 26), type := 59, pos := "disk.go:152", after := #[{ on := 2, ground := Go.Ground.data }], guard := none }) (v := ?_) rfl (by kernel_rfl) (by kernel_rfl) (by kernel_rfl) (fun _ _ _ h => h) (Or.inl ⟨by rfl, ?_⟩) H0 ?_
        rotate_left
        focus (intro w' hSw; (try dsimp only at hSw); have c1 := (K1.out _ hSw).1; go_simp; (try with_reducible rfl))
        simp only [Act.put, List.setIfInBounds_toArray, List.set_cons_zero, List.set_cons_succ]
        refine wpAnyH_take (i := 4) (oi := { dst := some 28, op := Go.Op.fieldAddr 78 (Go.Operand.tmp 7) 0, type := 0, pos := "disk.go:152", after := #[], guard := none }) (v := ?_) rfl (by kernel_rfl) (by kernel_rfl) (by kernel_rfl) (fun _ _ _ h => h) (Or.inl ⟨by rfl, ?_⟩) H0 ?_
        rotate_left
        focus (intro w' hSw; (try dsimp only at hSw); go_simp; (try with_reducible rfl))
        simp only [Act.put, List.setIfInBounds_toArray, List.set_cons_zero, List.set_cons_succ]
        refine wpAnyH_take (i := 5) (oi := { dst := some 29, op := Go.Op.load 3 (Go.Operand.tmp 28), type := 3, pos := "disk.go:152", after := #[{ on := 4, ground := Go.Ground.data }], guard := none }) (v := ?_) rfl (by kernel_rfl) (by kernel_rfl) (by kernel_rfl) (fun _ _ _ h => h) (Or.inl ⟨by rfl, ?_⟩) H0 ?_
        rotate_left
        focus (intro w' hSw; (try dsimp only at hSw); have c1 := (K1.out _ hSw).2.1; go_simp; (try with_reducible rfl))
        simp only [Act.put, List.setIfInBounds_toArray, List.set_cons_zero, List.set_cons_succ]
        refine wpAnyH_take (i := 6) (oi := { dst := some 30, op := Go.Op.fieldAddr 78 (Go.Operand.tmp 7) 1, type := 0, pos := "disk.go:152", after := #[], guard := none }) (v := ?_) rfl (by kernel_rfl) (by kernel_rfl) (by kernel_rfl) (fun _ _ _ h => h) (Or.inl ⟨by rfl, ?_⟩) H0 ?_
        rotate_left
        focus (intro w' hSw; (try dsimp only at hSw); go_simp; (try with_reducible rfl))
        simp only [Act.put, List.setIfInBounds_toArray, List.set_cons_zero, List.set_cons_succ]
        refine wpAnyH_take (i := 7) (oi := { dst := some 31, op := Go.Op.load 76 (Go.Operand.tmp 30), type := 76, pos := "disk.go:152", after := #[{ on := 6, ground := Go.Ground.data }], guard := none }) (v := ?_) rfl (by kernel_rfl) (by kernel_rfl) (by kernel_rfl) (fun _ _ _ h => h) (Or.inl ⟨by rfl, ?_⟩) H0 ?_
        rotate_left
        focus (intro w' hSw; (try dsimp only at hSw); refine exec_load_sec (x := .tmp 30) ?_ ?_ hx2 (K1.out _ hSw).2.2 <;> rfl)
        simp only [Act.put, List.setIfInBounds_toArray, List.set_cons_zero, List.set_cons_succ]
        refine wpAnyH_take (i := 8) (oi := { dst := some 32, op := Go.Op.move (Go.Operand.tmp 8), type := 3, pos := "disk.go:152", after := #[], guard := none }) (v := ?_) rfl (by kernel_rfl) (by kernel_rfl) (by kernel_rfl) (fun _ _ _ h => h) (Or.inl ⟨by rfl, ?_⟩) H0 ?_
        rotate_left
        focus (intro w' hSw; (try dsimp only at hSw); go_simp; (try with_reducible rfl))
        simp only [Act.put, List.setIfInBounds_toArray, List.set_cons_zero, List.set_cons_succ]
        refine wpAnyH_ready (rs := [9]) (by kernel_rfl) (by simp) ?_
        refine AllReadyH.cons (o := { dst := some 33, op := Go.Op.call { callee := Go.Callee.value (Go.Operand.func 56), args := #[Go.Operand.tmp 31, Go.Operand.tmp 32], argTypes := #[76, 3] }, type := 47, pos := "disk.go:152", after := #[{ on := 7, ground := Go.Ground.data }, { on := 8, ground := Go.Ground.data }], guard := none }) rfl (fun K hK => ?_) ?_
        rotate_left
        exact AllReadyH.nil
        go_simp
        (go_at_call 56; (with_reducible refine (cut_any b last HNM.out _).mono ?_); rintro e w2 ⟨rfl, hw2⟩)
        have B2 : Below (wr.alloc (.cells (wV at' b) 78)).heap.size (wr.alloc (.cells (wV at' b) 78)) w2 := by rw [hw2]; exact (Below.refl (wr.alloc (.cells (wV at' b) 78)).heap.size (wr.alloc (.cells (wV at' b) 78))).drew.alloc (Nat.le_refl _) _
        have BT : BytesAt w2 (some ⟨wr.heap.size + 1, 0, none⟩) ((natL b).take last) := by rw [hw2]; have := bytesAt_cut (wr.alloc (.cells (wV at' b) 78)).drew b last; rwa [show (wr.alloc (.cells (wV at' b) 78)).drew.heap.size = wr.heap.size + 1 by simp] at this
        clear hw2
        try go_wp2_with fail
        refine hK.out _ _ (Below.apart B2 _) (fun H1 => ?_)
        clear hK K
        try simp only [Act.put, List.setIfInBounds_toArray, List.set_cons_zero, List.set_cons_succ]
        refine wpAnyH_ready (rs := [10]) (by kernel_rfl) (by simp) ?_
        refine AllReadyH.cons (o := { dst := some 34, op := Go.Op.call { callee := Go.Callee.value (Go.Operand.func 43), args := #[Go.Operand.tmp 27, Go.Operand.tmp 29, Go.Operand.tmp 33], argTypes := #[59, 3, 47] }, type := 0, pos := "disk.go:152", after := #[{ on := 3, ground := Go.Ground.data }, { on := 5, ground := Go.Ground.data }, { on := 9, ground := Go.Ground.data }, { on := 9, ground := Go.Ground.chain }], guard := none }) rfl (fun K hK => ?_) ?_
        rotate_left
        exact AllReadyH.nil
        go_simp
        (go_at_call 43; refine (lay_torn_any (M1.out.below B2) hx1 HNM.out hx2 BT).mono ?_; rintro e w3 ⟨rfl, M3, A3⟩)
        try go_wp2_with fail
        have A4 := H1.trans A3 (fun j hj => .inl hj)
        refine hK.out _ _ A4 (fun H2 => ?_)
        clear hK K
        try simp only [Act.put, List.setIfInBounds_toArray, List.set_cons_zero, List.set_cons_succ]
        refine wpAnyH_done (by kernel_rfl) ?_ _
        go_wp2_with fail
        refine ⟨⟨k + 1, hlt, by first | rfl | go_num, Lib.hid ?_, Lib.hid ?_⟩, by simp [intOf]; omega⟩
        focus (rw [setF_next HX.out, if_pos HEND.out]; exact M3)
        focus exact (A.out.trans (Below.apart ((Below.refl wr.heap.size wr).alloc (Nat.le_refl _) _) (fun _ => False)) (fun j hj => hj.elim)).trans A4 (fun j hj => .inl hj)

      · have hq : ((k : Int) == (l.length : Int) - 1) = false := by simp; omega
        have HEND := Lib.hid hend
        clear hend hkeep
        go_wp2_with (first
          | (refine wpList_load_write rfl _ rfl rfl hx2 HRW.out ?_)
          | (refine wpList_store_row rfl 78 _ _ rfl wr.heap.size (wV at' b) rfl rfl 78 _ (heap_alloc_new wr _) (by rw [wV_size hx2]; kernel_rfl) (by rw [wV_size hx2]; kernel_rfl) (wV_one _ _) ?_; rw [World.setRow_alloc_new])
          | fail)
        have HNM : Hid (64 ≤ 64) := Lib.hid (Nat.le_refl _)
        refine wp_region_held_drew (S := fun w' => Apart (fun j => j = b2) (wr.alloc (.cells (wV at' b) 78)) w') (by kernel_rfl) ⟨rfl, rfl, rfl, Nat.le_refl _, fun _ _ _ => rfl⟩ (fun H0 => ?_)
        refine wpAnyH_take (i := 0) (oi := { dst := some 24, op := Go.Op.move (Go.Operand.tmp 0), type := 29, pos := "disk.go:152", after := #[], guard := none }) (v := ?_) rfl (by kernel_rfl) (by kernel_rfl) (by kernel_rfl) (fun _ _ _ h => h) (Or.inl ⟨by rfl, ?_⟩) H0 ?_
        rotate_left
        focus (intro w' hSw; (try dsimp only at hSw); go_simp; (try with_reducible rfl))
        simp only [Act.put, List.setIfInBounds_toArray, List.set_cons_zero, List.set_cons_succ]
        refine wpAnyH_take (i := 1) (oi := { dst := some 25, op := Go.Op.nilCheck (Go.Operand.tmp 24), type := 0, pos := "disk.go:152", after := #[{ on := 0, ground := Go.Ground.data }], guard := none }) (v := ?_) rfl (by kernel_rfl) (by kernel_rfl) (by kernel_rfl) (fun _ _ _ h => h) (Or.inl ⟨by rfl, ?_⟩) H0 ?_
        rotate_left
        focus (intro w' hSw; (try dsimp only at hSw); go_simp; (try with_reducible rfl))
        simp only [Act.put, List.setIfInBounds_toArray, List.set_cons_zero, List.set_cons_succ]
        refine wpAnyH_take (i := 2) (oi := { dst := some 26, op := Go.Op.fieldAddr 65 (Go.Operand.tmp 25) 1, type := 0, pos := "disk.go:152", after := #[{ on := 1, ground := Go.Ground.data }], guard := none }) (v := ?_) rfl (by kernel_rfl) (by kernel_rfl) (by kernel_rfl) (fun _ _ _ h => h) (Or.inl ⟨by rfl, ?_⟩) H0 ?_
        rotate_left
        focus (intro w' hSw; (try dsimp only at hSw); go_simp; (try with_reducible rfl))
        simp only [Act.put, List.setIfInBounds_toArray, List.set_cons_zero, List.set_cons_succ]
        refine wpAnyH_take (i := 3) (oi := { dst := some 27, op := Go.Op.load 59 (Go.Operand.tmp 26), type := 59, pos := "disk.go:152", after := #[{ on := 2, ground := Go.Ground.data }], guard := none }) (v := ?_) rfl (by kernel_rfl) (by kernel_rfl) (by kernel_rfl) (fun _ _ _ h => h) (Or.inl ⟨by rfl, ?_⟩) H0 ?_
        rotate_left
        focus (intro w' hSw; (try dsimp only at hSw); have c1 := (K1.out _ hSw).1; go_simp; (try with_reducible rfl))
        simp only [Act.put, List.setIfInBounds_toArray, List.set_cons_zero, List.set_cons_succ]
        refine wpAnyH_take (i := 4) (oi := { dst := some 28, op := Go.Op.fieldAddr 78 (Go.Operand.tmp 7) 0, type := 0, pos := "disk.go:152", after := #[], guard := none }) (v := ?_) rfl (by kernel_rfl) (by kernel_rfl) (by kernel_rfl) (fun _ _ _ h => h) (Or.inl ⟨by rfl, ?_⟩) H0 ?_
        rotate_left
        focus (intro w' hSw; (try dsimp only at hSw); go_simp; (try with_reducible rfl))
        simp only [Act.put, List.setIfInBounds_toArray, List.set_cons_zero, List.set_cons_succ]
        refine wpAnyH_take (i := 5) (oi := { dst := some 29, op := Go.Op.load 3 (Go.Operand.tmp 28), type := 3, pos := "disk.go:152", after := #[{ on := 4, ground := Go.Ground.data }], guard := none }) (v := ?_) rfl (by kernel_rfl) (by kernel_rfl) (by kernel_rfl) (fun _ _ _ h => h) (Or.inl ⟨by rfl, ?_⟩) H0 ?_
        rotate_left
        focus (intro w' hSw; (try dsimp only at hSw); have c1 := (K1.out _ hSw).2.1; go_simp; (try with_reducible rfl))
        simp only [Act.put, List.setIfInBounds_toArray, List.set_cons_zero, List.set_cons_succ]
        refine wpAnyH_take (i := 6) (oi := { dst := some 30, op := Go.Op.fieldAddr 78 (Go.Operand.tmp 7) 1, type := 0, pos := "disk.go:152", after := #[], guard := none }) (v := ?_) rfl (by kernel_rfl) (by kernel_rfl) (by kernel_rfl) (fun _ _ _ h => h) (Or.inl ⟨by rfl, ?_⟩) H0 ?_
        rotate_left
        focus (intro w' hSw; (try dsimp only at hSw); go_simp; (try with_reducible rfl))
        simp only [Act.put, List.setIfInBounds_toArray, List.set_cons_zero, List.set_cons_succ]
        refine wpAnyH_take (i := 7) (oi := { dst := some 31, op := Go.Op.load 76 (Go.Operand.tmp 30), type := 76, pos := "disk.go:152", after := #[{ on := 6, ground := Go.Ground.data }], guard := none }) (v := ?_) rfl (by kernel_rfl) (by kernel_rfl) (by kernel_rfl) (fun _ _ _ h => h) (Or.inl ⟨by rfl, ?_⟩) H0 ?_
        rotate_left
        focus (intro w' hSw; (try dsimp only at hSw); refine exec_load_sec (x := .tmp 30) ?_ ?_ hx2 (K1.out _ hSw).2.2 <;> rfl)
        simp only [Act.put, List.setIfInBounds_toArray, List.set_cons_zero, List.set_cons_succ]
        refine wpAnyH_take (i := 8) (oi := { dst := some 32, op := Go.Op.move (Go.Operand.tmp 8), type := 3, pos := "disk.go:152", after := #[], guard := none }) (v := ?_) rfl (by kernel_rfl) (by kernel_rfl) (by kernel_rfl) (fun _ _ _ h => h) (Or.inl ⟨by rfl, ?_⟩) H0 ?_
        rotate_left
        focus (intro w' hSw; (try dsimp only at hSw); go_simp; (try with_reducible rfl))
        simp only [Act.put, List.setIfInBounds_toArray, List.set_cons_zero, List.set_cons_succ]
        refine wpAnyH_ready (rs := [9]) (by kernel_rfl) (by simp) ?_
        refine AllReadyH.cons (o := { dst := some 33, op := Go.Op.call { callee := Go.Callee.value (Go.Operand.func 56), args := #[Go.Operand.tmp 31, Go.Operand.tmp 32], argTypes := #[76, 3] }, type := 47, pos := "disk.go:152", after := #[{ on := 7, ground := Go.Ground.data }, { on := 8, ground := Go.Ground.data }], guard := none }) rfl (fun K hK => ?_) ?_
        rotate_left
        exact AllReadyH.nil
        go_simp
        (go_at_call 56; (with_reducible refine (cut_64 b _).mono ?_); rintro e w2 ⟨rfl, hw2⟩)
        have B2 : Below (wr.alloc (.cells (wV at' b) 78)).heap.size (wr.alloc (.cells (wV at' b) 78)) w2 := by rw [hw2]; exact (Below.refl (wr.alloc (.cells (wV at' b) 78)).heap.size (wr.alloc (.cells (wV at' b) 78))).drew.alloc (Nat.le_refl _) _
        have BT : BytesAt w2 (some ⟨wr.heap.size + 1, 0, none⟩) ((natL b).take 64) := by rw [hw2]; have := bytesAt_cut (wr.alloc (.cells (wV at' b) 78)).drew b 64; rwa [show (wr.alloc (.cells (wV at' b) 78)).drew.heap.size = wr.heap.size + 1 by simp] at this
        clear hw2
        try go_wp2_with fail
        refine hK.out _ _ (Below.apart B2 _) (fun H1 => ?_)
        clear hK K
        try simp only [Act.put, List.setIfInBounds_toArray, List.set_cons_zero, List.set_cons_succ]
        refine wpAnyH_ready (rs := [10]) (by kernel_rfl) (by simp) ?_
        refine AllReadyH.cons (o := { dst := some 34, op := Go.Op.call { callee := Go.Callee.value (Go.Operand.func 43), args := #[Go.Operand.tmp 27, Go.Operand.tmp 29, Go.Operand.tmp 33], argTypes := #[59, 3, 47] }, type := 0, pos := "disk.go:152", after := #[{ on := 3, ground := Go.Ground.data }, { on := 5, ground := Go.Ground.data }, { on := 9, ground := Go.Ground.data }, { on := 9, ground := Go.Ground.chain }], guard := none }) rfl (fun K hK => ?_) ?_
        rotate_left
        exact AllReadyH.nil
        go_simp
        (go_at_call 43; refine (lay_torn_any (M1.out.below B2) hx1 HNM.out hx2 BT).mono ?_; rintro e w3 ⟨rfl, M3, A3⟩)
        try go_wp2_with fail
        have A4 := H1.trans A3 (fun j hj => .inl hj)
        refine hK.out _ _ A4 (fun H2 => ?_)
        clear hK K
        try simp only [Act.put, List.setIfInBounds_toArray, List.set_cons_zero, List.set_cons_succ]
        refine wpAnyH_done (by kernel_rfl) ?_ _
        go_wp2_with fail
        refine ⟨⟨k + 1, hlt, by first | rfl | go_num, Lib.hid ?_, Lib.hid ?_⟩, by simp [intOf]; omega⟩
        focus (rw [setF_next HX.out, if_neg HEND.out]; exact M3)
        focus exact (A.out.trans (Below.apart ((Below.refl wr.heap.size wr).alloc (Nat.le_refl _) _) (fun _ => False)) (fun j hj => hj.elim)).trans A4 (fun j hj => .inl hj)

    · obtain rfl : k = l.length := by omega
      have hGs : ∀ j, j < s.many → (setF l last (lastS s.sync) l.length j).size = 64 := setF_size (fun x hx => (HLs.out x hx).2) hlast (fun j _ => lastS_size (fun x hx => (HW.out.sync x hx).2) j) (fun x hx => (HLs.out x hx).1) (Nat.le_refl _)
      have HALL := Lib.hid (fun j => setG_all (s := s) (l := l) (last := last) HSUB.out j)
      have HSL : Hid (∀ k, k < s.many → lastS S' k = setF l last (lastS s.sync) l.length k) := HSS
      generalize hG : setF l last (lastS s.sync) l.length = G at *
      clear hG
      have hkeep : ∀ j, j < w.heap.size → j ≠ b2 → wr.heap[j]? = w.heap[j]? := A.out.block
      have CB := Lib.hid ((hkeep B (lt_of_heap HD.out.cells) (fun e => hB2 e.symm)).trans HD.out.cells)
      have lB : B < wr.heap.size := Nat.lt_of_lt_of_le (lt_of_heap HD.out.cells) A.out.size
      have l1 : b1 < wr.heap.size := Nat.lt_of_lt_of_le HD.out.now.lt A.out.size
      have l2 : b2 < wr.heap.size := Nat.lt_of_lt_of_le HD.out.sync.lt A.out.size
      have x3 : wr.cell? ⟨B, 3, none⟩ = some (.slice q2 s.loose.length c2) := cell_of_row wr B 3 _ 65 (0, 0) CB.out
      have M0 : MapIs wr b1 s.many (sectorS s) := HD.out.now.of_block (hkeep b1 HD.out.now.lt hne)
      have hn2 : s.loose.length ≤ 20000 := HFW.out.2
      go_wp2
      go_loopw [41] (fun i wz => ∃ k : Nat, k ≤ s.loose.length ∧ i = .int .i64 k ∧ Hid (MapIs wz b1 s.many (setG s.loose G (sectorS s) k)) ∧ Hid (Apart (fun j => j = b1) wr wz)) (fun i _ => (s.loose.length - intOf i).toNat)
      case atStart => exact ⟨0, Nat.zero_le _, by first | rfl | go_num, Lib.hid M0, Lib.hid (Apart.refl _ _)⟩
      case round =>
        rename World => wz
        obtain ⟨k, hk2, rfl, MZ, AZ⟩ := hrel
        by_cases hlt : k < s.loose.length
        · obtain ⟨x, hx⟩ : ∃ x, s.loose[k]? = some x := ⟨_, List.getElem?_eq_getElem hlt⟩
          obtain ⟨hx1, hx2⟩ := HW.out.loose x (List.mem_of_getElem? hx)
          have zkeep : ∀ j, j < wr.heap.size → j ≠ b1 → wz.heap[j]? = wr.heap[j]? := AZ.out.block
          have zsz := AZ.out.size
          have x0 : wz.cell? ⟨B, 0, none⟩ = some (.map (some b1)) := (World.cell?_of_block (w := wr) (zkeep B lB (fun e => hB1 e.symm))).trans (cell_of_row wr B 0 _ 65 (0, 0) CB.out)
          have x1 : wz.cell? ⟨B, 1, none⟩ = some (.map (some b2)) := (World.cell?_of_block (w := wr) (zkeep B lB (fun e => hB1 e.symm))).trans (cell_of_row wr B 1 _ 65 (0, 0) CB.out)
          obtain ⟨g, cap', e1, hrow⟩ : ∃ g cap', Value.slice q2 s.loose.length c2 = .slice (some ⟨g, 0, none⟩) s.loose.length cap' ∧ ∀ j v, (Value.int .i64 (x.1 : Int) :: bL x.2)[j]? = some v → wz.cell? ⟨g, k * 65 + j, none⟩ = some v := by
            rcases HD.out.row.2 with ⟨e, h0⟩ | ⟨g, cap', cur, e, -, hg, rest⟩
            · omega
            · refine ⟨g, cap', e, fun j u hu => ?_⟩
              have hg2 : g ≠ b2 := fun e => HD.out.sync.cells hg e.symm
              have hg1 : g ≠ b1 := fun e => HD.out.now.cells hg e.symm
              have hr2 := HD.out.row
              rw [e] at hr2
              rw [← row_cells hr2 (fun y hy => (HW.out.loose y hy).2) hx j u hu]
              have lg := lt_of_heap hg
              exact (World.cell?_of_block (w := wr) (zkeep g (Nat.lt_of_lt_of_le lg A.out.size) hg1)).trans (World.cell?_of_block (w := w) (hkeep g lg hg2))
          injection e1 with e1 _ e3
          subst e1 e3
          have HRW := Lib.hid hrow
          clear hrow
          have HX := Lib.hid hx
          clear hx
          obtain ⟨at', b⟩ := x
          replace hx1 : at' < s.many := hx1
          replace hx2 : b.size = 64 := hx2
          have lBz : B < wz.heap.size := by omega
          have l1z : b1 < wz.heap.size := by omega
          have l2z : b2 < wz.heap.size := by omega
          have K1 : Hid (∀ w', Apart (fun j => j = b1) (wz.alloc (.cells (wV at' b) 78)) w' → w'.cell? ⟨B, 0, none⟩ = some (.map (some b1)) ∧ w'.cell? ⟨B, 1, none⟩ = some (.map (some b2)) ∧ w'.cell? ⟨wz.heap.size, 0, none⟩ = some (.int .i64 at')) := Lib.hid fun w' h => by
            obtain ⟨L0, L1⟩ := box_write wz at' b
            exact ⟨(World.cell?_of_block (w := wz.alloc (.cells (wV at' b) 78)) (h.block B (by simp; omega) (fun e => hB1 e.symm))).trans (by go_cell), (World.cell?_of_block (w := wz.alloc (.cells (wV at' b) 78)) (h.block B (by simp; omega) (fun e => hB1 e.symm))).trans (by go_cell), (World.cell?_of_block (w := wz.alloc (.cells (wV at' b) 78)) (h.block wz.heap.size (by simp) (Nat.ne_of_gt l1z))).trans L0⟩
          have M1 := Lib.hid (MZ.out.below (w' := wz.alloc (.cells (wV at' b) 78)) ((Below.refl _ _).alloc (Nat.le_refl _) _))
          have MG : Hid (∀ w', Apart (fun j => j = b1) (wz.alloc (.cells (wV at' b) 78)) w' → MapIs w' b2 s.many G) := Lib.hid fun w' h => M.out.of_block ((h.block b2 (by simp; omega) (fun e => hne e.symm)).trans ((Below.heap_alloc wz _ b2 l2z).trans (zkeep b2 l2 (fun e => hne e.symm))))
          clear zkeep hkeep
          go_wp2_with (first
            | (refine wpList_load_write rfl _ rfl rfl hx2 HRW.out ?_)
            | (refine wpList_store_row rfl 78 _ _ rfl wz.heap.size (wV at' b) rfl rfl 78 _ (heap_alloc_new wz _) (by rw [wV_size hx2]; kernel_rfl) (by rw [wV_size hx2]; kernel_rfl) (wV_one _ _) ?_; rw [World.setRow_alloc_new])
            | fail)
          refine wp_region_held_drew (S := fun w' => Apart (fun j => j = b1) (wz.alloc (.cells (wV at' b) 78)) w') (by kernel_rfl) ⟨rfl, rfl, rfl, Nat.le_refl _, fun _ _ _ => rfl⟩ (fun H0 => ?_)
          refine wpAnyH_take (i := 0) (oi := { dst := some 45, op := Go.Op.move (Go.Operand.tmp 0), type := 29, pos := "disk.go:155", after := #[], guard := none }) (v := ?_) rfl (by kernel_rfl) (by kernel_rfl) (by kernel_rfl) (fun _ _ _ h => h) (Or.inl ⟨by rfl, ?_⟩) H0 ?_
          rotate_left
          focus (intro w' hSw; (try dsimp only at hSw); go_simp; (try with_reducible rfl))
          simp only [Act.put, List.setIfInBounds_toArray, List.set_cons_zero, List.set_cons_succ]
          refine wpAnyH_take (i := 1) (oi := { dst := some 46, op := Go.Op.nilCheck (Go.Operand.tmp 45), type := 0, pos := "disk.go:155", after := #[{ on := 0, ground := Go.Ground.data }], guard := none }) (v := ?_) rfl (by kernel_rfl) (by kernel_rfl) (by kernel_rfl) (fun _ _ _ h => h) (Or.inl ⟨by rfl, ?_⟩) H0 ?_
          rotate_left
          focus (intro w' hSw; (try dsimp only at hSw); go_simp; (try with_reducible rfl))
          simp only [Act.put, List.setIfInBounds_toArray, List.set_cons_zero, List.set_cons_succ]
          refine wpAnyH_take (i := 2) (oi := { dst := some 47, op := Go.Op.fieldAddr 65 (Go.Operand.tmp 46) 0, type := 0, pos := "disk.go:155", after := #[{ on := 1, ground := Go.Ground.data }], guard := none }) (v := ?_) rfl (by kernel_rfl) (by kernel_rfl) (by kernel_rfl) (fun _ _ _ h => h) (Or.inl ⟨by rfl, ?_⟩) H0 ?_
          rotate_left
          focus (intro w' hSw; (try dsimp only at hSw); go_simp; (try with_reducible rfl))
          simp only [Act.put, List.setIfInBounds_toArray, List.set_cons_zero, List.set_cons_succ]
          refine wpAnyH_take (i := 3) (oi := { dst := some 48, op := Go.Op.load 59 (Go.Operand.tmp 47), type := 59, pos := "disk.go:155", after := #[{ on := 2, ground := Go.Ground.data }], guard := none }) (v := ?_) rfl (by kernel_rfl) (by kernel_rfl) (by kernel_rfl) (fun _ _ _ h => h) (Or.inl ⟨by rfl, ?_⟩) H0 ?_
          rotate_left
          focus (intro w' hSw; (try dsimp only at hSw); have c1 := (K1.out _ hSw).1; go_simp; (try with_reducible rfl))
          simp only [Act.put, List.setIfInBounds_toArray, List.set_cons_zero, List.set_cons_succ]
          refine wpAnyH_take (i := 4) (oi := { dst := some 49, op := Go.Op.fieldAddr 78 (Go.Operand.tmp 10) 0, type := 0, pos := "disk.go:155", after := #[], guard := none }) (v := ?_) rfl (by kernel_rfl) (by kernel_rfl) (by kernel_rfl) (fun _ _ _ h => h) (Or.inl ⟨by rfl, ?_⟩) H0 ?_
          rotate_left
          focus (intro w' hSw; (try dsimp only at hSw); go_simp; (try with_reducible rfl))
          simp only [Act.put, List.setIfInBounds_toArray, List.set_cons_zero, List.set_cons_succ]
          refine wpAnyH_take (i := 5) (oi := { dst := some 50, op := Go.Op.load 3 (Go.Operand.tmp 49), type := 3, pos := "disk.go:155", after := #[{ on := 4, ground := Go.Ground.data }], guard := none }) (v := ?_) rfl (by kernel_rfl) (by kernel_rfl) (by kernel_rfl) (fun _ _ _ h => h) (Or.inl ⟨by rfl, ?_⟩) H0 ?_
          rotate_left
          focus (intro w' hSw; (try dsimp only at hSw); have c1 := (K1.out _ hSw).2.2; go_simp; (try with_reducible rfl))
          simp only [Act.put, List.setIfInBounds_toArray, List.set_cons_zero, List.set_cons_succ]
          refine wpAnyH_take (i := 6) (oi := { dst := some 51, op := Go.Op.move (Go.Operand.tmp 0), type := 29, pos := "disk.go:155", after := #[], guard := none }) (v := ?_) rfl (by kernel_rfl) (by kernel_rfl) (by kernel_rfl) (fun _ _ _ h => h) (Or.inl ⟨by rfl, ?_⟩) H0 ?_
          rotate_left
          focus (intro w' hSw; (try dsimp only at hSw); go_simp; (try with_reducible rfl))
          simp only [Act.put, List.setIfInBounds_toArray, List.set_cons_zero, List.set_cons_succ]
          refine wpAnyH_take (i := 7) (oi := { dst := some 52, op := Go.Op.nilCheck (Go.Operand.tmp 51), type := 0, pos := "disk.go:155", after := #[{ on := 6, ground := Go.Ground.data }], guard := none }) (v := ?_) rfl (by kernel_rfl) (by kernel_rfl) (by kernel_rfl) (fun _ _ _ h => h) (Or.inl ⟨by rfl, ?_⟩) H0 ?_
          rotate_left
          focus (intro w' hSw; (try dsimp only at hSw); go_simp; (try with_reducible rfl))
          simp only [Act.put, List.setIfInBounds_toArray, List.set_cons_zero, List.set_cons_succ]
          refine wpAnyH_take (i := 8) (oi := { dst := some 53, op := Go.Op.fieldAddr 65 (Go.Operand.tmp 52) 1, type := 0, pos := "disk.go:155", after := #[{ on := 7, ground := Go.Ground.data }], guard := none }) (v := ?_) rfl (by kernel_rfl) (by kernel_rfl) (by kernel_rfl) (fun _ _ _ h => h) (Or.inl ⟨by rfl, ?_⟩) H0 ?_
          rotate_left
          focus (intro w' hSw; (try dsimp only at hSw); go_simp; (try with_reducible rfl))
          simp only [Act.put, List.setIfInBounds_toArray, List.set_cons_zero, List.set_cons_succ]
          refine wpAnyH_take (i := 9) (oi := { dst := some 54, op := Go.Op.load 59 (Go.Operand.tmp 53), type := 59, pos := "disk.go:155", after := #[{ on := 8, ground := Go.Ground.data }], guard := none }) (v := ?_) rfl (by kernel_rfl) (by kernel_rfl) (by kernel_rfl) (fun _ _ _ h => h) (Or.inl ⟨by rfl, ?_⟩) H0 ?_
          rotate_left
          focus (intro w' hSw; (try dsimp only at hSw); have c1 := (K1.out _ hSw).2.1; go_simp; (try with_reducible rfl))
          simp only [Act.put, List.setIfInBounds_toArray, List.set_cons_zero, List.set_cons_succ]
          refine wpAnyH_take (i := 10) (oi := { dst := some 55, op := Go.Op.fieldAddr 78 (Go.Operand.tmp 10) 0, type := 0, pos := "disk.go:155", after := #[], guard := none }) (v := ?_) rfl (by kernel_rfl) (by kernel_rfl) (by kernel_rfl) (fun _ _ _ h => h) (Or.inl ⟨by rfl, ?_⟩) H0 ?_
          rotate_left
          focus (intro w' hSw; (try dsimp only at hSw); go_simp; (try with_reducible rfl))
          simp only [Act.put, List.setIfInBounds_toArray, List.set_cons_zero, List.set_cons_succ]
          refine wpAnyH_take (i := 11) (oi := { dst := some 56, op := Go.Op.load 3 (Go.Operand.tmp 55), type := 3, pos := "disk.go:155", after := #[{ on := 10, ground := Go.Ground.data }], guard := none }) (v := ?_) rfl (by kernel_rfl) (by kernel_rfl) (by kernel_rfl) (fun _ _ _ h => h) (Or.inl ⟨by rfl, ?_⟩) H0 ?_
          rotate_left
          focus (intro w' hSw; (try dsimp only at hSw); have c1 := (K1.out _ hSw).2.2; go_simp; (try with_reducible rfl))
          simp only [Act.put, List.setIfInBounds_toArray, List.set_cons_zero, List.set_cons_succ]
          refine wpAnyH_ready (rs := [12]) (by kernel_rfl) (by simp) ?_
          refine AllReadyH.cons (o := { dst := some 57, op := Go.Op.call { callee := Go.Callee.value (Go.Operand.func 50), args := #[Go.Operand.tmp 54, Go.Operand.tmp 56], argTypes := #[59, 3] }, type := 47, pos := "disk.go:155", after := #[{ on := 9, ground := Go.Ground.data }, { on := 11, ground := Go.Ground.data }], guard := none }) rfl (fun K hK => ?_) ?_
          rotate_left
          exact AllReadyH.nil
          go_simp
          (go_at_call 50; (with_reducible refine (bytes_any (MG.out _ H0) hx1).mono ?_); rintro e w2 ⟨rfl, hw2⟩)
          have B2 : Below (wz.alloc (.cells (wV at' b) 78)).heap.size (wz.alloc (.cells (wV at' b) 78)) w2 := by rw [hw2]; exact ((Below.refl (wz.alloc (.cells (wV at' b) 78)).heap.size (wz.alloc (.cells (wV at' b) 78))).drew.alloc (Nat.le_refl _) _).alloc (by simp) _
          have BT : BytesAt w2 (some ⟨wz.heap.size + 2, 0, none⟩) ((natL (G at')).take 64) := by rw [hw2]; have := bytesAt_cut ((wz.alloc (.cells (wV at' b) 78)).drew.alloc (.cells #[.map (some b2)] 59)) (G at') 64; rwa [show ((wz.alloc (.cells (wV at' b) 78)).drew.alloc (.cells #[.map (some b2)] 59)).heap.size = wz.heap.size + 2 by simp] at this
          clear hw2
          try go_wp2_with fail
          refine hK.out _ _ (Below.apart B2 _) (fun H1 => ?_)
          clear hK K
          try simp only [Act.put, List.setIfInBounds_toArray, List.set_cons_zero, List.set_cons_succ]
          refine wpAnyH_ready (rs := [13]) (by kernel_rfl) (by simp) ?_
          refine AllReadyH.cons (o := { dst := some 58, op := Go.Op.call { callee := Go.Callee.value (Go.Operand.func 43), args := #[Go.Operand.tmp 48, Go.Operand.tmp 50, Go.Operand.tmp 57], argTypes := #[59, 3, 47] }, type := 0, pos := "disk.go:155", after := #[{ on := 3, ground := Go.Ground.data }, { on := 5, ground := Go.Ground.data }, { on := 12, ground := Go.Ground.data }, { on := 12, ground := Go.Ground.chain }], guard := none }) rfl (fun K hK => ?_) ?_
          rotate_left
          exact AllReadyH.nil
          go_simp
          (go_at_call 43; refine (lay_torn_any (M1.out.below B2) hx1 (Nat.le_refl 64) (hGs _ hx1) BT).mono ?_; rintro e w3 ⟨rfl, M3, A3⟩)
          try go_wp2_with fail
          have A4 := H1.trans A3 (fun j hj => .inl hj)
          refine hK.out _ _ A4 (fun H2 => ?_)
          clear hK K
          try simp only [Act.put, List.setIfInBounds_toArray, List.set_cons_zero, List.set_cons_succ]
          refine wpAnyH_done (by kernel_rfl) ?_ _
          go_wp2_with fail
          refine ⟨⟨k + 1, hlt, by first | rfl | go_num, Lib.hid ?_, Lib.hid ?_⟩, by simp [intOf]; omega⟩
          focus (rw [setG_next HX.out]; rw [tornB_64 (hGs _ hx1) (MZ.out.size _ hx1)] at M3; exact M3)
          focus exact (AZ.out.trans (Below.apart ((Below.refl wz.heap.size wz).alloc (Nat.le_refl _) _) (fun _ => False)) (fun j hj => hj.elim)).trans A4 (fun j hj => .inl hj)
        · obtain rfl : k = s.loose.length := by omega
          have zB := (AZ.out.block B lB (fun e => hB1 e.symm)).trans CB.out
          have f3 := frozen_of_row wz B 3 _ 65 zB
          have y3 : wz.cell? ⟨B, 3, none⟩ = some (.slice q2 s.loose.length c2) := cell_of_row wz B 3 _ 65 (0, 0) zB
          go_wp2
          go_end0
          refine ⟨rfl, ⟨?_, HD.out.left, hne, ⟨rfl, .inl ⟨rfl, rfl⟩⟩, by simp [Value.ownBlock], ?_, ?_⟩, ?_⟩
          · rw [heap_setCell_same wz B 3 _ 65 _ zB]
            rfl
          · refine ((MZ.out.of_block (heap_setCell_other wz ⟨B, 3, none⟩ b1 _ hB1))).congr fun j hj => ?_
            rw [HALL.out]
            unfold sectorS
            rw [List.append_nil, HSL.out j hj]
          · refine (M.out.of_block ((heap_setCell_other wz ⟨B, 3, none⟩ b2 _ hB2).trans (AZ.out.block b2 l2 (fun e => hne e.symm)))).congr fun j hj => ?_
            rw [HSL.out j hj]
          · exact ((A.out.wide (fun j hj => .inr (.inr hj))).trans AZ.out (fun j hj => .inl (.inr (.inl hj)))).trans (apart_set wz B 3 _) (fun j hj => .inl (.inl hj))
end Go.Proofs.Ythbnochlpnikaaa
