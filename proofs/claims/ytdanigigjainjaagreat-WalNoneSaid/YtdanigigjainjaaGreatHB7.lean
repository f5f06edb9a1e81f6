/- Parts: W20 W21 W22 W23 W24 W25 W26 W29 W27. -/
import Derived.Test.YtdanigigjainjaaGreatHB6
import Derived.Laws.CopyRow
import Derived.Laws.EntriesVeiled
import Derived.Deep.MidRow
namespace Go.Proofs.YtdanigigjainjaaGreat
open Go.RowKit Go.Shelf
attribute [local go_sem] Oper.semAt_some

theorem run_storeVar_at (w : World) (g o : Nat) (t ty : TypeId) (old cells : Array Value) (hg : w.heap[g]? = some (.cells old t (0, 0))) (hi : (Tryz.prog.info? ty).map (·.size) = some cells.size)
    (ho : o + cells.size ≤ old.size) (h1 : cells.all (·.oneCell') = true) :
    (storeVar ty ⟨g, o, none⟩ (.agg cells)).run Tryz.prog w = .ok () (w.setRow g (old.toList.take o ++ cells.toList ++ old.toList.drop (o + cells.size)).toArray) := by
  have := run_storeCells_at (P := Tryz.prog) g o t cells.toList 0 old w hg (by simp; omega) (fun v hv => (Array.all_eq_true_iff_forall_mem.1 h1) v (by simpa using hv))
  cases hq : Tryz.prog.info? ty with
  | none => simp [hq] at hi
  | some i =>
    have hs : cells.size = i.size := by simp [hq] at hi; omega
    simp [storeVar, sizeOf, typeInfo, hq, Value.cells, hs, this]
/-- A store into a part of a row, as a step of a drawn region. -/
theorem step_store_at {ops : Array Oper} {o : Oper} {a : Act} {w : World} {K : Act → World → Prop} {Q : Exit → Act → World → Prop} {E : Prop} (hgd : o.guard = none) (ty : TypeId) (x y : Operand) (ho : o.op = .store ty x y)
    (g off : Nat) (cells : Array Value) (hx : a.eval x = .pointer (some ⟨g, off, none⟩)) (hy : a.eval y = .agg cells)
    (t : TypeId) (old : Array Value) (hg : w.heap[g]? = some (.cells old t (0, 0))) (hi : (Tryz.prog.info? ty).map (·.size) = some cells.size)
    (hold : off + cells.size ≤ old.size) (h1 : cells.all (·.oneCell') = true)
    (h : K (a.put o.dst undef) (w.setRow g (old.toList.take off ++ cells.toList ++ old.toList.drop (off + cells.size)).toArray)) : if Region.wanted o (yielded ops a.tmps) = true then Oper.wp Tryz.prog o a w K Q else E := by
  have hw : Region.wanted o (yielded ops a.tmps) = true := by simp [Region.wanted, hgd]
  rw [if_pos hw]
  unfold Oper.wp execOp
  simp only [ho, hx, hy, Instr.storeAt, Instr.sureAddr, Sem.run_bind, Sem.run_pure, Result.andThen_ok, run_storeVar_at w g off t ty old cells hg hi hold h1]
  exact h
theorem apart_setRow {w w1 : World} {g : Nat} (h : Dk.Apart (fun b => b = g) w w1) (cs : Array Value) : Dk.Apart (fun b => b = g) w (w1.setRow g cs) :=
  ⟨h.os, h.tape, h.output, by simpa [World.setRow] using h.size, fun k hk hn => by
    have := h.block k hk hn
    rw [← this]
    unfold World.setRow
    simp only [Array.getElem?_modify]
    rw [if_neg (fun e => hn e.symm)]⟩
/-- A read that can be. -/
theorem read_ok {s : Dk.DS} {d : Value} {F : Foot} {w : World} (hR : Dk.RepD w d s F) (hW : Dk.Whole s) (hF : Dk.Few s) {k : Nat} (hk : k < s.many) (hl : s.left ≠ 0) {L : List Nat} (hb : ∀ c ∈ L, c < 256) (hL : Dk.sectorS s k = Dk.strOf L) :
    Calls Tryz.prog 117 #[d, .int .i64 (k : Int)] w fun r w' => ∃ p c, r = .returned (.tuple #[.slice p L.length c, .int .i64 0]) ∧ L.length ≤ c ∧ c ≤ maxLen ∧ BytesAt w' p L ∧ (∀ a, p = some a → w.heap.size ≤ a.block) ∧ Below w.heap.size w w' := by
  refine (Dk.diskOk.read w d s F k hR hW hF).mono ?_
  rintro e w' ⟨t, l, rfl, ht, hlb, he⟩
  rw [Dk.readS_ok (by omega) hl] at he ⊢
  simp only at he ⊢
  have := Dk.strOf_inj hlb hb (he.trans hL)
  subst this
  obtain ⟨⟨p, c, rfl, h1, h2, h3, h4⟩, h5⟩ := ht
  exact ⟨p, c, rfl, h1, h2, h3, h4, h5⟩
theorem read_stop {s : Dk.DS} {d : Value} {F : Foot} {w : World} (hR : Dk.RepD w d s F) (hW : Dk.Whole s) (hF : Dk.Few s) {k : Nat} (hk : k < s.many) (hl : s.left = 0) :
    Calls Tryz.prog 117 #[d, .int .i64 (k : Int)] w fun r w' => ∃ p n c, r = .returned (.tuple #[.slice p n c, .int .i64 140]) ∧ Below w.heap.size w w' := by
  refine (Dk.diskOk.read w d s F k hR hW hF).mono ?_
  rintro e w' ⟨t, l, rfl, ht, hlb, he⟩
  rw [Dk.readS_stop (by omega) (by omega) hl] at he ⊢
  obtain ⟨⟨p, c, rfl, h1, h2, h3, h4⟩, h5⟩ := ht
  exact ⟨p, _, c, rfl, h5⟩
theorem heap3 (w : World) (o1 o2 o3 : Obj) : (((w.alloc o1).alloc o2).alloc o3).heap[w.heap.size + 1]? = some o2 ∧ (((w.alloc o1).alloc o2).alloc o3).heap[w.heap.size + 2]? = some o3 := by
  have h1 := heap_alloc_new (w.alloc o1) o2
  have h2 := heap_alloc_new ((w.alloc o1).alloc o2) o3
  have hb := ((Below.refl ((w.alloc o1).alloc o2).heap.size ((w.alloc o1).alloc o2)).alloc (Nat.le_refl _) o3).block (w.heap.size + 1) (by simp)
  exact ⟨hb.trans (by simpa using h1), by simpa using h2⟩
theorem mod_is (a k : Nat) : ((a : Int) % 2 == (k : Int)) = decide (a % 2 = k) := by
  rw [Bool.beq_eq_decide_eq]
  congr 1
  exact propext ⟨fun h => by omega, fun h => by omega⟩
/-- The head that a sector's bytes are. -/
def hdF (i : Nat) (l : List Nat) : HeadF := if isHead l then ⟨hS l, hE l, hN l, hC l, decide (hS l % 2 = i)⟩ else ⟨0, 0, 0, 0, false⟩
def zl : List Value := [.int .u64 0, .int .u64 0, .int .i64 0, .int .i64 0, .bool false]
def hcs : Nat → HeadF → HeadF → List Value
  | 0, _, _ => zl ++ zl
  | 1, x, _ => x.cs ++ zl
  | _ + 2, x, y => x.cs ++ y.cs
structure HJ (w : World) (d : Value) (x y : HeadF) (k : Nat) (W : World) : Prop where
  hb : Below w.heap.size w W
  sz : w.heap.size + 3 ≤ W.heap.size
  c0 : W.cell? ⟨w.heap.size, 0, none⟩ = some d
  h1 : W.heap[w.heap.size + 1]? = some (.cells (zl ++ zl).toArray 151 (0, 0))
  h2 : W.heap[w.heap.size + 2]? = some (.cells (hcs k x y).toArray 151 (0, 0))
theorem HJ.stay {w : World} {d : Value} {x y : HeadF} {k : Nat} {A C : World} (h : HJ w d x y k A) (hb : Below A.heap.size A C) : HJ w d x y k C :=
  ⟨kbT h.hb hb, Nat.le_trans h.sz hb.size, (hb.cell (lt_of_cell_some h.c0)).trans h.c0, (hb.block _ (by have := h.sz; omega)).trans h.h1, (hb.block _ (by have := h.sz; omega)).trans h.h2⟩
theorem HJ.next {w : World} {d : Value} {x y : HeadF} {k : Nat} {A C : World} {cs : Array Value} (h : HJ w d x y k A) (hb : Below A.heap.size A C) (e : cs = (hcs (k + 1) x y).toArray) : HJ w d x y (k + 1) (C.setRow (w.heap.size + 2) cs) := by
  have h3 := h.stay hb
  have hk : ∀ b, b ≠ w.heap.size + 2 → (C.setRow (w.heap.size + 2) cs).heap[b]? = C.heap[b]? := fun b hn => by
    unfold World.setRow
    simp only [Array.getElem?_modify]
    rw [if_neg (fun e => hn e.symm)]
  refine ⟨?_, by simpa [World.setRow] using h3.sz, ?_, (hk _ (by omega)).trans h3.h1, ?_⟩
  · exact ⟨h3.hb.os, h3.hb.tape, h3.hb.output, by simpa [World.setRow] using h3.hb.size, fun b hb' => (hk b (by omega)).trans (h3.hb.block b hb')⟩
  · exact (World.cell?_of_block (hk _ (by simp only; omega))).trans h3.c0
  · rw [e]
    exact setRow_heap C _ _ _ _ _ h3.h2
set_option maxRecDepth 100000 in
set_option maxHeartbeats 8000000 in
theorem heads_any (s : Dk.DS) (d : Value) (f pg : Int) (F : Foot) (w : World) (hR : Dk.RepD w d s F) (hW : Dk.Whole s) (hF : Dk.Few s) (hm : 2 ≤ s.many) (hl : s.left ≠ 0) (L0 L1 : List Nat) (l0 : L0.length = 64) (l1 : L1.length = 64) (b0 : ∀ c ∈ L0, c < 256) (b1 : ∀ c ∈ L1, c < 256) (e0 : Dk.sectorS s 0 = Dk.strOf L0) (e1 : Dk.sectorS s 1 = Dk.strOf L1) :
    Calls Tryz.prog 93 #[.agg #[d, .int .i64 f, .int .i64 pg]] w fun r w' => r = .returned (.tuple #[.agg ((hdF 0 L0).cs ++ (hdF 1 L1).cs).toArray, .int .i64 0]) ∧ Below w.heap.size w w' := by
  obtain ⟨x0, hx0⟩ : ∃ x, x = hdF 0 L0 := ⟨_, rfl⟩
  obtain ⟨x1, hx1⟩ : ∃ x, x = hdF 1 L1 := ⟨_, rfl⟩
  rw [← hx0, ← hx1]
  have hc2 : ∃ cs : List Value, cs = hcs 2 x0 x1 ∧ cs.length = 10 ∧ ∀ v ∈ cs, v.oneCell' = true := ⟨_, rfl, rfl, by
    intro v hv
    simp only [hcs, HeadF.cs, List.mem_append, List.mem_cons, List.not_mem_nil, or_false] at hv
    rcases hv with (rfl | rfl | rfl | rfl | rfl) | rfl | rfl | rfl | rfl | rfl <;> rfl⟩
  obtain ⟨cs, e, hlen, hone⟩ := hc2
  rw [show x0.cs ++ x1.cs = cs from e.symm]
  have HE := Lib.hid e
  have HLEN := Lib.hid hlen
  have HONE := Lib.hid hone
  clear e hlen hone
  obtain ⟨Bd, hBd⟩ : ∃ Bd, d = .pointer (some ⟨Bd, 0, none⟩) := by obtain ⟨B, _, _, _, e, -⟩ := hR; exact ⟨B, e⟩
  subst hBd
  have hz : Tryz.prog.built 151 [] = some (zl ++ zl).toArray := by kernel_rfl
  have HRD : Hid (∀ (k : Nat) (L : List Nat), (k = 0 ∧ L = L0) ∨ (k = 1 ∧ L = L1) → ∀ W, Below w.heap.size w W → Calls Tryz.prog 117 #[.pointer (some ⟨Bd, 0, none⟩), .int .i64 (k : Int)] W fun r w' => ∃ p c, r = .returned (.tuple #[.slice p 64 c, .int .i64 0]) ∧ Below W.heap.size W w' ∧ Hid (∀ W2, Below w'.heap.size w' W2 → Calls Tryz.prog 118 #[.slice p 64 c] W2 fun r w' => r = .returned (.tuple #[decV L, .int .i64 (decX L)]) ∧ Below W2.heap.size W2 w')) := Lib.hid fun k L hkL W hb => by
    have key : L.length = 64 ∧ (∀ c ∈ L, c < 256) ∧ Dk.sectorS s k = Dk.strOf L ∧ k < s.many := by
      rcases hkL with ⟨rfl, rfl⟩ | ⟨rfl, rfl⟩
      · exact ⟨l0, b0, e0, by omega⟩
      · exact ⟨l1, b1, e1, by omega⟩
    obtain ⟨k1, k2, k3, k4⟩ := key
    refine (read_ok (rep_below hR hb) hW hF k4 hl k2 k3).mono ?_
    rintro e w' ⟨p, c, rfl, h1, h2, h3, -, h5⟩
    rw [k1]
    refine ⟨p, c, rfl, h5, Lib.hid fun W2 hb2 => ?_⟩
    have := decodeHead_any L p c W2 h1 (by unfold maxLen at h2; omega) k2 (bytesAt_below h3 hb2)
    rw [k1] at this
    exact this
  have HLT : Hid (∀ L : List Nat, (∀ c ∈ L, c < 256) → hS L < 2 ^ 64) := Lib.hid fun L hb => by
    have := foldN_lt' (k := 8) hb
    unfold hS
    omega
  have HB0 := Lib.hid b0
  have HB1 := Lib.hid b1
  clear hR hW hF hl b0 b1 e0 e1 l0 l1
  go_enter Tryz.func93, Tryz.ntmps93
  go_wp2
  go_loopw [9] (fun i W => ∃ k : Nat, k ≤ 2 ∧ i = .int .i64 (k : Int) ∧ Hid (HJ w (.pointer (some ⟨Bd, 0, none⟩)) x0 x1 k W)) (fun i _ => (2 - intOf i).toNat)
  case atStart =>
    refine ⟨0, by omega, rfl, Lib.hid ⟨?_, by simp, by go_cell, (heap3 w _ _ _).1, (heap3 w _ _ _).2⟩⟩
    exact (((Below.refl _ _).alloc (Nat.le_refl _) _).alloc (by simp) _).alloc (by simp; omega) _
  case round =>
    obtain ⟨k, hk, rfl, HJ0⟩ := hrel
    by_cases hlt : k < 2
    · have hc0 := HJ0.out.c0
      rcases (show k = 0 ∨ k = 1 by omega) with rfl | rfl
      · have CR := Lib.hid (HRD.out 0 L0 (.inl ⟨rfl, rfl⟩))
        by_cases hh : isHead L0 = true
        · have eV : decV L0 = .agg #[.int .u64 (hS L0 : Nat), .int .u64 (hE L0 : Nat), .int .i64 (hN L0 : Nat), .int .i64 (hC L0 : Nat)] := by unfold decV; rw [if_pos hh]; rfl
          have eX : decX L0 = 0 := by unfold decX; rw [if_pos hh]
          obtain ⟨g, hg⟩ : ∃ g, g = decide (hS L0 % 2 = 0) := ⟨_, rfl⟩
          have ex : x0 = ⟨hS L0, hE L0, hN L0, hC L0, g⟩ := by rw [hx0, hdF, if_pos hh, hg]
          have hgE : Hid (((hS L0 : Int) % 2 == 0) = g) := Lib.hid (by rw [hg]; exact mod_is _ _)
          clear hg
          clear hx0 hx1
          go_wp2_with (first
            | (go_at_call 117; refine (CR.out _ HJ0.out.hb).mono ?_; rintro e w1 ⟨p, c, rfl, hb1, HD⟩; have H1 := Lib.hid (HJ0.out.stay hb1); clear hb1)
            | (go_at_call 118; refine (HD.out _ (Below.refl _ _)).mono ?_; rintro e w2 ⟨rfl, hb2⟩; rw [eV, eX]; have H2 := Lib.hid (H1.out.stay hb2); clear hb2)
            | (refine wpList_store_row rfl 127 _ _ rfl w2.heap.size #[.int .u64 (hS L0 : Nat), .int .u64 (hE L0 : Nat), .int .i64 (hN L0 : Nat), .int .i64 (hC L0 : Nat)] rfl rfl 127 _ (heap_alloc_new w2 _) (by kernel_rfl) rfl rfl ?_; rw [World.setRow_alloc_new])
            | fail)
          obtain ⟨w3, hw3⟩ : ∃ w3, w3 = w2.alloc (.cells #[.int .u64 (hS L0 : Nat), .int .u64 (hE L0 : Nat), .int .i64 (hN L0 : Nat), .int .i64 (hC L0 : Nat)] 127) := ⟨_, rfl⟩
          rw [← hw3]
          have H3 : Hid (HJ w (.pointer (some ⟨Bd, 0, none⟩)) x0 x1 0 w3) := Lib.hid (H2.out.stay (by subst hw3; exact (Below.refl _ _).alloc (Nat.le_refl _) _))
          have HC3 : Hid (∀ w', Dk.Apart (fun b => b = w.heap.size + 2) w3 w' → w'.cell? ⟨w2.heap.size, 0, none⟩ = some (.int .u64 (hS L0 : Nat)) ∧ w'.cell? ⟨w2.heap.size, 1, none⟩ = some (.int .u64 (hE L0 : Nat)) ∧ w'.cell? ⟨w2.heap.size, 2, none⟩ = some (.int .i64 (hN L0 : Nat)) ∧ w'.cell? ⟨w2.heap.size, 3, none⟩ = some (.int .i64 (hC L0 : Nat))) := Lib.hid fun w' ha => by
            have hb := ha.block w2.heap.size (by subst hw3; simp) (by have := H2.out.sz; omega)
            have e : ∀ i, w'.cell? ⟨w2.heap.size, i, none⟩ = w3.cell? ⟨w2.heap.size, i, none⟩ := fun i => World.cell?_of_block hb
            rw [e, e, e, e]
            subst hw3
            exact ⟨by go_cell, by go_cell, by go_cell, by go_cell⟩
          clear hw3 hc0
          have HHA := Lib.hid (headAt_any (hS L0) (hE L0) (hN L0 : Nat) (hC L0 : Nat) (HLT.out L0 HB0.out))
          trace "HERE"
          refine wp_region_held_drew (S := fun w' => Dk.Apart (fun b => b = w.heap.size + 2) w3 w') (by kernel_rfl) (Dk.Below.apart ((Below.refl _ _).drew) _) (fun H0 => ?_)
          refine wpAnyH_take (i := 0) (oi := { dst := some 28, op := Go.Op.move (Go.Operand.tmp 5), type := 3, pos := "place.go:74", after := #[], guard := none }) (v := ?_) rfl (by kernel_rfl) (by kernel_rfl) (by kernel_rfl) (fun _ _ _ h => h) (Or.inl ⟨by rfl, ?_⟩) H0 ?_
          rotate_left
          focus (intro w' hSw; (try dsimp only at hSw); go_simp; (try with_reducible rfl))
          simp only [Act.put, List.setIfInBounds_toArray, List.set_cons_zero, List.set_cons_succ]
          refine wpAnyH_take (i := 1) (oi := { dst := some 29, op := Go.Op.load 127 (Go.Operand.tmp 8), type := 127, pos := "place.go:74", after := #[], guard := none }) (v := ?_) rfl (by kernel_rfl) (by kernel_rfl) (by kernel_rfl) (fun _ _ _ h => h) (Or.inl ⟨by rfl, ?_⟩) H0 ?_
          rotate_left
          focus (intro w' hSw; (try dsimp only at hSw); obtain ⟨z0, z1, z2, z3⟩ := HC3.out _ hSw; go_simp; (try with_reducible rfl))
          simp only [Act.put, List.setIfInBounds_toArray, List.set_cons_zero, List.set_cons_succ]
          refine wpAnyH_take (i := 2) (oi := { dst := some 30, op := Go.Op.move (Go.Operand.tmp 7), type := 25, pos := "place.go:74", after := #[], guard := none }) (v := ?_) rfl (by kernel_rfl) (by kernel_rfl) (by kernel_rfl) (fun _ _ _ h => h) (Or.inl ⟨by rfl, ?_⟩) H0 ?_
          rotate_left
          focus (intro w' hSw; (try dsimp only at hSw); go_simp; (try with_reducible rfl))
          simp only [Act.put, List.setIfInBounds_toArray, List.set_cons_zero, List.set_cons_succ]
          refine wpAnyH_take (i := 3) (oi := { dst := some 31, op := Go.Op.binOp Go.BinOp.eql 25 (Go.Operand.tmp 30) (Go.Operand.const (Go.Value.int Go.IntKind.i64 0)) 25, type := 4, pos := "place.go:74", after := #[{ on := 2, ground := Go.Ground.data }], guard := none }) (v := ?_) rfl (by kernel_rfl) (by kernel_rfl) (by kernel_rfl) (fun _ _ _ h => h) (Or.inl ⟨by rfl, ?_⟩) H0 ?_
          rotate_left
          focus (intro w' hSw; (try dsimp only at hSw); go_simp; (try with_reducible rfl))
          simp only [Act.put, List.setIfInBounds_toArray, List.set_cons_zero, List.set_cons_succ]
          refine wpAnyH_take (i := 4) (oi := { dst := some 32, op := Go.Op.move (Go.Operand.tmp 31), type := 4, pos := "place.go:74", after := #[{ on := 3, ground := Go.Ground.data }], guard := none }) (v := ?_) rfl (by kernel_rfl) (by kernel_rfl) (by kernel_rfl) (fun _ _ _ h => h) (Or.inl ⟨by rfl, ?_⟩) H0 ?_
          rotate_left
          focus (intro w' hSw; (try dsimp only at hSw); go_simp; (try with_reducible rfl))
          simp only [Act.put, List.setIfInBounds_toArray, List.set_cons_zero, List.set_cons_succ]
          refine wpAnyH_take (i := 5) (oi := { dst := some 33, op := Go.Op.load 127 (Go.Operand.tmp 8), type := 127, pos := "place.go:74", after := #[{ on := 4, ground := Go.Ground.guard }], guard := some (4, true) }) (v := ?_) rfl (by kernel_rfl) (by kernel_rfl) (by kernel_rfl) (fun _ _ _ h => h) (Or.inl ⟨by rfl, ?_⟩) H0 ?_
          rotate_left
          focus (intro w' hSw; (try dsimp only at hSw); obtain ⟨z0, z1, z2, z3⟩ := HC3.out _ hSw; go_simp; (try with_reducible rfl))
          simp only [Act.put, List.setIfInBounds_toArray, List.set_cons_zero, List.set_cons_succ]
          refine wpAnyH_take (i := 7) (oi := { dst := some 35, op := Go.Op.move (Go.Operand.tmp 5), type := 3, pos := "place.go:74", after := #[{ on := 4, ground := Go.Ground.guard }], guard := some (4, true) }) (v := ?_) rfl (by kernel_rfl) (by kernel_rfl) (by kernel_rfl) (fun _ _ _ h => h) (Or.inl ⟨by rfl, ?_⟩) H0 ?_
          rotate_left
          focus (intro w' hSw; (try dsimp only at hSw); go_simp; (try with_reducible rfl))
          simp only [Act.put, List.setIfInBounds_toArray, List.set_cons_zero, List.set_cons_succ]
          refine wpAnyH_ready (rs := [6]) (by kernel_rfl) (by simp) ?_
          refine AllReadyH.cons (o := { dst := some 34, op := Go.Op.call { callee := Go.Callee.value (Go.Operand.func 119), args := #[Go.Operand.tmp 33], argTypes := #[127] }, type := 3, pos := "place.go:74", after := #[{ on := 5, ground := Go.Ground.data }, { on := 4, ground := Go.Ground.chain }, { on := 4, ground := Go.Ground.guard }], guard := some (4, true) }) rfl (fun K hK => ?_) ?_
          rotate_left
          exact AllReadyH.nil
          try go_simp
          refine (HHA.out _).mono ?_; rintro e wA ⟨rfl, hbA⟩; have HA := Lib.hid (kbD hbA); clear hbA
          try go_wp2_with fail
          refine hK.out _ _ (Dk.Below.apart HA.out _) (fun H1 => ?_)
          clear hK K
          try simp only [Act.put, List.setIfInBounds_toArray, List.set_cons_zero, List.set_cons_succ]
          refine wpAnyH_take (i := 8) (oi := { dst := some 36, op := Go.Op.binOp Go.BinOp.eql 3 (Go.Operand.tmp 34) (Go.Operand.tmp 35) 3, type := 4, pos := "place.go:74", after := #[{ on := 6, ground := Go.Ground.data }, { on := 7, ground := Go.Ground.data }, { on := 4, ground := Go.Ground.guard }], guard := some (4, true) }) (v := ?_) rfl (by kernel_rfl) (by kernel_rfl) (by kernel_rfl) (fun _ _ _ h => h) (Or.inl ⟨by rfl, ?_⟩) H1 ?_
          rotate_left
          focus (intro w' hSw; (try dsimp only at hSw); go_simp; (try with_reducible rfl))
          simp only [Act.put, List.setIfInBounds_toArray, List.set_cons_zero, List.set_cons_succ]
          refine wpAnyH_take (i := 9) (oi := { dst := some 37, op := Go.Op.pick (Go.Operand.tmp 32) (Go.Operand.tmp 36) (Go.Operand.const (Go.Value.bool false)), type := 4, pos := "place.go:74", after := #[{ on := 4, ground := Go.Ground.data }, { on := 8, ground := Go.Ground.data }], guard := none }) (v := ?_) rfl (by kernel_rfl) (by kernel_rfl) (by kernel_rfl) (fun _ _ _ h => h) (Or.inl ⟨by rfl, ?_⟩) H1 ?_
          rotate_left
          focus (intro w' hSw; (try dsimp only at hSw); go_simp; (try with_reducible rfl))
          simp only [Act.put, List.setIfInBounds_toArray, List.set_cons_zero, List.set_cons_succ]
          refine wpAnyH_take (i := 10) (oi := { dst := some 38, op := Go.Op.build 149 #[(0, Go.Operand.tmp 29), (1, Go.Operand.tmp 37)], type := 149, pos := "place.go:74", after := #[{ on := 1, ground := Go.Ground.data }, { on := 9, ground := Go.Ground.data }], guard := none }) (v := ?_) rfl (by kernel_rfl) (by kernel_rfl) (by kernel_rfl) (fun _ _ _ h => h) (Or.inl ⟨by rfl, ?_⟩) H1 ?_
          rotate_left
          focus (intro w' hSw; (try dsimp only at hSw); go_simp; (try with_reducible rfl))
          simp only [Act.put, List.setIfInBounds_toArray, List.set_cons_zero, List.set_cons_succ]
          refine wpAnyH_take (i := 11) (oi := { dst := some 39, op := Go.Op.indexAddr 151 (Go.Operand.tmp 4) (Go.Operand.tmp 28), type := 0, pos := "place.go:74", after := #[{ on := 0, ground := Go.Ground.data }, { on := 0, ground := Go.Ground.phase }, { on := 1, ground := Go.Ground.phase }, { on := 2, ground := Go.Ground.phase }, { on := 3, ground := Go.Ground.phase }, { on := 4, ground := Go.Ground.phase }, { on := 5, ground := Go.Ground.phase }, { on := 6, ground := Go.Ground.phase }, { on := 7, ground := Go.Ground.phase }, { on := 8, ground := Go.Ground.phase }, { on := 9, ground := Go.Ground.phase }, { on := 10, ground := Go.Ground.phase }], guard := none }) (v := ?_) rfl (by kernel_rfl) (by kernel_rfl) (by kernel_rfl) (fun _ _ _ h => h) (Or.inl ⟨by rfl, ?_⟩) H1 ?_
          rotate_left
          focus (intro w' hSw; (try dsimp only at hSw); go_simp; (try with_reducible rfl))
          simp only [Act.put, List.setIfInBounds_toArray, List.set_cons_zero, List.set_cons_succ]
          refine wpAnyH_ready (rs := [12]) (by kernel_rfl) (by simp) ?_
          refine AllReadyH.cons (o := { dst := none, op := Go.Op.store 149 (Go.Operand.tmp 39) (Go.Operand.tmp 38), type := 0, pos := "place.go:74", after := #[{ on := 11, ground := Go.Ground.data }, { on := 10, ground := Go.Ground.data }, { on := 6, ground := Go.Ground.chain }, { on := 0, ground := Go.Ground.phase }, { on := 1, ground := Go.Ground.phase }, { on := 2, ground := Go.Ground.phase }, { on := 3, ground := Go.Ground.phase }, { on := 4, ground := Go.Ground.phase }, { on := 5, ground := Go.Ground.phase }, { on := 6, ground := Go.Ground.phase }, { on := 7, ground := Go.Ground.phase }, { on := 8, ground := Go.Ground.phase }, { on := 9, ground := Go.Ground.phase }, { on := 10, ground := Go.Ground.phase }], guard := none }) rfl (fun K hK => ?_) ?_
          rotate_left
          exact AllReadyH.nil
          have hrow : wA.heap[w.heap.size + 2]? = some (.cells (hcs 0 x0 x1).toArray 151 (0, 0)) := (HA.out.block _ (by have := H3.out.sz; omega)).trans H3.out.h2
          refine step_store_at rfl 149 (.tmp 39) (.tmp 38) rfl (w.heap.size + 2) 0 #[.int .u64 (hS L0 : Nat), .int .u64 (hE L0 : Nat), .int .i64 (hN L0 : Nat), .int .i64 (hC L0 : Nat), .bool ((hS L0 : Int) % 2 == 0)] rfl rfl 151 _ hrow (by kernel_rfl) (by simp [hcs, zl]) (by simp [Value.oneCell']) ?_
          refine hK.out _ _ (apart_setRow (Dk.Below.apart HA.out _) _) (fun _ => ?_)
          clear hK K
          try simp only [Act.put, List.setIfInBounds_toArray, List.set_cons_zero, List.set_cons_succ]
          refine wpAnyH_done (by kernel_rfl) ?_ _
          go_wp2
          go_roundw
          case rel => exact ⟨1, by omega, by first | rfl | go_num, Lib.hid (H3.out.next HA.out (by rw [ex, ← hgE.out]; rfl))⟩
          case measure => simp [intOf]
        · have eV : decV L0 = .agg #[.int .u64 0, .int .u64 0, .int .i64 0, .int .i64 0] := by unfold decV; rw [if_neg hh]; rfl
          have eX : decX L0 = 150 := by unfold decX; rw [if_neg hh]
          have ex : x0 = ⟨0, 0, 0, 0, false⟩ := by rw [hx0, hdF, if_neg hh]
          clear hx0 hx1
          go_wp2_with (first
            | (go_at_call 117; refine (CR.out _ HJ0.out.hb).mono ?_; rintro e w1 ⟨p, c, rfl, hb1, HD⟩; have H1 := Lib.hid (HJ0.out.stay hb1); clear hb1)
            | (go_at_call 118; refine (HD.out _ (Below.refl _ _)).mono ?_; rintro e w2 ⟨rfl, hb2⟩; rw [eV, eX]; have H2 := Lib.hid (H1.out.stay hb2); clear hb2)
            | (refine wpList_store_row rfl 127 _ _ rfl w2.heap.size #[.int .u64 0, .int .u64 0, .int .i64 0, .int .i64 0] rfl rfl 127 _ (heap_alloc_new w2 _) (by kernel_rfl) rfl rfl ?_; rw [World.setRow_alloc_new])
            | fail)
          obtain ⟨w3, hw3⟩ : ∃ w3, w3 = w2.alloc (.cells #[.int .u64 0, .int .u64 0, .int .i64 0, .int .i64 0] 127) := ⟨_, rfl⟩
          rw [← hw3]
          have H3 : Hid (HJ w (.pointer (some ⟨Bd, 0, none⟩)) x0 x1 0 w3) := Lib.hid (H2.out.stay (by subst hw3; exact (Below.refl _ _).alloc (Nat.le_refl _) _))
          have HC3 : Hid (∀ w', Dk.Apart (fun b => b = w.heap.size + 2) w3 w' → w'.cell? ⟨w2.heap.size, 0, none⟩ = some (.int .u64 0) ∧ w'.cell? ⟨w2.heap.size, 1, none⟩ = some (.int .u64 0) ∧ w'.cell? ⟨w2.heap.size, 2, none⟩ = some (.int .i64 0) ∧ w'.cell? ⟨w2.heap.size, 3, none⟩ = some (.int .i64 0)) := Lib.hid fun w' ha => by
            have hb := ha.block w2.heap.size (by subst hw3; simp) (by have := H2.out.sz; omega)
            have e : ∀ i, w'.cell? ⟨w2.heap.size, i, none⟩ = w3.cell? ⟨w2.heap.size, i, none⟩ := fun i => World.cell?_of_block hb
            rw [e, e, e, e]
            subst hw3
            exact ⟨by go_cell, by go_cell, by go_cell, by go_cell⟩
          clear hw3 hc0
          trace "HERE"
          refine wp_region_held_drew (S := fun w' => Dk.Apart (fun b => b = w.heap.size + 2) w3 w') (by kernel_rfl) (Dk.Below.apart ((Below.refl _ _).drew) _) (fun H0 => ?_)
          refine wpAnyH_take (i := 0) (oi := { dst := some 28, op := Go.Op.move (Go.Operand.tmp 5), type := 3, pos := "place.go:74", after := #[], guard := none }) (v := ?_) rfl (by kernel_rfl) (by kernel_rfl) (by kernel_rfl) (fun _ _ _ h => h) (Or.inl ⟨by rfl, ?_⟩) H0 ?_
          rotate_left
          focus (intro w' hSw; (try dsimp only at hSw); go_simp; (try with_reducible rfl))
          simp only [Act.put, List.setIfInBounds_toArray, List.set_cons_zero, List.set_cons_succ]
          refine wpAnyH_take (i := 1) (oi := { dst := some 29, op := Go.Op.load 127 (Go.Operand.tmp 8), type := 127, pos := "place.go:74", after := #[], guard := none }) (v := ?_) rfl (by kernel_rfl) (by kernel_rfl) (by kernel_rfl) (fun _ _ _ h => h) (Or.inl ⟨by rfl, ?_⟩) H0 ?_
          rotate_left
          focus (intro w' hSw; (try dsimp only at hSw); obtain ⟨z0, z1, z2, z3⟩ := HC3.out _ hSw; go_simp; (try with_reducible rfl))
          simp only [Act.put, List.setIfInBounds_toArray, List.set_cons_zero, List.set_cons_succ]
          refine wpAnyH_take (i := 2) (oi := { dst := some 30, op := Go.Op.move (Go.Operand.tmp 7), type := 25, pos := "place.go:74", after := #[], guard := none }) (v := ?_) rfl (by kernel_rfl) (by kernel_rfl) (by kernel_rfl) (fun _ _ _ h => h) (Or.inl ⟨by rfl, ?_⟩) H0 ?_
          rotate_left
          focus (intro w' hSw; (try dsimp only at hSw); go_simp; (try with_reducible rfl))
          simp only [Act.put, List.setIfInBounds_toArray, List.set_cons_zero, List.set_cons_succ]
          refine wpAnyH_take (i := 3) (oi := { dst := some 31, op := Go.Op.binOp Go.BinOp.eql 25 (Go.Operand.tmp 30) (Go.Operand.const (Go.Value.int Go.IntKind.i64 0)) 25, type := 4, pos := "place.go:74", after := #[{ on := 2, ground := Go.Ground.data }], guard := none }) (v := ?_) rfl (by kernel_rfl) (by kernel_rfl) (by kernel_rfl) (fun _ _ _ h => h) (Or.inl ⟨by rfl, ?_⟩) H0 ?_
          rotate_left
          focus (intro w' hSw; (try dsimp only at hSw); go_simp; (try with_reducible rfl))
          simp only [Act.put, List.setIfInBounds_toArray, List.set_cons_zero, List.set_cons_succ]
          refine wpAnyH_take (i := 4) (oi := { dst := some 32, op := Go.Op.move (Go.Operand.tmp 31), type := 4, pos := "place.go:74", after := #[{ on := 3, ground := Go.Ground.data }], guard := none }) (v := ?_) rfl (by kernel_rfl) (by kernel_rfl) (by kernel_rfl) (fun _ _ _ h => h) (Or.inl ⟨by rfl, ?_⟩) H0 ?_
          rotate_left
          focus (intro w' hSw; (try dsimp only at hSw); go_simp; (try with_reducible rfl))
          simp only [Act.put, List.setIfInBounds_toArray, List.set_cons_zero, List.set_cons_succ]
          refine wpAnyH_take (i := 5) (oi := { dst := some 33, op := Go.Op.load 127 (Go.Operand.tmp 8), type := 127, pos := "place.go:74", after := #[{ on := 4, ground := Go.Ground.guard }], guard := some (4, true) }) (v := undef) rfl (by kernel_rfl) (by kernel_rfl) (by kernel_rfl) (fun _ _ _ h => h) (Or.inr ⟨by rfl, rfl⟩) H0 ?_
          simp only [Act.put, List.setIfInBounds_toArray, List.set_cons_zero, List.set_cons_succ]
          refine wpAnyH_take (i := 7) (oi := { dst := some 35, op := Go.Op.move (Go.Operand.tmp 5), type := 3, pos := "place.go:74", after := #[{ on := 4, ground := Go.Ground.guard }], guard := some (4, true) }) (v := undef) rfl (by kernel_rfl) (by kernel_rfl) (by kernel_rfl) (fun _ _ _ h => h) (Or.inr ⟨by rfl, rfl⟩) H0 ?_
          simp only [Act.put, List.setIfInBounds_toArray, List.set_cons_zero, List.set_cons_succ]
          refine wpAnyH_ready (rs := [6]) (by kernel_rfl) (by simp) ?_
          refine AllReadyH.cons (o := { dst := some 34, op := Go.Op.call { callee := Go.Callee.value (Go.Operand.func 119), args := #[Go.Operand.tmp 33], argTypes := #[127] }, type := 3, pos := "place.go:74", after := #[{ on := 5, ground := Go.Ground.data }, { on := 4, ground := Go.Ground.chain }, { on := 4, ground := Go.Ground.guard }], guard := some (4, true) }) rfl (fun K hK => ?_) ?_
          rotate_left
          exact AllReadyH.nil
          refine (if_neg ?hc).mpr ?_
          case hc => exact fun h => Bool.noConfusion (show false = true from h)
          refine hK.out _ _ H0 (fun _ => ?_)
          clear hK K
          try simp only [Act.put, List.setIfInBounds_toArray, List.set_cons_zero, List.set_cons_succ]
          refine wpAnyH_take (i := 8) (oi := { dst := some 36, op := Go.Op.binOp Go.BinOp.eql 3 (Go.Operand.tmp 34) (Go.Operand.tmp 35) 3, type := 4, pos := "place.go:74", after := #[{ on := 6, ground := Go.Ground.data }, { on := 7, ground := Go.Ground.data }, { on := 4, ground := Go.Ground.guard }], guard := some (4, true) }) (v := undef) rfl (by kernel_rfl) (by kernel_rfl) (by kernel_rfl) (fun _ _ _ h => h) (Or.inr ⟨by rfl, rfl⟩) H0 ?_
          simp only [Act.put, List.setIfInBounds_toArray, List.set_cons_zero, List.set_cons_succ]
          refine wpAnyH_take (i := 9) (oi := { dst := some 37, op := Go.Op.pick (Go.Operand.tmp 32) (Go.Operand.tmp 36) (Go.Operand.const (Go.Value.bool false)), type := 4, pos := "place.go:74", after := #[{ on := 4, ground := Go.Ground.data }, { on := 8, ground := Go.Ground.data }], guard := none }) (v := ?_) rfl (by kernel_rfl) (by kernel_rfl) (by kernel_rfl) (fun _ _ _ h => h) (Or.inl ⟨by rfl, ?_⟩) H0 ?_
          rotate_left
          focus (intro w' hSw; (try dsimp only at hSw); go_simp; (try with_reducible rfl))
          simp only [Act.put, List.setIfInBounds_toArray, List.set_cons_zero, List.set_cons_succ]
          refine wpAnyH_take (i := 10) (oi := { dst := some 38, op := Go.Op.build 149 #[(0, Go.Operand.tmp 29), (1, Go.Operand.tmp 37)], type := 149, pos := "place.go:74", after := #[{ on := 1, ground := Go.Ground.data }, { on := 9, ground := Go.Ground.data }], guard := none }) (v := ?_) rfl (by kernel_rfl) (by kernel_rfl) (by kernel_rfl) (fun _ _ _ h => h) (Or.inl ⟨by rfl, ?_⟩) H0 ?_
          rotate_left
          focus (intro w' hSw; (try dsimp only at hSw); go_simp; (try with_reducible rfl))
          simp only [Act.put, List.setIfInBounds_toArray, List.set_cons_zero, List.set_cons_succ]
          refine wpAnyH_take (i := 11) (oi := { dst := some 39, op := Go.Op.indexAddr 151 (Go.Operand.tmp 4) (Go.Operand.tmp 28), type := 0, pos := "place.go:74", after := #[{ on := 0, ground := Go.Ground.data }, { on := 0, ground := Go.Ground.phase }, { on := 1, ground := Go.Ground.phase }, { on := 2, ground := Go.Ground.phase }, { on := 3, ground := Go.Ground.phase }, { on := 4, ground := Go.Ground.phase }, { on := 5, ground := Go.Ground.phase }, { on := 6, ground := Go.Ground.phase }, { on := 7, ground := Go.Ground.phase }, { on := 8, ground := Go.Ground.phase }, { on := 9, ground := Go.Ground.phase }, { on := 10, ground := Go.Ground.phase }], guard := none }) (v := ?_) rfl (by kernel_rfl) (by kernel_rfl) (by kernel_rfl) (fun _ _ _ h => h) (Or.inl ⟨by rfl, ?_⟩) H0 ?_
          rotate_left
          focus (intro w' hSw; (try dsimp only at hSw); go_simp; (try with_reducible rfl))
          simp only [Act.put, List.setIfInBounds_toArray, List.set_cons_zero, List.set_cons_succ]
          refine wpAnyH_ready (rs := [12]) (by kernel_rfl) (by simp) ?_
          refine AllReadyH.cons (o := { dst := none, op := Go.Op.store 149 (Go.Operand.tmp 39) (Go.Operand.tmp 38), type := 0, pos := "place.go:74", after := #[{ on := 11, ground := Go.Ground.data }, { on := 10, ground := Go.Ground.data }, { on := 6, ground := Go.Ground.chain }, { on := 0, ground := Go.Ground.phase }, { on := 1, ground := Go.Ground.phase }, { on := 2, ground := Go.Ground.phase }, { on := 3, ground := Go.Ground.phase }, { on := 4, ground := Go.Ground.phase }, { on := 5, ground := Go.Ground.phase }, { on := 6, ground := Go.Ground.phase }, { on := 7, ground := Go.Ground.phase }, { on := 8, ground := Go.Ground.phase }, { on := 9, ground := Go.Ground.phase }, { on := 10, ground := Go.Ground.phase }], guard := none }) rfl (fun K hK => ?_) ?_
          rotate_left
          exact AllReadyH.nil
          have hrow : w3.drew.heap[w.heap.size + 2]? = some (.cells (hcs 0 x0 x1).toArray 151 (0, 0)) := (((Below.refl w3.heap.size w3).drew).block _ (by have := H3.out.sz; omega)).trans H3.out.h2
          refine step_store_at rfl 149 (.tmp 39) (.tmp 38) rfl (w.heap.size + 2) 0 #[.int .u64 0, .int .u64 0, .int .i64 0, .int .i64 0, .bool false] rfl rfl 151 _ hrow (by kernel_rfl) (by simp [hcs, zl]) (by simp [Value.oneCell']) ?_
          refine hK.out _ _ (apart_setRow (Dk.Below.apart ((Below.refl w3.heap.size w3).drew) _) _) (fun _ => ?_)
          clear hK K
          try simp only [Act.put, List.setIfInBounds_toArray, List.set_cons_zero, List.set_cons_succ]
          refine wpAnyH_done (by kernel_rfl) ?_ _
          go_wp2
          go_roundw
          case rel => exact ⟨1, by omega, by first | rfl | go_num, Lib.hid (H3.out.next ((Below.refl w3.heap.size w3).drew) (by rw [ex]; rfl))⟩
          case measure => simp [intOf]
      · have CR := Lib.hid (HRD.out 1 L1 (.inr ⟨rfl, rfl⟩))
        by_cases hh : isHead L1 = true
        · have eV : decV L1 = .agg #[.int .u64 (hS L1 : Nat), .int .u64 (hE L1 : Nat), .int .i64 (hN L1 : Nat), .int .i64 (hC L1 : Nat)] := by unfold decV; rw [if_pos hh]; rfl
          have eX : decX L1 = 0 := by unfold decX; rw [if_pos hh]
          obtain ⟨g, hg⟩ : ∃ g, g = decide (hS L1 % 2 = 1) := ⟨_, rfl⟩
          have ex : x1 = ⟨hS L1, hE L1, hN L1, hC L1, g⟩ := by rw [hx1, hdF, if_pos hh, hg]
          have hgE : Hid (((hS L1 : Int) % 2 == 1) = g) := Lib.hid (by rw [hg]; exact mod_is _ _)
          clear hg
          clear hx0 hx1
          go_wp2_with (first
            | (go_at_call 117; refine (CR.out _ HJ0.out.hb).mono ?_; rintro e w1 ⟨p, c, rfl, hb1, HD⟩; have H1 := Lib.hid (HJ0.out.stay hb1); clear hb1)
            | (go_at_call 118; refine (HD.out _ (Below.refl _ _)).mono ?_; rintro e w2 ⟨rfl, hb2⟩; rw [eV, eX]; have H2 := Lib.hid (H1.out.stay hb2); clear hb2)
            | (refine wpList_store_row rfl 127 _ _ rfl w2.heap.size #[.int .u64 (hS L1 : Nat), .int .u64 (hE L1 : Nat), .int .i64 (hN L1 : Nat), .int .i64 (hC L1 : Nat)] rfl rfl 127 _ (heap_alloc_new w2 _) (by kernel_rfl) rfl rfl ?_; rw [World.setRow_alloc_new])
            | fail)
          obtain ⟨w3, hw3⟩ : ∃ w3, w3 = w2.alloc (.cells #[.int .u64 (hS L1 : Nat), .int .u64 (hE L1 : Nat), .int .i64 (hN L1 : Nat), .int .i64 (hC L1 : Nat)] 127) := ⟨_, rfl⟩
          rw [← hw3]
          have H3 : Hid (HJ w (.pointer (some ⟨Bd, 0, none⟩)) x0 x1 1 w3) := Lib.hid (H2.out.stay (by subst hw3; exact (Below.refl _ _).alloc (Nat.le_refl _) _))
          have HC3 : Hid (∀ w', Dk.Apart (fun b => b = w.heap.size + 2) w3 w' → w'.cell? ⟨w2.heap.size, 0, none⟩ = some (.int .u64 (hS L1 : Nat)) ∧ w'.cell? ⟨w2.heap.size, 1, none⟩ = some (.int .u64 (hE L1 : Nat)) ∧ w'.cell? ⟨w2.heap.size, 2, none⟩ = some (.int .i64 (hN L1 : Nat)) ∧ w'.cell? ⟨w2.heap.size, 3, none⟩ = some (.int .i64 (hC L1 : Nat))) := Lib.hid fun w' ha => by
            have hb := ha.block w2.heap.size (by subst hw3; simp) (by have := H2.out.sz; omega)
            have e : ∀ i, w'.cell? ⟨w2.heap.size, i, none⟩ = w3.cell? ⟨w2.heap.size, i, none⟩ := fun i => World.cell?_of_block hb
            rw [e, e, e, e]
            subst hw3
            exact ⟨by go_cell, by go_cell, by go_cell, by go_cell⟩
          clear hw3 hc0
          have HHA := Lib.hid (headAt_any (hS L1) (hE L1) (hN L1 : Nat) (hC L1 : Nat) (HLT.out L1 HB1.out))
          trace "HERE"
          refine wp_region_held_drew (S := fun w' => Dk.Apart (fun b => b = w.heap.size + 2) w3 w') (by kernel_rfl) (Dk.Below.apart ((Below.refl _ _).drew) _) (fun H0 => ?_)
          refine wpAnyH_take (i := 0) (oi := { dst := some 28, op := Go.Op.move (Go.Operand.tmp 5), type := 3, pos := "place.go:74", after := #[], guard := none }) (v := ?_) rfl (by kernel_rfl) (by kernel_rfl) (by kernel_rfl) (fun _ _ _ h => h) (Or.inl ⟨by rfl, ?_⟩) H0 ?_
          rotate_left
          focus (intro w' hSw; (try dsimp only at hSw); go_simp; (try with_reducible rfl))
          simp only [Act.put, List.setIfInBounds_toArray, List.set_cons_zero, List.set_cons_succ]
          refine wpAnyH_take (i := 1) (oi := { dst := some 29, op := Go.Op.load 127 (Go.Operand.tmp 8), type := 127, pos := "place.go:74", after := #[], guard := none }) (v := ?_) rfl (by kernel_rfl) (by kernel_rfl) (by kernel_rfl) (fun _ _ _ h => h) (Or.inl ⟨by rfl, ?_⟩) H0 ?_
          rotate_left
          focus (intro w' hSw; (try dsimp only at hSw); obtain ⟨z0, z1, z2, z3⟩ := HC3.out _ hSw; go_simp; (try with_reducible rfl))
          simp only [Act.put, List.setIfInBounds_toArray, List.set_cons_zero, List.set_cons_succ]
          refine wpAnyH_take (i := 2) (oi := { dst := some 30, op := Go.Op.move (Go.Operand.tmp 7), type := 25, pos := "place.go:74", after := #[], guard := none }) (v := ?_) rfl (by kernel_rfl) (by kernel_rfl) (by kernel_rfl) (fun _ _ _ h => h) (Or.inl ⟨by rfl, ?_⟩) H0 ?_
          rotate_left
          focus (intro w' hSw; (try dsimp only at hSw); go_simp; (try with_reducible rfl))
          simp only [Act.put, List.setIfInBounds_toArray, List.set_cons_zero, List.set_cons_succ]
          refine wpAnyH_take (i := 3) (oi := { dst := some 31, op := Go.Op.binOp Go.BinOp.eql 25 (Go.Operand.tmp 30) (Go.Operand.const (Go.Value.int Go.IntKind.i64 0)) 25, type := 4, pos := "place.go:74", after := #[{ on := 2, ground := Go.Ground.data }], guard := none }) (v := ?_) rfl (by kernel_rfl) (by kernel_rfl) (by kernel_rfl) (fun _ _ _ h => h) (Or.inl ⟨by rfl, ?_⟩) H0 ?_
          rotate_left
          focus (intro w' hSw; (try dsimp only at hSw); go_simp; (try with_reducible rfl))
          simp only [Act.put, List.setIfInBounds_toArray, List.set_cons_zero, List.set_cons_succ]
          refine wpAnyH_take (i := 4) (oi := { dst := some 32, op := Go.Op.move (Go.Operand.tmp 31), type := 4, pos := "place.go:74", after := #[{ on := 3, ground := Go.Ground.data }], guard := none }) (v := ?_) rfl (by kernel_rfl) (by kernel_rfl) (by kernel_rfl) (fun _ _ _ h => h) (Or.inl ⟨by rfl, ?_⟩) H0 ?_
          rotate_left
          focus (intro w' hSw; (try dsimp only at hSw); go_simp; (try with_reducible rfl))
          simp only [Act.put, List.setIfInBounds_toArray, List.set_cons_zero, List.set_cons_succ]
          refine wpAnyH_take (i := 5) (oi := { dst := some 33, op := Go.Op.load 127 (Go.Operand.tmp 8), type := 127, pos := "place.go:74", after := #[{ on := 4, ground := Go.Ground.guard }], guard := some (4, true) }) (v := ?_) rfl (by kernel_rfl) (by kernel_rfl) (by kernel_rfl) (fun _ _ _ h => h) (Or.inl ⟨by rfl, ?_⟩) H0 ?_
          rotate_left
          focus (intro w' hSw; (try dsimp only at hSw); obtain ⟨z0, z1, z2, z3⟩ := HC3.out _ hSw; go_simp; (try with_reducible rfl))
          simp only [Act.put, List.setIfInBounds_toArray, List.set_cons_zero, List.set_cons_succ]
          refine wpAnyH_take (i := 7) (oi := { dst := some 35, op := Go.Op.move (Go.Operand.tmp 5), type := 3, pos := "place.go:74", after := #[{ on := 4, ground := Go.Ground.guard }], guard := some (4, true) }) (v := ?_) rfl (by kernel_rfl) (by kernel_rfl) (by kernel_rfl) (fun _ _ _ h => h) (Or.inl ⟨by rfl, ?_⟩) H0 ?_
          rotate_left
          focus (intro w' hSw; (try dsimp only at hSw); go_simp; (try with_reducible rfl))
          simp only [Act.put, List.setIfInBounds_toArray, List.set_cons_zero, List.set_cons_succ]
          refine wpAnyH_ready (rs := [6]) (by kernel_rfl) (by simp) ?_
          refine AllReadyH.cons (o := { dst := some 34, op := Go.Op.call { callee := Go.Callee.value (Go.Operand.func 119), args := #[Go.Operand.tmp 33], argTypes := #[127] }, type := 3, pos := "place.go:74", after := #[{ on := 5, ground := Go.Ground.data }, { on := 4, ground := Go.Ground.chain }, { on := 4, ground := Go.Ground.guard }], guard := some (4, true) }) rfl (fun K hK => ?_) ?_
          rotate_left
          exact AllReadyH.nil
          try go_simp
          refine (HHA.out _).mono ?_; rintro e wA ⟨rfl, hbA⟩; have HA := Lib.hid (kbD hbA); clear hbA
          try go_wp2_with fail
          refine hK.out _ _ (Dk.Below.apart HA.out _) (fun H1 => ?_)
          clear hK K
          try simp only [Act.put, List.setIfInBounds_toArray, List.set_cons_zero, List.set_cons_succ]
          refine wpAnyH_take (i := 8) (oi := { dst := some 36, op := Go.Op.binOp Go.BinOp.eql 3 (Go.Operand.tmp 34) (Go.Operand.tmp 35) 3, type := 4, pos := "place.go:74", after := #[{ on := 6, ground := Go.Ground.data }, { on := 7, ground := Go.Ground.data }, { on := 4, ground := Go.Ground.guard }], guard := some (4, true) }) (v := ?_) rfl (by kernel_rfl) (by kernel_rfl) (by kernel_rfl) (fun _ _ _ h => h) (Or.inl ⟨by rfl, ?_⟩) H1 ?_
          rotate_left
          focus (intro w' hSw; (try dsimp only at hSw); go_simp; (try with_reducible rfl))
          simp only [Act.put, List.setIfInBounds_toArray, List.set_cons_zero, List.set_cons_succ]
          refine wpAnyH_take (i := 9) (oi := { dst := some 37, op := Go.Op.pick (Go.Operand.tmp 32) (Go.Operand.tmp 36) (Go.Operand.const (Go.Value.bool false)), type := 4, pos := "place.go:74", after := #[{ on := 4, ground := Go.Ground.data }, { on := 8, ground := Go.Ground.data }], guard := none }) (v := ?_) rfl (by kernel_rfl) (by kernel_rfl) (by kernel_rfl) (fun _ _ _ h => h) (Or.inl ⟨by rfl, ?_⟩) H1 ?_
          rotate_left
          focus (intro w' hSw; (try dsimp only at hSw); go_simp; (try with_reducible rfl))
          simp only [Act.put, List.setIfInBounds_toArray, List.set_cons_zero, List.set_cons_succ]
          refine wpAnyH_take (i := 10) (oi := { dst := some 38, op := Go.Op.build 149 #[(0, Go.Operand.tmp 29), (1, Go.Operand.tmp 37)], type := 149, pos := "place.go:74", after := #[{ on := 1, ground := Go.Ground.data }, { on := 9, ground := Go.Ground.data }], guard := none }) (v := ?_) rfl (by kernel_rfl) (by kernel_rfl) (by kernel_rfl) (fun _ _ _ h => h) (Or.inl ⟨by rfl, ?_⟩) H1 ?_
          rotate_left
          focus (intro w' hSw; (try dsimp only at hSw); go_simp; (try with_reducible rfl))
          simp only [Act.put, List.setIfInBounds_toArray, List.set_cons_zero, List.set_cons_succ]
          refine wpAnyH_take (i := 11) (oi := { dst := some 39, op := Go.Op.indexAddr 151 (Go.Operand.tmp 4) (Go.Operand.tmp 28), type := 0, pos := "place.go:74", after := #[{ on := 0, ground := Go.Ground.data }, { on := 0, ground := Go.Ground.phase }, { on := 1, ground := Go.Ground.phase }, { on := 2, ground := Go.Ground.phase }, { on := 3, ground := Go.Ground.phase }, { on := 4, ground := Go.Ground.phase }, { on := 5, ground := Go.Ground.phase }, { on := 6, ground := Go.Ground.phase }, { on := 7, ground := Go.Ground.phase }, { on := 8, ground := Go.Ground.phase }, { on := 9, ground := Go.Ground.phase }, { on := 10, ground := Go.Ground.phase }], guard := none }) (v := ?_) rfl (by kernel_rfl) (by kernel_rfl) (by kernel_rfl) (fun _ _ _ h => h) (Or.inl ⟨by rfl, ?_⟩) H1 ?_
          rotate_left
          focus (intro w' hSw; (try dsimp only at hSw); go_simp; (try with_reducible rfl))
          simp only [Act.put, List.setIfInBounds_toArray, List.set_cons_zero, List.set_cons_succ]
          refine wpAnyH_ready (rs := [12]) (by kernel_rfl) (by simp) ?_
          refine AllReadyH.cons (o := { dst := none, op := Go.Op.store 149 (Go.Operand.tmp 39) (Go.Operand.tmp 38), type := 0, pos := "place.go:74", after := #[{ on := 11, ground := Go.Ground.data }, { on := 10, ground := Go.Ground.data }, { on := 6, ground := Go.Ground.chain }, { on := 0, ground := Go.Ground.phase }, { on := 1, ground := Go.Ground.phase }, { on := 2, ground := Go.Ground.phase }, { on := 3, ground := Go.Ground.phase }, { on := 4, ground := Go.Ground.phase }, { on := 5, ground := Go.Ground.phase }, { on := 6, ground := Go.Ground.phase }, { on := 7, ground := Go.Ground.phase }, { on := 8, ground := Go.Ground.phase }, { on := 9, ground := Go.Ground.phase }, { on := 10, ground := Go.Ground.phase }], guard := none }) rfl (fun K hK => ?_) ?_
          rotate_left
          exact AllReadyH.nil
          have hrow : wA.heap[w.heap.size + 2]? = some (.cells (hcs 1 x0 x1).toArray 151 (0, 0)) := (HA.out.block _ (by have := H3.out.sz; omega)).trans H3.out.h2
          refine step_store_at rfl 149 (.tmp 39) (.tmp 38) rfl (w.heap.size + 2) 5 #[.int .u64 (hS L1 : Nat), .int .u64 (hE L1 : Nat), .int .i64 (hN L1 : Nat), .int .i64 (hC L1 : Nat), .bool ((hS L1 : Int) % 2 == 1)] rfl rfl 151 _ hrow (by kernel_rfl) (by simp [hcs, zl]) (by simp [Value.oneCell']) ?_
          refine hK.out _ _ (apart_setRow (Dk.Below.apart HA.out _) _) (fun _ => ?_)
          clear hK K
          try simp only [Act.put, List.setIfInBounds_toArray, List.set_cons_zero, List.set_cons_succ]
          refine wpAnyH_done (by kernel_rfl) ?_ _
          go_wp2
          go_roundw
          case rel => exact ⟨2, by omega, by first | rfl | go_num, Lib.hid (H3.out.next HA.out (by rw [ex, ← hgE.out]; rfl))⟩
          case measure => simp [intOf]
        · have eV : decV L1 = .agg #[.int .u64 0, .int .u64 0, .int .i64 0, .int .i64 0] := by unfold decV; rw [if_neg hh]; rfl
          have eX : decX L1 = 150 := by unfold decX; rw [if_neg hh]
          have ex : x1 = ⟨0, 0, 0, 0, false⟩ := by rw [hx1, hdF, if_neg hh]
          clear hx0 hx1
          go_wp2_with (first
            | (go_at_call 117; refine (CR.out _ HJ0.out.hb).mono ?_; rintro e w1 ⟨p, c, rfl, hb1, HD⟩; have H1 := Lib.hid (HJ0.out.stay hb1); clear hb1)
            | (go_at_call 118; refine (HD.out _ (Below.refl _ _)).mono ?_; rintro e w2 ⟨rfl, hb2⟩; rw [eV, eX]; have H2 := Lib.hid (H1.out.stay hb2); clear hb2)
            | (refine wpList_store_row rfl 127 _ _ rfl w2.heap.size #[.int .u64 0, .int .u64 0, .int .i64 0, .int .i64 0] rfl rfl 127 _ (heap_alloc_new w2 _) (by kernel_rfl) rfl rfl ?_; rw [World.setRow_alloc_new])
            | fail)
          obtain ⟨w3, hw3⟩ : ∃ w3, w3 = w2.alloc (.cells #[.int .u64 0, .int .u64 0, .int .i64 0, .int .i64 0] 127) := ⟨_, rfl⟩
          rw [← hw3]
          have H3 : Hid (HJ w (.pointer (some ⟨Bd, 0, none⟩)) x0 x1 1 w3) := Lib.hid (H2.out.stay (by subst hw3; exact (Below.refl _ _).alloc (Nat.le_refl _) _))
          have HC3 : Hid (∀ w', Dk.Apart (fun b => b = w.heap.size + 2) w3 w' → w'.cell? ⟨w2.heap.size, 0, none⟩ = some (.int .u64 0) ∧ w'.cell? ⟨w2.heap.size, 1, none⟩ = some (.int .u64 0) ∧ w'.cell? ⟨w2.heap.size, 2, none⟩ = some (.int .i64 0) ∧ w'.cell? ⟨w2.heap.size, 3, none⟩ = some (.int .i64 0)) := Lib.hid fun w' ha => by
            have hb := ha.block w2.heap.size (by subst hw3; simp) (by have := H2.out.sz; omega)
            have e : ∀ i, w'.cell? ⟨w2.heap.size, i, none⟩ = w3.cell? ⟨w2.heap.size, i, none⟩ := fun i => World.cell?_of_block hb
            rw [e, e, e, e]
            subst hw3
            exact ⟨by go_cell, by go_cell, by go_cell, by go_cell⟩
          clear hw3 hc0
          trace "HERE"
          refine wp_region_held_drew (S := fun w' => Dk.Apart (fun b => b = w.heap.size + 2) w3 w') (by kernel_rfl) (Dk.Below.apart ((Below.refl _ _).drew) _) (fun H0 => ?_)
          refine wpAnyH_take (i := 0) (oi := { dst := some 28, op := Go.Op.move (Go.Operand.tmp 5), type := 3, pos := "place.go:74", after := #[], guard := none }) (v := ?_) rfl (by kernel_rfl) (by kernel_rfl) (by kernel_rfl) (fun _ _ _ h => h) (Or.inl ⟨by rfl, ?_⟩) H0 ?_
          rotate_left
          focus (intro w' hSw; (try dsimp only at hSw); go_simp; (try with_reducible rfl))
          simp only [Act.put, List.setIfInBounds_toArray, List.set_cons_zero, List.set_cons_succ]
          refine wpAnyH_take (i := 1) (oi := { dst := some 29, op := Go.Op.load 127 (Go.Operand.tmp 8), type := 127, pos := "place.go:74", after := #[], guard := none }) (v := ?_) rfl (by kernel_rfl) (by kernel_rfl) (by kernel_rfl) (fun _ _ _ h => h) (Or.inl ⟨by rfl, ?_⟩) H0 ?_
          rotate_left
          focus (intro w' hSw; (try dsimp only at hSw); obtain ⟨z0, z1, z2, z3⟩ := HC3.out _ hSw; go_simp; (try with_reducible rfl))
          simp only [Act.put, List.setIfInBounds_toArray, List.set_cons_zero, List.set_cons_succ]
          refine wpAnyH_take (i := 2) (oi := { dst := some 30, op := Go.Op.move (Go.Operand.tmp 7), type := 25, pos := "place.go:74", after := #[], guard := none }) (v := ?_) rfl (by kernel_rfl) (by kernel_rfl) (by kernel_rfl) (fun _ _ _ h => h) (Or.inl ⟨by rfl, ?_⟩) H0 ?_
          rotate_left
          focus (intro w' hSw; (try dsimp only at hSw); go_simp; (try with_reducible rfl))
          simp only [Act.put, List.setIfInBounds_toArray, List.set_cons_zero, List.set_cons_succ]
          refine wpAnyH_take (i := 3) (oi := { dst := some 31, op := Go.Op.binOp Go.BinOp.eql 25 (Go.Operand.tmp 30) (Go.Operand.const (Go.Value.int Go.IntKind.i64 0)) 25, type := 4, pos := "place.go:74", after := #[{ on := 2, ground := Go.Ground.data }], guard := none }) (v := ?_) rfl (by kernel_rfl) (by kernel_rfl) (by kernel_rfl) (fun _ _ _ h => h) (Or.inl ⟨by rfl, ?_⟩) H0 ?_
          rotate_left
          focus (intro w' hSw; (try dsimp only at hSw); go_simp; (try with_reducible rfl))
          simp only [Act.put, List.setIfInBounds_toArray, List.set_cons_zero, List.set_cons_succ]
          refine wpAnyH_take (i := 4) (oi := { dst := some 32, op := Go.Op.move (Go.Operand.tmp 31), type := 4, pos := "place.go:74", after := #[{ on := 3, ground := Go.Ground.data }], guard := none }) (v := ?_) rfl (by kernel_rfl) (by kernel_rfl) (by kernel_rfl) (fun _ _ _ h => h) (Or.inl ⟨by rfl, ?_⟩) H0 ?_
          rotate_left
          focus (intro w' hSw; (try dsimp only at hSw); go_simp; (try with_reducible rfl))
          simp only [Act.put, List.setIfInBounds_toArray, List.set_cons_zero, List.set_cons_succ]
          refine wpAnyH_take (i := 5) (oi := { dst := some 33, op := Go.Op.load 127 (Go.Operand.tmp 8), type := 127, pos := "place.go:74", after := #[{ on := 4, ground := Go.Ground.guard }], guard := some (4, true) }) (v := undef) rfl (by kernel_rfl) (by kernel_rfl) (by kernel_rfl) (fun _ _ _ h => h) (Or.inr ⟨by rfl, rfl⟩) H0 ?_
          simp only [Act.put, List.setIfInBounds_toArray, List.set_cons_zero, List.set_cons_succ]
          refine wpAnyH_take (i := 7) (oi := { dst := some 35, op := Go.Op.move (Go.Operand.tmp 5), type := 3, pos := "place.go:74", after := #[{ on := 4, ground := Go.Ground.guard }], guard := some (4, true) }) (v := undef) rfl (by kernel_rfl) (by kernel_rfl) (by kernel_rfl) (fun _ _ _ h => h) (Or.inr ⟨by rfl, rfl⟩) H0 ?_
          simp only [Act.put, List.setIfInBounds_toArray, List.set_cons_zero, List.set_cons_succ]
          refine wpAnyH_ready (rs := [6]) (by kernel_rfl) (by simp) ?_
          refine AllReadyH.cons (o := { dst := some 34, op := Go.Op.call { callee := Go.Callee.value (Go.Operand.func 119), args := #[Go.Operand.tmp 33], argTypes := #[127] }, type := 3, pos := "place.go:74", after := #[{ on := 5, ground := Go.Ground.data }, { on := 4, ground := Go.Ground.chain }, { on := 4, ground := Go.Ground.guard }], guard := some (4, true) }) rfl (fun K hK => ?_) ?_
          rotate_left
          exact AllReadyH.nil
          refine (if_neg ?hc).mpr ?_
          case hc => exact fun h => Bool.noConfusion (show false = true from h)
          refine hK.out _ _ H0 (fun _ => ?_)
          clear hK K
          try simp only [Act.put, List.setIfInBounds_toArray, List.set_cons_zero, List.set_cons_succ]
          refine wpAnyH_take (i := 8) (oi := { dst := some 36, op := Go.Op.binOp Go.BinOp.eql 3 (Go.Operand.tmp 34) (Go.Operand.tmp 35) 3, type := 4, pos := "place.go:74", after := #[{ on := 6, ground := Go.Ground.data }, { on := 7, ground := Go.Ground.data }, { on := 4, ground := Go.Ground.guard }], guard := some (4, true) }) (v := undef) rfl (by kernel_rfl) (by kernel_rfl) (by kernel_rfl) (fun _ _ _ h => h) (Or.inr ⟨by rfl, rfl⟩) H0 ?_
          simp only [Act.put, List.setIfInBounds_toArray, List.set_cons_zero, List.set_cons_succ]
          refine wpAnyH_take (i := 9) (oi := { dst := some 37, op := Go.Op.pick (Go.Operand.tmp 32) (Go.Operand.tmp 36) (Go.Operand.const (Go.Value.bool false)), type := 4, pos := "place.go:74", after := #[{ on := 4, ground := Go.Ground.data }, { on := 8, ground := Go.Ground.data }], guard := none }) (v := ?_) rfl (by kernel_rfl) (by kernel_rfl) (by kernel_rfl) (fun _ _ _ h => h) (Or.inl ⟨by rfl, ?_⟩) H0 ?_
          rotate_left
          focus (intro w' hSw; (try dsimp only at hSw); go_simp; (try with_reducible rfl))
          simp only [Act.put, List.setIfInBounds_toArray, List.set_cons_zero, List.set_cons_succ]
          refine wpAnyH_take (i := 10) (oi := { dst := some 38, op := Go.Op.build 149 #[(0, Go.Operand.tmp 29), (1, Go.Operand.tmp 37)], type := 149, pos := "place.go:74", after := #[{ on := 1, ground := Go.Ground.data }, { on := 9, ground := Go.Ground.data }], guard := none }) (v := ?_) rfl (by kernel_rfl) (by kernel_rfl) (by kernel_rfl) (fun _ _ _ h => h) (Or.inl ⟨by rfl, ?_⟩) H0 ?_
          rotate_left
          focus (intro w' hSw; (try dsimp only at hSw); go_simp; (try with_reducible rfl))
          simp only [Act.put, List.setIfInBounds_toArray, List.set_cons_zero, List.set_cons_succ]
          refine wpAnyH_take (i := 11) (oi := { dst := some 39, op := Go.Op.indexAddr 151 (Go.Operand.tmp 4) (Go.Operand.tmp 28), type := 0, pos := "place.go:74", after := #[{ on := 0, ground := Go.Ground.data }, { on := 0, ground := Go.Ground.phase }, { on := 1, ground := Go.Ground.phase }, { on := 2, ground := Go.Ground.phase }, { on := 3, ground := Go.Ground.phase }, { on := 4, ground := Go.Ground.phase }, { on := 5, ground := Go.Ground.phase }, { on := 6, ground := Go.Ground.phase }, { on := 7, ground := Go.Ground.phase }, { on := 8, ground := Go.Ground.phase }, { on := 9, ground := Go.Ground.phase }, { on := 10, ground := Go.Ground.phase }], guard := none }) (v := ?_) rfl (by kernel_rfl) (by kernel_rfl) (by kernel_rfl) (fun _ _ _ h => h) (Or.inl ⟨by rfl, ?_⟩) H0 ?_
          rotate_left
          focus (intro w' hSw; (try dsimp only at hSw); go_simp; (try with_reducible rfl))
          simp only [Act.put, List.setIfInBounds_toArray, List.set_cons_zero, List.set_cons_succ]
          refine wpAnyH_ready (rs := [12]) (by kernel_rfl) (by simp) ?_
          refine AllReadyH.cons (o := { dst := none, op := Go.Op.store 149 (Go.Operand.tmp 39) (Go.Operand.tmp 38), type := 0, pos := "place.go:74", after := #[{ on := 11, ground := Go.Ground.data }, { on := 10, ground := Go.Ground.data }, { on := 6, ground := Go.Ground.chain }, { on := 0, ground := Go.Ground.phase }, { on := 1, ground := Go.Ground.phase }, { on := 2, ground := Go.Ground.phase }, { on := 3, ground := Go.Ground.phase }, { on := 4, ground := Go.Ground.phase }, { on := 5, ground := Go.Ground.phase }, { on := 6, ground := Go.Ground.phase }, { on := 7, ground := Go.Ground.phase }, { on := 8, ground := Go.Ground.phase }, { on := 9, ground := Go.Ground.phase }, { on := 10, ground := Go.Ground.phase }], guard := none }) rfl (fun K hK => ?_) ?_
          rotate_left
          exact AllReadyH.nil
          have hrow : w3.drew.heap[w.heap.size + 2]? = some (.cells (hcs 1 x0 x1).toArray 151 (0, 0)) := (((Below.refl w3.heap.size w3).drew).block _ (by have := H3.out.sz; omega)).trans H3.out.h2
          refine step_store_at rfl 149 (.tmp 39) (.tmp 38) rfl (w.heap.size + 2) 5 #[.int .u64 0, .int .u64 0, .int .i64 0, .int .i64 0, .bool false] rfl rfl 151 _ hrow (by kernel_rfl) (by simp [hcs, zl]) (by simp [Value.oneCell']) ?_
          refine hK.out _ _ (apart_setRow (Dk.Below.apart ((Below.refl w3.heap.size w3).drew) _) _) (fun _ => ?_)
          clear hK K
          try simp only [Act.put, List.setIfInBounds_toArray, List.set_cons_zero, List.set_cons_succ]
          refine wpAnyH_done (by kernel_rfl) ?_ _
          go_wp2
          go_roundw
          case rel => exact ⟨2, by omega, by first | rfl | go_num, Lib.hid (H3.out.next ((Below.refl w3.heap.size w3).drew) (by rw [ex]; rfl))⟩
          case measure => simp [intOf]
    · obtain rfl : k = 2 := by omega
      clear hx0 hx1
      have H2 := HJ0.out.h2
      have H1 := HJ0.out.h1
      have e := HE.out
      have hlen := HLEN.out
      have hone := HONE.out
      rw [← e] at H2
      have HST : (storeCells ⟨w.heap.size + 1, 0, none⟩ cs).run Tryz.prog wr = .ok () (wr.setRow (w.heap.size + 1) cs.toArray) := by
        have := run_storeCells_from (P := Tryz.prog) (w.heap.size + 1) 151 cs 0 (zl ++ zl).toArray wr H1 (by rw [hlen]; rfl) hone
        simpa using this
      have HB := Lib.hid HJ0.out.hb
      have HSZ := Lib.hid HJ0.out.sz
      clear e HJ0 hone hlen
      go_wp2_with (first
        | (refine wpList_load_row rfl 151 _ rfl (w.heap.size + 2) rfl 151 cs.toArray (0, 0) _ H2 Tryz.underlying151 rfl (by rw [List.size_toArray, HLEN.out]; kernel_rfl) ?_)
        | fail)
      have hrow : (wr.setRow (w.heap.size + 1) cs.toArray).heap[w.heap.size + 1]? = some (.cells cs.toArray 151 (0, 0)) := setRow_heap wr _ _ _ _ _ H1
      have hlv : (loadVar 151 ⟨w.heap.size + 1, 0, none⟩).run Tryz.prog (wr.setRow (w.heap.size + 1) cs.toArray) = .ok (.agg cs.toArray) (wr.setRow (w.heap.size + 1) cs.toArray) := run_loadVar_row _ _ _ _ _ _ _ hrow Tryz.underlying151 rfl (by rw [List.size_toArray, HLEN.out]; kernel_rfl)
      refine bodyPost_ret (v := .tuple #[.agg cs.toArray, .int .i64 0]) ?_ rfl ⟨rfl, ?_⟩
      · simp [results, Tryz.results93, asAddr, hlv]
      · have h := HB.out
        refine ⟨h.os, h.tape, h.output, by simpa [World.setRow] using h.size, fun k hk => ?_⟩
        rw [← h.block k hk]
        unfold World.setRow
        simp only [Array.getElem?_modify]
        rw [if_neg (by omega)]
/-- A disk that has stopped tells no heads. -/
theorem heads_stop (s : Dk.DS) (d : Value) (f pg : Int) (F : Foot) (w : World) (hR : Dk.RepD w d s F) (hW : Dk.Whole s) (hF : Dk.Few s) (hm : 2 ≤ s.many) (hl : s.left = 0) :
    Calls Tryz.prog 93 #[.agg #[d, .int .i64 f, .int .i64 pg]] w fun r w' => r = .returned (.tuple #[.agg (zl ++ zl).toArray, .int .i64 140]) ∧ Below w.heap.size w w' := by
  obtain ⟨Bd, hBd⟩ : ∃ Bd, d = .pointer (some ⟨Bd, 0, none⟩) := by obtain ⟨B, _, _, _, e, -⟩ := hR; exact ⟨B, e⟩
  subst hBd
  obtain ⟨zz, ez, hlen, hone⟩ : ∃ zz : List Value, zz = zl ++ zl ∧ zz.length = 10 ∧ ∀ v ∈ zz, v.oneCell' = true := ⟨zl ++ zl, rfl, rfl, by intro v hv; simp only [zl, List.cons_append, List.nil_append, List.mem_cons, List.not_mem_nil, or_false] at hv; rcases hv with rfl | rfl | rfl | rfl | rfl | rfl | rfl | rfl | rfl | rfl <;> rfl⟩
  rw [← ez]
  have HEZ := Lib.hid ez
  obtain ⟨w0, hw0⟩ : ∃ w0, w0 = ((w.alloc (.cells #[.pointer (some ⟨Bd, 0, none⟩), .int .i64 f, .int .i64 pg] 37)).alloc (.cells #[.int .u64 0, .int .u64 0, .int .i64 0, .int .i64 0, .bool false, .int .u64 0, .int .u64 0, .int .i64 0, .int .i64 0, .bool false] 151)).alloc (.cells #[.int .u64 0, .int .u64 0, .int .i64 0, .int .i64 0, .bool false, .int .u64 0, .int .u64 0, .int .i64 0, .int .i64 0, .bool false] 151) := ⟨_, rfl⟩
  have B0 : Below w.heap.size w w0 := by subst hw0; exact (((Below.refl _ _).alloc (Nat.le_refl _) _).alloc (by simp) _).alloc (by simp; omega) _
  have CR := Lib.hid (read_stop (k := 0) (rep_below hR B0) hW hF (by omega) hl)
  have hr1 : w0.heap[w.heap.size + 1]? = some (.cells zz.toArray 151 (0, 0)) := by subst hw0; rw [ez]; exact (heap3 w _ _ _).1
  have HB0 := Lib.hid B0
  have hsz : w0.heap.size = w.heap.size + 3 := by subst hw0; simp
  have HQ := Lib.hid (And.intro hr1 (And.intro hsz (And.intro hlen hone)))
  clear hR hW hF hm hl B0 hr1 hsz ez hlen hone
  go_enter Tryz.func93, Tryz.ntmps93
  go_wp2
  go_loopw [9] (fun i W => i = .int .i64 0 ∧ Hid (W = w0)) (fun _ _ => 0)
  case atStart => exact ⟨rfl, Lib.hid hw0.symm⟩
  case round =>
    obtain ⟨rfl, HW⟩ := hrel
    obtain rfl := HW.out
    have c0 : wr.cell? ⟨w.heap.size, 0, none⟩ = some (.pointer (some ⟨Bd, 0, none⟩)) := by subst hw0; go_cell
    clear hw0
    go_upto_region 7 with (first
      | (go_at_call 117; refine CR.out.mono ?_; rintro e w1 ⟨p, n, c, rfl, hb1⟩; have H1 := Lib.hid hb1; obtain ⟨hr1, hsz, hlen, hone⟩ := HQ.out; have hr2 := (hb1.block _ (by omega)).trans hr1; have HR2 := Lib.hid hr2; have HST : (storeCells ⟨w.heap.size + 1, 0, none⟩ zz).run Tryz.prog w1 = .ok () (w1.setRow (w.heap.size + 1) zz.toArray) := (by simpa using run_storeCells_from (P := Tryz.prog) (w.heap.size + 1) 151 zz 0 zz.toArray w1 hr2 (by simp) hone); clear hb1 hr1 hsz hr2 hlen hone)
      | fail)
    obtain ⟨w2, hw2⟩ : ∃ w2, w2 = w1.setRow (w.heap.size + 1) zz.toArray := ⟨_, rfl⟩
    rw [← hw2] at HST
    have HW2 := Lib.hid hw2
    clear hw2
    have ez := HEZ.out
    have hlen := HQ.out.2.2.1
    refine wp_region_lit ?_
    refine wpList_buildTo rfl 151 #[] rfl (some 21) rfl zz.toArray (by rw [ez]; kernel_rfl) ?_
    clear ez
    simp only [Act.put, List.setIfInBounds_toArray, List.set_cons_zero, List.set_cons_succ]
    go_wp2_with fail
    have hw2 := HW2.out
    subst hw2
    have H1b := HR2.out
    have hrow : (w1.setRow (w.heap.size + 1) zz.toArray).heap[w.heap.size + 1]? = some (.cells zz.toArray 151 (0, 0)) := setRow_heap w1 _ _ _ _ _ H1b
    have hlv : (loadVar 151 ⟨w.heap.size + 1, 0, none⟩).run Tryz.prog (w1.setRow (w.heap.size + 1) zz.toArray) = .ok (.agg zz.toArray) (w1.setRow (w.heap.size + 1) zz.toArray) := run_loadVar_row _ _ _ _ _ _ _ hrow Tryz.underlying151 rfl (by rw [List.size_toArray, hlen]; kernel_rfl)
    refine bodyPost_ret (v := .tuple #[.agg zz.toArray, .int .i64 140]) ?_ rfl ⟨rfl, ?_⟩
    · simp [results, Tryz.results93, asAddr, hlv]
    · have h := kbT HB0.out H1.out
      refine ⟨h.os, h.tape, h.output, by simpa [World.setRow] using h.size, fun k hk => ?_⟩
      rw [← h.block k hk]
      unfold World.setRow
      simp only [Array.getElem?_modify]
      rw [if_neg (by omega)]
end Go.Proofs.YtdanigigjainjaaGreat
namespace Go.Proofs.YtdanigigjainjaaGreat
open Go.RowKit Go.Shelf
attribute [local go_sem] Oper.semAt_some

theorem step_len (s : Dk.DS) (o : DOp) : (stepOp s o).1.sync.length + (stepOp s o).1.loose.length ≤ s.sync.length + s.loose.length + 1 := by
  cases o with
  | wr k b =>
    have := writeS_sync s k b
    simp only [stepOp]
    rw [this.1]
    omega
  | sy =>
    simp only [stepOp, Dk.syncS]
    split
    · simp only; omega
    · simp
theorem run_len (s : Dk.DS) (l : List DOp) : (runOps s l).1.sync.length + (runOps s l).1.loose.length ≤ s.sync.length + s.loose.length + l.length := by
  induction l generalizing s with
  | nil => simp [runOps]
  | cons o l ih =>
    rw [runOps]
    have h1 := step_len s o
    split
    · have := ih (stepOp s o).1
      rw [List.length_cons]
      omega
    · rw [List.length_cons]
      omega
theorem goes_trans {d : Value} {s' : Dk.DS} {F F' : Foot} {w W W' : World} (hF : ∀ k, F' k → F k ∨ w.heap.size ≤ k) (ha : Dk.Apart F w W) (h : Dk.Goes Dk.RepD d s' F' W W') : Dk.Goes Dk.RepD d s' F w W' := by
  obtain ⟨F2, hR, h1, h2⟩ := h
  refine ⟨F2, hR, fun k hk => ?_, ⟨h2.os.trans ha.os, h2.tape.trans ha.tape, h2.output.trans ha.output, Nat.le_trans ha.size h2.size, fun k hk hn => (h2.block k (Nat.lt_of_lt_of_le hk ha.size) (fun hf => (hF k hf).elim hn (fun h => by omega))).trans (ha.block k hk hn)⟩⟩
  rcases h1 k hk with h | h
  · exact hF k h
  · exact .inr (Nat.le_trans ha.size h)
theorem goes_refl {d : Value} {s : Dk.DS} {F : Foot} {w : World} (h : Dk.RepD w d s F) : Dk.Goes Dk.RepD d s F w w := ⟨F, h, fun _ h => .inl h, ⟨rfl, rfl, rfl, Nat.le_refl _, fun _ _ _ => rfl⟩⟩
theorem flat_take_succ {α : Type} (L : List (List α)) (i : Nat) (o : List α) (h : L[i]? = some o) : (L.take (i + 1)).flatten = (L.take i).flatten ++ o := by
  rw [List.take_add_one, h, Option.toList_some, List.flatten_append, List.flatten_singleton]
theorem flat_take_len {α : Type} (L : List (List α)) (i : Nat) : (L.take i).flatten.length ≤ L.flatten.length := by
  conv => rhs; rw [← List.take_append_drop i L, List.flatten_append, List.length_append]
  omega
theorem flat_take_pre {α : Type} (L : List (List α)) (i : Nat) : L.flatten = (L.take i).flatten ++ (L.drop i).flatten := by
  rw [← List.flatten_append, List.take_append_drop]
/-- What a step does to a disk. -/
def StepDoes (d : Value) (w2 : World) (F : Foot) (f : FnV) (o : List DOp) : Prop := ∀ (s : Dk.DS) (F' : Foot) (W : World), Dk.RepD W d s F' → (∀ k, F' k → F k ∨ w2.heap.size ≤ k) → Dk.Apart F w2 W → Dk.Whole s → s.sync.length + s.loose.length + o.length ≤ 19000 →
  Calls Tryz.prog f.g (f.first ++ #[] ++ f.caps) W fun r W' => r = .returned (.int .i64 (runOps s o).2) ∧ Dk.Goes Dk.RepD d (runOps s o).1 F' W W'
theorem first_ops (s0 : Dk.DS) (d : Value) (F : Foot) (w2 : World) (fs : List FnV) (ops : List (List DOp)) (B c : Nat) (hR : Dk.RepD w2 d s0 F) (hW : Dk.Whole s0) (hn : fs.length ≤ 10000) (hlen : fs.length = ops.length) (hsz : s0.sync.length + s0.loose.length + ops.flatten.length ≤ 19000)
    (hent : ∀ f ∈ fs, ∀ args w, (callFunc f.g args).run Tryz.prog w = .ok (.enter f.g args) w) (hB : ¬ F B)
    (hcell : ∀ i, i < fs.length → w2.cell? ⟨B, i, none⟩ = some ((fs.map FnV.v).getD i undef))
    (hdo : ∀ (i : Nat) (f : FnV) (o : List DOp), fs[i]? = some f → ops[i]? = some o → StepDoes d w2 F f o) :
    Calls Tryz.prog 38 #[.slice (some ⟨B, 0, none⟩) fs.length c] w2 fun r w' => r = .returned (.int .i64 (runOps s0 ops.flatten).2) ∧ Dk.Goes Dk.RepD d (runOps s0 ops.flatten).1 F w2 w' := by
  refine (first_any fs (some ⟨B, 0, none⟩) c (fun i W => (runOps s0 (ops.take i).flatten).2 = 0 ∧ Dk.Goes Dk.RepD d (runOps s0 (ops.take i).flatten).1 F w2 W)
    (fun e W => e = (runOps s0 ops.flatten).2 ∧ Dk.Goes Dk.RepD d (runOps s0 ops.flatten).1 F w2 W) w2 hn hent ?_ ?_ ?_ ⟨rfl, goes_refl hR⟩).mono ?_
  · rintro i W ⟨-, F', hR', h1, h2⟩ hi
    refine ⟨B, 0, rfl, ?_⟩
    rw [Nat.zero_add]
    have hc := hcell i hi
    exact (World.cell?_of_block (h2.block B (lt_of_cell_some hc) hB)).trans hc
  · rintro i f W hf ⟨h0, F', hR', h1, h2⟩
    have hi := (List.getElem?_eq_some_iff.1 hf).1
    obtain ⟨o, ho⟩ : ∃ o, ops[i]? = some o := ⟨_, List.getElem?_eq_getElem (by omega)⟩
    have hl1 := run_len s0 (ops.take i).flatten
    have hl2 : (ops.take i).flatten.length + o.length ≤ ops.flatten.length := by
      have := flat_take_len ops (i + 1)
      rw [flat_take_succ ops i o ho, List.length_append] at this
      exact this
    refine (hdo i f o hf ho _ F' W hR' h1 h2 (runOps_whole hW _) (by omega)).mono ?_
    rintro r W' ⟨rfl, hg⟩
    refine ⟨_, rfl, fun e0 => ?_, fun e0 => ?_⟩
    · rw [flat_take_succ ops i o ho, runOps_append, if_pos h0]
      exact ⟨e0, goes_trans h1 h2 hg⟩
    · have e : runOps s0 ops.flatten = runOps (runOps s0 (ops.take i).flatten).1 o := by
        rw [flat_take_pre ops (i + 1), flat_take_succ ops i o ho, List.append_assoc, runOps_append, if_pos h0, runOps_append, if_neg e0]
      rw [e]
      exact ⟨rfl, goes_trans h1 h2 hg⟩
  · rintro W ⟨h0, hg⟩
    rw [hlen, List.take_of_length_le (Nat.le_refl _)] at h0 hg
    exact ⟨h0.symm, hg⟩
  · rintro r w' ⟨e, rfl, rfl, hg⟩
    exact ⟨rfl, hg⟩
end Go.Proofs.YtdanigigjainjaaGreat
namespace Go.Proofs.YtdanigigjainjaaGreat
open Go.RowKit Go.Shelf
attribute [local go_sem] Oper.semAt_some

theorem infoFn : (Tryz.prog.info? 56).map (fun i => (i.zero, i.size, i.bytes)) = some (some .nilFunc, 1, 8) := by kernel_rfl
theorem sync_step (d : Value) (w2 : World) (F : Foot) : StepDoes d w2 F ⟨89, #[d], #[]⟩ [.sy] := fun s F' W hR _ _ hW hs => by
  refine (Dk.diskOk.sync W d s F' hR hW ⟨by simp at hs; omega, by simp at hs; omega⟩).mono ?_
  rintro e w' ⟨rfl, hg⟩
  rw [runOps_one]
  exact ⟨rfl, hg⟩
set_option maxRecDepth 100000 in
set_option maxHeartbeats 2000000 in
theorem head_call (d : Value) (f pg : Int) (S E n c : Nat) (A H : Nat) (w2 : World) (F : Foot) (hS : S < 2 ^ 64) (hE : E < 2 ^ 64) (hh : headOk n c = true) (hF : ∀ k, F k → k < A ∧ k < H)
    (ha : w2.heap[A]? = some (.cells #[d, .int .i64 f, .int .i64 pg] 37 (0, 0))) (hb : w2.heap[H]? = some (.cells #[.int .u64 S, .int .u64 E, .int .i64 n, .int .i64 c] 127 (0, 0))) :
    StepDoes d w2 F ⟨105, #[], #[.pointer (some ⟨A, 0, none⟩), .pointer (some ⟨H, 0, none⟩)]⟩ [headOp S E n c] := fun s F' W hR _ hA hW hs => by
  have hla : A < w2.heap.size := (Array.getElem?_eq_some_iff.1 ha).1
  have hlb : H < w2.heap.size := (Array.getElem?_eq_some_iff.1 hb).1
  have a1 := (hA.block A hla (fun h => by have := hF _ h; omega)).trans ha
  have b1 := (hA.block H hlb (fun h => by have := hF _ h; omega)).trans hb
  have CW := Lib.hid (writeHead_any s d f pg S E n c F' W hR hW ⟨by simp at hs; omega, by simp at hs; omega⟩ hS hE hh)
  rw [runOps_one]
  show Calls _ _ _ _ fun r W' => r = .returned (.int .i64 (Dk.writeS s (S % 2 : Nat) (Dk.strOf (headL S E n c))).2) ∧ Dk.Goes Dk.RepD d (Dk.writeS s (S % 2 : Nat) (Dk.strOf (headL S E n c))).1 F' W W'
  obtain ⟨st, hst⟩ : ∃ st, Dk.writeS s (S % 2 : Nat) (Dk.strOf (headL S E n c)) = st := ⟨_, rfl⟩
  rw [hst] at CW ⊢
  obtain ⟨Bd, hBd⟩ : ∃ Bd, d = .pointer (some ⟨Bd, 0, none⟩) := by obtain ⟨B, _, _, _, e, -⟩ := hR; exact ⟨B, e⟩
  subst hBd
  clear hR hW hst
  show Calls Tryz.prog 105 #[.pointer (some ⟨A, 0, none⟩), .pointer (some ⟨H, 0, none⟩)] W _
  go_enter Tryz.func105, Tryz.ntmps105
  go_wp2_with (first
    | (go_at_call 106; refine CW.out.mono ?_; rintro e w1 ⟨rfl, hg⟩; have HG := Lib.hid hg; clear hg)
    | (refine wpList_load_row rfl 37 _ rfl A rfl 37 _ (0, 0) _ a1 Tryz.underlying37 rfl (by kernel_rfl) ?_)
    | (refine wpList_load_row rfl 127 _ rfl H rfl 127 _ (0, 0) _ b1 Tryz.underlying127 rfl (by kernel_rfl) ?_)
    | fail)
  go_ret
  exact ⟨rfl, HG.out⟩
set_option maxRecDepth 100000 in
set_option maxHeartbeats 2000000 in
/-- A closure that writes a frame, of whatever cells. -/
theorem frame_call (d : Value) (f pg : Int) (x : Array Value) (o : List DOp) (A H : Nat) (w2 : World) (F : Foot) (hF : ∀ k, F k → k < A ∧ k < H)
    (ha : w2.heap[A]? = some (.cells #[d, .int .i64 f, .int .i64 pg] 37 (0, 0))) (hb : w2.heap[H]? = some (.cells x 156 (0, 0))) (hx : x.size = 7) (hd : ∃ Bd, d = .pointer (some ⟨Bd, 0, none⟩))
    (hc : ∀ (s : Dk.DS) (F' : Foot) (W : World), Dk.RepD W d s F' → (∀ k, F' k → F k ∨ w2.heap.size ≤ k) → Dk.Apart F w2 W → Dk.Whole s → s.sync.length + s.loose.length + o.length ≤ 19000 →
      Calls Tryz.prog 104 #[.agg #[d, .int .i64 f, .int .i64 pg], .agg x] W fun r W' => r = .returned (.int .i64 (runOps s o).2) ∧ Dk.Goes Dk.RepD d (runOps s o).1 F' W W') :
    StepDoes d w2 F ⟨103, #[], #[.pointer (some ⟨A, 0, none⟩), .pointer (some ⟨H, 0, none⟩)]⟩ o := fun s F' W hR hF' hA hW hs => by
  have hla : A < w2.heap.size := (Array.getElem?_eq_some_iff.1 ha).1
  have hlb : H < w2.heap.size := (Array.getElem?_eq_some_iff.1 hb).1
  have a1 := (hA.block A hla (fun h => by have := hF _ h; omega)).trans ha
  have b1 := (hA.block H hlb (fun h => by have := hF _ h; omega)).trans hb
  have CW := Lib.hid (hc s F' W hR hF' hA hW hs)
  generalize runOps s o = st at CW ⊢
  obtain ⟨Bd, hBd⟩ := hd
  subst hBd
  clear hc hR hW
  show Calls Tryz.prog 103 #[.pointer (some ⟨A, 0, none⟩), .pointer (some ⟨H, 0, none⟩)] W _
  go_enter Tryz.func103, Tryz.ntmps103
  go_wp2_with (first
    | (go_at_call 104; refine CW.out.mono ?_; rintro e w1 ⟨rfl, hg⟩; have HG := Lib.hid hg; clear hg)
    | (refine wpList_load_row rfl 37 _ rfl A rfl 37 _ (0, 0) _ a1 Tryz.underlying37 rfl (by kernel_rfl) ?_)
    | (refine wpList_load_row rfl 156 _ rfl H rfl 156 x (0, 0) _ b1 Tryz.underlying156 rfl (by rw [hx]; kernel_rfl) ?_)
    | fail)
  go_ret
  exact ⟨rfl, HG.out⟩
end Go.Proofs.YtdanigigjainjaaGreat
namespace Go.Proofs.YtdanigigjainjaaGreat
open Go.RowKit Go.Shelf
attribute [local go_sem] Oper.semAt_some

abbrev clF (w : World) (b : Nat) : FnV := ⟨103, #[], #[.pointer (some ⟨w.heap.size, 0, none⟩), .pointer (some ⟨b, 0, none⟩)]⟩
abbrev clH (w : World) : FnV := ⟨105, #[], #[.pointer (some ⟨w.heap.size, 0, none⟩), .pointer (some ⟨w.heap.size + 1, 0, none⟩)]⟩
abbrev clS (d : Value) : FnV := ⟨89, #[d], #[]⟩
structure WJ (w : World) (p h : Array Value) (X : List (Array Value)) (bs : List Nat) (W : World) : Prop where
  hb : Below w.heap.size w W
  pl : W.heap[w.heap.size]? = some (.cells p 37 (0, 0))
  hd : W.heap[w.heap.size + 1]? = some (.cells h 127 (0, 0))
  bl : ∀ (j b : Nat), bs[j]? = some b → w.heap.size + 2 ≤ b ∧ ∃ x, X[j]? = some x ∧ W.heap[b]? = some (.cells x 156 (0, 0))
theorem own_type {w : World} {base n g : Nat} {e t : TypeId} {sz : Nat} {v : Value} {xs : List Value} {cs : Array Value} {fr : Nat × Nat} (h : w.ownsRow base e sz v n xs) (hg : w.heap[g]? = some (.cells cs t fr)) (ht : t ≠ e) : some g ≠ v.ownBlock := by
  rcases h.2 with ⟨rfl, -⟩ | ⟨g', cap, cur, rfl, -, h3, -⟩
  · intro e'; cases e'
  · intro e'
    simp only [Value.ownBlock, Option.some.injEq] at e'
    subst e'
    rw [hg] at h3
    injection h3 with h3
    injection h3 with _ h4 _
    exact ht h4
theorem WJ.grown {w : World} {p h : Array Value} {X : List (Array Value)} {bs : List Nat} {W W' : World} {v : Value} {n : Nat} {xs : List Value} (J : WJ w p h X bs W) (ho : W.ownsRow w.heap.size 56 1 v n xs) (hg : W.grownBy W' v.ownBlock) : WJ w p h X bs W' := by
  have keep : ∀ {g : Nat} {cs : Array Value} {t : TypeId}, W.heap[g]? = some (.cells cs t (0, 0)) → t ≠ 56 → W'.heap[g]? = some (.cells cs t (0, 0)) := fun hc ht => (hg.block _ (Array.getElem?_eq_some_iff.1 hc).1 (own_type ho hc ht)).trans hc
  refine ⟨?_, keep J.pl (by decide), keep J.hd (by decide), fun j b hj => ?_⟩
  · exact J.hb.grown hg J.hb.size (fun j hj => by
      rcases ho.2 with ⟨rfl, -⟩ | ⟨g', cap, cur, rfl, h2, -⟩
      · cases hj
      · simp only [Value.ownBlock, Option.some.injEq] at hj
        omega)
  · obtain ⟨h1, x, h2, h3⟩ := J.bl j b hj
    exact ⟨h1, x, h2, keep h3 (by decide)⟩
theorem WJ.below {w : World} {p h : Array Value} {X : List (Array Value)} {bs : List Nat} {W W' : World} (J : WJ w p h X bs W) (hb : Below W.heap.size W W') : WJ w p h X bs W' :=
  ⟨kbT J.hb hb, (hb.block _ (Array.getElem?_eq_some_iff.1 J.pl).1).trans J.pl, (hb.block _ (Array.getElem?_eq_some_iff.1 J.hd).1).trans J.hd, fun j b hj => by
    obtain ⟨h1, x, h2, h3⟩ := J.bl j b hj
    exact ⟨h1, x, h2, (hb.block _ (Array.getElem?_eq_some_iff.1 h3).1).trans h3⟩⟩
theorem WJ.box {w : World} {p h : Array Value} {X : List (Array Value)} {bs : List Nat} {W : World} {x : Array Value} (J : WJ w p h X bs W) (hx : X[bs.length]? = some x) : WJ w p h X (bs ++ [W.heap.size]) (W.alloc (.cells x 156)) := by
  have J2 := J.below ((Below.refl _ W).alloc (Nat.le_refl _) (.cells x 156))
  have hs := (Array.getElem?_eq_some_iff.1 J.hd).1
  refine ⟨J2.hb, J2.pl, J2.hd, fun j b hj => ?_⟩
  rcases Nat.lt_or_ge j bs.length with h1 | h1
  · rw [List.getElem?_append_left h1] at hj
    exact J2.bl j b hj
  · rw [List.getElem?_append_right h1] at hj
    have h2 : j - bs.length = 0 := by
      have := (List.getElem?_eq_some_iff.1 hj).1
      simp at this
      omega
    rw [h2] at hj
    simp only [List.getElem?_cons_zero, Option.some.injEq] at hj
    subst hj
    refine ⟨by omega, x, ?_, heap_alloc_new W _⟩
    rw [show j = bs.length by omega]
    exact hx
theorem own_alloc {w W : World} {v : Value} {n : Nat} {xs : List Value} (h : W.ownsRow w.heap.size 56 1 v n xs) (o : Obj) : (W.alloc o).ownsRow w.heap.size 56 1 v n xs := Dk.ownsRow_kept h (fun j hj => Below.heap_alloc W _ j (h.lt j hj).2)
theorem own_nil {w : World} : ∀ W : World, W.ownsRow w.heap.size 56 1 (.slice none 0 0) 0 [] := fun W => ⟨rfl, .inl ⟨rfl, rfl⟩⟩
theorem own_slice {W : World} {base : Nat} {e : TypeId} {v : Value} {n : Nat} {xs : List Value} (h : W.ownsRow base e 1 v n xs) (hn : 0 < n) : ∃ g c, v = .slice (some ⟨g, 0, none⟩) n c ∧ base ≤ g ∧ ∀ i, i < n → W.cell? ⟨g, i, none⟩ = some (xs.getD i undef) := by
  rcases h.2 with ⟨-, h0⟩ | ⟨g, cap, cur, rfl, hg, -⟩
  · omega
  · refine ⟨g, cap, rfl, hg, fun i hi => ?_⟩
    have hl : i < xs.length := by have := h.1; omega
    have := h.cells (g := g) rfl i _ (List.getElem?_eq_getElem hl)
    rw [addr_plain, Nat.zero_add] at this
    rw [this, List.getD_eq_getElem?_getD, List.getElem?_eq_getElem hl]
    rfl
/-- The steps are done. -/
theorem write_end (s : Dk.DS) (d : Value) (f pg : Int) (S E n c : Nat) (X : List (Array Value)) (ops : List (List DOp)) (bs : List Nat) (F : Foot) (w W : World) (hR : Dk.RepD w d s F) (hW : Dk.Whole s) (hS : S < 2 ^ 64) (hE : E < 2 ^ 64) (hh : headOk n c = true)
    (hX : ∀ x ∈ X, x.size = 7) (hbl : bs.length = X.length) (hol : ops.length = X.length) (hXn : X.length ≤ 3000) (mid : List FnV) (mops : List (List DOp)) (hmid : (mid = [] ∧ mops = []) ∨ (mid = [clS d] ∧ mops = [[.sy]]))
    (hlen : s.sync.length + s.loose.length + (ops ++ mops ++ [[headOp S E n c], [.sy]]).flatten.length ≤ 19000)
    (J : WJ w #[d, .int .i64 f, .int .i64 pg] #[.int .u64 S, .int .u64 E, .int .i64 n, .int .i64 c] X bs W)
    (hc : ∀ (j : Nat) (x : Array Value) (o : List DOp), X[j]? = some x → ops[j]? = some o → ∀ (w2 : World), Below w.heap.size w w2 → ∀ (s : Dk.DS) (F' : Foot) (W : World), Dk.RepD W d s F' → (∀ k, F' k → F k ∨ w2.heap.size ≤ k) → Dk.Apart F w2 W → Dk.Whole s → s.sync.length + s.loose.length + o.length ≤ 19000 →
      Calls Tryz.prog 104 #[.agg #[d, .int .i64 f, .int .i64 pg], .agg x] W fun r W' => r = .returned (.int .i64 (runOps s o).2) ∧ Dk.Goes Dk.RepD d (runOps s o).1 F' W W')
    (v : Value) (m : Nat) (ho : W.ownsRow w.heap.size 56 1 v m ((bs.map (clF w) ++ mid ++ [clH w, clS d]).map FnV.v)) :
    Calls Tryz.prog 38 #[v] W fun r w' => r = .returned (.int .i64 (runOps s (ops ++ mops ++ [[headOp S E n c], [.sy]]).flatten).2) ∧ Dk.Goes Dk.RepD d (runOps s (ops ++ mops ++ [[headOp S E n c], [.sy]]).flatten).1 F w w' := by
  have hFw : ∀ k, F k → k < w.heap.size := Dk.diskOk.low _ _ _ _ hR
  have hd : ∃ Bd, d = .pointer (some ⟨Bd, 0, none⟩) := by obtain ⟨B, _, _, _, e, -⟩ := hR; exact ⟨B, e⟩
  have hm1 : mid.length = mops.length := by rcases hmid with ⟨rfl, rfl⟩ | ⟨rfl, rfl⟩ <;> rfl
  have hm2 : mid.length ≤ 1 := by rcases hmid with ⟨rfl, rfl⟩ | ⟨rfl, rfl⟩ <;> simp
  obtain ⟨fs, hfs⟩ : ∃ fs, fs = bs.map (clF w) ++ mid ++ [clH w, clS d] := ⟨_, rfl⟩
  have hfl : fs.length = bs.length + mid.length + 2 := by rw [hfs]; simp; omega
  rw [← hfs] at ho
  have hm : m = fs.length := by have := ho.1; rw [List.length_map] at this; omega
  subst hm
  obtain ⟨g, cp, rfl, hg, hcell⟩ := own_slice ho (by omega)
  have hzip : ∀ p ∈ fs.zip (ops ++ mops ++ [[headOp S E n c], [.sy]]), StepDoes d W F p.1 p.2 := by
    intro p hp
    rw [hfs, List.zip_append (by simp; omega), List.zip_append (by simp; omega)] at hp
    rcases List.mem_append.1 hp with hp | hp
    · rcases List.mem_append.1 hp with hp | hp
      · obtain ⟨j, hj⟩ := List.mem_iff_getElem?.1 hp
        rw [List.getElem?_zip_eq_some, List.getElem?_map] at hj
        obtain ⟨h1, h2⟩ := hj
        cases hb : bs[j]? with
        | none => rw [hb] at h1; cases h1
        | some b =>
          rw [hb] at h1
          simp only [Option.map_some, Option.some.injEq] at h1
          rw [← h1]
          obtain ⟨h3, x, h4, h5⟩ := J.bl j b hb
          exact frame_call d f pg x p.2 w.heap.size b W F (fun k hk => by have := hFw k hk; omega) J.pl h5 (hX x (List.mem_of_getElem? h4)) hd (hc j x p.2 h4 h2 W J.hb)
      · rcases hmid with ⟨rfl, rfl⟩ | ⟨rfl, rfl⟩
        · cases hp
        · simp only [List.zip_cons_cons, List.zip_nil_right, List.mem_singleton] at hp
          subst hp
          exact sync_step d W F
    · simp only [List.zip_cons_cons, List.zip_nil_right, List.mem_cons, List.not_mem_nil, or_false] at hp
      rcases hp with rfl | rfl
      · exact head_call d f pg S E n c w.heap.size (w.heap.size + 1) W F hS hE hh (fun k hk => by have := hFw k hk; omega) J.pl J.hd
      · exact sync_step d W F
  refine (first_ops s d F W fs (ops ++ mops ++ [[headOp S E n c], [.sy]]) g cp (rep_below hR J.hb) hW (by omega) (by rw [hfl]; simp; omega) hlen ?_ (fun h => by have := hFw g h; omega) (fun i hi => hcell i hi) (fun i f' o h1 h2 => hzip (f', o) (List.mem_iff_getElem?.2 ⟨i, List.getElem?_zip_eq_some.2 ⟨h1, h2⟩⟩))).mono ?_
  · intro x hx
    rw [hfs] at hx
    have e1 := enters_of Tryz.func103 (by kernel_rfl) rfl
    have e2 := enters_of Tryz.func105 (by kernel_rfl) rfl
    have e3 := enters_of Tryz.func89 (by kernel_rfl) rfl
    rcases List.mem_append.1 hx with hx | hx
    · rcases List.mem_append.1 hx with hx | hx
      · obtain ⟨b, -, rfl⟩ := List.mem_map.1 hx
        exact e1
      · rcases hmid with ⟨rfl, -⟩ | ⟨rfl, -⟩
        · cases hx
        · obtain rfl := List.mem_singleton.1 hx
          exact e3
    · rcases List.mem_cons.1 hx with rfl | hx
      · exact e2
      · obtain rfl := List.mem_singleton.1 hx
        exact e3
  · rintro r w' ⟨rfl, F', h1, h2, h3⟩
    refine ⟨rfl, F', h1, fun k hk => (h2 k hk).imp id (fun h => Nat.le_trans J.hb.size h), ⟨h3.os.trans J.hb.os, h3.tape.trans J.hb.tape, h3.output.trans J.hb.output, Nat.le_trans J.hb.size h3.size, fun k hk hn => (h3.block k (Nat.lt_of_lt_of_le hk J.hb.size) hn).trans (J.hb.block k hk)⟩⟩
end Go.Proofs.YtdanigigjainjaaGreat
namespace Go.Proofs.YtdanigigjainjaaGreat
open Go.RowKit Go.Shelf
attribute [local go_sem] Oper.semAt_some

def midOps (N : Nat) : List (List DOp) := if N = 0 then [] else [[.sy]]
/-- The cells of frames, one behind the other. -/
def RowsAt (w : World) (q : Option Addr) (X : List (Array Value)) : Prop := ∀ (j : Nat) (x : Array Value), X[j]? = some x → ∃ B off, q = some ⟨B, off, none⟩ ∧ ∀ r v, x[r]? = some v → w.cell? ⟨B, off + 7 * j + r, none⟩ = some v
theorem news_two (w : World) (o : Obj) (v : Value) (t : TypeId) : ∀ j u, [v][j]? = some u → ((w.alloc o).alloc (.cells #[v] t)).cell? ((⟨w.heap.size + 1, 0, none⟩ : Addr).add j) = some u := fun j u h => by
  have hj : j = 0 := by
    have := (List.getElem?_eq_some_iff.1 h).1
    simp at this
    omega
  subst hj
  simp only [List.getElem?_cons_zero, Option.some.injEq] at h
  subst h
  rw [addr_plain]
  go_cell
theorem news_row (w : World) (xs : List Value) (t : TypeId) : ∀ j u, xs[j]? = some u → (w.alloc (.cells xs.toArray t)).cell? ((⟨w.heap.size, 0, none⟩ : Addr).add j) = some u := fun j u h => by
  rw [addr_plain, Nat.zero_add, cell_of_row _ _ j _ _ _ (heap_alloc_new w _)]
  simpa using h
theorem meas_down (N k : Nat) (h : k < N) : ((N : Int) - ((k : Int) + 1)).toNat < ((N : Int) - (k : Int)).toNat := by omega
/-- A frame's cells. -/
def IsFr (x : Array Value) : Prop := ∃ (E i p : Int) (cm : Bool) (n k : Int) (q : Option Addr) (ln c : Nat), x = #[.int .u64 E, .int .i64 i, .int .i64 p, .bool cm, .int .i64 n, .int .u32 k, .slice q ln c]
theorem IsFr.size {x : Array Value} (h : IsFr x) : x.size = 7 := by obtain ⟨E, i, p, cm, n, k, q, ln, c, rfl⟩ := h; rfl
set_option maxRecDepth 100000 in
set_option maxHeartbeats 8000000 in
theorem write_any (s : Dk.DS) (d : Value) (f pg : Int) (S E n c : Nat) (X : List (Array Value)) (ops : List (List DOp)) (q : Option Addr) (cap : Nat) (F : Foot) (w : World) (hR : Dk.RepD w d s F) (hW : Dk.Whole s) (hS : S < 2 ^ 64) (hE : E < 2 ^ 64) (hh : headOk n c = true)
    (hX : ∀ x ∈ X, IsFr x) (hol : ops.length = X.length) (hXn : X.length ≤ 3000) (hq : RowsAt w q X)
    (hlen : s.sync.length + s.loose.length + (ops ++ midOps X.length ++ [[headOp S E n c], [.sy]]).flatten.length ≤ 19000)
    (hc : ∀ (j : Nat) (x : Array Value) (o : List DOp), X[j]? = some x → ops[j]? = some o → ∀ (w2 : World), Below w.heap.size w w2 → ∀ (s : Dk.DS) (F' : Foot) (W : World), Dk.RepD W d s F' → (∀ k, F' k → F k ∨ w2.heap.size ≤ k) → Dk.Apart F w2 W → Dk.Whole s → s.sync.length + s.loose.length + o.length ≤ 19000 →
      Calls Tryz.prog 104 #[.agg #[d, .int .i64 f, .int .i64 pg], .agg x] W fun r W' => r = .returned (.int .i64 (runOps s o).2) ∧ Dk.Goes Dk.RepD d (runOps s o).1 F' W W') :
    Calls Tryz.prog 79 #[.agg #[d, .int .i64 f, .int .i64 pg], .agg #[.int .u64 S, .int .u64 E, .int .i64 n, .int .i64 c], .slice q X.length cap] w fun r w' => r = .returned (.int .i64 (runOps s (ops ++ midOps X.length ++ [[headOp S E n c], [.sy]]).flatten).2) ∧ Dk.Goes Dk.RepD d (runOps s (ops ++ midOps X.length ++ [[headOp S E n c], [.sy]]).flatten).1 F w w' := by
  obtain ⟨N, hN⟩ : ∃ N, N = X.length := ⟨_, rfl⟩
  have CE := Lib.hid fun (bs : List Nat) (W : World) (mid : List FnV) (hbl : bs.length = X.length) (hmid : (mid = [] ∧ midOps X.length = []) ∨ (mid = [clS d] ∧ midOps X.length = [[.sy]])) (J : WJ w #[d, .int .i64 f, .int .i64 pg] #[.int .u64 S, .int .u64 E, .int .i64 n, .int .i64 c] X bs W) => write_end s d f pg S E n c X ops bs F w W hR hW hS hE hh (fun x hx => (hX x hx).size) hbl hol hXn mid (midOps X.length) hmid hlen J hc
  obtain ⟨Bd, hBd⟩ : ∃ Bd, d = .pointer (some ⟨Bd, 0, none⟩) := by obtain ⟨B, _, _, _, e, -⟩ := hR; exact ⟨B, e⟩
  subst hBd
  rw [← hN] at CE hXn ⊢
  obtain ⟨OPS, hOPS⟩ : ∃ OPS, (ops ++ midOps N ++ [[headOp S E n c], [.sy]]).flatten = OPS := ⟨_, rfl⟩
  rw [hOPS] at CE ⊢
  obtain ⟨st, hst⟩ : ∃ st, runOps s OPS = st := ⟨_, rfl⟩
  rw [hst] at CE ⊢
  have HN := Lib.hid hN
  have HX := Lib.hid hX
  have HQ := Lib.hid hq
  have hmf : ∀ (fn : Fn) (first cap : Array Value) (w : World), (Instr.makeFunc fn first cap).run Tryz.prog w = .ok (.func fn first cap) w := fun _ _ _ _ => rfl
  obtain ⟨i, hi, hz0, hz1, hz2⟩ := info_parts infoFn
  have HI := Lib.hid (And.intro hi (And.intro hz0 (And.intro hz1 hz2)))
  have HXN := Lib.hid hXn
  clear hR hW hlen hc hst hOPS hN hX hq hol hi hz0 hz1 hz2 hXn
  go_enter Tryz.func79, Tryz.ntmps79
  go_wp2
  go_loopw [7, 12] (fun v i W => ∃ (k : Nat) (bs : List Nat) (a : Option Addr) (cp : Nat), k ≤ N ∧ v = .slice a k cp ∧ i = .int .i64 (k : Int) ∧ Hid (bs.length = k) ∧ Hid (WJ w #[.pointer (some ⟨Bd, 0, none⟩), .int .i64 f, .int .i64 pg] #[.int .u64 S, .int .u64 E, .int .i64 n, .int .i64 c] X bs W) ∧ Hid (W.ownsRow w.heap.size 56 1 (.slice a k cp) k ((bs.map (clF w)).map FnV.v))) (fun _ i _ => (N - intOf i).toNat)
  case atStart =>
    refine ⟨0, [], none, 0, Nat.zero_le _, rfl, rfl, Lib.hid rfl, Lib.hid ⟨?_, ?_, ?_, fun j b hj => by simp at hj⟩, Lib.hid (own_nil _)⟩
    · exact ((Below.refl _ _).alloc (Nat.le_refl _) _).alloc (by simp) _
    · have := ((Below.refl (w.heap.size + 1) (w.alloc (.cells #[.pointer (some ⟨Bd, 0, none⟩), .int .i64 f, .int .i64 pg] 37))).alloc (by simp) (.cells #[.int .u64 S, .int .u64 E, .int .i64 n, .int .i64 c] 127)).block w.heap.size (by omega)
      exact this.trans (heap_alloc_new w _)
    · have := heap_alloc_new (w.alloc (.cells #[.pointer (some ⟨Bd, 0, none⟩), .int .i64 f, .int .i64 pg] 37)) (.cells #[.int .u64 S, .int .u64 E, .int .i64 n, .int .i64 c] 127)
      simpa using this
  case round =>
    obtain ⟨k, bs, ra, rc, hk, rfl, rfl, HBL, HJ, HO⟩ := hrel
    by_cases hlt : k < N
    · have hltI : (k : Int) < (N : Int) := by omega
      obtain ⟨x, hx⟩ : ∃ x, X[k]? = some x := ⟨_, List.getElem?_eq_getElem (by rw [← HN.out]; exact hlt)⟩
      obtain ⟨B, off, rfl, hcx⟩ := HQ.out k x hx
      obtain ⟨xE, xi, xp, xcm, xn, xk, xq, xl, xc, rfl⟩ := HX.out x (List.mem_of_getElem? hx)
      have hcc : ∀ r v, (#[.int .u64 xE, .int .i64 xi, .int .i64 xp, .bool xcm, .int .i64 xn, .int .u32 xk, .slice xq xl xc] : Array Value)[r]? = some v → wr.cell? ⟨B, off + k * 7 + r, none⟩ = some v := fun r v hv => by
        have h1 := hcx r v hv
        rw [show off + 7 * k = off + k * 7 by omega] at h1
        exact (HJ.out.hb.cell (lt_of_cell_some h1)).trans h1
      have c0 := hcc 0 _ rfl
      have c1 := hcc 1 _ rfl
      have c2 := hcc 2 _ rfl
      have c3 := hcc 3 _ rfl
      have c4 := hcc 4 _ rfl
      have c5 := hcc 5 _ rfl
      have c6 := hcc 6 _ rfl
      rw [Nat.add_zero] at c0
      have HK := Lib.hid hx
      clear CE hcx hcc hx
      have HJ2 := Lib.hid (HJ.out.box (x := #[.int .u64 xE, .int .i64 xi, .int .i64 xp, .bool xcm, .int .i64 xn, .int .u32 xk, .slice xq xl xc]) (by rw [HBL.out]; exact HK.out))
      have HO2 := Lib.hid (own_alloc HO.out (.cells #[.int .u64 xE, .int .i64 xi, .int .i64 xp, .bool xcm, .int .i64 xn, .int .u32 xk, .slice xq xl xc] 156))
      have HSZ : Hid (w.heap.size + 2 ≤ wr.heap.size) := Lib.hid (by have := (Array.getElem?_eq_some_iff.1 HJ.out.hd).1; omega)
      go_wp2_with (first
        | (at_builtin; (try go_frame); go_must (refine wpList_append_own _ rfl _ _ 123 rfl w.heap.size 56 i .nilFunc 1 8 Tryz.underlying123 HI.out.1 HI.out.2.1 HI.out.2.2.1 HI.out.2.2.2 rfl (by decide) _ _ _ rfl (own_alloc HO2.out _) ⟨wr.heap.size + 1, 0, none⟩ 1 1 [(clF w wr.heap.size).v] rfl rfl (news_two wr _ _ _) (fun u hu => by obtain rfl := List.mem_singleton.1 hu; rfl) (by have := HXN.out; unfold maxLen; omega) (by have := HXN.out; omega) (by have := HSZ.out; simp; omega) ?_); intro v' w2 hr2 hg2 _)
        | fail)
      have hJ3 := (HJ2.out.below ((Below.refl _ _).alloc (Nat.le_refl _) _)).grown (own_alloc HO2.out _) hg2
      have hr3 : w2.ownsRow w.heap.size 56 1 v' (k + 1) (((bs ++ [wr.heap.size]).map (clF w)).map FnV.v) := by
        rw [List.map_append, List.map_append]
        exact hr2
      obtain ⟨g, cp, rfl, -, -⟩ := own_slice hr3 (Nat.succ_pos k)
      have HJ3 := Lib.hid hJ3
      have HR3 := Lib.hid hr3
      clear hJ3 hr3 hr2 hg2
      have hwk : wrap64 ((k : Int) + 1) = (k : Int) + 1 := by have := HXN.out; unfold wrap64; omega
      go_wp2_with fail
      go_roundw
      case rel => exact ⟨k + 1, bs ++ [wr.heap.size], some ⟨g, 0, none⟩, cp, hlt, rfl, by first | rfl | go_num, Lib.hid (by rw [List.length_append, HBL.out]; rfl), HJ3, HR3⟩
      case measure => rw [hwk]; exact meas_down N k hlt
    · obtain rfl : k = N := by omega
      have HSZ : Hid (w.heap.size + 2 ≤ wr.heap.size) := Lib.hid (by have := (Array.getElem?_eq_some_iff.1 HJ.out.hd).1; omega)
      have pl := HJ.out.pl
      have hdc : wr.cell? ⟨w.heap.size, 0, none⟩ = some (.pointer (some ⟨Bd, 0, none⟩)) := by rw [cell_of_row wr _ 0 _ _ _ pl]; rfl
      clear pl
      by_cases h0 : k = 0
      · subst h0
        go_wp2_with (first
          | (at_builtin; (try go_frame); refine wpList_append_own _ rfl _ _ 123 rfl w.heap.size 56 i .nilFunc 1 8 Tryz.underlying123 HI.out.1 HI.out.2.1 HI.out.2.2.1 HI.out.2.2.2 rfl (by decide) _ _ _ rfl (own_alloc HO.out _) ⟨wr.heap.size, 0, none⟩ 2 2 [(clH w).v, (clS (.pointer (some ⟨Bd, 0, none⟩))).v] rfl rfl (news_row wr _ _) (fun u hu => by rcases List.mem_cons.1 hu with rfl | hu; rfl; obtain rfl := List.mem_singleton.1 hu; rfl) (by unfold maxLen; omega) (by omega) (by have := HSZ.out; simp; omega) ?_; intro v' w2 hr2 hg2 _; have HJ3 := Lib.hid ((HJ.out.below ((Below.refl _ _).alloc (Nat.le_refl _) _)).grown (own_alloc HO.out _) hg2); have HR3 := Lib.hid hr2; clear hr2 hg2)
          | (go_at_call 38; go_must (refine (CE.out bs w2 [] HBL.out (.inl ⟨rfl, rfl⟩) HJ3.out _ _ (by rw [List.append_nil, List.map_append]; exact HR3.out)).mono ?_); rintro e w3 ⟨rfl, hg⟩; have HG := Lib.hid hg; clear hg)
          | fail)
        go_ret
        exact ⟨rfl, HG.out⟩
      · have hpos : (0 : Int) < (k : Int) := by omega
        have hmo : midOps k = [[.sy]] := by unfold midOps; rw [if_neg h0]
        have HMO := Lib.hid hmo
        have hk3 : (k : Int) ≤ 3000 := by have := HXN.out; omega
        clear hmo
        go_upto_region 9 with (first
          | (at_builtin; (try go_frame); refine wpList_append_own _ rfl _ _ 123 rfl w.heap.size 56 i .nilFunc 1 8 Tryz.underlying123 HI.out.1 HI.out.2.1 HI.out.2.2.1 HI.out.2.2.2 rfl (by decide) _ _ _ rfl (own_alloc HO.out _) ⟨wr.heap.size, 0, none⟩ 1 1 [(clS (.pointer (some ⟨Bd, 0, none⟩))).v] rfl rfl (news_row wr _ _) (fun u hu => by obtain rfl := List.mem_singleton.1 hu; rfl) (by unfold maxLen; omega) (by omega) (by have := HSZ.out; simp; omega) ?_; intro v' w2 hr2 hg2 _; have HJ3 := Lib.hid ((HJ.out.below ((Below.refl _ _).alloc (Nat.le_refl _) _)).grown (own_alloc HO.out _) hg2); have HR3 := Lib.hid hr2; clear hr2 hg2)
          | fail)
        obtain ⟨g, cp, rfl, -, -⟩ := own_slice HR3.out (Nat.succ_pos k)
        have pl := HJ3.out.pl
        have hdc2 : w2.cell? ⟨w.heap.size, 0, none⟩ = some (.pointer (some ⟨Bd, 0, none⟩)) := by rw [cell_of_row w2 _ 0 _ _ _ pl]; rfl
        have HSZ2 : Hid (w.heap.size + 2 ≤ w2.heap.size) := Lib.hid (by have := (Array.getElem?_eq_some_iff.1 HJ3.out.hd).1; omega)
        clear pl hdc
        go_wp2_with (first
          | (at_builtin; (try go_frame); refine wpList_append_own _ rfl _ _ 123 rfl w.heap.size 56 i .nilFunc 1 8 Tryz.underlying123 HI.out.1 HI.out.2.1 HI.out.2.2.1 HI.out.2.2.2 rfl (by decide) _ _ _ rfl (own_alloc HR3.out _) ⟨w2.heap.size, 0, none⟩ 2 2 [(clH w).v, (clS (.pointer (some ⟨Bd, 0, none⟩))).v] rfl rfl (news_row w2 _ _) (fun u hu => by rcases List.mem_cons.1 hu with rfl | hu; rfl; obtain rfl := List.mem_singleton.1 hu; rfl) (by unfold maxLen; omega) (by omega) (by have := HSZ2.out; simp; omega) ?_; intro v' w3 hr2 hg2 _; have HJ4 := Lib.hid ((HJ3.out.below ((Below.refl _ _).alloc (Nat.le_refl _) _)).grown (own_alloc HR3.out _) hg2); have HR4 := Lib.hid hr2; clear hr2 hg2)
          | (go_at_call 38; go_must (refine (CE.out bs w3 [clS (.pointer (some ⟨Bd, 0, none⟩))] HBL.out (.inr ⟨rfl, HMO.out⟩) HJ4.out _ _ (by rw [List.map_append, List.map_append]; exact HR4.out)).mono ?_); rintro e w4 ⟨rfl, hg⟩; have HG := Lib.hid hg; clear hg)
          | fail)
        go_ret
        exact ⟨rfl, HG.out⟩
end Go.Proofs.YtdanigigjainjaaGreat
namespace Go.Proofs.YtdanigigjainjaaGreat
open Go.RowKit Go.Shelf
attribute [local go_sem] Oper.semAt_some

theorem apart_set {w w1 : World} {b : Nat} (h : Dk.Apart (fun k => k = b) w w1) (i : Nat) (v : Value) : Dk.Apart (fun k => k = b) w (w1.setCell ⟨b, i, none⟩ v) :=
  ⟨h.os, h.tape, h.output, by simpa using h.size, fun k hk hn => (Below.heap_setCell _ _ _ _ hn).trans (h.block k hk hn)⟩
theorem apart_one (w : World) (b : Nat) : Dk.Apart (fun k => k = b) w w := ⟨rfl, rfl, rfl, Nat.le_refl _, fun _ _ _ => rfl⟩
theorem goes_put {d : Value} {s : Dk.DS} {F : Foot} {w w0 w1 w2 : World} {b : Nat} (hb : Below w.heap.size w w0) (hg : Dk.Goes Dk.RepD d s F w0 w1) (h2 : Dk.Apart (fun k => k = b) w1 w2) (h3 : w.heap.size ≤ b) (h4 : b < w0.heap.size) (h5 : ¬ F b) : Dk.Goes Dk.RepD d s F w w2 := by
  obtain ⟨F', hR, hF, ha⟩ := hg
  have hn : ∀ k, F' k → k ≠ b := fun k hk e => by
    subst e
    exact (hF k hk).elim h5 (fun h => by omega)
  have hlo := Dk.diskOk.low _ _ _ _ hR
  refine ⟨F', Dk.diskOk.keep _ _ _ _ _ hR h2.size (fun k hk => h2.block k (hlo k hk) (hn k hk)), fun k hk => (hF k hk).imp id (fun h => Nat.le_trans hb.size h), ⟨h2.os.trans (ha.os.trans hb.os), h2.tape.trans (ha.tape.trans hb.tape), h2.output.trans (ha.output.trans hb.output), Nat.le_trans hb.size (Nat.le_trans ha.size h2.size), fun k hk hnF => ?_⟩⟩
  have k1 := Nat.lt_of_lt_of_le hk hb.size
  exact (h2.block k (Nat.lt_of_lt_of_le k1 ha.size) (by omega)).trans ((ha.block k k1 hnF).trans (hb.block k hk))
abbrev hd4 (S E : Nat) (n c : Int) : Value := .agg #[.int .u64 S, .int .u64 E, .int .i64 n, .int .i64 c]
def fmtOps : List DOp := [headOp 1 1 0 0, .sy]
/-- write of no frames. -/
theorem write_none (s : Dk.DS) (d : Value) (f pg : Int) (S E n c : Nat) (F : Foot) (w : World) (hR : Dk.RepD w d s F) (hW : Dk.Whole s) (hS : S < 2 ^ 64) (hE : E < 2 ^ 64) (hh : headOk n c = true) (hlen : s.sync.length + s.loose.length ≤ 18000) :
    Calls Tryz.prog 79 #[.agg #[d, .int .i64 f, .int .i64 pg], .agg #[.int .u64 S, .int .u64 E, .int .i64 n, .int .i64 c], .slice none 0 0] w fun r w' => r = .returned (.int .i64 (runOps s [headOp S E n c, .sy]).2) ∧ Dk.Goes Dk.RepD d (runOps s [headOp S E n c, .sy]).1 F w w' := by
  have := write_any s d f pg S E n c [] [] none 0 F w hR hW hS hE hh (fun x h => by cases h) rfl (by simp) (fun j x h => by simp at h) (by simp [midOps]; omega) (fun j x o h => by simp at h)
  exact this
set_option maxRecDepth 100000 in
set_option maxHeartbeats 4000000 in
theorem format_any (s : Dk.DS) (d : Value) (f pg : Int) (F : Foot) (w : World) (hR : Dk.RepD w d s F) (hW : Dk.Whole s) (hlen : s.sync.length + s.loose.length ≤ 18000) :
    Calls Tryz.prog 95 #[.agg #[d, .int .i64 f, .int .i64 pg]] w fun r w' => r = .returned (.tuple #[if (runOps s fmtOps).2 = 0 then hd4 1 1 0 0 else hd4 0 0 0 0, .int .i64 (runOps s fmtOps).2]) ∧ Dk.Goes Dk.RepD d (runOps s fmtOps).1 F w w' := by
  have hFw : ∀ k, F k → k < w.heap.size := Dk.diskOk.low _ _ _ _ hR
  have CW : Hid (∀ w', Below w.heap.size w w' → Calls Tryz.prog 79 #[.agg #[d, .int .i64 f, .int .i64 pg], .agg #[.int .u64 1, .int .u64 1, .int .i64 0, .int .i64 0], .slice none 0 0] w' fun r w2 => r = .returned (.int .i64 (runOps s fmtOps).2) ∧ Dk.Goes Dk.RepD d (runOps s fmtOps).1 F w' w2) := Lib.hid fun w' hb => write_none s d f pg 1 1 0 0 F w' (rep_below hR hb) hW (by omega) (by omega) (by decide) hlen
  generalize runOps s fmtOps = st at CW ⊢
  obtain ⟨st1, st2⟩ := st
  simp only at CW ⊢
  obtain ⟨Bd, hBd⟩ : ∃ Bd, d = .pointer (some ⟨Bd, 0, none⟩) := by obtain ⟨B, _, _, _, e, -⟩ := hR; exact ⟨B, e⟩
  subst hBd
  have HF := Lib.hid hFw
  obtain ⟨w0, hw0⟩ : ∃ w0, w0 = ((w.alloc (.cells #[.pointer (some ⟨Bd, 0, none⟩), .int .i64 f, .int .i64 pg] 37)).alloc (.cells #[.int .u64 0, .int .u64 0, .int .i64 0, .int .i64 0] 127)).alloc (.cells #[.int .u64 1, .int .u64 1, .int .i64 0, .int .i64 0] 127) := ⟨_, rfl⟩
  have B0 : Below w.heap.size w w0 := by subst hw0; exact (((Below.refl _ _).alloc (Nat.le_refl _) _).alloc (by simp) _).alloc (by simp; omega) _
  have HH : Hid (∀ w', Dk.Apart F w0 w' → w'.heap[w.heap.size + 1]? = some (.cells #[.int .u64 0, .int .u64 0, .int .i64 0, .int .i64 0] 127 (0, 0)) ∧ w'.heap[w.heap.size + 2]? = some (.cells #[.int .u64 1, .int .u64 1, .int .i64 0, .int .i64 0] 127 (0, 0))) := Lib.hid fun w' ha => by
    have h3 : w0.heap[w.heap.size + 1]? = some (.cells #[.int .u64 0, .int .u64 0, .int .i64 0, .int .i64 0] 127 (0, 0)) ∧ w0.heap[w.heap.size + 2]? = some (.cells #[.int .u64 1, .int .u64 1, .int .i64 0, .int .i64 0] 127 (0, 0)) := by subst hw0; exact heap3 w _ _ _
    exact ⟨(ha.block _ (Array.getElem?_eq_some_iff.1 h3.1).1 (fun h => by have := hFw _ h; omega)).trans h3.1, (ha.block _ (Array.getElem?_eq_some_iff.1 h3.2).1 (fun h => by have := hFw _ h; omega)).trans h3.2⟩
  have HB0 := Lib.hid B0
  have HSZ : Hid (w0.heap.size = w.heap.size + 3) := Lib.hid (by subst hw0; simp)
  clear hR hW hlen B0 hFw
  by_cases he : st2 = 0
  · subst he
    simp only [if_true]
    go_enter Tryz.func95, Tryz.ntmps95
    go_wp2_with (first
      | (go_at_call 79; rw [← hw0]; refine (CW.out w0 HB0.out).mono ?_; rintro e w1 ⟨rfl, hg⟩; obtain ⟨q1, q2⟩ := HH.out w1 (by obtain ⟨_, _, _, ha⟩ := hg; exact ha); have HG := Lib.hid hg; have a0 := (cell_of_row w1 _ 0 _ _ _ q1).trans rfl; have a1 := (cell_of_row w1 _ 1 _ _ _ q1).trans rfl; have a2 := (cell_of_row w1 _ 2 _ _ _ q1).trans rfl; have a3 := (cell_of_row w1 _ 3 _ _ _ q1).trans rfl; have b0 := (cell_of_row w1 _ 0 _ _ _ q2).trans rfl; have b1 := (cell_of_row w1 _ 1 _ _ _ q2).trans rfl; have b2 := (cell_of_row w1 _ 2 _ _ _ q2).trans rfl; have b3 := (cell_of_row w1 _ 3 _ _ _ q2).trans rfl; have z0 : w1.frozen? ⟨w.heap.size + 1, 0, none⟩ = false := frozen_of_row w1 _ 0 _ _ q1; have z1 : w1.frozen? ⟨w.heap.size + 1, 1, none⟩ = false := frozen_of_row w1 _ 1 _ _ q1; have z2 : w1.frozen? ⟨w.heap.size + 1, 2, none⟩ = false := frozen_of_row w1 _ 2 _ _ q1; have z3 : w1.frozen? ⟨w.heap.size + 1, 3, none⟩ = false := frozen_of_row w1 _ 3 _ _ q1; have HQ := Lib.hid (And.intro q1 q2); clear hg q1 q2)
      | fail)
    refine bodyPost_ret (v := .tuple #[hd4 1 1 0 0, .int .i64 0]) ?_ rfl ⟨rfl, ?_⟩
    · simp [results, Tryz.results95, go_sem, a0, a1, a2, a3]
    · have hs0 : w0.heap.size = w.heap.size + 3 := by have := HSZ.out; exact this
      exact goes_put HB0.out HG.out (apart_set (apart_set (apart_set (apart_set (apart_one _ _) _ _) _ _) _ _) _ _) (Nat.le_succ _) (by omega) (fun h => by have := HF.out _ h; omega)
  · have hne : (st2 == 0) = false := by simpa using he
    rw [if_neg he]
    go_enter Tryz.func95, Tryz.ntmps95
    go_wp2_with (first
      | (go_at_call 79; rw [← hw0]; refine (CW.out w0 HB0.out).mono ?_; rintro e w1 ⟨rfl, hg⟩; obtain ⟨q1, q2⟩ := HH.out w1 (by obtain ⟨_, _, _, ha⟩ := hg; exact ha); have HG := Lib.hid hg; have a0 := (cell_of_row w1 _ 0 _ _ _ q1).trans rfl; have a1 := (cell_of_row w1 _ 1 _ _ _ q1).trans rfl; have a2 := (cell_of_row w1 _ 2 _ _ _ q1).trans rfl; have a3 := (cell_of_row w1 _ 3 _ _ _ q1).trans rfl; have z0 : w1.frozen? ⟨w.heap.size + 1, 0, none⟩ = false := frozen_of_row w1 _ 0 _ _ q1; have z1 : w1.frozen? ⟨w.heap.size + 1, 1, none⟩ = false := frozen_of_row w1 _ 1 _ _ q1; have z2 : w1.frozen? ⟨w.heap.size + 1, 2, none⟩ = false := frozen_of_row w1 _ 2 _ _ q1; have z3 : w1.frozen? ⟨w.heap.size + 1, 3, none⟩ = false := frozen_of_row w1 _ 3 _ _ q1; have HQ := Lib.hid (And.intro q1 q2); clear hg q1 q2)
      | fail)
    refine bodyPost_ret (v := .tuple #[hd4 0 0 0 0, .int .i64 st2]) ?_ rfl ⟨rfl, ?_⟩
    · simp [results, Tryz.results95, go_sem, a0, a1, a2, a3]
    · have hs0 : w0.heap.size = w.heap.size + 3 := by have := HSZ.out; exact this
      exact goes_put HB0.out HG.out (apart_set (apart_set (apart_set (apart_set (apart_one _ _) _ _) _ _) _ _) _ _) (Nat.le_succ _) (by omega) (fun h => by have := HF.out _ h; omega)
end Go.Proofs.YtdanigigjainjaaGreat
namespace Go.Proofs.YtdanigigjainjaaGreat
open Go.RowKit Go.Shelf
attribute [local go_sem] Oper.semAt_some

theorem heap2 (w : World) (o1 o2 : Obj) : ((w.alloc o1).alloc o2).heap[w.heap.size + 1]? = some o2 := by
  have h1 := heap_alloc_new (w.alloc o1) o2
  simpa using h1
theorem pointer_of {w : World} {d : Value} {s : Dk.DS} {F : Foot} (hR : Dk.RepD w d s F) : ∃ Bd, d = .pointer (some ⟨Bd, 0, none⟩) := by obtain ⟨B, _, _, _, e, -⟩ := hR; exact ⟨B, e⟩
set_option maxRecDepth 100000 in
set_option maxHeartbeats 4000000 in
theorem head_stop (s : Dk.DS) (d : Value) (f pg : Int) (F : Foot) (w : World) (hR : Dk.RepD w d s F) (hW : Dk.Whole s) (hF : Dk.Few s) (hm : 2 ≤ s.many) (hl : s.left = 0) :
    Calls Tryz.prog 71 #[.agg #[d, .int .i64 f, .int .i64 pg]] w fun r w' => r = .returned (.tuple #[hd4 0 0 0 0, .int .i64 140]) ∧ Below w.heap.size w w' := by
  obtain ⟨Bd, rfl⟩ := pointer_of hR
  obtain ⟨w0, hw0⟩ : ∃ w0, w0 = (w.alloc (.cells #[.pointer (some ⟨Bd, 0, none⟩), .int .i64 f, .int .i64 pg] 37)).alloc (.cells #[.int .u64 0, .int .u64 0, .int .i64 0, .int .i64 0] 127) := ⟨_, rfl⟩
  have B0 : Below w.heap.size w w0 := by subst hw0; exact ((Below.refl _ _).alloc (Nat.le_refl _) _).alloc (by simp) _
  have hp0 : w0.cell? ⟨w.heap.size, 0, none⟩ = some (.pointer (some ⟨Bd, 0, none⟩)) ∧ w0.cell? ⟨w.heap.size, 1, none⟩ = some (.int .i64 f) ∧ w0.cell? ⟨w.heap.size, 2, none⟩ = some (.int .i64 pg) := by subst hw0; exact ⟨by go_cell, by go_cell, by go_cell⟩
  have hh0 : w0.heap[w.heap.size + 1]? = some (.cells #[.int .u64 0, .int .u64 0, .int .i64 0, .int .i64 0] 127 (0, 0)) := by subst hw0; exact heap2 w _ _
  have hs0 : w0.heap.size = w.heap.size + 2 := by subst hw0; simp
  have HH := Lib.hid (And.intro hp0 (And.intro hh0 hs0))
  have HB0 := Lib.hid B0
  have CH := Lib.hid (heads_stop s (.pointer (some ⟨Bd, 0, none⟩)) f pg F w0 (rep_below hR B0) hW hF hm hl)
  simp only [zl, List.cons_append, List.nil_append] at CH
  clear hR hW hF hl hm B0 hp0 hh0 hs0
  go_enter Tryz.func71, Tryz.ntmps71
  go_upto_region 3 with (first
    | (go_at_call 93; rw [← hw0]; refine CH.out.mono ?_; rintro e w1 ⟨rfl, hb⟩; obtain ⟨-, q1, q2⟩ := HH.out; have q3 := (hb.block _ (by omega)).trans q1; have HQ3 := Lib.hid q3; have HB1 := Lib.hid hb; clear hb q1 q2 q3)
    | fail)
  obtain ⟨w2, hw2⟩ : ∃ w2, w2 = w1.alloc (.cells #[.int .u64 0, .int .u64 0, .int .i64 0, .int .i64 0, .bool false, .int .u64 0, .int .u64 0, .int .i64 0, .int .i64 0, .bool false] 151) := ⟨_, rfl⟩
  rw [← hw2]
  have hb2 : Below w1.heap.size w1 w2 := by subst hw2; exact (Below.refl _ _).alloc (Nat.le_refl _) _
  have q3 := HQ3.out
  have q5 := (hb2.block _ (Array.getElem?_eq_some_iff.1 q3).1).trans q3
  have a0 := (cell_of_row w2 _ 0 _ _ _ q5).trans rfl
  have a1 := (cell_of_row w2 _ 1 _ _ _ q5).trans rfl
  have a2 := (cell_of_row w2 _ 2 _ _ _ q5).trans rfl
  have a3 := (cell_of_row w2 _ 3 _ _ _ q5).trans rfl
  have z0 : w2.frozen? ⟨w.heap.size + 1, 0, none⟩ = false := frozen_of_row w2 _ 0 _ _ q5
  have z1 : w2.frozen? ⟨w.heap.size + 1, 1, none⟩ = false := frozen_of_row w2 _ 1 _ _ q5
  have z2 : w2.frozen? ⟨w.heap.size + 1, 2, none⟩ = false := frozen_of_row w2 _ 2 _ _ q5
  have z3 : w2.frozen? ⟨w.heap.size + 1, 3, none⟩ = false := frozen_of_row w2 _ 3 _ _ q5
  have HB2 := Lib.hid hb2
  have HQ5 := Lib.hid q5
  clear hw2 hb2 q3 q5
  go_wp2
  refine bodyPost_ret (v := .tuple #[hd4 0 0 0 0, .int .i64 140]) ?_ rfl ⟨rfl, ?_⟩
  · simp [results, Tryz.results71, go_sem, a0, a1, a2, a3]
  · have h := kbT HB0.out (kbT HB1.out HB2.out)
    have hs := (Array.getElem?_eq_some_iff.1 HQ5.out).1
    repeat' (first | exact h | (refine Below.setCell ?_ ?_ _) | (refine Below.alloc ?_ ?_ _) | (simp; done) | (simp; omega))
set_option maxRecDepth 100000 in
set_option maxHeartbeats 8000000 in
theorem head_none (s : Dk.DS) (d : Value) (f pg : Int) (F : Foot) (w : World) (hR : Dk.RepD w d s F) (hW : Dk.Whole s) (hF : Dk.Few s) (hm : 2 ≤ s.many) (hl : s.left ≠ 0) (L0 L1 : List Nat) (l0 : L0.length = 64) (l1 : L1.length = 64) (b0 : ∀ c ∈ L0, c < 256) (b1 : ∀ c ∈ L1, c < 256) (e0 : Dk.sectorS s 0 = Dk.strOf L0) (e1 : Dk.sectorS s 1 = Dk.strOf L1) (hlen : s.sync.length + s.loose.length ≤ 18000) (hbest : bestE (hdF 0 L0) (hdF 1 L1) = ⟨0, 0, 0, 0, false⟩) :
    Calls Tryz.prog 71 #[.agg #[d, .int .i64 f, .int .i64 pg]] w fun r w' => r = .returned (.tuple #[if (runOps s fmtOps).2 = 0 then hd4 1 1 0 0 else hd4 0 0 0 0, .int .i64 (runOps s fmtOps).2]) ∧ Dk.Goes Dk.RepD d (runOps s fmtOps).1 F w w' := by
  obtain ⟨Bd, rfl⟩ := pointer_of hR
  obtain ⟨w0, hw0⟩ : ∃ w0, w0 = (w.alloc (.cells #[.pointer (some ⟨Bd, 0, none⟩), .int .i64 f, .int .i64 pg] 37)).alloc (.cells #[.int .u64 0, .int .u64 0, .int .i64 0, .int .i64 0] 127) := ⟨_, rfl⟩
  have B0 : Below w.heap.size w w0 := by subst hw0; exact ((Below.refl _ _).alloc (Nat.le_refl _) _).alloc (by simp) _
  have hp0 : w0.cell? ⟨w.heap.size, 0, none⟩ = some (.pointer (some ⟨Bd, 0, none⟩)) ∧ w0.cell? ⟨w.heap.size, 1, none⟩ = some (.int .i64 f) ∧ w0.cell? ⟨w.heap.size, 2, none⟩ = some (.int .i64 pg) := by subst hw0; exact ⟨by go_cell, by go_cell, by go_cell⟩
  have hh0 : w0.heap[w.heap.size + 1]? = some (.cells #[.int .u64 0, .int .u64 0, .int .i64 0, .int .i64 0] 127 (0, 0)) := by subst hw0; exact heap2 w _ _
  have hs0 : w0.heap.size = w.heap.size + 2 := by subst hw0; simp
  have HH := Lib.hid (And.intro hp0 (And.intro hh0 hs0))
  have HB0 := Lib.hid B0
  have CH := Lib.hid (heads_any s (.pointer (some ⟨Bd, 0, none⟩)) f pg F w0 (rep_below hR B0) hW hF hm hl L0 L1 l0 l1 b0 b1 e0 e1)
  have CF : Hid (∀ w', Below w.heap.size w w' → Calls Tryz.prog 95 #[.agg #[.pointer (some ⟨Bd, 0, none⟩), .int .i64 f, .int .i64 pg]] w' fun r w2 => ∃ (a b : Nat) (n c : Int), hd4 a b n c = (if (runOps s fmtOps).2 = 0 then hd4 1 1 0 0 else hd4 0 0 0 0) ∧ r = .returned (.tuple #[hd4 a b n c, .int .i64 (runOps s fmtOps).2]) ∧ Dk.Goes Dk.RepD (.pointer (some ⟨Bd, 0, none⟩)) (runOps s fmtOps).1 F w' w2) := Lib.hid fun w' hb => by
    refine (format_any s _ f pg F w' (rep_below hR hb) hW hlen).mono ?_
    rintro e w2 ⟨rfl, hg⟩
    by_cases h : (runOps s fmtOps).2 = 0
    · rw [if_pos h]; exact ⟨1, 1, 0, 0, rfl, rfl, hg⟩
    · rw [if_neg h]; exact ⟨0, 0, 0, 0, rfl, rfl, hg⟩
  have hFw : ∀ k, F k → k < w.heap.size := Dk.diskOk.low _ _ _ _ hR
  have HF := Lib.hid hFw
  generalize (if (runOps s fmtOps).2 = 0 then hd4 1 1 0 0 else hd4 0 0 0 0) = hv at *
  generalize runOps s fmtOps = st at *
  obtain ⟨st1, st2⟩ := st
  simp only at CF ⊢
  generalize hdF 0 L0 = x0 at *
  generalize hdF 1 L1 = x1 at *
  obtain ⟨S0, E0, n0, c0, g0⟩ := x0
  obtain ⟨S1, E1, n1, c1, g1⟩ := x1
  have CB := Lib.hid (best_any S0 E0 n0 c0 g0 S1 E1 n1 c1 g1)
  rw [hbest] at CB
  simp only [HeadF.cs, List.cons_append, List.nil_append] at CH CB
  clear hR hW hF hl hm B0 hp0 hh0 hs0 e0 e1 b0 b1 l0 l1 hbest hlen hFw
  go_enter Tryz.func71, Tryz.ntmps71
  go_upto_region 7 with (first
    | (go_at_call 93; rw [← hw0]; refine CH.out.mono ?_; rintro e w1 ⟨rfl, hb⟩; have HB1 := Lib.hid hb; clear hb)
    | (go_at_call 94; refine (CB.out _).mono ?_; rintro e w2 ⟨rfl, hb⟩; have HB2 := Lib.hid (kbA hb); clear hb)
    | fail)
  obtain ⟨w3, hw3⟩ : ∃ w3, w3 = w2.alloc (.cells #[.int .u64 0, .int .u64 0, .int .i64 0, .int .i64 0, .bool false] 149) := ⟨_, rfl⟩
  rw [← hw3]
  have hb3 : Below w0.heap.size w0 w3 := kbT HB1.out (kbT HB2.out (by subst hw3; exact (Below.refl _ _).alloc (Nat.le_refl _) _))
  obtain ⟨⟨p0, p1, p2⟩, q1, q2⟩ := HH.out
  have r0 := (hb3.cell (lt_of_cell_some p0)).trans p0
  have r1 := (hb3.cell (lt_of_cell_some p1)).trans p1
  have r2 := (hb3.cell (lt_of_cell_some p2)).trans p2
  have q5 := (hb3.block _ (Array.getElem?_eq_some_iff.1 q1).1).trans q1
  have HB3 := Lib.hid hb3
  have HQ5 := Lib.hid q5
  clear hw3 hb3 p0 p1 p2 q1 q2 q5
  go_wp2_with (first
    | (go_at_call 95; refine (CF.out _ (kbT HB0.out HB3.out)).mono ?_; rintro e w4 ⟨fa, fb, fn, fc, hhv, rfl, hg⟩; have q5 := HQ5.out; have q6 : w4.heap[w.heap.size + 1]? = some (.cells #[.int .u64 0, .int .u64 0, .int .i64 0, .int .i64 0] 127 (0, 0)) := ((by obtain ⟨_, _, _, ha⟩ := hg; exact ha : Dk.Apart F w3 w4).block _ (Array.getElem?_eq_some_iff.1 q5).1 (fun h => by have := HF.out _ h; omega)).trans q5; have a0 := (cell_of_row w4 _ 0 _ _ _ q6).trans rfl; have a1 := (cell_of_row w4 _ 1 _ _ _ q6).trans rfl; have a2 := (cell_of_row w4 _ 2 _ _ _ q6).trans rfl; have a3 := (cell_of_row w4 _ 3 _ _ _ q6).trans rfl; have z0 : w4.frozen? ⟨w.heap.size + 1, 0, none⟩ = false := frozen_of_row w4 _ 0 _ _ q6; have z1 : w4.frozen? ⟨w.heap.size + 1, 1, none⟩ = false := frozen_of_row w4 _ 1 _ _ q6; have z2 : w4.frozen? ⟨w.heap.size + 1, 2, none⟩ = false := frozen_of_row w4 _ 2 _ _ q6; have z3 : w4.frozen? ⟨w.heap.size + 1, 3, none⟩ = false := frozen_of_row w4 _ 3 _ _ q6; have HG := Lib.hid hg; have HHV := Lib.hid hhv; clear hg q5 q6 hhv r0 r1 r2)
    | fail)
  rw [← HHV.out]
  refine bodyPost_ret (v := .tuple #[hd4 fa fb fn fc, .int .i64 st2]) ?_ rfl ⟨rfl, ?_⟩
  · simp [results, Tryz.results71, go_sem, a0, a1, a2, a3]
  · have hs := (Array.getElem?_eq_some_iff.1 HQ5.out).1
    exact goes_put (kbT HB0.out HB3.out) HG.out (apart_set (apart_set (apart_set (apart_set (apart_one _ _) _ _) _ _) _ _) _ _) (Nat.le_succ _) hs (fun h => by have := HF.out _ h; omega)
end Go.Proofs.YtdanigigjainjaaGreat
namespace Go.Proofs.YtdanigigjainjaaGreat
open Go.RowKit Go.Shelf
attribute [local go_sem] Oper.semAt_some

/-- A row's cell is stored. -/
theorem row_set {w : World} {B i : Nat} {cs : Array Value} {t : TypeId} {fr : Nat × Nat} (h : w.heap[B]? = some (.cells cs t fr)) (v : Value) : (w.setCell ⟨B, i, none⟩ v).heap[B]? = some (.cells (cs.setIfInBounds i v) t fr) := by
  rw [setCell_eq_setRow w B i cs t fr v h]
  exact setRow_heap w B cs _ t fr h
theorem apart_alloc {w w1 : World} {F : Foot} (h : Dk.Apart F w w1) (o : Obj) : Dk.Apart F w (w1.alloc o) :=
  ⟨h.os, h.tape, h.output, by have := h.size; simp; omega, fun k hk hn => (Below.heap_alloc w1 o k (Nat.lt_of_lt_of_le hk h.size)).trans (h.block k hk hn)⟩
theorem logAt_cells {w : World} {B : Nat} {x : LogV} (h : LogAt w B x) : ∀ j v, x.cs[j]? = some v → w.cell? ⟨B, j, none⟩ = some v := fun j v e => (cell_of_row w B j _ 46 (0, 0) h).trans e
theorem logAt_fz {w : World} {B : Nat} {x : LogV} (h : LogAt w B x) (j : Nat) : w.frozen? ⟨B, j, none⟩ = false := frozen_of_row w B j _ _ h
theorem logAt_below {w w' : World} {B : Nat} {x : LogV} (h : LogAt w B x) (hb : Below w.heap.size w w') : LogAt w' B x := (hb.block B (Array.getElem?_eq_some_iff.1 h).1).trans h
set_option maxRecDepth 100000 in
set_option maxHeartbeats 4000000 in
theorem turn_any (B : Nat) (x : LogV) (S E : Nat) (n c : Int) (w : World) (h : LogAt w B x) :
    Calls Tryz.prog 72 #[.pointer (some ⟨B, 0, none⟩), hd4 S E n c] w fun r w' => r = .returned (.tuple #[]) ∧ LogAt w' B ⟨x.d, x.f, x.pg, S, E, 0, 0, n, some (w.heap.size + 1)⟩ ∧ w'.heap[w.heap.size + 1]? = some (.map #[] 0) ∧ Dk.Apart (fun k => k = B) w w' := by
  have hl : B < w.heap.size := (Array.getElem?_eq_some_iff.1 h).1
  obtain ⟨w0, hw0⟩ : ∃ w0, w0 = (w.alloc (.cells #[.int .u64 S, .int .u64 E, .int .i64 n, .int .i64 c] 127)).alloc (.map #[] 0) := ⟨_, rfl⟩
  have B0 : Below w.heap.size w w0 := by subst hw0; exact ((Below.refl _ _).alloc (Nat.le_refl _) _).alloc (by simp) _
  have h0 := logAt_below h B0
  have hm0 : w0.heap[w.heap.size + 1]? = some (.map #[] 0) := by subst hw0; exact heap2 w _ _
  have hc := logAt_cells h
  obtain ⟨d, f, pg, sr, E0, i, k, n0, m⟩ := x
  have c3 := hc 3 _ rfl
  have c4 := hc 4 _ rfl
  have c5 := hc 5 _ rfl
  have c6 := hc 6 _ rfl
  have c7 := hc 7 _ rfl
  have c8 := hc 8 _ rfl
  have z := logAt_fz h
  have H0 := Lib.hid (And.intro h0 (And.intro hm0 (And.intro B0 hl)))
  have HZ := Lib.hid h
  clear hc h h0 hm0 B0 hw0 H0
  unfold hd4
  have hmm := @run_makeMap Tryz.prog
  go_enter Tryz.func72, Tryz.ntmps72
  go_wp2
  go_end0
  have hz := HZ.out
  obtain ⟨w6, hw6⟩ : ∃ w6, w6 = ((((((w.setCell ⟨B, 3, none⟩ (.int .u64 S)).setCell ⟨B, 4, none⟩ (.int .u64 E)).setCell ⟨B, 5, none⟩ (.int .i64 0)).setCell ⟨B, 6, none⟩ (.int .u32 0)).setCell ⟨B, 7, none⟩ (.int .i64 n)).setCell ⟨B, 8, none⟩ (.map (some (w.heap.size + 1)))) := ⟨_, rfl⟩
  have r6 : LogAt w6 B ⟨d, f, pg, S, E, 0, 0, n, some (w.heap.size + 1)⟩ := by
    subst hw6
    exact row_set (row_set (row_set (row_set (row_set (row_set hz _) _) _) _) _) _
  have a6 : Dk.Apart (fun k => k = B) w w6 := by subst hw6; exact (apart_set (apart_set (apart_set (apart_set (apart_set (apart_set (apart_one w B) _ _) _ _) _ _) _ _) _ _) _ _)
  have s6 : w6.heap.size = w.heap.size := by subst hw6; simp
  rw [← hw6]
  refine ⟨rfl, logAt_below r6 (((Below.refl _ _).alloc (Nat.le_refl _) _).alloc (by simp) _), ?_, apart_alloc (apart_alloc a6 _) _⟩
  rw [← s6]
  exact heap2 w6 _ _
end Go.Proofs.YtdanigigjainjaaGreat
namespace Go.Proofs.YtdanigigjainjaaGreat
open Go.RowKit Go.Shelf
attribute [local go_sem] Oper.semAt_some

end Go.Proofs.YtdanigigjainjaaGreat
