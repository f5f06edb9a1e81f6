/- Parts: PS PM PN PZ PT PU PV PC R1 R2 R3 W1 W2 W3 W4 Q1 Q2 Q3 Q4 Q5 Q6 Q7 Q8 Q9 Q11 Q10 Q12 Q13. -/
import Derived.Test.YtdanigigjainjaaGreatHB2
import Derived.Lib.AppendZerosOnto
import Derived.RangeFuncNested
import Derived.Stop.RegionWithIn
import Derived.Deep.CutRange
import Derived.Laws.Bits64
import Derived.Test.YtdanigigjainjaaGreatRows
import Derived.WalkKit
import Derived.WalkSpells
import Derived.WalkLawsBesides
import Derived.Handy
import Derived.Outline
import Derived.Deep.RegionHeld3
import Derived.Sort.Walk0
import Derived.Laws.StructEq
import Derived.RangeFuncBound
import Derived.RangeFuncCalls
import Derived.RangeFuncLeaves
import Derived.Shelf.Abstract
import Derived.OwnWalkIn
import Derived.TacticsInMore
import Derived.LoopNIn
import Derived.LoopIn
import Derived.WalkMore
import Derived.Lib.Hide
import Derived.Deep.OwnRows
import Derived.Laws.AppendOwnNone
import Derived.Deep.RegionLaw
import Derived.Deep.QuietTactic
import Derived.BigQuiet
namespace Go.Proofs.YtdanigigjainjaaGreat
open Go.RowKit Go.Shelf
set_option maxRecDepth 100000
set_option maxHeartbeats 1000000

theorem step_store_row {P : Program} {ops : Array Oper} {o : Oper} {a : Act} {w : World} {K : Act → World → Prop} {Q : Exit → Act → World → Prop} {E : Prop} (hgd : o.guard = none) (ty : TypeId) (x y : Operand) (ho : o.op = .store ty x y)
    (g : Nat) (cells : Array Value) (hx : a.eval x = .pointer (some ⟨g, 0, none⟩)) (hy : a.eval y = .agg cells)
    (t : TypeId) (old : Array Value) (hg : w.heap[g]? = some (.cells old t (0, 0))) (hi : (P.info? ty).map (·.size) = some cells.size)
    (hold : old.size = cells.size) (h1 : cells.all (·.oneCell') = true)
    (h : K (a.put o.dst undef) (w.setRow g cells)) : if Region.wanted o (yielded ops a.tmps) = true then Oper.wp P o a w K Q else E := by
  have hw : Region.wanted o (yielded ops a.tmps) = true := by simp [Region.wanted, hgd]
  rw [if_pos hw]
  exact wp_store_row ty x y ho g cells hx hy t old hg hi hold h1 h
/-- A frame's first sector. -/
def frameS (E i p : Nat) (cm : Bool) (n k : Nat) (bs : List Nat) : List Nat := padL (frameC E i p cm n k bs)
/-- A frame's bytes. -/
def frameL (E i p : Nat) (cm : Bool) (n k : Nat) (bs : List Nat) : List Nat := frameS E i p cm n k bs ++ bs
theorem frameS_length (E i p : Nat) (cm : Bool) (n k : Nat) (bs : List Nat) : (frameS E i p cm n k bs).length = 64 := padL_length (by rw [frameC_length]; omega)
theorem frameS_byte (E i p : Nat) (cm : Bool) (n k : Nat) (bs : List Nat) : ∀ b ∈ frameS E i p cm n k bs, b < 256 := padL_byte (frameC_byte E i p cm n k bs)
set_option maxRecDepth 100000 in
set_option maxHeartbeats 4000000 in
theorem frameSector_any (E i p : Nat) (cm : Bool) (n k : Nat) (hE : E < 2 ^ 64) (hi : i < 4294967296) (hp : p < 4294967296) (hn : n < 4294967296) (hk : k < 4294967296) (q : Option Addr) (cap : Nat) (bs : List Nat) (hbl : bs.length = 512) (hbb : ∀ b ∈ bs, b < 256) (w : World) (hbs : BytesAt w q bs) :
    Calls Tryz.prog 139 #[.agg #[.int .u64 E, .int .i64 i, .int .i64 p, .bool cm, .int .i64 n, .int .u32 k, .slice q 512 cap]] w fun r w' => r = .returned (.agg (secA (frameS E i p cm n k bs))) ∧ Below w.heap.size w w' := by
  have CS := Lib.hid (summed_any E i p cm n k hE hi hp hn hk q cap)
  have CT := Lib.hid fun (w' : World) (h : Below w.heap.size w w') => frameSum_any E i p cm n k hE hi hp hn hk q cap bs hbl hbb w' (bytesAt_below hbs h)
  have hlen := frameB_length E i p cm n k
  have hbyt := frameB_byte E i p cm n k
  have HSL := Lib.hid (frameS_length E i p cm n k bs)
  have hfs : frameS E i p cm n k bs = padL (frameB E i p cm n k ++ fixE 4 (~~~ sumN (frameB E i p cm n k ++ bs)).toNat) := rfl
  generalize frameS E i p cm n k bs = ls at *
  generalize frameB E i p cm n k = lb at *
  have C4 := Lib.hid fun w => four_any (~~~ sumN (lb ++ bs)).toNat w (sumNot_lt _)
  have hfl : (fixE 4 (~~~ sumN (lb ++ bs)).toNat).length = 4 := fixE_length _ _
  have hfb := fixE_byte 4 (~~~ sumN (lb ++ bs)).toNat
  generalize fixE 4 (~~~ sumN (lb ++ bs)).toNat = lf at *
  generalize (~~~ sumN (lb ++ bs)).toNat = sb at *
  have FT := Lib.hid fun p q c d (w : World) h1 h2 h3 h4 => filled_two lb lf p q c d w (by omega) hbyt hfb h1 h2 h3 h4
  rw [← hfs] at FT
  clear hlen hbyt hfl hfb hfs hE hi hp hn hk hbl hbb hbs
  go_enter Tryz.func139, Tryz.ntmps139
  go_upto_region 1 with fail
  change Code.wp Tryz.prog _ _ _ ((w.alloc (.cells #[.int .u64 E, .int .i64 i, .int .i64 p, .bool cm, .int .i64 n, .int .u32 k, .slice q 512 cap] 156)).alloc (.cells zs64 187))
  obtain ⟨w1, hw1⟩ : ∃ w1, (w.alloc (.cells #[.int .u64 E, .int .i64 i, .int .i64 p, .bool cm, .int .i64 n, .int .u32 k, .slice q 512 cap] 156)).alloc (.cells zs64 187) = w1 := ⟨_, rfl⟩
  have HB1 : Hid (Below w.heap.size w w1) := Lib.hid (by subst hw1; exact ((Below.refl _ _).alloc (Nat.le_refl _) _).alloc (by simp) _)
  have HGX : Hid (w1.heap[w.heap.size]? = some (.cells #[.int .u64 E, .int .i64 i, .int .i64 p, .bool cm, .int .i64 n, .int .u32 k, .slice q 512 cap] 156 (0, 0))) := Lib.hid (by subst hw1; exact (((Below.refl _ _).alloc (Nat.le_refl _) _).block _ (by simp)).trans (heap_alloc_last w _))
  have HGT : Hid (w1.heap[w.heap.size + 1]? = some (.cells zs64 187 (0, 0))) := Lib.hid (by subst hw1; have := heap_alloc_last (w.alloc (.cells #[.int .u64 E, .int .i64 i, .int .i64 p, .bool cm, .int .i64 n, .int .u32 k, .slice q 512 cap] 156)) (.cells zs64 187); rw [World.size_alloc] at this; exact this)
  have HLT : Hid (w.heap.size + 1 < w1.heap.size) := Lib.hid (by subst hw1; simp)
  have HLX : Hid (w.heap.size < w1.heap.size) := Lib.hid (by subst hw1; simp; omega)
  rw [hw1]
  clear hw1
  refine wp_region_held_drew (S := fun w' => Below w.heap.size w w' ∧ w'.heap[w.heap.size]? = some (.cells #[.int .u64 E, .int .i64 i, .int .i64 p, .bool cm, .int .i64 n, .int .u32 k, .slice q 512 cap] 156 (0, 0))) (by kernel_rfl) ⟨HB1.out.drew, HGX.out⟩ (fun S0 => ?_)
  obtain ⟨wd, hwd⟩ : ∃ wd, w1.drew = wd := ⟨_, rfl⟩
  have H0 : Below w1.heap.size w1 wd := by rw [← hwd]; exact (Below.refl _ _).drew
  rw [hwd] at S0 ⊢
  clear hwd
  refine wpAnyH_take (i := 0) (oi := { dst := some 3, op := Go.Op.load 156 (Go.Operand.tmp 1), type := 156, pos := "part.go:87", after := #[], guard := none }) (v := ?_) rfl (by kernel_rfl) (by kernel_rfl) (by kernel_rfl) (fun _ _ _ h => h) (Or.inl ⟨by rfl, ?_⟩) S0 ?_
  rotate_left
  focus (intro w' hSw; (try dsimp only at hSw); have k0 := row_cell (i := 0) hSw.2 rfl; have k1 := row_cell (i := 1) hSw.2 rfl; have k2 := row_cell (i := 2) hSw.2 rfl; have k3 := row_cell (i := 3) hSw.2 rfl; have k4 := row_cell (i := 4) hSw.2 rfl; have k5 := row_cell (i := 5) hSw.2 rfl; have k6 := row_cell (i := 6) hSw.2 rfl; go_simp; (try with_reducible rfl))
  simp only [Act.put, List.setIfInBounds_toArray, List.set_cons_zero, List.set_cons_succ]
  refine wpAnyH_take (i := 2) (oi := { dst := some 5, op := Go.Op.load 156 (Go.Operand.tmp 1), type := 156, pos := "part.go:87", after := #[], guard := none }) (v := ?_) rfl (by kernel_rfl) (by kernel_rfl) (by kernel_rfl) (fun _ _ _ h => h) (Or.inl ⟨by rfl, ?_⟩) S0 ?_
  rotate_left
  focus (intro w' hSw; (try dsimp only at hSw); have k0 := row_cell (i := 0) hSw.2 rfl; have k1 := row_cell (i := 1) hSw.2 rfl; have k2 := row_cell (i := 2) hSw.2 rfl; have k3 := row_cell (i := 3) hSw.2 rfl; have k4 := row_cell (i := 4) hSw.2 rfl; have k5 := row_cell (i := 5) hSw.2 rfl; have k6 := row_cell (i := 6) hSw.2 rfl; go_simp; (try with_reducible rfl))
  simp only [Act.put, List.setIfInBounds_toArray, List.set_cons_zero, List.set_cons_succ]
  refine wpAnyH_ready (rs := [1]) (by kernel_rfl) (by simp) ?_
  refine AllReadyH.cons (o := { dst := some 4, op := Go.Op.call { callee := Go.Callee.value (Go.Operand.func 168), args := #[Go.Operand.tmp 3], argTypes := #[156] }, type := 49, pos := "part.go:87", after := #[{ on := 0, ground := Go.Ground.data }], guard := none }) rfl (fun K hK => ?_) ?_
  rotate_left
  exact AllReadyH.nil
  go_simp
  (go_at_call 168; (with_reducible refine (CS.out _).mono ?_); rintro e wa ⟨t, rfl, hr⟩)
  try go_wp2_with fail
  obtain ⟨pp, cp, rfl, -, -, hby, hnn⟩ := hr.at2
  have Ha := kbT H0 hr.2
  refine hK.out _ _ ⟨HB1.out.trans (Ha.mono HB1.out.size), (Ha.block _ HLX.out).trans HGX.out⟩ (fun Sa => ?_)
  clear hK K
  try simp only [Act.put, List.setIfInBounds_toArray, List.set_cons_zero, List.set_cons_succ]
  refine wpAnyH_ready (rs := [3]) (by kernel_rfl) (by simp) ?_
  refine AllReadyH.cons (o := { dst := some 6, op := Go.Op.call { callee := Go.Callee.value (Go.Operand.func 140), args := #[Go.Operand.tmp 5], argTypes := #[156] }, type := 39, pos := "part.go:87", after := #[{ on := 2, ground := Go.Ground.data }, { on := 1, ground := Go.Ground.chain }], guard := none }) rfl (fun K hK => ?_) ?_
  rotate_left
  exact AllReadyH.nil
  go_simp
  (go_at_call 140; (with_reducible refine (CT.out _ (kbT HB1.out Ha)).mono ?_); rintro e wb ⟨rfl, hb⟩)
  try go_wp2_with fail
  have Hb := kbT Ha hb
  have hby := bytesAt_below hby hb
  refine hK.out _ _ ⟨HB1.out.trans (Hb.mono HB1.out.size), (Hb.block _ HLX.out).trans HGX.out⟩ (fun Sb => ?_)
  clear hK K
  try simp only [Act.put, List.setIfInBounds_toArray, List.set_cons_zero, List.set_cons_succ]
  refine wpAnyH_ready (rs := [4]) (by kernel_rfl) (by simp) ?_
  refine AllReadyH.cons (o := { dst := some 7, op := Go.Op.call { callee := Go.Callee.value (Go.Operand.func 163), args := #[Go.Operand.tmp 6], argTypes := #[39] }, type := 49, pos := "part.go:87", after := #[{ on := 3, ground := Go.Ground.data }, { on := 3, ground := Go.Ground.chain }], guard := none }) rfl (fun K hK => ?_) ?_
  rotate_left
  exact AllReadyH.nil
  go_simp
  (go_at_call 163; (with_reducible refine (C4.out _).mono ?_); rintro e wc ⟨t2, rfl, hr2⟩)
  try go_wp2_with fail
  obtain ⟨p2, c2, rfl, -, -, hby2, hnn2⟩ := hr2.at2
  have Hc := kbT Hb hr2.2
  have hby := bytesAt_below hby hr2.2
  refine hK.out _ _ ⟨HB1.out.trans (Hc.mono HB1.out.size), (Hc.block _ HLX.out).trans HGX.out⟩ (fun Sc => ?_)
  clear hK K
  try simp only [Act.put, List.setIfInBounds_toArray, List.set_cons_zero, List.set_cons_succ]
  refine wpAnyH_ready (rs := [5]) (by kernel_rfl) (by simp) ?_
  refine AllReadyH.cons (o := { dst := some 8, op := Go.Op.buildSlice 230 2 #[(0, Go.Operand.tmp 4), (1, Go.Operand.tmp 7)], type := 230, pos := "part.go:87", after := #[{ on := 1, ground := Go.Ground.data }, { on := 4, ground := Go.Ground.data }], guard := none }) rfl (fun K hK => ?_) ?_
  rotate_left
  exact AllReadyH.nil
  go_simp
  obtain ⟨we, hwe⟩ : ∃ we, wc.alloc (.cells #[.slice pp lb.length cp, .slice p2 lf.length c2] 49) = we := ⟨_, rfl⟩
  have hbe : Below wc.heap.size wc we := by subst hwe; exact (Below.refl _ _).alloc (Nat.le_refl _) _
  have He := kbT Hc hbe
  rw [hwe]
  refine hK.out _ _ ⟨HB1.out.trans (He.mono HB1.out.size), (He.block _ HLX.out).trans HGX.out⟩ (fun Se => ?_)
  clear hK K
  try simp only [Act.put, List.setIfInBounds_toArray, List.set_cons_zero, List.set_cons_succ]
  refine wpAnyH_ready (rs := [6]) (by kernel_rfl) (by simp) ?_
  refine AllReadyH.cons (o := { dst := some 9, op := Go.Op.call { callee := Go.Callee.value (Go.Operand.func 165), args := #[Go.Operand.tmp 8], argTypes := #[230] }, type := 187, pos := "part.go:87", after := #[{ on := 5, ground := Go.Ground.data }, { on := 4, ground := Go.Ground.chain }], guard := none }) rfl (fun K hK => ?_) ?_
  rotate_left
  exact AllReadyH.nil
  go_simp
  have c54 := FT.out pp p2 cp c2 wc hby hby2 hnn hnn2
  rw [hwe] at c54
  (go_at_call 165; (with_reducible refine c54.mono ?_); rintro e wf ⟨rfl, hf⟩)
  try go_wp2_with fail
  have Hf := kbT Hc hf
  have HG2 := (Hf.block _ HLT.out).trans HGT.out
  refine hK.out _ _ ⟨HB1.out.trans (Hf.mono HB1.out.size), (Hf.block _ HLX.out).trans HGX.out⟩ (fun Sf => ?_)
  clear hK K
  try simp only [Act.put, List.setIfInBounds_toArray, List.set_cons_zero, List.set_cons_succ]
  refine wpAnyH_ready (rs := [7]) (by kernel_rfl) (by simp) ?_
  refine AllReadyH.cons (o := { dst := none, op := Go.Op.store 187 (Go.Operand.tmp 2) (Go.Operand.tmp 9), type := 0, pos := "part.go:87", after := #[{ on := 6, ground := Go.Ground.data }, { on := 6, ground := Go.Ground.chain }, { on := 0, ground := Go.Ground.phase }, { on := 1, ground := Go.Ground.phase }, { on := 2, ground := Go.Ground.phase }, { on := 3, ground := Go.Ground.phase }, { on := 4, ground := Go.Ground.phase }, { on := 5, ground := Go.Ground.phase }, { on := 6, ground := Go.Ground.phase }], guard := none }) rfl (fun K hK => ?_) ?_
  rotate_left
  exact AllReadyH.nil
  refine step_store_row rfl 187 (.tmp 2) (.tmp 9) rfl (w.heap.size + 1) (secA ls) rfl rfl 187 zs64 HG2 (by rw [secA_size, HSL.out]; kernel_rfl) (by rw [secA_size, HSL.out]; rfl) (secA_one _) ?_
  refine hK.out _ _ ⟨below_setRow Sf.1 (Nat.le_succ _) _, (setRow_other _ _ _ _ (by omega)).trans Sf.2⟩ (fun Sg => ?_)
  clear hK K
  try simp only [Act.put, List.setIfInBounds_toArray, List.set_cons_zero, List.set_cons_succ]
  refine wpAnyH_done (by kernel_rfl) ?_ _
  go_wp2_with fail
  exact bodyPost_ret (results_cell_row rfl _ _ _ _ _ _ _ rfl (setRow_heap _ _ _ _ _ _ HG2) Tryz.underlying187 rfl (by rw [secA_size, HSL.out]; kernel_rfl)) rfl ⟨rfl, Sg.1⟩
/-- Two lists of bytes, joined. -/
theorem concat_two (l m : List Nat) (p q : Option Addr) (c d : Nat) (w : World) (hs : l.length + m.length ≤ 100000) (hb : ∀ b ∈ l, b < 256) (hd : ∀ b ∈ m, b < 256) (hc : BytesAt w p l) (hq : BytesAt w q m) (n1 : p = none → c = 0) (n2 : q = none → d = 0) :
    Calls Tryz.prog 152 #[.slice (some ⟨w.heap.size, 0, none⟩) 2 2] (w.alloc (.cells #[.slice p l.length c, .slice q m.length d] 49)) fun r w' => ∃ t, r = .returned t ∧ RowB (w.alloc (.cells #[.slice p l.length c, .slice q m.length d] 49)) (l ++ m) t w' := by
  have e : flatL [(p, l, c), (q, m, d)] = l ++ m := by simp [flatL]
  have hB : Below w.heap.size w (w.alloc (.cells #[.slice p l.length c, .slice q m.length d] 49)) := (Below.refl _ _).alloc (Nat.le_refl _) _
  have h := concat_any [(p, l, c), (q, m, d)] (some ⟨w.heap.size, 0, none⟩) 2 (w.alloc (.cells #[.slice p l.length c, .slice q m.length d] 49)) (by simp)
    (Lib.hid (lists_two (by omega) (by omega) hb hd (by go_cell) (by go_cell) (bytesAt_below hc hB) (bytesAt_below hq hB)))
    (Lib.hid fun x hx => by
      simp only [List.mem_cons, List.not_mem_nil, or_false] at hx
      rcases hx with rfl | rfl
      · exact n1
      · exact n2) (by rw [e, List.length_append]; exact hs)
  rw [e] at h
  exact h
set_option maxRecDepth 100000 in
set_option maxHeartbeats 4000000 in
theorem encode_ok (E i p : Nat) (cm : Bool) (n k : Nat) (hE : E < 2 ^ 64) (hi : i < 4294967296) (hp : p < 4294967296) (hn : n < 4294967296) (hk : k < 4294967296) (q : Option Addr) (cap : Nat) (bs : List Nat) (hbl : bs.length = 512) (hbb : ∀ b ∈ bs, b < 256) (w : World) (hbs : BytesAt w q bs) (hnn : q = none → cap = 0) (hok : frameOk i p cm n 512 = true) :
    Calls Tryz.prog 126 #[.agg #[.int .u64 E, .int .i64 i, .int .i64 p, .bool cm, .int .i64 n, .int .u32 k, .slice q 512 cap]] w fun r w' => ∃ t, r = .returned (.tuple #[t, .int .i64 0]) ∧ RowB w (frameL E i p cm n k bs) t w' := by
  have CC := Lib.hid (checkFrame_any E i p cm n k q 512 cap)
  rw [if_pos hok] at CC
  unfold frameV at CC
  have CH := Lib.hid fun (w' : World) (h : Below w.heap.size w w') => frameSector_any E i p cm n k hE hi hp hn hk q cap bs hbl hbb w' (bytesAt_below hbs h)
  have HSL := Lib.hid (frameS_length E i p cm n k bs)
  have hsb := frameS_byte E i p cm n k bs
  have hfl : frameL E i p cm n k bs = frameS E i p cm n k bs ++ bs := rfl
  have HBS := Lib.hid fun (w' : World) (h : Below w.heap.size w w') => bytesAt_below hbs h
  generalize frameL E i p cm n k bs = fl at *
  generalize frameS E i p cm n k bs = ls at *
  have KT := Lib.hid fun p c (w : World) h1 h2 h3 => concat_two ls bs p q c cap w (by have := HSL.out; omega) hsb hbb h1 h2 h3 hnn
  rw [← hfl, HSL.out, hbl] at KT
  clear hok hsb hfl hE hi hp hn hk hbl hbb hbs hnn
  go_enter Tryz.func126, Tryz.ntmps126
  go_upto_region 1 with fail
  obtain ⟨w1, hw1⟩ : ∃ w1, w.alloc (.cells #[.int .u64 E, .int .i64 i, .int .i64 p, .bool cm, .int .i64 n, .int .u32 k, .slice q 512 cap] 156) = w1 := ⟨_, rfl⟩
  have HB1 : Hid (Below w.heap.size w w1) := Lib.hid (by subst hw1; exact (Below.refl _ _).alloc (Nat.le_refl _) _)
  have HCL : Hid (∀ w', Below w1.heap.size w1 w' → w'.cell? ⟨w.heap.size, 0, none⟩ = some (.int .u64 E) ∧ w'.cell? ⟨w.heap.size, 1, none⟩ = some (.int .i64 i) ∧ w'.cell? ⟨w.heap.size, 2, none⟩ = some (.int .i64 p) ∧ w'.cell? ⟨w.heap.size, 3, none⟩ = some (.bool cm) ∧ w'.cell? ⟨w.heap.size, 4, none⟩ = some (.int .i64 n) ∧ w'.cell? ⟨w.heap.size, 5, none⟩ = some (.int .u32 k) ∧ w'.cell? ⟨w.heap.size, 6, none⟩ = some (.slice q 512 cap)) := Lib.hid fun w' h => by
    have k0 : w1.cell? ⟨w.heap.size, 0, none⟩ = some (.int .u64 E) := by subst hw1; go_cell
    have k1 : w1.cell? ⟨w.heap.size, 1, none⟩ = some (.int .i64 i) := by subst hw1; go_cell
    have k2 : w1.cell? ⟨w.heap.size, 2, none⟩ = some (.int .i64 p) := by subst hw1; go_cell
    have k3 : w1.cell? ⟨w.heap.size, 3, none⟩ = some (.bool cm) := by subst hw1; go_cell
    have k4 : w1.cell? ⟨w.heap.size, 4, none⟩ = some (.int .i64 n) := by subst hw1; go_cell
    have k5 : w1.cell? ⟨w.heap.size, 5, none⟩ = some (.int .u32 k) := by subst hw1; go_cell
    have k6 : w1.cell? ⟨w.heap.size, 6, none⟩ = some (.slice q 512 cap) := by subst hw1; go_cell
    exact ⟨(h.cell (lt_of_cell_some k0)).trans k0, (h.cell (lt_of_cell_some k1)).trans k1, (h.cell (lt_of_cell_some k2)).trans k2, (h.cell (lt_of_cell_some k3)).trans k3, (h.cell (lt_of_cell_some k4)).trans k4, (h.cell (lt_of_cell_some k5)).trans k5, (h.cell (lt_of_cell_some k6)).trans k6⟩
  obtain ⟨k0, k1, k2, k3, k4, k5, k6⟩ := HCL.out _ (Below.refl _ _)
  rw [hw1]
  clear hw1
  go_upto_region 5 with (first
    | (go_at_call 138; (with_reducible refine (CC.out _).mono ?_); rintro e wb ⟨rfl, hb⟩; have HBB := Lib.hid hb; obtain ⟨k0, k1, k2, k3, k4, k5, k6⟩ := HCL.out _ hb; clear hb)
    | (go_at_call 139; (with_reducible refine (CH.out _ (kbT HB1.out HBB.out)).mono ?_); rintro e wc ⟨rfl, hb⟩; have HBC := Lib.hid (kbT HBB.out hb); clear hb)
    | (refine wpList_store_row rfl 187 _ _ rfl wc.heap.size (secA ls) rfl rfl 187 _ (heap_alloc_last wc _) (by rw [secA_size, HSL.out]; kernel_rfl) (by rw [secA_size, HSL.out]; rfl) (secA_one _) ?_; rw [World.setRow_alloc_new]))
  obtain ⟨wz, hwz⟩ : ∃ wz, wc.alloc (.cells (secA ls) 187) = wz := ⟨_, rfl⟩
  have HZ : Hid (Below w1.heap.size w1 wz) := Lib.hid (by subst hwz; exact HBC.out.alloc HBC.out.size _)
  have HBY : Hid (BytesAt wz (some ⟨wc.heap.size, 0, none⟩) ls) := Lib.hid (by subst hwz; exact bytes_sec wc ls 187)
  rw [hwz]
  clear hwz k0 k1 k2 k3 k4 k5 k6
  refine wp_region_held_drew (S := fun w' => Below wz.heap.size wz w') (by kernel_rfl) ((Below.refl _ _).drew) (fun H0 => ?_)
  obtain ⟨wd, hwd⟩ : ∃ wd, wz.drew = wd := ⟨_, rfl⟩
  rw [hwd] at H0 ⊢
  clear hwd
  refine wpAnyH_take (i := 0) (oi := { dst := some 13, op := Go.Op.slice 187 (Go.Operand.tmp 5) none none none, type := 49, pos := "frame.go:71", after := #[], guard := none }) (v := ?_) rfl (by kernel_rfl) (by kernel_rfl) (by kernel_rfl) (fun _ _ _ h => h) (Or.inl ⟨by rfl, ?_⟩) H0 ?_
  rotate_left
  focus (intro w' hSw; (try dsimp only at hSw); go_simp; (try with_reducible rfl))
  simp only [Act.put, List.setIfInBounds_toArray, List.set_cons_zero, List.set_cons_succ]
  refine wpAnyH_take (i := 1) (oi := { dst := some 14, op := Go.Op.fieldAddr 156 (Go.Operand.tmp 1) 6, type := 0, pos := "frame.go:71", after := #[], guard := none }) (v := ?_) rfl (by kernel_rfl) (by kernel_rfl) (by kernel_rfl) (fun _ _ _ h => h) (Or.inl ⟨by rfl, ?_⟩) H0 ?_
  rotate_left
  focus (intro w' hSw; (try dsimp only at hSw); go_simp; (try with_reducible rfl))
  simp only [Act.put, List.setIfInBounds_toArray, List.set_cons_zero, List.set_cons_succ]
  refine wpAnyH_take (i := 2) (oi := { dst := some 15, op := Go.Op.load 49 (Go.Operand.tmp 14), type := 49, pos := "frame.go:71", after := #[{ on := 1, ground := Go.Ground.data }], guard := none }) (v := ?_) rfl (by kernel_rfl) (by kernel_rfl) (by kernel_rfl) (fun _ _ _ h => h) (Or.inl ⟨by rfl, ?_⟩) H0 ?_
  rotate_left
  focus (intro w' hSw; (try dsimp only at hSw); obtain ⟨k0, k1, k2, k3, k4, k5, k6⟩ := HCL.out _ (kbT HZ.out hSw); go_simp; (try with_reducible rfl))
  simp only [Act.put, List.setIfInBounds_toArray, List.set_cons_zero, List.set_cons_succ]
  refine wpAnyH_ready (rs := [3]) (by kernel_rfl) (by simp) ?_
  refine AllReadyH.cons (o := { dst := some 16, op := Go.Op.buildSlice 230 2 #[(0, Go.Operand.tmp 13), (1, Go.Operand.tmp 15)], type := 230, pos := "frame.go:71", after := #[{ on := 0, ground := Go.Ground.data }, { on := 2, ground := Go.Ground.data }], guard := none }) rfl (fun K hK => ?_) ?_
  rotate_left
  exact AllReadyH.nil
  go_simp
  obtain ⟨wb, hwb⟩ : ∃ wb, wd.alloc (.cells #[.slice (some ⟨wc.heap.size, 0, none⟩) 64 64, .slice q 512 cap] 49) = wb := ⟨_, rfl⟩
  have hbw : Below wd.heap.size wd wb := by subst hwb; exact (Below.refl _ _).alloc (Nat.le_refl _) _
  rw [hwb]
  refine hK.out _ _ (kbT H0 hbw) (fun Hb => ?_)
  clear hK K
  try simp only [Act.put, List.setIfInBounds_toArray, List.set_cons_zero, List.set_cons_succ]
  refine wpAnyH_ready (rs := [4]) (by kernel_rfl) (by simp) ?_
  refine AllReadyH.cons (o := { dst := some 17, op := Go.Op.call { callee := Go.Callee.value (Go.Operand.func 152), args := #[Go.Operand.tmp 16], argTypes := #[230] }, type := 49, pos := "frame.go:71", after := #[{ on := 3, ground := Go.Ground.data }], guard := none }) rfl (fun K hK => ?_) ?_
  rotate_left
  exact AllReadyH.nil
  go_simp
  have c44 := KT.out (some ⟨wc.heap.size, 0, none⟩) 64 wd (bytesAt_below HBY.out H0) (HBS.out _ (kbT HB1.out (kbT HZ.out H0))) (fun h => nomatch h)
  rw [hwb] at c44
  (go_at_call 152; (with_reducible refine c44.mono ?_); rintro e we ⟨t, rfl, hr⟩)
  try go_wp2_with fail
  have hbe := kbT hbw (show Below wb.heap.size wb we from hr.2)
  refine hK.out _ _ (kbT H0 hbe) (fun He => ?_)
  clear hK K
  try simp only [Act.put, List.setIfInBounds_toArray, List.set_cons_zero, List.set_cons_succ]
  refine wpAnyH_take (i := 5) (oi := { dst := some 2, op := Go.Op.assign (Go.Operand.tmp 17), type := 49, pos := "frame.go:71", after := #[{ on := 4, ground := Go.Ground.data }, { on := 4, ground := Go.Ground.chain }, { on := 0, ground := Go.Ground.phase }, { on := 1, ground := Go.Ground.phase }, { on := 2, ground := Go.Ground.phase }, { on := 3, ground := Go.Ground.phase }, { on := 4, ground := Go.Ground.phase }], guard := none }) (v := ?_) rfl (by kernel_rfl) (by kernel_rfl) (by kernel_rfl) (fun _ _ _ h => h) (Or.inl ⟨by rfl, ?_⟩) He ?_
  rotate_left
  focus (intro w' hSw; (try dsimp only at hSw); go_simp; (try with_reducible rfl))
  simp only [Act.put, List.setIfInBounds_toArray, List.set_cons_zero, List.set_cons_succ]
  refine wpAnyH_take (i := 6) (oi := { dst := some 3, op := Go.Op.assign (Go.Operand.const (Go.Value.int Go.IntKind.i64 0)), type := 25, pos := "frame.go:71", after := #[{ on := 5, ground := Go.Ground.chain }, { on := 0, ground := Go.Ground.phase }, { on := 1, ground := Go.Ground.phase }, { on := 2, ground := Go.Ground.phase }, { on := 3, ground := Go.Ground.phase }, { on := 4, ground := Go.Ground.phase }, { on := 5, ground := Go.Ground.phase }], guard := none }) (v := ?_) rfl (by kernel_rfl) (by kernel_rfl) (by kernel_rfl) (fun _ _ _ h => h) (Or.inl ⟨by rfl, ?_⟩) He ?_
  rotate_left
  focus (intro w' hSw; (try dsimp only at hSw); go_simp; (try with_reducible rfl))
  simp only [Act.put, List.setIfInBounds_toArray, List.set_cons_zero, List.set_cons_succ]
  refine wpAnyH_done (by kernel_rfl) ?_ _
  go_wp2_with fail
  go_ret2
  exact ⟨_, rfl, hr.grow (kbT HB1.out (kbT HZ.out (kbT H0 hbw)))⟩
end Go.Proofs.YtdanigigjainjaaGreat
namespace Go.Proofs.YtdanigigjainjaaGreat
open Go.RowKit Go.Shelf
set_option maxRecDepth 100000
set_option maxHeartbeats 1000000

end Go.Proofs.YtdanigigjainjaaGreat
namespace Go.Proofs.YtdanigigjainjaaGreat
open Go.RowKit Go.Shelf
set_option maxRecDepth 100000
set_option maxHeartbeats 1000000

end Go.Proofs.YtdanigigjainjaaGreat
namespace Go.Proofs.YtdanigigjainjaaGreat
open Go.RowKit Go.Shelf
set_option maxRecDepth 100000
set_option maxHeartbeats 1000000

set_option maxRecDepth 100000 in
set_option maxHeartbeats 2000000 in
theorem fsum_ok (E i p : Nat) (cm : Bool) (n k : Nat) (hE : E < 2 ^ 64) (hi : i < 4294967296) (hp : p < 4294967296) (hn : n < 4294967296) (hk : k < 4294967296) (q : Option Addr) (cap : Nat) (bs : List Nat) (hbl : bs.length = 512) (hbb : ∀ b ∈ bs, b < 256) (w : World) (hbs : BytesAt w q bs) (hok : frameOk i p cm n 512 = true) :
    Calls Tryz.prog 122 #[frameV E i p cm n k q 512 cap] w fun r w' => r = .returned (.tuple #[.int .u32 (~~~ sumN (frameB E i p cm n k ++ bs)).toNat, .int .i64 0]) ∧ Below w.heap.size w w' := by
  have CC := Lib.hid (checkFrame_any E i p cm n k q 512 cap)
  rw [if_pos hok] at CC
  have CS := Lib.hid fun (w' : World) (h : Below w.heap.size w w') => frameSum_any E i p cm n k hE hi hp hn hk q cap bs hbl hbb w' (bytesAt_below hbs h)
  generalize (~~~ sumN (frameB E i p cm n k ++ bs)).toNat = sb at *
  unfold frameV at CC ⊢
  clear hok hE hi hp hn hk hbl hbb hbs
  go_enter Tryz.func122, Tryz.ntmps122
  go_upto_region 1 with fail
  obtain ⟨w1, hw1⟩ : ∃ w1, w.alloc (.cells #[.int .u64 E, .int .i64 i, .int .i64 p, .bool cm, .int .i64 n, .int .u32 k, .slice q 512 cap] 156) = w1 := ⟨_, rfl⟩
  have HB1 : Hid (Below w.heap.size w w1) := Lib.hid (by subst hw1; exact (Below.refl _ _).alloc (Nat.le_refl _) _)
  have HCL : Hid (∀ w', Below w1.heap.size w1 w' → w'.cell? ⟨w.heap.size, 0, none⟩ = some (.int .u64 E) ∧ w'.cell? ⟨w.heap.size, 1, none⟩ = some (.int .i64 i) ∧ w'.cell? ⟨w.heap.size, 2, none⟩ = some (.int .i64 p) ∧ w'.cell? ⟨w.heap.size, 3, none⟩ = some (.bool cm) ∧ w'.cell? ⟨w.heap.size, 4, none⟩ = some (.int .i64 n) ∧ w'.cell? ⟨w.heap.size, 5, none⟩ = some (.int .u32 k) ∧ w'.cell? ⟨w.heap.size, 6, none⟩ = some (.slice q 512 cap)) := Lib.hid fun w' h => by
    have k0 : w1.cell? ⟨w.heap.size, 0, none⟩ = some (.int .u64 E) := by subst hw1; go_cell
    have k1 : w1.cell? ⟨w.heap.size, 1, none⟩ = some (.int .i64 i) := by subst hw1; go_cell
    have k2 : w1.cell? ⟨w.heap.size, 2, none⟩ = some (.int .i64 p) := by subst hw1; go_cell
    have k3 : w1.cell? ⟨w.heap.size, 3, none⟩ = some (.bool cm) := by subst hw1; go_cell
    have k4 : w1.cell? ⟨w.heap.size, 4, none⟩ = some (.int .i64 n) := by subst hw1; go_cell
    have k5 : w1.cell? ⟨w.heap.size, 5, none⟩ = some (.int .u32 k) := by subst hw1; go_cell
    have k6 : w1.cell? ⟨w.heap.size, 6, none⟩ = some (.slice q 512 cap) := by subst hw1; go_cell
    exact ⟨(h.cell (lt_of_cell_some k0)).trans k0, (h.cell (lt_of_cell_some k1)).trans k1, (h.cell (lt_of_cell_some k2)).trans k2, (h.cell (lt_of_cell_some k3)).trans k3, (h.cell (lt_of_cell_some k4)).trans k4, (h.cell (lt_of_cell_some k5)).trans k5, (h.cell (lt_of_cell_some k6)).trans k6⟩
  obtain ⟨k0, k1, k2, k3, k4, k5, k6⟩ := HCL.out _ (Below.refl _ _)
  rw [hw1]
  clear hw1
  go_wp2_with (first
    | (go_at_call 138; (with_reducible refine (CC.out _).mono ?_); rintro e wa ⟨rfl, hb1⟩; have B1 := Lib.hid hb1; obtain ⟨k0, k1, k2, k3, k4, k5, k6⟩ := HCL.out _ hb1; clear hb1)
    | (go_at_call 140; (with_reducible refine (CS.out _ (kbT HB1.out B1.out)).mono ?_); rintro e wb ⟨rfl, hb2⟩; have B2 := Lib.hid (kbT (kbT HB1.out B1.out) hb2); clear hb2))
  go_ret2
  exact ⟨rfl, B2.out⟩
end Go.Proofs.YtdanigigjainjaaGreat
namespace Go.Proofs.YtdanigigjainjaaGreat
open Go.RowKit Go.Shelf
set_option maxRecDepth 100000
set_option maxHeartbeats 1000000

end Go.Proofs.YtdanigigjainjaaGreat
namespace Go.Proofs.YtdanigigjainjaaGreat
open Go.RowKit Go.Shelf
set_option maxRecDepth 100000
set_option maxHeartbeats 1000000

end Go.Proofs.YtdanigigjainjaaGreat
namespace Go.Proofs.YtdanigigjainjaaGreat
open Go.RowKit Go.Shelf
set_option maxRecDepth 100000
set_option maxHeartbeats 1000000

end Go.Proofs.YtdanigigjainjaaGreat
namespace Go.Proofs.YtdanigigjainjaaGreat
open Go.RowKit Go.Shelf
set_option maxRecDepth 100000
set_option maxHeartbeats 1000000

theorem plan_no {F P : Int} (h : ¬ (1 ≤ F ∧ F ≤ 2000 ∧ 1 ≤ P ∧ P ≤ 2000)) : planOk F P = false := by
  cases hp : planOk F P
  · rfl
  · exact absurd (plan_bounds hp) h
theorem plan_yes {F P : Int} (h : 1 ≤ F ∧ F ≤ 2000 ∧ 1 ≤ P ∧ P ≤ 2000) : planOk F P = true := by
  simp [planOk, h]
set_option maxRecDepth 100000 in
theorem right_any (F P : Int) (w : World) : Calls Tryz.prog 11 #[.agg #[.int .i64 F, .int .i64 P]] w fun r w' => r = .returned (.bool (planOk F P)) ∧ Below w.heap.size w w' := by
  by_cases h1 : F ≥ 1
  · by_cases h2 : F ≤ 2000
    · by_cases h3 : P ≥ 1
      · by_cases h4 : P ≤ 2000
        · rw [plan_yes ⟨h1, h2, h3, h4⟩]
          go_enter Tryz.func11, Tryz.ntmps11
          go_wp2
          go_ret
          exact ⟨by first | rfl | simp, (Below.refl _ _).alloc (Nat.le_refl _) _⟩
        · rw [plan_no (fun h => h4 h.2.2.2)]
          go_enter Tryz.func11, Tryz.ntmps11
          go_wp2
          go_ret
          exact ⟨by first | rfl | simp, (Below.refl _ _).alloc (Nat.le_refl _) _⟩
      · rw [plan_no (fun h => h3 h.2.2.1)]
        go_enter Tryz.func11, Tryz.ntmps11
        go_wp2
        go_ret
        exact ⟨by first | rfl | simp, (Below.refl _ _).alloc (Nat.le_refl _) _⟩
    · rw [plan_no (fun h => h2 h.2.1)]
      go_enter Tryz.func11, Tryz.ntmps11
      go_wp2
      go_ret
      exact ⟨by first | rfl | simp, (Below.refl _ _).alloc (Nat.le_refl _) _⟩
  · rw [plan_no (fun h => h1 h.1)]
    go_enter Tryz.func11, Tryz.ntmps11
    go_wp2
    go_ret
    exact ⟨by first | rfl | simp, (Below.refl _ _).alloc (Nat.le_refl _) _⟩
theorem refSectors_any (F P : Int) (w : World) (h : planOk F P = true) : Calls Tryz.prog 12 #[.agg #[.int .i64 F, .int .i64 P]] w fun r w' => r = .returned (.int .i64 (2 + 9 * F + 8 * P)) ∧ Below w.heap.size w w' := by
  obtain ⟨p1, p2, p3, p4⟩ := plan_bounds h
  go_enter Tryz.func12, Tryz.ntmps12
  go_wp2
  go_ret
  exact ⟨rfl, (Below.refl _ _).alloc (Nat.le_refl _) _⟩
end Go.Proofs.YtdanigigjainjaaGreat
namespace Go.Proofs.YtdanigigjainjaaGreat
open Go.RowKit Go.Shelf
set_option maxRecDepth 100000
set_option maxHeartbeats 1000000
attribute [local go_sem] Oper.semAt_some
/-- What is said of a world speaks of what lies below B alone. -/
def LowC {β : Type} (B : Nat) (J : β → World → Prop) : Prop := ∀ s A C, J s A → B ≤ A.heap.size → Below B A C → J s C
/-- What a round keeps: all from B on, and what M names. -/
def KpB (M : Nat → Prop) (B : Nat) (A C : World) : Prop := A.heap.size ≤ C.heap.size ∧ ∀ k, k < A.heap.size → (B ≤ k ∨ M k) → C.heap[k]? = A.heap[k]?
theorem KpB.trans {M : Nat → Prop} {B : Nat} {X Y Z : World} (h : KpB M B X Y) (k : KpB M B Y Z) : KpB M B X Z := ⟨Nat.le_trans h.1 k.1, fun i hi hm => (k.2 i (Nat.lt_of_lt_of_le hi h.1) hm).trans (h.2 i hi hm)⟩
theorem KpB.mono {M M' : Nat → Prop} {B B' : Nat} {X Y : World} (h : KpB M B X Y) (hm : ∀ k, B' ≤ k ∨ M' k → B ≤ k ∨ M k) : KpB M' B' X Y := ⟨h.1, fun k hk h' => h.2 k hk (hm k h')⟩
theorem KpB.put {M : Nat → Prop} {B : Nat} (W : World) (l : Nat) (o : Obj) (hB : l < B) (hM : ¬ M l) : KpB M B W (W.putObj l o) :=
  ⟨by simp, fun k _ h => World.putObj_heap_other (by rintro rfl; exact h.elim (fun h => by omega) hM)⟩
theorem KpB.of_below {M : Nat → Prop} {B : Nat} {W W' : World} (h : Below W.heap.size W W') : KpB M B W W' := ⟨h.size, fun k hk _ => h.block k hk⟩
/-- What such an iterator promises to whoever ranges over it. -/
def SeqLow {α : Type} (F : Fence) (n : Nat) (P : Program) (g : Nat) (lb : Array Value) (enc : α → Array Value) (M : Nat → Prop) (T : α → World → Prop) (S Sp : List α → Prop) (N : Nat) (w : World) : Prop :=
  ∀ (l : Nat) (J Jx : List α → World → Prop) (W : World), Below w.heap.size w W → LowC W.heap.size J → LowC W.heap.size Jx →
    (∀ pre x A, J pre A → W.heap.size ≤ A.heap.size → pre.length < N → Sp (pre ++ [x]) → T x A → YieldAt F (n - 1) P l (enc x) A fun e A' =>
      (e = .returned (.bool true) ∧ J (pre ++ [x]) A' ∧ KpB M W.heap.size A A') ∨ (e = .returned (.bool false) ∧ Jx (pre ++ [x]) A' ∧ KpB M W.heap.size A A')) →
    J [] W → CallsIn F n P g (#[.func (.yield l) #[] #[]] ++ lb) W fun e W' =>
      (∃ v, e = .returned v) ∧ W.heap.size ≤ W'.heap.size ∧ ((∃ xs, S xs ∧ J xs W') ∨ ∃ pre, Sp pre ∧ Jx pre W')
/-- How the body of a round may be left. -/
def lowPost {α : Type} (B : Nat) (M : Nat → Prop) (I : List α → World → Prop) (Ix : Code → List α → World → Prop) (xs : List α) (W : World) : Exit → Act → World → Prop
  | .normal, _, W' => KpB M B W W' ∧ I xs W'
  | .ret, _, W' => KpB M B W W' ∧ Ix .ret xs W'
  | .exit id, _, W' => KpB M B W W' ∧ Ix (.exit id) xs W'
  | .goto t, _, W' => KpB M B W W' ∧ Ix (.goto t) xs W'
  | .panic _, _, _ => False
  | .outgrown, _, _ => False
section
variable {F : Fence} {n : Nat} {P : Program}
theorem range_low {α ι : Type} {g : Operand} {ps : Array Tmp} {assign body : Code} {Q : Exit → Act → World → Prop} {a : Act} {w : World}
    (hro : F.round = none) (h1 : 1 ≤ n) {gf : Nat} {lb : Array Value} (hg : a.eval g = .func (.func gf) #[] lb) (hF : F.fn gf) (eg : ∀ args w, (callFunc gf args).run P w = .ok (.enter gf args) w)
    {enc : α → Array Value} {M : Nat → Prop} {T : α → World → Prop} {S Sp : List α → Prop} {N : Nat} {w0 : World} (hseq : SeqLow F (n - 1) P gf lb enc M T S Sp N w0)
    (G : α → ι → World → Prop) (hG : ∀ (x : α) (i : ι) (A : World) (l : Nat) (o o' : Obj), A.heap[l]? = some o → o.isCells = false → G x i A → G x i (A.putObj l o'))
    (hM : ∀ k, M k → k < w.heap.size) (hb0 : Below w0.heap.size w0 w) (hps : ∀ x, (enc x).size = ps.size)
    (I : List α → World → Prop) (Ix : Code → List α → World → Prop) (hI : LowC w.heap.size I) (hIx : ∀ c, LowC w.heap.size (Ix c))
    (h0 : I [] w) (a₁ : α → ι → Act)
    (hassign : ∀ (l : Nat) (x : α) (W : World) (K : Act → World → Prop), w.heap.size + 2 ≤ W.heap.size → T x W → (∀ i W', G x i W' → Below W.heap.size W W' → K (a₁ x i) W') →
      assign.wpIn (F.inRound l) (n - 1 - 1) P (Exit.then K fun _ _ _ => False) { tmps := (ps.zip (enc x)).foldl (fun t (p, v) => t.setIfInBounds p v) a.tmps, defers := [] } W)
    (hbody : ∀ (l : Nat) (pre : List α) (x : α) (i : ι) (W : World), I pre W → w.heap.size + 2 ≤ W.heap.size → pre.length < N → Sp (pre ++ [x]) → G x i W → body.wpIn (F.inRound l) (n - 1 - 1) P (lowPost w.heap.size M I Ix (pre ++ [x]) W) (a₁ x i) W)
    (hdone : ∀ (D : Nat) (xs : List α) (W : World), w.heap.size ≤ D → S xs → I xs W → W.heap[D]? = some (.deferred (some [])) → Q .normal { a with defers := { target := .collected D, args := #[] } :: a.defers } W)
    (hstop : ∀ (D : Nat) (c : Code) (pre : List α) (W : World), w.heap.size ≤ D → Sp pre → Ix c pre W → W.heap[D]? = some (.deferred (some [])) → c.wpIn F n P Q { a with defers := { target := .collected D, args := #[] } :: a.defers } W) :
    (Code.rangeFunc g ps assign body).wpIn F n P Q a w := by
  refine wpIn_rangeFunc fun fn hfn => ?_
  rw [hro]
  generalize hrc : (fun (s : LoopState) (j : Option Code) => ({ state := s, pending := j, fn := fn, tmps := a.tmps, params := ps, assign := assign, body := body, defers := w.heap.size } : Loop)) = rc
  obtain ⟨At, hAt⟩ : ∃ At : LoopState → Option Code → World → Prop, At = fun s j W => w.heap.size + 2 ≤ W.heap.size ∧ W.heap[w.heap.size + 1]? = some (.loop (rc s j)) ∧ W.heap[w.heap.size]? = some (.deferred (some [])) := ⟨_, rfl⟩
  have lowed : ∀ s j A C, At s j A → Below (w.heap.size + 2) A C → At s j C := fun s j A C h hb => by
    subst hAt
    exact ⟨Nat.le_trans h.1 hb.size, (hb.block _ (by omega)).trans h.2.1, (hb.block _ (by omega)).trans h.2.2⟩
  have turned : ∀ s j s' j' A, At s j A → At s' j' (A.putObj (w.heap.size + 1) (.loop (rc s' j'))) := fun s j s' j' A h => by
    subst hAt
    exact ⟨by have := h.1; simpa using this, World.putObj_heap_same (Array.getElem?_eq_some_iff.1 h.2.1).1, (World.putObj_heap_other (by omega)).trans h.2.2⟩
  have kept : ∀ s j A C, At s j A → KpB M w.heap.size A C → At s j C := fun s j A C h hk => by
    subst hAt
    exact ⟨Nat.le_trans h.1 hk.1, (hk.2 _ (by have := h.1; omega) (.inl (by omega))).trans h.2.1, (hk.2 _ (by have := h.1; omega) (.inl (Nat.le_refl _))).trans h.2.2⟩
  have sz_at : ∀ s j A, At s j A → w.heap.size + 2 ≤ A.heap.size := fun s j A h => by subst hAt; exact h.1
  have rec_at : ∀ s j A, At s j A → A.heap[w.heap.size + 1]? = some (.loop (rc s j)) := fun s j A h => by subst hAt; exact h.2.1
  have def_at : ∀ s j A, At s j A → A.heap[w.heap.size]? = some (.deferred (some [])) := fun s j A h => by subst hAt; exact h.2.2
  have put : ∀ (β : Type) (K : β → World → Prop) (s : β) st j (o : Obj) A, LowC w.heap.size K → At st j A → K s A → K s (A.putObj (w.heap.size + 1) o) := fun β K s st j o A hK h hs =>
    hK s _ _ hs (by have := sz_at _ _ _ h; omega) ((Below.refl _ A).grown (grownBy_putObj' A _ o) (by have := sz_at _ _ _ h; omega) (fun k e => by cases e; omega))
  obtain ⟨W1, hW1⟩ : ∃ W1, (w.alloc (.deferred (some []))).alloc (.loop (rc .ready none)) = W1 := ⟨_, rfl⟩
  have s1 : W1.heap.size = w.heap.size + 2 := by subst hW1; simp
  have a1 : At .ready none W1 := by
    subst hAt
    refine ⟨by omega, ?_⟩
    subst hW1
    have e := World.alloc_heap_new (w.alloc (.deferred (some []))) (.loop (rc .ready none))
    rw [World.size_alloc] at e
    exact ⟨e, (Below.heap_alloc _ _ _ (by simp)).trans (World.alloc_heap_new w _)⟩
  have bw1 : Below w.heap.size w W1 := by
    subst hW1
    exact ((Below.refl _ w).alloc (Nat.le_refl _) _).alloc (by simp) _
  have i1 : I [] W1 := hI _ _ _ h0 (Nat.le_refl _) bw1
  have b1 : Below w0.heap.size w0 W1 := hb0.trans (bw1.mono hb0.size)
  have en : (Instr.enterLoop fn a.tmps ps assign body none).run P w = .ok (w.heap.size + 1, [{ target := .collected w.heap.size, args := #[] }]) W1 := by
    rw [← hW1, ← hrc]
    exact run_enterLoop_outer _ _ _ _ _
  refine ⟨_, _, W1, { target := .fn (.func gf) lb, args := #[.func (.yield (w.heap.size + 1)) #[] #[]] }, W1, gf, #[.func (.yield (w.heap.size + 1)) #[] #[]] ++ lb, W1, en, ?_, fun f' h => ?_, ?_, fun _ => h1, ?_⟩
  · simp only [resolve, hg]
    simp [go_sem]
  · simp [Target.leads] at h
    subst h
    exact hF
  · simp [invoke, go_sem, eg]
  refine (hseq (w.heap.size + 1) (fun pre W => I pre W ∧ At .ready none W) (fun pre W => ∃ c, Ix c pre W ∧ At .done (some c) W) W1 b1 ?_ ?_ ?_ ⟨i1, a1⟩).mono ?_
  · intro s A C h hB hb
    rw [s1] at hb hB
    exact ⟨hI s A C h.1 (by omega) (hb.mono (by omega)), lowed _ _ A C h.2 hb⟩
  · intro s A C h hB hb
    rw [s1] at hb hB
    obtain ⟨c, hc, ha⟩ := h
    exact ⟨c, hIx c s A C hc (by omega) (hb.mono (by omega)), lowed _ _ A C ha hb⟩
  · rintro pre x W ⟨hi, ha⟩ hsz hlen hsp hTx
    rw [s1]
    have hy := run_yield (P := P) (args := enc x) (rec_at _ _ _ ha) (by rw [← hrc]; exact hps x)
    rw [← hrc] at hy
    refine ⟨fn, _, assign, body, hy, roundIn_of_wpIn hfn (hassign _ x W _ (sz_at _ _ _ ha) hTx fun ii V hGi hWV => ?_)⟩
    have kV : KpB M (w.heap.size + 2) W V := .of_below hWV
    replace hi := hI _ _ _ hi (by have := sz_at _ _ _ ha; omega) (hWV.mono (by have := sz_at _ _ _ ha; omega))
    replace ha := lowed _ _ _ _ ha (hWV.mono (sz_at _ _ _ ha))
    generalize hVW : V = W' at *
    refine ⟨_, run_beginRound (rec_at _ _ _ ha) (by rw [← hrc]), ?_⟩
    have busy : At .busy none (W'.putObj (w.heap.size + 1) (.loop { rc .ready none with state := .busy })) := by
      have := turned _ _ .busy none W' ha
      rw [← hrc] at this ⊢
      exact this
    have hnM : ¬ M (w.heap.size + 1) := fun h => by have := hM _ h; omega
    have kb : KpB M (w.heap.size + 2) W (W'.putObj (w.heap.size + 1) (.loop { rc .ready none with state := .busy })) := kV.trans (KpB.put _ _ _ (by omega) hnM)
    refine wpIn_mono (hbody _ pre x ii _ (put _ I pre _ _ _ W' hI ha hi) (sz_at _ _ _ busy) hlen hsp (hG _ _ _ _ _ _ (rec_at _ _ _ ha) rfl hGi)) fun e a3 W3 hp => ?_
    have fin : ∀ (j : Option Code), KpB M w.heap.size (W'.putObj (w.heap.size + 1) (.loop { rc .ready none with state := .busy })) W3 →
        At .busy none W3 ∧ (Instr.endRound (w.heap.size + 1) j).run P W3 = .ok (.bool j.isNone) (W3.putObj (w.heap.size + 1) (.loop (rc (if j.isNone then .ready else .done) j))) ∧
          KpB M (w.heap.size + 2) W (W3.putObj (w.heap.size + 1) (.loop (rc (if j.isNone then .ready else .done) j))) := fun j hk => by
      have h3 := kept _ _ _ _ busy hk
      have := run_endRound (P := P) j (rec_at _ _ _ h3)
      rw [← hrc] at this ⊢
      exact ⟨h3, this, (kb.trans (hk.mono fun k h => h.imp (fun h => by omega) id)).trans (KpB.put _ _ _ (by omega) hnM)⟩
    have out : ∀ (c : Code), KpB M w.heap.size (W'.putObj (w.heap.size + 1) (.loop { rc .ready none with state := .busy })) W3 → Ix c (pre ++ [x]) W3 →
        ∃ v w', (Instr.endRound (w.heap.size + 1) (some c)).run P W3 = .ok v w' ∧ ((Ending.returned v = .returned (.bool true) ∧ (I (pre ++ [x]) w' ∧ At .ready none w') ∧ KpB M (w.heap.size + 2) W w') ∨ (Ending.returned v = .returned (.bool false) ∧ (∃ c, Ix c (pre ++ [x]) w' ∧ At .done (some c) w') ∧ KpB M (w.heap.size + 2) W w')) := fun c hk hc => by
      obtain ⟨h3, hr, hkk⟩ := fin (some c) hk
      exact ⟨_, _, hr, .inr ⟨rfl, ⟨c, put _ (Ix c) _ _ _ _ W3 (hIx c) h3 hc, turned _ _ _ _ W3 h3⟩, hkk⟩⟩
    cases e with
    | normal =>
      obtain ⟨hk, hi3⟩ := hp
      obtain ⟨h3, hr, hkk⟩ := fin none hk
      exact ⟨_, _, hr, .inl ⟨rfl, ⟨put _ I _ _ _ _ W3 hI h3 hi3, turned _ _ _ _ W3 h3⟩, hkk⟩⟩
    | ret => exact out .ret hp.1 hp.2
    | exit id => exact out (.exit id) hp.1 hp.2
    | goto t => exact out (.goto t) hp.1 hp.2
    | panic c => exact hp.elim
    | outgrown => exact hp.elim
  · rintro e W2 ⟨⟨v, rfl⟩, hs2, h⟩
    have fin : ∀ s j, s ≠ .busy → At s j W2 → (Instr.endLoop (w.heap.size + 1)).run P W2 = .ok j (W2.putObj (w.heap.size + 1) (.loop { rc s j with state := .exhausted })) ∧ (W2.putObj (w.heap.size + 1) (.loop { rc s j with state := .exhausted })).heap[w.heap.size]? = some (.deferred (some [])) := fun s j hs h => by
      have := run_endLoop (P := P) (rec_at _ _ _ h) (by rw [← hrc]; exact hs)
      rw [← hrc] at this ⊢
      exact ⟨this, (World.putObj_heap_other (by omega)).trans (def_at _ _ _ h)⟩
    rcases h with ⟨xs, hS, hi, ha⟩ | ⟨pre, hSp, c, hi, ha⟩
    · obtain ⟨hr, hd⟩ := fin _ _ (by simp) ha
      exact ⟨none, _, hr, hdone _ xs _ (Nat.le_refl _) hS (put _ I _ _ _ _ W2 hI ha hi) hd⟩
    · obtain ⟨hr, hd⟩ := fin _ _ (by simp) ha
      exact ⟨some c, _, hr, hstop _ c pre _ (Nat.le_refl _) hSp (put _ (Ix c) _ _ _ _ W2 (hIx c) ha hi) hd⟩
end
theorem KpB.cell {M : Nat → Prop} {B : Nat} {w w' : World} (h : KpB M B w w') {p : Addr} {v : Value} (hp : B ≤ p.block ∨ M p.block) (hc : w.cell? p = some v) : w'.cell? p = some v := by
  have h1 := h.2 _ (lt_of_cell_some hc) hp
  unfold World.cell? at hc ⊢
  rw [h1]
  exact hc
theorem take_next {l : List Nat} {i : Nat} (h : i < l.length) : l.take (i + 1) = l.take i ++ [l.getD i 0] := by
  rw [List.take_add_one, List.getD_eq_getElem?_getD, List.getElem?_eq_getElem h]
  rfl
theorem round_wide {n n' : Nat} {P : Program} {l l2 : Nat} {f : FuncId} {tmps : Array Value} {assign body : Code} {w : World} {R : Ending → World → Prop} (h : RoundIn Fence.wide n P l f tmps assign body w R) : RoundIn (Fence.wide.inRound l2) n' P l f tmps assign body w R :=
  ⟨trivial, fun c cs _ => h.2 c cs (room_wide _)⟩
theorem prefix_map {α β : Type} {g : α → β} {l : List α} {x : α} {L : List β} (h : l.map g ++ [g x] <+: L) : (l ++ [x]).map g <+: L := by rw [List.map_append]; exact h
end Go.Proofs.YtdanigigjainjaaGreat
namespace Go.Proofs.YtdanigigjainjaaGreat
open Go.RowKit Go.Shelf
set_option maxRecDepth 100000
set_option maxHeartbeats 1000000
attribute [local go_sem] Oper.semAt_some

theorem sectorsOf_any (p : Option Addr) (n c : Nat) (w : World) :
    Calls Tryz.prog 177 #[.slice p n c] w fun r w' => r = .returned (.func (.func 193) #[] #[.pointer (some ⟨w.heap.size, 0, none⟩)]) ∧ w' = w.alloc (.cells #[.slice p n c] 49) := by
  have hmf : ∀ (fn : Fn) (first cap : Array Value) (w : World), (Instr.makeFunc fn first cap).run Tryz.prog w = .ok (.func fn first cap) w := fun _ _ _ _ => rfl
  go_enter Tryz.func177, Tryz.ntmps177
  go_wp2
  go_ret
  exact ⟨rfl, rfl⟩
/-- How many sectors bytes have. -/
def secN (n : Nat) : Nat := (n + 63) / 64
/-- The k-th sector of bytes: where it lies, its bytes. -/
def secP (p : Option Addr) (k : Nat) : Option Addr := p.map fun x => x.add (64 * k)
def secL (l : List Nat) (k : Nat) : List Nat := (l.drop (64 * k)).take 64
theorem secL_length (l : List Nat) (k : Nat) : (secL l k).length = min 64 (l.length - 64 * k) := by unfold secL; rw [List.length_take, List.length_drop]
abbrev encS (p : Option Addr) (l : List Nat) (k : Nat) : Array Value := #[.int .i64 (k : Int), .slice (secP p k) (secL l k).length (secL l k).length]
def TS (p : Option Addr) (l : List Nat) (k : Nat) (A : World) : Prop := BytesAt A (secP p k) (secL l k)
/-- The block that the bytes lie in. -/
def inB (p : Option Addr) (n : Nat) (k : Nat) : Prop := 0 < n ∧ ∃ off, p = some ⟨k, off, none⟩
theorem bytesAt_in {w : World} {p : Option Addr} {l : List Nat} (h : BytesAt w p l) : ∀ i, i < l.length → ∃ B off, p = some ⟨B, off, none⟩ ∧ inB p l.length B ∧ w.cell? ⟨B, off + i, none⟩ = some (.int .u8 (l.getD i 0 : Nat)) := fun i hi => by
  obtain ⟨B, off, e, c⟩ := h i hi
  exact ⟨B, off, e, ⟨by omega, off, e⟩, c⟩
theorem inB_lt {w : World} {p : Option Addr} {l : List Nat} (h : BytesAt w p l) {k : Nat} (hk : inB p l.length k) : k < w.heap.size := by
  obtain ⟨h0, off, e⟩ := hk
  obtain ⟨B, off', e', c⟩ := h 0 h0
  rw [e] at e'
  injection e' with e'
  injection e' with e1 e2
  subst e1
  exact lt_of_cell_some c
theorem secN_lt {n k : Nat} : k < secN n ↔ 64 * k < n := by unfold secN; omega
theorem secP_next {w : World} {p : Option Addr} {l : List Nat} (hb : BytesAt w p l) (h0 : 0 < l.length) (k : Nat) : secP p (k + 1) = (secP p k).map fun x => x.add 64 := by
  obtain ⟨B, off, rfl, -⟩ := hb 0 h0
  simp only [secP, Option.map_some, addr_plain]
  rw [show off + 64 * (k + 1) = off + 64 * k + 64 by omega]
theorem take_sec {l : List Nat} {k m : Nat} (hm : m = (secL l k).length) : (l.drop (64 * k)).take m = secL l k := by
  rw [hm, secL_length]
  unfold secL
  rw [← List.length_drop]
  rcases Nat.le_total 64 (l.drop (64 * k)).length with h | h
  · rw [Nat.min_eq_left h]
  · rw [Nat.min_eq_right h, List.take_of_length_le (Nat.le_refl _), List.take_of_length_le h]
theorem drop_sec {l : List Nat} {k m : Nat} (hm : m = (secL l k).length) : (l.drop (64 * k)).drop m = l.drop (64 * (k + 1)) := by
  rw [hm, secL_length, List.drop_drop]
  rcases Nat.le_total 64 (l.length - 64 * k) with h | h
  · rw [Nat.min_eq_left h]
    congr 1
  · rw [Nat.min_eq_right h, List.drop_eq_nil_of_le (by omega), List.drop_eq_nil_of_le (by omega)]
theorem ftake_sec {T : Nat → Prop} (l : List Nat) (k m : Nat) (hm : m = (secL l k).length) (P : Nat) (p : Option Addr) (c : Nat) (w : World) (hv : c ≤ 9223372036854775807) (R : RestP T w P p c (l.drop (64 * k))) :
    Calls Tryz.prog 166 #[.pointer (some ⟨P, 0, none⟩), .int .i64 64] w fun r w' => r = .returned (.slice p m m) ∧ w' = w.setCell ⟨P, 0, none⟩ (.slice (restAt p c m) ((l.drop (64 * k)).length - m) (c - m)) := by
  rw [hm, secL_length, ← List.length_drop]
  rcases Nat.le_total 64 (l.drop (64 * k)).length with h | h
  · rw [Nat.min_eq_left h]
    exact ftake_rest 64 P p c _ w h hv R
  · rw [Nat.min_eq_right h, Nat.sub_self]
    exact ftake_all 64 P p c _ w h hv R
end Go.Proofs.YtdanigigjainjaaGreat
namespace Go.Proofs.YtdanigigjainjaaGreat
open Go.RowKit Go.Shelf
set_option maxRecDepth 100000
set_option maxHeartbeats 1000000
attribute [local go_sem] Oper.semAt_some

abbrev encC (l : List Nat) (x : Nat × Option Addr) : Array Value := #[.int .i64 (x.1 : Int), .slice x.2 (secL l x.1).length (secL l x.1).length]
def TC (l : List Nat) (x : Nat × Option Addr) (A : World) : Prop := BytesAt A x.2 (secL l x.1)
theorem bytesAt_put {w : World} {p : Option Addr} {l : List Nat} (h : BytesAt w p l) {i : Nat} {o o' : Obj} (ho : w.heap[i]? = some o) (hc : o.isCells = false) : BytesAt (w.putObj i o') p l := fun j hj => by
  obtain ⟨B, off, e, c⟩ := h j hj
  refine ⟨B, off, e, (World.cell?_of_block (World.putObj_heap_other ?_)).trans c⟩
  show B ≠ i
  rintro rfl
  unfold World.cell? at c
  simp only at c
  rw [ho] at c
  cases o <;> simp [Obj.isCells] at hc c
theorem rowB_base {w0 w : World} {l : List Nat} {p : Option Addr} {n c : Nat} (hr : RowB w0 l (.slice p n c) w) : ∀ B off, p = some ⟨B, off, none⟩ → w0.heap.size ≤ B := by
  rintro B off rfl
  rcases hr.1.2 with ⟨h, -⟩ | ⟨g, cap, cur, h, -, h3, -⟩
  · injection h with h1
    cases h1
  · injection h with h1
    injection h1 with h1
    injection h1 with h1
    subst h1
    exact (hr.1.lt B rfl).1
end Go.Proofs.YtdanigigjainjaaGreat
namespace Go.Proofs.YtdanigigjainjaaGreat
open Go.RowKit Go.Shelf
set_option maxRecDepth 100000
set_option maxHeartbeats 1000000

/-- The head's sector. -/
theorem headAt_any (S E : Nat) (n c : Int) (hS : S < 2 ^ 64) (w : World) :
    Calls Tryz.prog 119 #[.agg #[.int .u64 S, .int .u64 E, .int .i64 n, .int .i64 c]] w fun r w' => r = .returned (.int .i64 (S % 2 : Nat)) ∧ Below w.heap.size w w' := by
  have h2 : ((S : Int) % 2) = ((S % 2 : Nat) : Int) := by omega
  have h3 : (S : Int).tmod 2 = ((S % 2 : Nat) : Int) := by rw [Int.tmod_eq_emod_of_nonneg (by omega)]; omega
  have h4 : S % 2 < 2 := Nat.mod_lt _ (by omega)
  have h5 : IntKind.u64.wrap ((S % 2 : Nat) : Int) = ((S % 2 : Nat) : Int) := by simp [IntKind.wrap, IntKind.signed, IntKind.bits]; omega
  have h6 : IntKind.i64.wrap ((S % 2 : Nat) : Int) = ((S % 2 : Nat) : Int) := wrap_small (by omega) (by omega)
  generalize S % 2 = m at *
  go_enter Tryz.func119, Tryz.ntmps119
  go_wp2
  go_ret
  exact ⟨by first | rfl | simp_all, (Below.refl _ _).alloc (Nat.le_refl _) _⟩
/-- The end behind a frame that may be. -/
theorem endBehind_any (E i p : Nat) (cm : Bool) (n k : Nat) (hE : E < 2 ^ 64) (hk : k < 4294967296) (q : Option Addr) (cap : Nat) (bs : List Nat) (hbl : bs.length = 512) (hbb : ∀ b ∈ bs, b < 256) (w : World) (hbs : BytesAt w q bs) (hok : frameOk i p cm n 512 = true) :
    Calls Tryz.prog 99 #[frameV E i p cm n k q 512 cap] w fun r w' => r = .returned (.agg #[.int .u64 E, .int .i64 ((i : Int) + 1), .int .u32 (~~~ sumN (frameB E i p cm n k ++ bs)).toNat]) ∧ Below w.heap.size w w' := by
  obtain ⟨h1, h2, h3, h4, h5, h6, h7, -⟩ := frame_bounds hok
  have hw : IntKind.i64.wrap ((i : Int) + 1) = (i : Int) + 1 := wrap_small (by omega) (by omega)
  obtain ⟨wA, hwA⟩ : ∃ wA, (w.alloc (.cells #[.int .u64 E, .int .i64 i, .int .i64 p, .bool cm, .int .i64 n, .int .u32 k, .slice q 512 cap] 156)).alloc (.cells #[.int .u64 0, .int .i64 0, .int .u32 0] 41) = wA := ⟨_, rfl⟩
  have HBA : Hid (Below w.heap.size w wA) := Lib.hid (by subst hwA; exact ((Below.refl _ _).alloc (Nat.le_refl _) _).alloc (by simp) _)
  have hx : wA.heap[w.heap.size]? = some (.cells #[.int .u64 E, .int .i64 i, .int .i64 p, .bool cm, .int .i64 n, .int .u32 k, .slice q 512 cap] 156 (0, 0)) := by
    rw [← hwA]
    exact (Below.heap_alloc _ _ _ (by simp)).trans (World.alloc_heap_new w _)
  have hy : wA.heap[w.heap.size + 1]? = some (.cells #[.int .u64 0, .int .i64 0, .int .u32 0] 41 (0, 0)) := by
    rw [← hwA]
    have e := World.alloc_heap_new (w.alloc (.cells #[.int .u64 E, .int .i64 i, .int .i64 p, .bool cm, .int .i64 n, .int .u32 k, .slice q 512 cap] 156)) (.cells #[.int .u64 0, .int .i64 0, .int .u32 0] 41)
    rw [World.size_alloc] at e
    exact e
  have CS := Lib.hid (fsum_ok E i p cm n k hE (by omega) (by omega) (by omega) hk q cap bs hbl hbb wA (bytesAt_below hbs HBA.out) hok)
  simp only [frameV] at CS
  have hxl : w.heap.size < wA.heap.size := (Array.getElem?_eq_some_iff.1 hx).1
  have hyl : w.heap.size + 1 < wA.heap.size := (Array.getElem?_eq_some_iff.1 hy).1
  have HX := Lib.hid hx
  have HY := Lib.hid hy
  obtain ⟨sm, hsm⟩ : ∃ sm : Nat, (~~~ sumN (frameB E i p cm n k ++ bs)).toNat = sm := ⟨_, rfl⟩
  rw [hsm] at CS ⊢
  clear hsm hbs hbb hok
  unfold frameV
  go_enter Tryz.func99, Tryz.ntmps99
  go_upto_region 1 with fail
  try rw [hwA]
  have c0 := row_cell (i := 0) hx rfl; have c1 := row_cell (i := 1) hx rfl; have c2 := row_cell (i := 2) hx rfl; have c3 := row_cell (i := 3) hx rfl; have c4 := row_cell (i := 4) hx rfl; have c5 := row_cell (i := 5) hx rfl; have c6 := row_cell (i := 6) hx rfl
  clear hx hy hwA
  go_upto_region 2 with (go_at_call 122; (with_reducible refine CS.out.mono ?_); rintro e w1 ⟨rfl, hb1⟩; have HB1 := Lib.hid hb1; clear hb1)
  clear c0 c1 c2 c3 c4 c5 c6
  have hx1 := (HB1.out.block _ hxl).trans HX.out
  have hy1 := (HB1.out.block _ hyl).trans HY.out
  have c0 := row_cell (i := 0) hx1 rfl; have c1 := row_cell (i := 1) hx1 rfl
  have d0 := row_cell (i := 0) hy1 rfl; have d1 := row_cell (i := 1) hy1 rfl; have d2 := row_cell (i := 2) hy1 rfl
  have e0 := row_frozen (i := 0) hy1; have e1 := row_frozen (i := 1) hy1; have e2 := row_frozen (i := 2) hy1
  go_wp2
  refine bodyPost_ret (v := .agg #[.int .u64 E, .int .i64 ((i : Int) + 1), .int .u32 sm]) ?_ rfl ⟨rfl, ?_⟩
  · simp [results, Tryz.results99, go_sem, d0, d1, d2]
  · exact (((kbT HBA.out HB1.out).setCell (by show w.heap.size ≤ w.heap.size + 1; omega) _).setCell (by show w.heap.size ≤ w.heap.size + 1; omega) _).setCell (by show w.heap.size ≤ w.heap.size + 1; omega) _
end Go.Proofs.YtdanigigjainjaaGreat
namespace Go.Proofs.YtdanigigjainjaaGreat
open Go.RowKit Go.Shelf
set_option maxRecDepth 100000
set_option maxHeartbeats 1000000
attribute [local go_sem] Oper.semAt_some

abbrev Foot := Nat → Prop
/-- What lay below b, and the blocks X, are as they were. -/
structure Stay (b : Nat) (X : Foot) (A C : World) : Prop where
  os : C.os = A.os
  tape : C.tape = A.tape
  output : C.output = A.output
  size : A.heap.size ≤ C.heap.size
  block : ∀ k, k < b ∨ X k → C.heap[k]? = A.heap[k]?
theorem Stay.of_below {b B : Nat} {X : Foot} {A C : World} (h : Below B A C) (hb : b ≤ B) (hX : ∀ k, X k → k < B) : Stay b X A C :=
  ⟨h.os, h.tape, h.output, h.size, fun k hk => h.block k (hk.elim (fun h => Nat.lt_of_lt_of_le h hb) (hX k))⟩
theorem Stay.mono {b b' : Nat} {X X' : Foot} {A C : World} (h : Stay b X A C) (hk : ∀ k, k < b' ∨ X' k → k < b ∨ X k) : Stay b' X' A C := ⟨h.os, h.tape, h.output, h.size, fun k h' => h.block k (hk k h')⟩
theorem Stay.put {b l : Nat} {X : Foot} (W : World) (o : Obj) (hb : b ≤ l) (hX : ¬ X l) : Stay b X W (W.putObj l o) :=
  ⟨rfl, rfl, rfl, by simp, fun k hk => World.putObj_heap_other (by rintro rfl; exact hk.elim (fun h => by omega) hX)⟩
theorem Stay.set {b : Nat} {X : Foot} (W : World) (p : Addr) (v : Value) (hb : b ≤ p.block) (hX : ¬ X p.block) : Stay b X W (W.setCell p v) :=
  have h := (Below.refl p.block W).setCell (Nat.le_refl _) v
  ⟨h.os, h.tape, h.output, by simp, fun k hk => Below.heap_setCell _ _ _ _ (by rintro rfl; exact hk.elim (fun h => by omega) hX)⟩
/-- What is said of a world speaks of what lies below b, and of the blocks X. -/
def SepC {β : Type} (b : Nat) (J : β → Foot → World → Prop) : Prop := ∀ s X A C, J s X A → Stay b X A C → J s X C
/-- What a round keeps: all from b on, and what M names, but its own blocks X. -/
def KpX (M : Nat → Prop) (b : Nat) (X : Foot) (A C : World) : Prop := A.heap.size ≤ C.heap.size ∧ ∀ k, k < A.heap.size → (b ≤ k ∨ M k) → ¬ X k → C.heap[k]? = A.heap[k]?
/-- What such an iterator promises to whoever ranges over it. -/
def SeqSep {α : Type} (F : Fence) (n : Nat) (P : Program) (g : Nat) (lb : Array Value) (enc : α → Array Value) (M : Nat → Prop) (T : α → Foot → World → Prop) (S Sp : List α → Prop) (N : Nat) (w : World) : Prop :=
  ∀ (l : Nat) (J Jx : List α → Foot → World → Prop) (X0 : Foot) (W : World), Below w.heap.size w W → SepC W.heap.size J → SepC W.heap.size Jx → (∀ k, X0 k → k < W.heap.size ∧ ¬ M k) →
    (∀ pre x X A, J pre X A → W.heap.size ≤ A.heap.size → (∀ k, X k → k < A.heap.size ∧ (X0 k ∨ W.heap.size ≤ k)) → pre.length < N → Sp (pre ++ [x]) → T x X A → YieldAt F (n - 1) P l (enc x) A fun e A' =>
      ∃ X' : Foot, (∀ k, X' k → k < A'.heap.size ∧ (X k ∨ A.heap.size ≤ k)) ∧ KpX M W.heap.size X A A' ∧ ((e = .returned (.bool true) ∧ J (pre ++ [x]) X' A') ∨ (e = .returned (.bool false) ∧ Jx (pre ++ [x]) X' A'))) →
    J [] X0 W → CallsIn F n P g (#[.func (.yield l) #[] #[]] ++ lb) W fun e W' =>
      (∃ v, e = .returned v) ∧ W.heap.size ≤ W'.heap.size ∧ ∃ X' : Foot, (∀ k, X' k → k < W'.heap.size ∧ (X0 k ∨ W.heap.size ≤ k)) ∧ ((∃ xs, S xs ∧ J xs X' W') ∨ ∃ pre, Sp pre ∧ Jx pre X' W')
/-- How the body of a round may be left. -/
def sepPost {α : Type} (b : Nat) (M : Nat → Prop) (X : Foot) (I : List α → Foot → World → Prop) (Ix : Code → List α → Foot → World → Prop) (xs : List α) (W : World) : Exit → Act → World → Prop
  | .normal, _, W' => KpX M b X W W' ∧ ∃ X' : Foot, (∀ k, X' k → k < W'.heap.size ∧ (X k ∨ W.heap.size ≤ k)) ∧ I xs X' W'
  | .ret, _, W' => KpX M b X W W' ∧ ∃ X' : Foot, (∀ k, X' k → k < W'.heap.size ∧ (X k ∨ W.heap.size ≤ k)) ∧ Ix .ret xs X' W'
  | .exit id, _, W' => KpX M b X W W' ∧ ∃ X' : Foot, (∀ k, X' k → k < W'.heap.size ∧ (X k ∨ W.heap.size ≤ k)) ∧ Ix (.exit id) xs X' W'
  | .goto t, _, W' => KpX M b X W W' ∧ ∃ X' : Foot, (∀ k, X' k → k < W'.heap.size ∧ (X k ∨ W.heap.size ≤ k)) ∧ Ix (.goto t) xs X' W'
  | .panic _, _, _ => False
  | .outgrown, _, _ => False
section
variable {F : Fence} {n : Nat} {P : Program}
theorem range_sep {α : Type} {g : Operand} {ps : Array Tmp} {assign body : Code} {Q : Exit → Act → World → Prop} {a : Act} {w : World}
    (hro : F.round = none) (h1 : 1 ≤ n) {gf : Nat} {lb : Array Value} (hg : a.eval g = .func (.func gf) #[] lb) (hF : F.fn gf) (eg : ∀ args w, (callFunc gf args).run P w = .ok (.enter gf args) w)
    {enc : α → Array Value} {M : Nat → Prop} {T : α → Foot → World → Prop} {S Sp : List α → Prop} {N : Nat} {w0 : World} (hseq : SeqSep F (n - 1) P gf lb enc M T S Sp N w0)
    (hT : ∀ (x : α) (X : Foot) (A : World) (l : Nat) (o o' : Obj), A.heap[l]? = some o → o.isCells = false → T x X A → T x X (A.putObj l o'))
    (X0 : Foot) (hX0 : ∀ k, X0 k → k < w.heap.size ∧ ¬ M k)
    (hM : ∀ k, M k → k < w.heap.size) (hb0 : Below w0.heap.size w0 w) (hps : ∀ x, (enc x).size = ps.size)
    (I : List α → Foot → World → Prop) (Ix : Code → List α → Foot → World → Prop) (hI : SepC w.heap.size I) (hIx : ∀ c, SepC w.heap.size (Ix c))
    (h0 : I [] X0 w) (a₁ : α → Act)
    (hassign : ∀ (l : Nat) (x : α) (W : World) (K : Act → World → Prop), K (a₁ x) W →
      assign.wpIn (F.inRound l) (n - 1 - 1) P (Exit.then K fun _ _ _ => False) { tmps := (ps.zip (enc x)).foldl (fun t (p, v) => t.setIfInBounds p v) a.tmps, defers := [] } W)
    (hbody : ∀ (l : Nat) (pre : List α) (x : α) (X : Foot) (W : World), I pre X W → w.heap.size + 2 ≤ W.heap.size → (∀ k, X k → k < W.heap.size ∧ (X0 k ∨ w.heap.size + 2 ≤ k)) → pre.length < N → Sp (pre ++ [x]) → T x X W → body.wpIn (F.inRound l) (n - 1 - 1) P (sepPost w.heap.size M X I Ix (pre ++ [x]) W) (a₁ x) W)
    (hdone : ∀ (D : Nat) (xs : List α) (X : Foot) (W : World), w.heap.size ≤ D → (∀ k, X k → k < W.heap.size ∧ (X0 k ∨ w.heap.size + 2 ≤ k) ∧ k ≠ D) → S xs → I xs X W → W.heap[D]? = some (.deferred (some [])) → Q .normal { a with defers := { target := .collected D, args := #[] } :: a.defers } W)
    (hstop : ∀ (D : Nat) (c : Code) (pre : List α) (X : Foot) (W : World), w.heap.size ≤ D → (∀ k, X k → k < W.heap.size ∧ (X0 k ∨ w.heap.size + 2 ≤ k) ∧ k ≠ D) → Sp pre → Ix c pre X W → W.heap[D]? = some (.deferred (some [])) → c.wpIn F n P Q { a with defers := { target := .collected D, args := #[] } :: a.defers } W) :
    (Code.rangeFunc g ps assign body).wpIn F n P Q a w := by
  refine wpIn_rangeFunc fun fn hfn => ?_
  rw [hro]
  generalize hrc : (fun (s : LoopState) (j : Option Code) => ({ state := s, pending := j, fn := fn, tmps := a.tmps, params := ps, assign := assign, body := body, defers := w.heap.size } : Loop)) = rc
  obtain ⟨At, hAt⟩ : ∃ At : LoopState → Option Code → World → Prop, At = fun s j W => w.heap.size + 2 ≤ W.heap.size ∧ W.heap[w.heap.size + 1]? = some (.loop (rc s j)) ∧ W.heap[w.heap.size]? = some (.deferred (some [])) := ⟨_, rfl⟩
  have stayed : ∀ s j X A C, At s j A → Stay (w.heap.size + 2) X A C → At s j C := fun s j X A C h hb => by
    subst hAt
    exact ⟨Nat.le_trans h.1 hb.size, (hb.block _ (.inl (by omega))).trans h.2.1, (hb.block _ (.inl (by omega))).trans h.2.2⟩
  have turned : ∀ s j s' j' A, At s j A → At s' j' (A.putObj (w.heap.size + 1) (.loop (rc s' j'))) := fun s j s' j' A h => by
    subst hAt
    exact ⟨by have := h.1; simpa using this, World.putObj_heap_same (Array.getElem?_eq_some_iff.1 h.2.1).1, (World.putObj_heap_other (by omega)).trans h.2.2⟩
  have kept : ∀ s j X A C, (∀ k, X k → X0 k ∨ w.heap.size + 2 ≤ k) → At s j A → KpX M w.heap.size X A C → At s j C := fun s j X A C hX h hk => by
    subst hAt
    have hn : ∀ k, w.heap.size ≤ k → k < w.heap.size + 2 → ¬ X k := fun k h1 h2 hx => (hX k hx).elim (fun h => by have := (hX0 k h).1; omega) (fun h => by omega)
    exact ⟨Nat.le_trans h.1 hk.1, (hk.2 _ (by have := h.1; omega) (.inl (by omega)) (hn _ (by omega) (by omega))).trans h.2.1, (hk.2 _ (by have := h.1; omega) (.inl (Nat.le_refl _)) (hn _ (by omega) (by omega))).trans h.2.2⟩
  have sz_at : ∀ s j A, At s j A → w.heap.size + 2 ≤ A.heap.size := fun s j A h => by subst hAt; exact h.1
  have rec_at : ∀ s j A, At s j A → A.heap[w.heap.size + 1]? = some (.loop (rc s j)) := fun s j A h => by subst hAt; exact h.2.1
  have def_at : ∀ s j A, At s j A → A.heap[w.heap.size]? = some (.deferred (some [])) := fun s j A h => by subst hAt; exact h.2.2
  have put : ∀ (K : List α → Foot → World → Prop) (s : List α) (X : Foot) (o : Obj) A, SepC w.heap.size K → (∀ k, X k → X0 k ∨ w.heap.size + 2 ≤ k) → K s X A → K s X (A.putObj (w.heap.size + 1) o) := fun K s X o A hK hX hs =>
    hK s X _ _ hs (Stay.put _ _ (by omega) (fun hx => (hX _ hx).elim (fun h => by have := (hX0 _ h).1; omega) (fun h => by omega)))
  obtain ⟨W1, hW1⟩ : ∃ W1, (w.alloc (.deferred (some []))).alloc (.loop (rc .ready none)) = W1 := ⟨_, rfl⟩
  have s1 : W1.heap.size = w.heap.size + 2 := by subst hW1; simp
  have a1 : At .ready none W1 := by
    subst hAt
    refine ⟨by omega, ?_⟩
    subst hW1
    have e := World.alloc_heap_new (w.alloc (.deferred (some []))) (.loop (rc .ready none))
    rw [World.size_alloc] at e
    exact ⟨e, (Below.heap_alloc _ _ _ (by simp)).trans (World.alloc_heap_new w _)⟩
  have bw1 : Below w.heap.size w W1 := by
    subst hW1
    exact ((Below.refl _ w).alloc (Nat.le_refl _) _).alloc (by simp) _
  have i1 : I [] X0 W1 := hI _ _ _ _ h0 (Stay.of_below bw1 (Nat.le_refl _) (fun k hk => (hX0 k hk).1))
  have b1 : Below w0.heap.size w0 W1 := hb0.trans (bw1.mono hb0.size)
  have en : (Instr.enterLoop fn a.tmps ps assign body none).run P w = .ok (w.heap.size + 1, [{ target := .collected w.heap.size, args := #[] }]) W1 := by
    rw [← hW1, ← hrc]
    exact run_enterLoop_outer _ _ _ _ _
  refine ⟨_, _, W1, { target := .fn (.func gf) lb, args := #[.func (.yield (w.heap.size + 1)) #[] #[]] }, W1, gf, #[.func (.yield (w.heap.size + 1)) #[] #[]] ++ lb, W1, en, ?_, fun f' h => ?_, ?_, fun _ => h1, ?_⟩
  · simp only [resolve, hg]
    simp [go_sem]
  · simp [Target.leads] at h
    subst h
    exact hF
  · simp [invoke, go_sem, eg]
  have X0' : ∀ k, X0 k → X0 k ∨ w.heap.size + 2 ≤ k := fun k h => .inl h
  refine (hseq (w.heap.size + 1) (fun pre X W => I pre X W ∧ At .ready none W ∧ ∀ k, X k → X0 k ∨ w.heap.size + 2 ≤ k) (fun pre X W => ∃ c, Ix c pre X W ∧ At .done (some c) W ∧ ∀ k, X k → X0 k ∨ w.heap.size + 2 ≤ k) X0 W1 b1 ?_ ?_ ?_ ?_ ⟨i1, a1, X0'⟩).mono ?_
  · intro s X A C h hb
    rw [s1] at hb
    exact ⟨hI s X A C h.1 (hb.mono (fun k hk => hk.imp (fun h => by omega) id)), stayed _ _ X A C h.2.1 hb, h.2.2⟩
  · intro s X A C h hb
    rw [s1] at hb
    obtain ⟨c, hc, ha, hx⟩ := h
    exact ⟨c, hIx c s X A C hc (hb.mono (fun k hk => hk.imp (fun h => by omega) id)), stayed _ _ X A C ha hb, hx⟩
  · intro k hk
    exact ⟨by have := (hX0 k hk).1; omega, (hX0 k hk).2⟩
  · rintro pre x X W ⟨hi, ha, hx⟩ hsz hXl hlen hsp hTx
    rw [s1]
    have hy := run_yield (P := P) (args := enc x) (rec_at _ _ _ ha) (by rw [← hrc]; exact hps x)
    rw [← hrc] at hy
    refine ⟨fn, _, assign, body, hy, roundIn_of_wpIn hfn (hassign _ x W _ ?_)⟩
    refine ⟨_, run_beginRound (rec_at _ _ _ ha) (by rw [← hrc]), ?_⟩
    have busy : At .busy none (W.putObj (w.heap.size + 1) (.loop { rc .ready none with state := .busy })) := by
      have := turned _ _ .busy none W ha
      rw [← hrc] at this ⊢
      exact this
    have hnX : ¬ X (w.heap.size + 1) := fun h => (hx _ h).elim (fun h => by have := (hX0 _ h).1; omega) (fun h => by omega)
    have hnM : ¬ M (w.heap.size + 1) := fun h => by have := hM _ h; omega
    have kput : ∀ (V : World) (o : Obj), KpX M (w.heap.size + 2) X V (V.putObj (w.heap.size + 1) o) := fun V o => ⟨by simp, fun k _ h _ => World.putObj_heap_other (by rintro rfl; exact h.elim (fun h => by omega) hnM)⟩
    have hXb : ∀ k, X k → k < (W.putObj (w.heap.size + 1) (.loop { rc .ready none with state := .busy })).heap.size ∧ (X0 k ∨ w.heap.size + 2 ≤ k) := fun k hk => ⟨by have := (hXl k hk).1; simpa using this, hx k hk⟩
    refine wpIn_mono (hbody _ pre x X _ (put I pre X _ W hI hx hi) (sz_at _ _ _ busy) hXb hlen hsp (hT _ _ _ _ _ _ (rec_at _ _ _ ha) rfl hTx)) fun e a3 W3 hp => ?_
    have fin : ∀ (j : Option Code), KpX M w.heap.size X (W.putObj (w.heap.size + 1) (.loop { rc .ready none with state := .busy })) W3 →
        At .busy none W3 ∧ (Instr.endRound (w.heap.size + 1) j).run P W3 = .ok (.bool j.isNone) (W3.putObj (w.heap.size + 1) (.loop (rc (if j.isNone then .ready else .done) j))) ∧
          KpX M (w.heap.size + 2) X W (W3.putObj (w.heap.size + 1) (.loop (rc (if j.isNone then .ready else .done) j))) := fun j hk => by
      have h3 := kept _ _ X _ _ hx busy hk
      have := run_endRound (P := P) j (rec_at _ _ _ h3)
      rw [← hrc] at this ⊢
      refine ⟨h3, this, by have := hk.1; simp at this ⊢; omega, fun k hk1 hk2 hk3 => ?_⟩
      have hne : k ≠ w.heap.size + 1 := by rintro rfl; exact hk2.elim (fun h => by omega) hnM
      rw [World.putObj_heap_other hne, hk.2 k (by simpa using hk1) (hk2.imp (fun h => by omega) id) hk3, World.putObj_heap_other hne]
    have grow : ∀ X' : Foot, (∀ k, X' k → k < W3.heap.size ∧ (X k ∨ (W.putObj (w.heap.size + 1) (.loop { rc .ready none with state := .busy })).heap.size ≤ k)) → (∀ k, X' k → X0 k ∨ w.heap.size + 2 ≤ k) ∧ ∀ (o : Obj) k, X' k → k < (W3.putObj (w.heap.size + 1) o).heap.size ∧ (X k ∨ W.heap.size ≤ k) := fun X' h =>
      ⟨fun k hk => (h k hk).2.elim (hx k) (fun h' => by have := sz_at _ _ _ ha; simp at h'; omega), fun o k hk => ⟨by have := (h k hk).1; simpa using this, (h k hk).2.imp id (fun h' => by simpa using h')⟩⟩
    have out : ∀ (c : Code) (X' : Foot), KpX M w.heap.size X (W.putObj (w.heap.size + 1) (.loop { rc .ready none with state := .busy })) W3 → (∀ k, X' k → k < W3.heap.size ∧ (X k ∨ (W.putObj (w.heap.size + 1) (.loop { rc .ready none with state := .busy })).heap.size ≤ k)) → Ix c (pre ++ [x]) X' W3 →
        ∃ v w', (Instr.endRound (w.heap.size + 1) (some c)).run P W3 = .ok v w' ∧ ∃ X' : Foot, (∀ k, X' k → k < w'.heap.size ∧ (X k ∨ W.heap.size ≤ k)) ∧ KpX M (w.heap.size + 2) X W w' ∧ ((Ending.returned v = .returned (.bool true) ∧ (I (pre ++ [x]) X' w' ∧ At .ready none w' ∧ ∀ k, X' k → X0 k ∨ w.heap.size + 2 ≤ k)) ∨ (Ending.returned v = .returned (.bool false) ∧ (∃ c, Ix c (pre ++ [x]) X' w' ∧ At .done (some c) w' ∧ ∀ k, X' k → X0 k ∨ w.heap.size + 2 ≤ k))) := fun c X' hk hX' hc => by
      obtain ⟨h3, hr, hkk⟩ := fin (some c) hk
      obtain ⟨g1, g2⟩ := grow X' hX'
      exact ⟨_, _, hr, X', g2 _, hkk, .inr ⟨rfl, ⟨c, put (Ix c) _ X' _ W3 (hIx c) g1 hc, turned _ _ _ _ W3 h3, g1⟩⟩⟩
    cases e with
    | normal =>
      obtain ⟨hk, X', hX', hi3⟩ := hp
      obtain ⟨h3, hr, hkk⟩ := fin none hk
      obtain ⟨g1, g2⟩ := grow X' hX'
      exact ⟨_, _, hr, X', g2 _, hkk, .inl ⟨rfl, put I _ X' _ W3 hI g1 hi3, turned _ _ _ _ W3 h3, g1⟩⟩
    | ret => obtain ⟨hk, X', hX', h⟩ := hp; exact out .ret X' hk hX' h
    | exit id => obtain ⟨hk, X', hX', h⟩ := hp; exact out (.exit id) X' hk hX' h
    | goto t => obtain ⟨hk, X', hX', h⟩ := hp; exact out (.goto t) X' hk hX' h
    | panic c => exact hp.elim
    | outgrown => exact hp.elim
  · rintro e W2 ⟨⟨v, rfl⟩, hs2, X', hX', h⟩
    have fin : ∀ s j, s ≠ .busy → At s j W2 → (Instr.endLoop (w.heap.size + 1)).run P W2 = .ok j (W2.putObj (w.heap.size + 1) (.loop { rc s j with state := .exhausted })) ∧ (W2.putObj (w.heap.size + 1) (.loop { rc s j with state := .exhausted })).heap[w.heap.size]? = some (.deferred (some [])) := fun s j hs h => by
      have := run_endLoop (P := P) (rec_at _ _ _ h) (by rw [← hrc]; exact hs)
      rw [← hrc] at this ⊢
      exact ⟨this, (World.putObj_heap_other (by omega)).trans (def_at _ _ _ h)⟩
    have hxD : ∀ (hx : ∀ k, X' k → X0 k ∨ w.heap.size + 2 ≤ k) (o : Obj), ∀ k, X' k → k < (W2.putObj (w.heap.size + 1) o).heap.size ∧ (X0 k ∨ w.heap.size + 2 ≤ k) ∧ k ≠ w.heap.size := fun hx o k hk =>
      ⟨by have := (hX' k hk).1; simpa using this, hx k hk, fun e => (hx k hk).elim (fun h => by have := (hX0 k h).1; omega) (fun h => by omega)⟩
    rcases h with ⟨xs, hS, hi, ha, hx⟩ | ⟨pre, hSp, c, hi, ha, hx⟩
    · obtain ⟨hr, hd⟩ := fin _ _ (by simp) ha
      exact ⟨none, _, hr, hdone _ xs X' _ (Nat.le_refl _) (hxD hx _) hS (put I _ X' _ W2 hI hx hi) hd⟩
    · obtain ⟨hr, hd⟩ := fin _ _ (by simp) ha
      exact ⟨some c, _, hr, hstop _ c pre X' _ (Nat.le_refl _) (hxD hx _) hSp (put (Ix c) _ X' _ W2 (hIx c) hx hi) hd⟩
end
end Go.Proofs.YtdanigigjainjaaGreat
namespace Go.Proofs.YtdanigigjainjaaGreat
open Go.RowKit Go.Shelf
attribute [local go_sem] Oper.semAt_some

theorem KpX.cell {M : Nat → Prop} {b : Nat} {X : Foot} {A C : World} (h : KpX M b X A C) {q : Addr} {v : Value} (hq : b ≤ q.block ∨ M q.block) (hx : ¬ X q.block) (hc : A.cell? q = some v) : C.cell? q = some v :=
  (World.cell?_of_block (h.2 _ (lt_of_cell_some hc) hq hx)).trans hc
theorem rest_kpX {M T : Nat → Prop} {X : Foot} {B P : Nat} {w w' : World} {p : Option Addr} {c : Nat} {v : List Nat} (R : RestP T w P p c v) (hk : KpX M B X w w') (hP : B ≤ P) (hT : ∀ k, T k → M k) (hPX : ¬ X P) (hTX : ∀ k, T k → ¬ X k) : RestP T w' P p c v :=
  ⟨hk.cell (.inl hP) hPX R.cell, R.cap, (World.frozen?_of_block (a := ⟨P, 0, none⟩) (hk.2 P (lt_of_cell_some R.cell) (.inl hP) hPX)).trans R.fz, R.ne, fun i hi => by
    obtain ⟨B', off, e, ht, hc⟩ := R.bytes i hi
    exact ⟨B', off, e, ht, hk.cell (.inr (hT _ ht)) (hTX _ ht) hc⟩⟩
def TX (p : Option Addr) (l : List Nat) (k : Nat) (X : Foot) (A : World) : Prop := TS p l k A ∧ ∀ i, inB p l.length i → ¬ X i
set_option maxRecDepth 100000 in
set_option maxHeartbeats 4000000 in
theorem sectors_sep (n : Nat) (hn : 2 ≤ n) (l : List Nat) (p : Option Addr) (c Bx : Nat) (w : World) (hl : l.length ≤ 100000) (hcap : l.length ≤ c) (hc0 : c ≤ 9223372036854775807) (hb : BytesAt w p l) (hx : w.cell? ⟨Bx, 0, none⟩ = some (.slice p l.length c)) :
    SeqSep Fence.wide n Tryz.prog 193 #[.pointer (some ⟨Bx, 0, none⟩)] (encS p l) (fun k => k = Bx ∨ inB p l.length k) (TX p l) (fun xs => xs = List.range (secN l.length)) (fun pre => pre <+: List.range (secN l.length)) (secN l.length) w := fun ly J Jx X0 W hW hJ hJx hX0 hY h0 => by
  have hcW := (hW.cell (p := ⟨Bx, 0, none⟩) (lt_of_cell_some hx)).trans hx
  have hbW := bytesAt_below hb hW
  have hsn : secN l.length ≤ 100000 := by unfold secN; omega
  have HJ := Lib.hid hJ
  have HY := Lib.hid hY
  have H0 := Lib.hid h0
  have HX0 := Lib.hid hX0
  have hBx : ¬ X0 Bx := fun h => (hX0 _ h).2 (.inl rfl)
  have HB := Lib.hid hbW
  clear hJ hJx hY h0 hX0 hW hb hx hbW
  refine callsIn_of_wp Tryz.func193 rfl trivial ?_ rfl
  simp only [Tryz.ntmps193, List.size_toArray, List.length_cons, List.length_nil, Nat.reduceAdd, Nat.reduceSub, Array.replicate_succ, Array.replicate_zero, List.push_toArray, List.append_toArray, List.nil_append, List.cons_append]
  gi_wp2_with fail
  have R0 : Hid (RestP (inB p l.length) (W.alloc (.cells #[.slice p l.length c] 210)) W.heap.size p c (l.drop (64 * 0))) := Lib.hid ⟨by rw [Nat.mul_zero, List.drop_zero]; go_cell, by rw [Nat.mul_zero, List.drop_zero]; exact hcap, by go_simp, fun h => Nat.lt_irrefl _ (inB_lt HB.out h), fun i hi => by
    rw [Nat.mul_zero, List.drop_zero] at hi ⊢
    exact bytesAt_in (bytesAt_below HB.out ((Below.refl _ _).alloc (Nat.le_refl _) _)) i hi⟩
  have J0 : Hid (∃ X, (∀ k, X k → k < (W.alloc (.cells #[.slice p l.length c] 210)).heap.size ∧ (X0 k ∨ W.heap.size + 1 ≤ k)) ∧ J [] X (W.alloc (.cells #[.slice p l.length c] 210))) := Lib.hid ⟨X0, fun k hk => ⟨by have := (HX0.out k hk).1; simp; omega, .inl hk⟩, HJ.out _ _ _ _ H0.out (Stay.of_below ((Below.refl _ _).alloc (Nat.le_refl _) _) (Nat.le_refl _) (fun k hk => (HX0.out k hk).1))⟩
  clear H0 hcW
  gi_loopw [4] (fun i wr => ∃ (k : Nat) (q : Option Addr) (d : Nat), k ≤ secN l.length ∧ i = .int .i64 k ∧ Hid (∃ X, (∀ k, X k → k < wr.heap.size ∧ (X0 k ∨ W.heap.size + 1 ≤ k)) ∧ J (List.range k) X wr) ∧ Hid (RestP (inB p l.length) wr W.heap.size q d (l.drop (64 * k))) ∧ Hid (k < secN l.length → q = secP p k) ∧ d ≤ c ∧ Hid (W.heap.size ≤ wr.heap.size)) (fun i _ => (secN l.length - intOf i).toNat)
  case atStart => exact ⟨0, p, c, Nat.zero_le _, rfl, J0, R0, Lib.hid (fun _ => by unfold secP; cases p <;> simp [Addr.add]), Nat.le_refl _, Lib.hid (by simp)⟩
  case round =>
    obtain ⟨k, q, d, hk, rfl, ⟨X, hX, hJk⟩, HRk, HQk, hd, HSk⟩ := hrel
    have HX := Lib.hid hX
    have HJk := Lib.hid hJk
    clear hX hJk
    have HD := Lib.hid hd
    by_cases hlt : k < secN l.length
    · have hq := HQk.out hlt
      have h64 := secN_lt.1 hlt
      obtain ⟨m, hm⟩ : ∃ m, m = (secL l k).length := ⟨_, rfl⟩
      have CT := Lib.hid (ftake_sec l k m hm W.heap.size q d wr (by omega) HRk.out)
      have hcell := HRk.out.cell
      have hfz := HRk.out.fz
      have hml : m ≤ (l.drop (64 * k)).length := by rw [hm, secL_length, List.length_drop]; omega
      have HN := Lib.hid (HRk.out.next hml)
      have HT := Lib.hid (HRk.out.taken m (Only.step .refl (.slice (restAt q d m) ((l.drop (64 * k)).length - m) (d - m))))
      rw [take_sec hm] at HT
      rw [drop_sec hm] at HN
      obtain ⟨w1, hw1⟩ : ∃ w1, wr.setCell ⟨W.heap.size, 0, none⟩ (.slice (restAt q d m) ((l.drop (64 * k)).length - m) (d - m)) = w1 := ⟨_, rfl⟩
      rw [hw1] at CT HN HT
      have HB1 : Hid (Below W.heap.size wr w1) := Lib.hid (by subst hw1; exact (Below.refl W.heap.size wr).setCell (p := ⟨W.heap.size, 0, none⟩) (Nat.le_refl _) _)
      have hs1 : W.heap.size ≤ w1.heap.size := Nat.le_trans HSk.out HB1.out.size
      have HSw : Hid (W.heap.size + 1 ≤ w1.heap.size) := Lib.hid (by have := lt_of_cell_some HRk.out.cell; have := HB1.out.size; simp only at *; omega)
      have HX1 : Hid (∀ k, X k → k < w1.heap.size ∧ (X0 k ∨ W.heap.size + 1 ≤ k)) := Lib.hid fun k hk => ⟨Nat.lt_of_lt_of_le (HX.out k hk).1 HB1.out.size, (HX.out k hk).2⟩
      have hnB : ∀ k, inB p l.length k → ¬ X k := fun k hk hx => (HX.out k hx).2.elim (fun h => (HX0.out k h).2 (.inr hk)) (fun h => by have := inB_lt HB.out hk; omega)
      have hJ1 : J (List.range k) X w1 := HJ.out _ _ _ _ HJk.out (by subst hw1; exact Stay.set _ _ _ (Nat.le_refl _) (fun hx => (HX.out _ hx).2.elim (fun h => by have := (HX0.out _ h).1; simp at this) (fun h => by simp at h; omega)))
      have hyY := HY.out (List.range k) k X w1 hJ1 hs1 (fun k hk => ⟨(HX1.out k hk).1, (HX1.out k hk).2.imp id (fun h => by omega)⟩) (by rw [List.length_range]; exact hlt) (by rw [← List.range_succ]; exact List.prefix_iff_eq_take.2 (by rw [List.length_range, List.take_range, Nat.min_eq_left (by omega)])) ⟨by unfold TS; rw [← hq]; exact HT.out, hnB⟩
      rw [← List.range_succ] at hyY
      have HP : Hid (k + 1 < secN l.length → restAt q d m = secP p (k + 1)) := Lib.hid fun h => by
        have h2 := secN_lt.1 h
        have h3 : m = 64 := by rw [hm, secL_length]; omega
        have h4 := HRk.out.cap
        rw [List.length_drop] at h4
        unfold restAt
        rw [if_neg (by omega), hq, h3, ← secP_next HB.out (by omega)]
      have hvl : (0 : Int) < ((l.drop (64 * k)).length : Nat) := by rw [List.length_drop]; omega
      have HM := Lib.hid hm
      unfold encS at hyY
      rw [← hq, ← hm] at hyY
      obtain ⟨fn, tmps, assign, body, hy, hYR⟩ := hyY
      generalize (l.drop (64 * k)).length = vl at *
      clear hw1 hm hml h64 hq HJk HRk HQk hd
      gi_wp2_with (refine ⟨trivial, fun _ => by omega, (callsIn_wide.2 CT.out).mono ?_⟩; rintro e w' ⟨rfl, rfl⟩)
      refine ⟨fun _ => by omega, hYR.mono ?_⟩
      rintro e W3 ⟨X', hX', hK3, h3⟩
      have HX3 : Hid (∀ k, X' k → k < W3.heap.size ∧ (X0 k ∨ W.heap.size + 1 ≤ k)) := Lib.hid fun k hk => ⟨(hX' k hk).1, (hX' k hk).2.elim (fun h => (HX1.out k h).2) (fun h => .inr (by have := HSw.out; omega))⟩
      have hPX : ¬ X W.heap.size := fun hx => (HX.out _ hx).2.elim (fun h => by have := (HX0.out _ h).1; omega) (fun h => by omega)
      rcases h3 with ⟨rfl, hJ3⟩ | ⟨rfl, hJx3⟩
      · have HJ3 : Hid (∃ X, (∀ k, X k → k < W3.heap.size ∧ (X0 k ∨ W.heap.size + 1 ≤ k)) ∧ J (List.range (k + 1)) X W3) := Lib.hid ⟨X', HX3.out, hJ3⟩
        have HR3 := Lib.hid (rest_kpX HN.out hK3 (Nat.le_refl _) (fun _ h => .inr h) hPX hnB)
        have HS3 : Hid (W.heap.size ≤ W3.heap.size) := Lib.hid (Nat.le_trans hs1 hK3.1)
        clear hJ3 hK3 hX' hYR hcell hfz hy CT HT HN
        gi_wp2
        go_roundw
        case rel => exact ⟨k + 1, _, _, by omega, by go_num, HJ3, HR3, HP, Nat.le_trans (Nat.sub_le _ _) HD.out, HS3⟩
        case measure => simp [intOf]; omega
      · have HS3 : Hid (W.heap.size ≤ W3.heap.size) := Lib.hid (Nat.le_trans hs1 hK3.1)
        clear hYR
        gi_wp2
        refine bodyPost_ret (results_none rfl _ _ _) rfl ?_
        exact ⟨⟨_, rfl⟩, HS3.out, X', fun k hk => ⟨(HX3.out k hk).1, (HX3.out k hk).2.imp id (fun h => by omega)⟩, .inr ⟨_, List.prefix_iff_eq_take.2 (by rw [List.length_range, List.take_range, Nat.min_eq_left (by omega)]), hJx3⟩⟩
    · obtain rfl : k = secN l.length := by omega
      have hcell := HRk.out.cell
      have hvl : (l.drop (64 * secN l.length)).length = 0 := by rw [List.length_drop]; have := mt secN_lt.2 (Nat.lt_irrefl (secN l.length)); omega
      rw [hvl] at hcell
      gi_wp2
      refine bodyPost_end (results_none rfl _ _ _) rfl ?_
      exact ⟨⟨_, rfl⟩, HSk.out, X, fun k hk => ⟨(HX.out k hk).1, (HX.out k hk).2.imp id (fun h => by omega)⟩, .inl ⟨_, rfl, HJk.out⟩⟩
end Go.Proofs.YtdanigigjainjaaGreat
namespace Go.Proofs.YtdanigigjainjaaGreat
open Go.RowKit Go.Shelf
attribute [local go_sem] Oper.semAt_some

def TCX (l : List Nat) (x : Nat × Option Addr) (X : Foot) (A : World) : Prop := TC l x A ∧ ∀ i, inB x.2 (secL l x.1).length i → ¬ X i
theorem inB_sec {w : World} {p : Option Addr} {l : List Nat} (h : BytesAt w p l) {k i : Nat} (hk : inB (secP p k) (secL l k).length i) : inB p l.length i := by
  obtain ⟨h0, off, e⟩ := hk
  rw [secL_length] at h0
  obtain ⟨B, off', e', -⟩ := h 0 (by omega)
  subst e'
  unfold secP at e
  simp only [Option.map_some, addr_plain] at e
  injection e with e
  injection e with e1 e2
  subst e1
  exact ⟨by omega, off', rfl⟩
set_option maxRecDepth 100000 in
set_option maxHeartbeats 4000000 in
theorem cut_sep (n : Nat) (hn : 5 ≤ n) (l : List Nat) (p : Option Addr) (c Bo : Nat) (w : World) (hl : l.length ≤ 100000) (hb : BytesAt w p l) (hx : w.cell? ⟨Bo, 0, none⟩ = some (.slice p l.length c)) :
    SeqSep Fence.wide n Tryz.prog 176 #[.pointer (some ⟨Bo, 0, none⟩)] (encC l) (fun k => k = Bo ∨ inB p l.length k) (TCX l) (fun xs => xs.map (·.1) = List.range (secN l.length)) (fun pre => pre.map (·.1) <+: List.range (secN l.length)) (secN l.length) w := fun ly J Jx X0 W hW hJ hJx hX0 hY h0 => by
  have hcW := (hW.cell (p := ⟨Bo, 0, none⟩) (lt_of_cell_some hx)).trans hx
  have hbW := bytesAt_below hb hW
  have HJ := Lib.hid hJ
  have HJx := Lib.hid hJx
  have HY := Lib.hid hY
  have H0 := Lib.hid h0
  have HX0 := Lib.hid hX0
  have HB := Lib.hid hbW
  clear hJ hJx hY h0 hX0 hW hb hx hbW
  have CC := Lib.hid fun (w' : World) (h : Below W.heap.size W w') => clone_any l p c w' hl (bytesAt_below HB.out h)
  refine callsIn_of_wp_marks Tryz.func176 rfl trivial ?_ rfl
  simp only [Tryz.ntmps176, List.size_toArray, List.length_cons, List.length_nil, Nat.reduceAdd, Nat.reduceSub, Array.replicate_succ, Array.replicate_zero, List.push_toArray, List.append_toArray, List.nil_append, List.cons_append]
  have C0a : (W.alloc (.cells #[.func (.yield ly) #[] #[]] 99)).cell? ⟨Bo, 0, none⟩ = some (.slice p l.length c) := (World.cell?_alloc_old _ _ _ (by have := lt_of_cell_some hcW; show Bo ≠ _; simp only at this; omega)).trans hcW
  gi_wp2
  apply wpIn_scope_wide
  gi_wp2
  apply wpIn_label
  gi_wp2_with (first
    | (refine ⟨trivial, fun _ => by omega, (callsIn_wide.2 (CC.out _ ((Below.refl _ _).alloc (Nat.le_refl _) _))).mono ?_⟩; rintro e w1 ⟨t, rfl, hr⟩; obtain ⟨p2, c2, rfl, h1, h2, h3, -⟩ := hr.at2; have HR := Lib.hid (And.intro hr.2 (And.intro h1 (And.intro h2 (And.intro h3 (rowB_base hr))))); clear hr h1 h2 h3)
    | (refine ⟨trivial, fun _ => by omega, (callsIn_wide.2 (sectorsOf_any _ _ _ _)).mono ?_⟩; rintro e w' ⟨rfl, rfl⟩))
  obtain ⟨hb1, hc1, hc2, hby, hbs⟩ := HR.out
  have hs1 : W.heap.size + 1 ≤ w1.heap.size := by have := hb1.size; simp at this; omega
  have hbs' : ∀ k, inB p2 l.length k → W.heap.size ≤ k := fun k h => by obtain ⟨-, off, e⟩ := h; have := hbs k off e; simp at this; omega
  generalize hW0 : w1.alloc (.cells #[.slice p2 l.length c2] 49) = W0
  have b1 : Below w1.heap.size w1 W0 := by subst hW0; exact (Below.refl _ _).alloc (Nat.le_refl _) _
  have S0 : W0.heap.size = w1.heap.size + 1 := by subst hW0; simp
  have B0 : Below W.heap.size W W0 := (((Below.refl W.heap.size W).alloc (Nat.le_refl _) (.cells #[.func (.yield ly) #[] #[]] 99)).trans (hb1.mono (by simp))).trans (b1.mono (by omega))
  have C0 : W0.heap[W.heap.size]? = some (.cells #[.func (.yield ly) #[] #[]] 99 (0, 0)) := (b1.block _ (by omega)).trans ((hb1.block _ (by simp)).trans (World.alloc_heap_new W _))
  have C1 : W0.cell? ⟨w1.heap.size, 0, none⟩ = some (.slice p2 l.length c2) := by subst hW0; go_cell
  have M0 : BytesAt W0 p2 l := bytesAt_below hby b1
  have J0 : J [] X0 W0 := HJ.out _ _ _ _ H0.out (Stay.of_below B0 (Nat.le_refl _) (fun k hk => (HX0.out k hk).1))
  clear hW0 H0 C0a CC HR hb1 hby b1 hbs
  have SW : W.heap.size + 2 ≤ W0.heap.size := by omega
  refine range_norm 0 (fun D V => V.heap[D]? = some (.deferred (some [])) ∧ W.heap.size ≤ V.heap.size ∧ W0.heap.size ≤ D ∧ ∃ X' : Foot, (∀ k, X' k → k < V.heap.size ∧ (X0 k ∨ W.heap.size ≤ k) ∧ k ≠ D) ∧ ((∃ xs : List (Nat × Option Addr), xs.map (·.1) = List.range (secN l.length) ∧ J xs X' V) ∨ ∃ pre : List (Nat × Option Addr), pre.map (·.1) <+: List.range (secN l.length) ∧ Jx pre X' V)) (fun _ _ h => h) ?_ ?_
  · refine' range_sep (n := n) rfl (by omega) (gf := 193) (lb := #[.pointer (some ⟨w1.heap.size, 0, none⟩)]) rfl trivial (enters_of Tryz.func193 (by kernel_rfl) rfl)
      (sectors_sep (n - 1) (by omega) l p2 c2 w1.heap.size W0 hl hc1 (by have := hc2; unfold maxLen at this; omega) M0 C1) (fun x X A k o o' hk hc h => ⟨bytesAt_put h.1 hk hc, h.2⟩)
      X0 (fun k h => ⟨by have := (HX0.out k h).1; omega, fun h' => by have h1 := (HX0.out k h).1; exact h'.elim (fun h => by omega) (fun h => by have := hbs' k h; omega)⟩)
      (fun k h => h.elim (fun h => by omega) (fun h => inB_lt M0 h)) (Below.refl _ _) (fun _ => rfl)
      (fun pre X V => ((∃ xs : List (Nat × Option Addr), xs.map (·.1) = pre ∧ J xs X V) ∧ V.heap[W.heap.size]? = some (.cells #[.func (.yield ly) #[] #[]] 99 (0, 0))))
      (fun c pre X V => c = .exit 0 ∧ W.heap.size ≤ V.heap.size ∧ ∃ xs : List (Nat × Option Addr), xs.map (·.1) = pre ∧ Jx xs X V)
      (fun s X A C h hb => ⟨by obtain ⟨xs, e, h⟩ := h.1; exact ⟨xs, e, HJ.out _ _ _ _ h (hb.mono fun k hk => hk.imp (fun h => by omega) id)⟩, (hb.block _ (.inl (by omega))).trans h.2⟩)
      (fun c s X A C h hb => ⟨h.1, Nat.le_trans h.2.1 hb.size, by obtain ⟨xs, e, h⟩ := h.2.2; exact ⟨xs, e, HJx.out _ _ _ _ h (hb.mono fun k hk => hk.imp (fun h => by omega) id)⟩⟩)
      ⟨⟨[], rfl, J0⟩, C0⟩
      (fun x => { tmps := #[.func (.yield ly) #[] #[], .pointer (some ⟨Bo, 0, none⟩), .pointer (some ⟨W.heap.size, 0, none⟩), .int .i64 (x : Int), .slice (secP p2 x) (secL l x).length (secL l x).length, .slice p l.length c, .slice p2 l.length c2, .func (.func 193) #[] #[.pointer (some ⟨w1.heap.size, 0, none⟩)], .int .i64 (x : Int), .slice (secP p2 x) (secL l x).length (secL l x).length, undef, undef, undef, undef, undef], defers := [] }) ?assign ?body ?done ?stop
    case assign =>
      intro ly2 x V K hK
      gi_wp2
      exact hK
    case body =>
      rintro ly2 pre x X V ⟨⟨xs, rfl, hJ⟩, hb⟩ hs hX hlen hsp hT
      have hcy : V.cell? ⟨W.heap.size, 0, none⟩ = some (.func (.yield ly) #[] #[]) := cell_of_row V _ 0 _ 99 (0, 0) hb
      have hyY := HY.out xs (x, secP p2 x) X V hJ (by omega) (fun k hk => ⟨(hX k hk).1, (hX k hk).2.imp id (fun h => by omega)⟩) (by rw [← List.length_map (f := (·.1))]; exact hlen) (prefix_map hsp) ⟨hT.1, fun i hi => hT.2 i (inB_sec M0 hi)⟩
      obtain ⟨fn, tmps, assign, body, hy, hYR⟩ := hyY
      have wk : ∀ W3, KpX (fun k => k = Bo ∨ inB p l.length k) W.heap.size X V W3 → KpX (fun k => k = w1.heap.size ∨ inB p2 l.length k) W0.heap.size X V W3 := fun W3 hK3 => ⟨hK3.1, fun k h1 h2 h3 => hK3.2 k h1 (.inl (h2.elim (fun h => by omega) (fun h => h.elim (fun h => by omega) (hbs' k)))) h3⟩
      have hbl : W.heap.size < V.heap.size := (Array.getElem?_eq_some_iff.1 hb).1
      have hnX : ¬ X W.heap.size := fun h => (hX _ h).2.elim (fun h => by have := (HX0.out _ h).1; omega) (fun h => by omega)
      have fin1 : Hid (∀ (X' : Foot) W3, (∀ k, X' k → k < W3.heap.size ∧ (X k ∨ V.heap.size ≤ k)) → J (xs ++ [(x, secP p2 x)]) X' W3 → KpX (fun k => k = Bo ∨ inB p l.length k) W.heap.size X V W3 → KpX (fun k => k = w1.heap.size ∨ inB p2 l.length k) W0.heap.size X V W3 ∧ ∃ X' : Foot, (∀ k, X' k → k < W3.heap.size ∧ (X k ∨ V.heap.size ≤ k)) ∧ (∃ xs', List.map (fun x => x.fst) xs' = List.map (fun x => x.fst) xs ++ [x] ∧ J xs' X' W3) ∧ W3.heap[W.heap.size]? = some (.cells #[.func (.yield ly) #[] #[]] 99 (0, 0))) := Lib.hid fun X' W3 hX' hJ3 hK3 =>
        ⟨wk W3 hK3, X', hX', ⟨_, by rw [List.map_append]; rfl, hJ3⟩, (hK3.2 _ hbl (.inl (Nat.le_refl _)) hnX).trans hb⟩
      have fin2 : Hid (∀ (X' : Foot) W3, (∀ k, X' k → k < W3.heap.size ∧ (X k ∨ V.heap.size ≤ k)) → Jx (xs ++ [(x, secP p2 x)]) X' W3 → KpX (fun k => k = Bo ∨ inB p l.length k) W.heap.size X V W3 → KpX (fun k => k = w1.heap.size ∨ inB p2 l.length k) W0.heap.size X V W3 ∧ ∃ X' : Foot, (∀ k, X' k → k < W3.heap.size ∧ (X k ∨ V.heap.size ≤ k)) ∧ Code.exit 0 = Code.exit 0 ∧ W.heap.size ≤ W3.heap.size ∧ ∃ xs', List.map (fun x => x.fst) xs' = List.map (fun x => x.fst) xs ++ [x] ∧ Jx xs' X' W3) := Lib.hid fun X' W3 hX' hJ3 hK3 =>
        ⟨wk W3 hK3, X', hX', rfl, Nat.le_trans (Nat.le_of_lt hbl) hK3.1, ⟨_, by rw [List.map_append]; rfl, hJ3⟩⟩
      clear wk hJ hT hlen hsp hX
      gi_wp2_with fail
      refine ⟨fun _ => by omega, (round_wide hYR).mono ?_⟩
      rintro e W3 ⟨X', hX', hK3, h3⟩
      rcases h3 with ⟨rfl, hJ3⟩ | ⟨rfl, hJx3⟩
      · have HF := Lib.hid (fin1.out X' W3 hX' hJ3 hK3)
        clear hJ3 hK3 hX' hYR hcy hb hy
        gi_wp2
        exact HF.out
      · have HF := Lib.hid (fin2.out X' W3 hX' hJx3 hK3)
        clear hJx3 hK3 hX' hYR hcy hb hy
        gi_wp2
        obtain ⟨g1, X2, g2, -, g3⟩ := HF.out
        exact ⟨g1, X2, g2, rfl, g3⟩
    case done =>
      rintro D ys X V hD hX rfl ⟨⟨xs, e, hJ⟩, hb⟩ hK
      exact ⟨.inl rfl, D, rfl, hK, by have := (Array.getElem?_eq_some_iff.1 hb).1; omega, hD, X, fun k hk => ⟨(hX k hk).1, (hX k hk).2.1.imp id (fun h => by omega), (hX k hk).2.2⟩, .inl ⟨xs, e, hJ⟩⟩
    case stop =>
      rintro D c pre X V hD hX hsp ⟨rfl, hs, xs, rfl, hJ⟩ hK
      have HR : Hid (∃ X' : Foot, (∀ k, X' k → k < V.heap.size ∧ (X0 k ∨ W.heap.size ≤ k) ∧ k ≠ D) ∧ ((∃ xs : List (Nat × Option Addr), xs.map (·.1) = List.range (secN l.length) ∧ J xs X' V) ∨ ∃ pre : List (Nat × Option Addr), pre.map (·.1) <+: List.range (secN l.length) ∧ Jx pre X' V)) := Lib.hid ⟨X, fun k hk => ⟨(hX k hk).1, (hX k hk).2.1.imp id (fun h => by omega), (hX k hk).2.2⟩, .inr ⟨xs, hsp, hJ⟩⟩
      clear hX hJ
      gi_wp2
      all_goals first | exact (by omega) | exact HR.out | exact ⟨by omega, HR.out⟩ | exact hs
  · rintro D V ⟨hK, hs, hD, X', hX', hJ⟩
    have HX := Lib.hid hX'
    have HJ2 := Lib.hid hJ
    clear hX' hJ
    gi_wp2
    refine ⟨by simp, .inl ⟨_, _, rfl, run_takeDeferred hK, ?_⟩⟩
    refine ⟨_, results_none rfl _ _ _, ⟨_, rfl⟩, by simpa using hs, X', fun k hk => ⟨by have := (HX.out k hk).1; simpa using this, (HX.out k hk).2.1⟩, ?_⟩
    have hp : Stay W.heap.size X' V (V.putObj D (.deferred none)) := Stay.put _ _ (by omega) (fun hx => (HX.out _ hx).2.2 rfl)
    rcases HJ2.out with ⟨xs, e, h⟩ | ⟨pre, e, h⟩
    · exact .inl ⟨xs, e, HJ.out _ _ _ _ h hp⟩
    · exact .inr ⟨pre, e, HJx.out _ _ _ _ h hp⟩

end Go.Proofs.YtdanigigjainjaaGreat
namespace Go.Proofs.YtdanigigjainjaaGreat.Dk

def strOf (l : List Nat) : ByteArray := ⟨(l.map UInt8.ofNat).toArray⟩
theorem strOf_size (l : List Nat) : (strOf l).size = l.length := by simp [strOf, ByteArray.size]
def secS (c : Nat) : ByteArray := strOf (List.replicate 64 c)
theorem secS_size (c : Nat) : (secS c).size = 64 := by unfold secS; rw [strOf_size]; simp

/-- How many sectors there are, what was synced, what is loose; a stop behind so many operations (-1: none). -/
structure DS where
  many : Nat
  sync : List (Nat × ByteArray)
  loose : List (Nat × ByteArray)
  left : Int

def lastS (l : List (Nat × ByteArray)) (k : Nat) : ByteArray := l.foldl (fun s w => if w.1 = k then w.2 else s) (secS 0)
theorem lastS_snoc (l : List (Nat × ByteArray)) (w : Nat × ByteArray) (k : Nat) : lastS (l ++ [w]) k = if w.1 = k then w.2 else lastS l k := by
  unfold lastS; rw [List.foldl_append]; rfl
theorem lastS_size {l : List (Nat × ByteArray)} (h : ∀ w ∈ l, w.2.size = 64) (k : Nat) : (lastS l k).size = 64 := by
  unfold lastS
  suffices ∀ (l : List (Nat × ByteArray)) (s : ByteArray), s.size = 64 → (∀ w ∈ l, w.2.size = 64) → (l.foldl (fun s w => if w.1 = k then w.2 else s) s).size = 64 from this l _ (secS_size 0) h
  intro l
  induction l with
  | nil => intro s hs _; exact hs
  | cons w l ih =>
    intro s hs hl
    rw [List.foldl_cons]
    refine ih _ ?_ (fun x hx => hl x (by simp [hx]))
    split
    · exact hl w (by simp)
    · exact hs
/-- Writes that are not to a sector do not change what was written there last. -/
theorem lastS_apart (l m : List (Nat × ByteArray)) (k : Nat) (h : ∀ w ∈ m, w.1 ≠ k) : lastS (l ++ m) k = lastS l k := by
  unfold lastS
  rw [List.foldl_append]
  generalize List.foldl (fun s w => if w.1 = k then w.2 else s) (secS 0) l = s
  induction m generalizing s with
  | nil => rfl
  | cons w m ih =>
    rw [List.foldl_cons, if_neg (h w (by simp))]
    exact ih (fun x hx => h x (by simp [hx])) s

def doneL (left : Int) : Int := if 0 < left then left - 1 else left
def newS (n : Nat) : DS := ⟨n, [], [], -1⟩
def writeS (s : DS) (k : Int) (b : ByteArray) : DS × Int :=
  if b.size ≠ 64 then (s, 2) else if k < 0 ∨ (s.many : Int) ≤ k then (s, 4) else if s.left = 0 then (s, 140) else (⟨s.many, s.sync, s.loose ++ [(k.toNat, b)], doneL s.left⟩, 0)
def syncS (s : DS) : DS × Int := if s.left = 0 then (s, 140) else (⟨s.many, s.sync ++ s.loose, [], doneL s.left⟩, 0)
def stopS (s : DS) (n : Int) : DS × Int := if n < 0 then (s, 2) else (⟨s.many, s.sync, s.loose, n⟩, 0)
def sectorS (s : DS) (k : Nat) : ByteArray := lastS (s.sync ++ s.loose) k
def readS (s : DS) (k : Int) : ByteArray × Int := if k < 0 ∨ (s.many : Int) ≤ k then (⟨#[]⟩, 4) else if s.left = 0 then (⟨#[]⟩, 140) else (sectorS s k.toNat, 0)
/-- The last of the first so many that is kept; -1: none. -/
def tornF (keep : List Bool) : Nat → Int
  | 0 => -1
  | i + 1 => if keep.getD i false then (i : Int) else tornF keep i
theorem tornF_range (keep : List Bool) : ∀ n, -1 ≤ tornF keep n ∧ tornF keep n < n
  | 0 => by simp [tornF]
  | n + 1 => by
    have := tornF_range keep n
    unfold tornF
    split <;> omega
def tornB (tear : Nat) (b old : ByteArray) : ByteArray := b.extract 0 tear ++ old.extract tear 64
/-- What is synced behind a crash, when the first so many were looked at. -/
def crashF (keep : List Bool) (loose : List (Nat × ByteArray)) (tear : Nat) (torn : Int) (sync : List (Nat × ByteArray)) : Nat → List (Nat × ByteArray)
  | 0 => sync
  | i + 1 =>
    if keep.getD i false then crashF keep loose tear torn sync i ++ [((loose.getD i (0, secS 0)).1, if (i : Int) = torn ∧ 0 < tear then tornB tear (loose.getD i (0, secS 0)).2 (lastS (crashF keep loose tear torn sync i) (loose.getD i (0, secS 0)).1) else (loose.getD i (0, secS 0)).2)]
    else crashF keep loose tear torn sync i
def tornS (s : DS) (keep : List Bool) : Int := tornF keep (min s.loose.length keep.length)
def crashS (s : DS) (tear : Int) (keep : List Bool) : DS × Int :=
  if tear < 0 ∨ 63 < tear then (s, 2) else (⟨s.many, crashF keep s.loose tear.toNat (tornS s keep) s.sync (tornS s keep + 1).toNat, [], -1⟩, 0)
/-- All that was written are sectors of the disk. -/
structure Whole (s : DS) : Prop where
  many : 1 ≤ s.many ∧ s.many ≤ 40000
  left : -1 ≤ s.left
  sync : ∀ w ∈ s.sync, w.1 < s.many ∧ w.2.size = 64
  loose : ∀ w ∈ s.loose, w.1 < s.many ∧ w.2.size = 64
theorem doneL_ok {n : Int} (h : -1 ≤ n) : -1 ≤ doneL n := by unfold doneL; split <;> omega
theorem Whole.new {n : Nat} (h : 1 ≤ n ∧ n ≤ 40000) : Whole (newS n) := ⟨h, by simp [newS], fun _ h => (by cases h), fun _ h => (by cases h)⟩
theorem Whole.write {s : DS} (h : Whole s) (k : Int) (b : ByteArray) : Whole (writeS s k b).1 := by
  unfold writeS
  split
  · exact h
  · split
    · exact h
    · split
      · exact h
      · refine ⟨h.many, doneL_ok h.left, h.sync, fun w hw => ?_⟩
        rcases List.mem_append.1 hw with hw | hw
        · exact h.loose w hw
        · simp at hw
          subst hw
          simp only
          omega
theorem Whole.sync' {s : DS} (h : Whole s) : Whole (syncS s).1 := by
  unfold syncS
  split
  · exact h
  · refine ⟨h.many, doneL_ok h.left, fun w hw => ?_, fun _ h => (by cases h)⟩
    rcases List.mem_append.1 hw with hw | hw
    · exact h.sync w hw
    · exact h.loose w hw
theorem tornB_size {tear : Nat} {b old : ByteArray} (ht : tear ≤ 63) (hb : b.size = 64) (ho : old.size = 64) : (tornB tear b old).size = 64 := by
  unfold tornB
  rw [ByteArray.size_append, ByteArray.size_extract, ByteArray.size_extract]
  omega
theorem getD_mem {α : Type} {l : List α} {i : Nat} {d : α} (h : i < l.length) : l.getD i d ∈ l := by
  rw [List.getD_eq_getElem?_getD, List.getElem?_eq_getElem h]
  exact List.getElem_mem h
theorem crashF_whole {keep : List Bool} {loose sync : List (Nat × ByteArray)} {tear m : Nat} {torn : Int} (ht : tear ≤ 63) (hs : ∀ w ∈ sync, w.1 < m ∧ w.2.size = 64) (hl : ∀ w ∈ loose, w.1 < m ∧ w.2.size = 64) :
    ∀ i, i ≤ loose.length → ∀ w ∈ crashF keep loose tear torn sync i, w.1 < m ∧ w.2.size = 64
  | 0, _ => hs
  | i + 1, hi => by
    have ih := crashF_whole (keep := keep) (tear := tear) (torn := torn) ht hs hl i (by omega)
    have hm := hl _ (getD_mem (d := (0, secS 0)) (show i < loose.length by omega))
    unfold crashF
    split
    · intro w hw
      rcases List.mem_append.1 hw with hw | hw
      · exact ih w hw
      · simp only [List.mem_singleton] at hw
        subst hw
        refine ⟨hm.1, ?_⟩
        simp only
        split
        · exact tornB_size ht hm.2 (lastS_size (fun w hw => (ih w hw).2) _)
        · exact hm.2
    · exact ih
theorem tornS_range (s : DS) (keep : List Bool) : -1 ≤ tornS s keep ∧ (tornS s keep + 1).toNat ≤ s.loose.length ∧ (tornS s keep + 1).toNat ≤ keep.length := by
  have := tornF_range keep (min s.loose.length keep.length)
  unfold tornS
  omega
end Go.Proofs.YtdanigigjainjaaGreat.Dk
namespace Go.Proofs.YtdanigigjainjaaGreat.Dk
open Go.RowKit Go.Shelf
set_option maxRecDepth 100000
set_option maxHeartbeats 1000000

/-- A slice of bytes. -/
abbrev BytesAt (w : World) (p : Option Addr) (l : List Nat) : Prop := ∀ i, i < l.length → ∃ B off, p = some ⟨B, off, none⟩ ∧ w.cell? ⟨B, off + i, none⟩ = some (.int .u8 (l.getD i 0))
theorem info_parts {P : Program} {t : TypeId} {z : Value} {n k : Nat} (h : (P.info? t).map (fun i => (i.zero, i.size, i.bytes)) = some (some z, n, k)) :
    ∃ j, P.info? t = some j ∧ j.zero = some z ∧ j.size = n ∧ j.bytes = k := by
  cases hi : P.info? t with
  | none => rw [hi] at h; cases h
  | some j =>
    rw [hi] at h
    simp only [Option.map_some, Option.some.injEq, Prod.mk.injEq] at h
    exact ⟨j, rfl, h.1, h.2.1, h.2.2⟩
def u8s (l : List Nat) : List Value := l.map fun (v : Nat) => Value.int .u8 (v : Int)
theorem addr_plain (B off j : Nat) : (⟨B, off, none⟩ : Addr).add j = ⟨B, off + j, none⟩ := by
  by_cases h : j = 0 <;> simp [Addr.add, h]
theorem lt_of_cell_some {w : World} {p : Addr} {v : Value} (h : w.cell? p = some v) : p.block < w.heap.size := by
  rcases Nat.lt_or_ge p.block w.heap.size with h1 | h1
  · exact h1
  · simp [World.cell?, Array.getElem?_eq_none h1] at h
theorem bytesAt_lt {w : World} {p : Option Addr} {l : List Nat} (hc : BytesAt w p l) (hne : l ≠ []) : ∃ B off, p = some ⟨B, off, none⟩ ∧ ∀ i, i < l.length → w.cell? ⟨B, off + i, none⟩ = some (.int .u8 (l.getD i 0 : Nat)) := by
  obtain ⟨B, off, rfl, -⟩ := hc 0 (List.length_pos_iff.2 hne)
  refine ⟨B, off, rfl, fun i hi => ?_⟩
  obtain ⟨B', off', e, c⟩ := hc i hi
  injection e with e
  injection e with e1 e2
  subst e1 e2
  exact c
theorem bytesAt_kept {w w' : World} {p : Option Addr} {l : List Nat} (hc : BytesAt w p l) (h : ∀ a v, w.cell? a = some v → w'.cell? a = w.cell? a) : BytesAt w' p l := by
  intro i hi
  obtain ⟨B, off, rfl, c⟩ := hc i hi
  exact ⟨B, off, rfl, (h _ _ c).trans c⟩
theorem bytesAt_below {w w' : World} {p : Option Addr} {l : List Nat} (hc : BytesAt w p l) (h : Below w.heap.size w w') : BytesAt w' p l :=
  bytesAt_kept hc fun _ _ c => h.cell (lt_of_cell_some c)
/-- Bytes in a new block. -/
theorem bytesAt_new (w : World) (l : List Nat) (t : TypeId) : BytesAt (w.alloc (.cells (l.map fun (v : Nat) => Value.int .u8 (v : Int)).toArray t)) (some ⟨w.heap.size, 0, none⟩) l := by
  intro i hi
  refine ⟨_, _, rfl, ?_⟩
  rw [World.cell?_alloc_new]
  simp [List.getD_eq_getElem?_getD, hi]
theorem kbT {w w1 w2 : World} (h1 : Below w.heap.size w w1) (h2 : Below w1.heap.size w1 w2) : Below w.heap.size w w2 := h1.trans (h2.mono h1.size)
theorem strOf_inj {l m : List Nat} (hl : ∀ b ∈ l, b < 256) (hm : ∀ b ∈ m, b < 256) (h : strOf l = strOf m) : l = m := by
  unfold strOf at h
  injection h with h
  have h2 := congrArg Array.toList h
  simp only at h2
  have inj : ∀ (x y : List Nat), (∀ b ∈ x, b < 256) → (∀ b ∈ y, b < 256) → x.map UInt8.ofNat = y.map UInt8.ofNat → x = y := by
    intro x
    induction x with
    | nil => intro y _ _ e; cases y with
      | nil => rfl
      | cons b t => simp at e
    | cons a x ih =>
      intro y hx hy e
      cases y with
      | nil => simp at e
      | cons b y =>
        simp only [List.map_cons, List.cons.injEq] at e
        have h1 := congrArg UInt8.toNat e.1
        have ha := hx a (by simp)
        have hb := hy b (by simp)
        simp only [UInt8.toNat_ofNat'] at h1
        rw [Nat.mod_eq_of_lt ha, Nat.mod_eq_of_lt hb] at h1
        rw [h1, ih y (fun b hb => hx b (by simp [hb])) (fun b hb => hy b (by simp [hb])) e.2]
  exact inj l m hl hm (by simpa using h2)
theorem bytesAt_take {w : World} {p : Option Addr} {l : List Nat} (h : BytesAt w p l) (n : Nat) : BytesAt w p (l.take n) := by
  intro i hi
  rw [List.length_take] at hi
  obtain ⟨B, off, e, c⟩ := h i (by omega)
  exact ⟨B, off, e, by rw [c]; simp [List.getD_eq_getElem?_getD, List.getElem?_take, show i < n by omega]⟩
end Go.Proofs.YtdanigigjainjaaGreat.Dk
namespace Go.Proofs.YtdanigigjainjaaGreat.Dk
open Go.RowKit Go.Shelf
set_option maxRecDepth 100000
set_option maxHeartbeats 1000000

theorem below_kept {w w' : World} (h : Below w.heap.size w w') : ∀ a v, w.cell? a = some v → w'.cell? a = some v := fun a v c => (h.cell (lt_of_cell_some c)).trans c
end Go.Proofs.YtdanigigjainjaaGreat.Dk
namespace Go.Proofs.YtdanigigjainjaaGreat.Dk
open Go.RowKit Go.Shelf
set_option maxRecDepth 100000
set_option maxHeartbeats 1000000

end Go.Proofs.YtdanigigjainjaaGreat.Dk
namespace Go.Proofs.YtdanigigjainjaaGreat.Dk
open Go.RowKit Go.Shelf
set_option maxRecDepth 100000
set_option maxHeartbeats 1000000

end Go.Proofs.YtdanigigjainjaaGreat.Dk
namespace Go.Proofs.YtdanigigjainjaaGreat.Dk
open Go.RowKit Go.Shelf
set_option maxRecDepth 100000
set_option maxHeartbeats 1000000

end Go.Proofs.YtdanigigjainjaaGreat.Dk
namespace Go.Proofs.YtdanigigjainjaaGreat.Dk
open Go.RowKit Go.Shelf
set_option maxRecDepth 100000
set_option maxHeartbeats 1000000

def Few (s : DS) : Prop := s.sync.length ≤ 30000 ∧ s.loose.length ≤ 20000
theorem readS_stop {s : DS} {k : Int} (h0 : ¬ k < 0) (h1 : ¬ (s.many : Int) ≤ k) (h2 : s.left = 0) : readS s k = (⟨#[]⟩, 140) := by unfold readS; rw [if_neg (by omega), if_pos h2]
theorem readS_ok {s : DS} {k : Nat} (h1 : ¬ s.many ≤ k) (h2 : ¬ s.left = 0) : readS s k = (sectorS s k, 0) := by unfold readS; rw [if_neg (by omega), if_neg h2]; rfl
end Go.Proofs.YtdanigigjainjaaGreat.Dk
namespace Go.Proofs.YtdanigigjainjaaGreat.Dk
open Go.RowKit Go.Shelf
set_option maxRecDepth 100000
set_option maxHeartbeats 1000000

end Go.Proofs.YtdanigigjainjaaGreat.Dk
namespace Go.Proofs.YtdanigigjainjaaGreat.Dk
open Go.RowKit Go.Shelf
set_option maxRecDepth 100000
set_option maxHeartbeats 1000000

end Go.Proofs.YtdanigigjainjaaGreat.Dk
namespace Go.Proofs.YtdanigigjainjaaGreat.Dk
open Go.RowKit Go.Shelf
set_option maxRecDepth 100000
set_option maxHeartbeats 1000000

end Go.Proofs.YtdanigigjainjaaGreat.Dk
namespace Go.Proofs.YtdanigigjainjaaGreat.Dk
open Go.RowKit Go.Shelf
set_option maxRecDepth 100000
set_option maxHeartbeats 1000000

/-- A slice of truths. -/
def BoolsAt (w : World) (p : Option Addr) (l : List Bool) : Prop := ∀ i b, l[i]? = some b → ∃ B off, p = some ⟨B, off, none⟩ ∧ w.cell? ⟨B, off + i, none⟩ = some (.bool b)
theorem BoolsAt.below {w w' : World} {p : Option Addr} {l : List Bool} (h : BoolsAt w p l) (hb : Below w.heap.size w w') : BoolsAt w' p l := fun i b hi => by
  obtain ⟨B, off, e, c⟩ := h i b hi
  exact ⟨B, off, e, below_kept hb _ _ c⟩
end Go.Proofs.YtdanigigjainjaaGreat.Dk
namespace Go.Proofs.YtdanigigjainjaaGreat.Dk
open Go.RowKit Go.Shelf
set_option maxRecDepth 100000
set_option maxHeartbeats 1000000

end Go.Proofs.YtdanigigjainjaaGreat.Dk
namespace Go.Proofs.YtdanigigjainjaaGreat.Dk
open Go.RowKit Go.Shelf
set_option maxRecDepth 100000
set_option maxHeartbeats 1000000

/-- Of what lay there nothing is changed but the blocks F. -/
structure Apart (F : Nat → Prop) (w w' : World) : Prop where
  os : w'.os = w.os
  tape : w'.tape = w.tape
  output : w'.output = w.output
  size : w.heap.size ≤ w'.heap.size
  block : ∀ k, k < w.heap.size → ¬ F k → w'.heap[k]? = w.heap[k]?
theorem Apart.below {F : Nat → Prop} {w0 w w' : World} (h : Apart F w w') (b : Below w0.heap.size w0 w) (hF : ∀ k, F k → w0.heap.size ≤ k) : Below w0.heap.size w0 w' :=
  ⟨h.os.trans b.os, h.tape.trans b.tape, h.output.trans b.output, Nat.le_trans b.size h.size, fun k hk => (h.block k (Nat.lt_of_lt_of_le hk b.size) (fun f => by have := hF k f; omega)).trans (b.block k hk)⟩
theorem Below.apart {w w' : World} (h : Below w.heap.size w w') (F : Nat → Prop) : Apart F w w' := ⟨h.os, h.tape, h.output, h.size, fun k hk _ => h.block k hk⟩
def DiskRep := World → Value → DS → (Nat → Prop) → Prop
/-- A disk behind a call that changes it. -/
def Goes (Rep : DiskRep) (d : Value) (s : DS) (F : Nat → Prop) (w w' : World) : Prop := ∃ F', Rep w' d s F' ∧ (∀ k, F' k → F k ∨ w.heap.size ≤ k) ∧ Apart F w w'
/-- A list of bytes that is handed in. -/
structure BytesIn (w : World) (F : Nat → Prop) (p : Option Addr) (l : List Nat) (cap : Nat) : Prop where
  at' : BytesAt w p l
  byte : ∀ b ∈ l, b < 256
  nil : p = none → cap = 0
  cap : l.length ≤ cap ∧ cap ≤ 9223372036854775807
  apart : l ≠ [] → ∀ B off, p = some ⟨B, off, none⟩ → ¬ F B
structure BoolsIn (w : World) (F : Nat → Prop) (p : Option Addr) (l : List Bool) (cap : Nat) : Prop where
  at' : BoolsAt w p l
  nil : p = none → cap = 0
  cap : l.length ≤ cap ∧ cap ≤ 9223372036854775807
  apart : l ≠ [] → ∀ B off, p = some ⟨B, off, none⟩ → ¬ F B
/-- Bytes that a call tells, in memory of its own (of whatever kind). -/
def TellB (w : World) (l : List Nat) (t : Value) (w' : World) : Prop := (∃ p cap, t = .slice p l.length cap ∧ l.length ≤ cap ∧ cap ≤ maxLen ∧ BytesAt w' p l ∧ ∀ a, p = some a → w.heap.size ≤ a.block) ∧ Below w.heap.size w w'
structure DiskOk (Rep : DiskRep) : Prop where
  low : ∀ w d s F, Rep w d s F → ∀ k, F k → k < w.heap.size
  keep : ∀ w w' d s F, Rep w d s F → w.heap.size ≤ w'.heap.size → (∀ k, F k → w'.heap[k]? = w.heap[k]?) → Rep w' d s F
  new : ∀ (n : Nat) w, 1 ≤ n ∧ n ≤ 40000 → Calls Tryz.prog 7 #[.int .i64 n] w fun r w' => ∃ d F, r = .returned (.tuple #[d, .int .i64 0]) ∧ Rep w' d (newS n) F ∧ (∀ k, F k → w.heap.size ≤ k) ∧ Below w.heap.size w w'
  write : ∀ w d s F (k : Int) p l cap, Rep w d s F → Whole s → Few s → l.length ≤ 200 → BytesIn w F p l cap → Calls Tryz.prog 111 #[d, .int .i64 k, .slice p l.length cap] w fun r w' => r = .returned (.int .i64 (writeS s k (strOf l)).2) ∧ Goes Rep d (writeS s k (strOf l)).1 F w w'
  sync : ∀ w d s F, Rep w d s F → Whole s → Few s → Calls Tryz.prog 89 #[d] w fun r w' => r = .returned (.int .i64 (syncS s).2) ∧ Goes Rep d (syncS s).1 F w w'
  stop : ∀ w d s F (n : Int), Rep w d s F → Whole s → -9223372036854775808 ≤ n ∧ n ≤ 9223372036854775807 → Calls Tryz.prog 25 #[d, .int .i64 n] w fun r w' => r = .returned (.int .i64 (stopS s n).2) ∧ Goes Rep d (stopS s n).1 F w w'
  crash : ∀ w d s F (tear : Int) p keep cap, Rep w d s F → Whole s → Few s → keep.length ≤ 1000 → BoolsIn w F p keep cap → Calls Tryz.prog 26 #[d, .int .i64 tear, .slice p keep.length cap] w fun r w' => r = .returned (.int .i64 (crashS s tear keep).2) ∧ Goes Rep d (crashS s tear keep).1 F w w'
  read : ∀ w d s F (k : Int), Rep w d s F → Whole s → Few s → Calls Tryz.prog 117 #[d, .int .i64 k] w fun r w' => ∃ t l, r = .returned (.tuple #[t, .int .i64 (readS s k).2]) ∧ TellB w l t w' ∧ (∀ b ∈ l, b < 256) ∧ strOf l = (readS s k).1
  copy : ∀ w d s F, Rep w d s F → Whole s → Few s → Calls Tryz.prog 24 #[d] w fun r w' => ∃ d' F', r = .returned d' ∧ Rep w' d' s F' ∧ (∀ k, F' k → w.heap.size ≤ k) ∧ Below w.heap.size w w'
section
variable {Rep : DiskRep}
end
end Go.Proofs.YtdanigigjainjaaGreat.Dk
