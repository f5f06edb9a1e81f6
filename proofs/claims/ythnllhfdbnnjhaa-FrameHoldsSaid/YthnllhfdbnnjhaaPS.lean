/- Package frame: a frame's sector, and Encode. -/
import Derived.Test.YthnllhfdbnnjhaaPR
namespace Go.Proofs.Ythnllhfdbnnjhaa
open Go.RowKit Go.Shelf

theorem step_store_row {P : Program} {ops : Array Oper} {o : Oper} {a : Act} {w : World} {K : Act → World → Prop} {Q : Exit → Act → World → Prop} {E : Prop} (hgd : o.guard = none) (ty : TypeId) (x y : Operand) (ho : o.op = .store ty x y)
    (g : Nat) (cells : Array Value) (hx : a.eval x = .pointer (some ⟨g, 0, none⟩)) (hy : a.eval y = .agg cells)
    (t : TypeId) (old : Array Value) (hg : w.heap[g]? = some (.cells old t (0, 0))) (hi : (P.info? ty).map (·.size) = some cells.size)
    (hold : old.size = cells.size) (h1 : cells.all (·.oneCell') = true)
    (h : K (a.put o.dst undef) (w.setRow g cells)) : if Region.wanted o (yielded ops a.tmps) = true then Oper.wp P o a w K Q else E := by
  have hw : Region.wanted o (yielded ops a.tmps) = true := by simp [Region.wanted, hgd]
  rw [if_pos hw]
  exact wp_store_row ty x y ho g cells hx hy t old hg hi hold h1 h
/-- A frame's first sector. -/
def frameS (E i p : Nat) (cm : Bool) (n k : Nat) (bs : List Nat) : List Nat := padL (frameC E i p cm n k bs)
/-- A frame's bytes. -/
def frameL (E i p : Nat) (cm : Bool) (n k : Nat) (bs : List Nat) : List Nat := frameS E i p cm n k bs ++ bs
theorem frameS_length (E i p : Nat) (cm : Bool) (n k : Nat) (bs : List Nat) : (frameS E i p cm n k bs).length = 64 := padL_length (by rw [frameC_length]; omega)
theorem frameS_byte (E i p : Nat) (cm : Bool) (n k : Nat) (bs : List Nat) : ∀ b ∈ frameS E i p cm n k bs, b < 256 := padL_byte (frameC_byte E i p cm n k bs)
set_option maxRecDepth 100000 in
set_option maxHeartbeats 4000000 in
theorem frameSector_any (E i p : Nat) (cm : Bool) (n k : Nat) (hE : E < 2 ^ 64) (hi : i < 4294967296) (hp : p < 4294967296) (hn : n < 4294967296) (hk : k < 4294967296) (q : Option Addr) (cap : Nat) (bs : List Nat) (hbl : bs.length = 512) (hbb : ∀ b ∈ bs, b < 256) (w : World) (hbs : BytesAt w q bs) :
    Calls Try.prog 43 #[.agg #[.int .u64 E, .int .i64 i, .int .i64 p, .bool cm, .int .i64 n, .int .u32 k, .slice q 512 cap]] w fun r w' => r = .returned (.agg (secA (frameS E i p cm n k bs))) ∧ Below w.heap.size w w' := by
  have CS := Lib.hid (summed_any E i p cm n k hE hi hp hn hk q cap)
  have CT := Lib.hid fun (w' : World) (h : Below w.heap.size w w') => frameSum_any E i p cm n k hE hi hp hn hk q cap bs hbl hbb w' (bytesAt_below hbs h)
  have hlen := frameB_length E i p cm n k
  have hbyt := frameB_byte E i p cm n k
  have HSL := Lib.hid (frameS_length E i p cm n k bs)
  have hfs : frameS E i p cm n k bs = padL (frameB E i p cm n k ++ fixE 4 (~~~ sumN (frameB E i p cm n k ++ bs)).toNat) := rfl
  generalize frameS E i p cm n k bs = ls at *
  generalize frameB E i p cm n k = lb at *
  have C4 := Lib.hid fun w => four_any (~~~ sumN (lb ++ bs)).toNat w (sumNot_lt _)
  have hfl : (fixE 4 (~~~ sumN (lb ++ bs)).toNat).length = 4 := fixE_length _ _
  have hfb := fixE_byte 4 (~~~ sumN (lb ++ bs)).toNat
  generalize fixE 4 (~~~ sumN (lb ++ bs)).toNat = lf at *
  generalize (~~~ sumN (lb ++ bs)).toNat = sb at *
  have FT := Lib.hid fun p q c d (w : World) h1 h2 h3 h4 => filled_two lb lf p q c d w (by omega) hbyt hfb h1 h2 h3 h4
  rw [← hfs] at FT
  clear hlen hbyt hfl hfb hfs hE hi hp hn hk hbl hbb hbs
  go_enter Try.func43, Try.ntmps43
  go_upto_region 1 with fail
  change Code.wp Try.prog _ _ _ ((w.alloc (.cells #[.int .u64 E, .int .i64 i, .int .i64 p, .bool cm, .int .i64 n, .int .u32 k, .slice q 512 cap] 51)).alloc (.cells zs64 84))
  obtain ⟨w1, hw1⟩ : ∃ w1, (w.alloc (.cells #[.int .u64 E, .int .i64 i, .int .i64 p, .bool cm, .int .i64 n, .int .u32 k, .slice q 512 cap] 51)).alloc (.cells zs64 84) = w1 := ⟨_, rfl⟩
  have HB1 : Hid (Below w.heap.size w w1) := Lib.hid (by subst hw1; exact ((Below.refl _ _).alloc (Nat.le_refl _) _).alloc (by simp) _)
  have HGX : Hid (w1.heap[w.heap.size]? = some (.cells #[.int .u64 E, .int .i64 i, .int .i64 p, .bool cm, .int .i64 n, .int .u32 k, .slice q 512 cap] 51 (0, 0))) := Lib.hid (by subst hw1; exact (((Below.refl _ _).alloc (Nat.le_refl _) _).block _ (by simp)).trans (heap_alloc_last w _))
  have HGT : Hid (w1.heap[w.heap.size + 1]? = some (.cells zs64 84 (0, 0))) := Lib.hid (by subst hw1; have := heap_alloc_last (w.alloc (.cells #[.int .u64 E, .int .i64 i, .int .i64 p, .bool cm, .int .i64 n, .int .u32 k, .slice q 512 cap] 51)) (.cells zs64 84); rw [World.size_alloc] at this; exact this)
  have HLT : Hid (w.heap.size + 1 < w1.heap.size) := Lib.hid (by subst hw1; simp)
  have HLX : Hid (w.heap.size < w1.heap.size) := Lib.hid (by subst hw1; simp; omega)
  rw [hw1]
  clear hw1
  refine wp_region_held_drew (S := fun w' => Below w.heap.size w w' ∧ w'.heap[w.heap.size]? = some (.cells #[.int .u64 E, .int .i64 i, .int .i64 p, .bool cm, .int .i64 n, .int .u32 k, .slice q 512 cap] 51 (0, 0))) (by kernel_rfl) ⟨HB1.out.drew, HGX.out⟩ (fun S0 => ?_)
  obtain ⟨wd, hwd⟩ : ∃ wd, w1.drew = wd := ⟨_, rfl⟩
  have H0 : Below w1.heap.size w1 wd := by rw [← hwd]; exact (Below.refl _ _).drew
  rw [hwd] at S0 ⊢
  clear hwd
  refine wpAnyH_take (i := 0) (oi := { dst := some 3, op := Go.Op.load 51 (Go.Operand.tmp 1), type := 51, pos := "part.go:87", after := #[], guard := none }) (v := ?_) rfl (by kernel_rfl) (by kernel_rfl) (by kernel_rfl) (fun _ _ _ h => h) (Or.inl ⟨by rfl, ?_⟩) S0 ?_
  rotate_left
  focus (intro w' hSw; (try dsimp only at hSw); have k0 := row_cell (i := 0) hSw.2 rfl; have k1 := row_cell (i := 1) hSw.2 rfl; have k2 := row_cell (i := 2) hSw.2 rfl; have k3 := row_cell (i := 3) hSw.2 rfl; have k4 := row_cell (i := 4) hSw.2 rfl; have k5 := row_cell (i := 5) hSw.2 rfl; have k6 := row_cell (i := 6) hSw.2 rfl; go_simp; (try with_reducible rfl))
  simp only [Act.put, List.setIfInBounds_toArray, List.set_cons_zero, List.set_cons_succ]
  refine wpAnyH_take (i := 2) (oi := { dst := some 5, op := Go.Op.load 51 (Go.Operand.tmp 1), type := 51, pos := "part.go:87", after := #[], guard := none }) (v := ?_) rfl (by kernel_rfl) (by kernel_rfl) (by kernel_rfl) (fun _ _ _ h => h) (Or.inl ⟨by rfl, ?_⟩) S0 ?_
  rotate_left
  focus (intro w' hSw; (try dsimp only at hSw); have k0 := row_cell (i := 0) hSw.2 rfl; have k1 := row_cell (i := 1) hSw.2 rfl; have k2 := row_cell (i := 2) hSw.2 rfl; have k3 := row_cell (i := 3) hSw.2 rfl; have k4 := row_cell (i := 4) hSw.2 rfl; have k5 := row_cell (i := 5) hSw.2 rfl; have k6 := row_cell (i := 6) hSw.2 rfl; go_simp; (try with_reducible rfl))
  simp only [Act.put, List.setIfInBounds_toArray, List.set_cons_zero, List.set_cons_succ]
  refine wpAnyH_ready (rs := [1]) (by kernel_rfl) (by simp) ?_
  refine AllReadyH.cons (o := { dst := some 4, op := Go.Op.call { callee := Go.Callee.value (Go.Operand.func 59), args := #[Go.Operand.tmp 3], argTypes := #[51] }, type := 39, pos := "part.go:87", after := #[{ on := 0, ground := Go.Ground.data }], guard := none }) rfl (fun K hK => ?_) ?_
  rotate_left
  exact AllReadyH.nil
  go_simp
  (go_at_call 59; (with_reducible refine (CS.out _).mono ?_); rintro e wa ⟨t, rfl, hr⟩)
  try go_wp2_with fail
  obtain ⟨pp, cp, rfl, -, -, hby, hnn⟩ := hr.at2
  have Ha := kbT H0 hr.2
  refine hK.out _ _ ⟨HB1.out.trans (Ha.mono HB1.out.size), (Ha.block _ HLX.out).trans HGX.out⟩ (fun Sa => ?_)
  clear hK K
  try simp only [Act.put, List.setIfInBounds_toArray, List.set_cons_zero, List.set_cons_succ]
  refine wpAnyH_ready (rs := [3]) (by kernel_rfl) (by simp) ?_
  refine AllReadyH.cons (o := { dst := some 6, op := Go.Op.call { callee := Go.Callee.value (Go.Operand.func 46), args := #[Go.Operand.tmp 5], argTypes := #[51] }, type := 49, pos := "part.go:87", after := #[{ on := 2, ground := Go.Ground.data }, { on := 1, ground := Go.Ground.chain }], guard := none }) rfl (fun K hK => ?_) ?_
  rotate_left
  exact AllReadyH.nil
  go_simp
  (go_at_call 46; (with_reducible refine (CT.out _ (kbT HB1.out Ha)).mono ?_); rintro e wb ⟨rfl, hb⟩)
  try go_wp2_with fail
  have Hb := kbT Ha hb
  have hby := bytesAt_below hby hb
  refine hK.out _ _ ⟨HB1.out.trans (Hb.mono HB1.out.size), (Hb.block _ HLX.out).trans HGX.out⟩ (fun Sb => ?_)
  clear hK K
  try simp only [Act.put, List.setIfInBounds_toArray, List.set_cons_zero, List.set_cons_succ]
  refine wpAnyH_ready (rs := [4]) (by kernel_rfl) (by simp) ?_
  refine AllReadyH.cons (o := { dst := some 7, op := Go.Op.call { callee := Go.Callee.value (Go.Operand.func 52), args := #[Go.Operand.tmp 6], argTypes := #[49] }, type := 39, pos := "part.go:87", after := #[{ on := 3, ground := Go.Ground.data }, { on := 3, ground := Go.Ground.chain }], guard := none }) rfl (fun K hK => ?_) ?_
  rotate_left
  exact AllReadyH.nil
  go_simp
  (go_at_call 52; (with_reducible refine (C4.out _).mono ?_); rintro e wc ⟨t2, rfl, hr2⟩)
  try go_wp2_with fail
  obtain ⟨p2, c2, rfl, -, -, hby2, hnn2⟩ := hr2.at2
  have Hc := kbT Hb hr2.2
  have hby := bytesAt_below hby hr2.2
  refine hK.out _ _ ⟨HB1.out.trans (Hc.mono HB1.out.size), (Hc.block _ HLX.out).trans HGX.out⟩ (fun Sc => ?_)
  clear hK K
  try simp only [Act.put, List.setIfInBounds_toArray, List.set_cons_zero, List.set_cons_succ]
  refine wpAnyH_ready (rs := [5]) (by kernel_rfl) (by simp) ?_
  refine AllReadyH.cons (o := { dst := some 8, op := Go.Op.buildSlice 115 2 #[(0, Go.Operand.tmp 4), (1, Go.Operand.tmp 7)], type := 115, pos := "part.go:87", after := #[{ on := 1, ground := Go.Ground.data }, { on := 4, ground := Go.Ground.data }], guard := none }) rfl (fun K hK => ?_) ?_
  rotate_left
  exact AllReadyH.nil
  go_simp
  obtain ⟨we, hwe⟩ : ∃ we, wc.alloc (.cells #[.slice pp lb.length cp, .slice p2 lf.length c2] 39) = we := ⟨_, rfl⟩
  have hbe : Below wc.heap.size wc we := by subst hwe; exact (Below.refl _ _).alloc (Nat.le_refl _) _
  have He := kbT Hc hbe
  rw [hwe]
  refine hK.out _ _ ⟨HB1.out.trans (He.mono HB1.out.size), (He.block _ HLX.out).trans HGX.out⟩ (fun Se => ?_)
  clear hK K
  try simp only [Act.put, List.setIfInBounds_toArray, List.set_cons_zero, List.set_cons_succ]
  refine wpAnyH_ready (rs := [6]) (by kernel_rfl) (by simp) ?_
  refine AllReadyH.cons (o := { dst := some 9, op := Go.Op.call { callee := Go.Callee.value (Go.Operand.func 54), args := #[Go.Operand.tmp 8], argTypes := #[115] }, type := 84, pos := "part.go:87", after := #[{ on := 5, ground := Go.Ground.data }, { on := 4, ground := Go.Ground.chain }], guard := none }) rfl (fun K hK => ?_) ?_
  rotate_left
  exact AllReadyH.nil
  go_simp
  have c54 := FT.out pp p2 cp c2 wc hby hby2 hnn hnn2
  rw [hwe] at c54
  (go_at_call 54; (with_reducible refine c54.mono ?_); rintro e wf ⟨rfl, hf⟩)
  try go_wp2_with fail
  have Hf := kbT Hc hf
  have HG2 := (Hf.block _ HLT.out).trans HGT.out
  refine hK.out _ _ ⟨HB1.out.trans (Hf.mono HB1.out.size), (Hf.block _ HLX.out).trans HGX.out⟩ (fun Sf => ?_)
  clear hK K
  try simp only [Act.put, List.setIfInBounds_toArray, List.set_cons_zero, List.set_cons_succ]
  refine wpAnyH_ready (rs := [7]) (by kernel_rfl) (by simp) ?_
  refine AllReadyH.cons (o := { dst := none, op := Go.Op.store 84 (Go.Operand.tmp 2) (Go.Operand.tmp 9), type := 0, pos := "part.go:87", after := #[{ on := 6, ground := Go.Ground.data }, { on := 6, ground := Go.Ground.chain }, { on := 0, ground := Go.Ground.phase }, { on := 1, ground := Go.Ground.phase }, { on := 2, ground := Go.Ground.phase }, { on := 3, ground := Go.Ground.phase }, { on := 4, ground := Go.Ground.phase }, { on := 5, ground := Go.Ground.phase }, { on := 6, ground := Go.Ground.phase }], guard := none }) rfl (fun K hK => ?_) ?_
  rotate_left
  exact AllReadyH.nil
  refine step_store_row rfl 84 (.tmp 2) (.tmp 9) rfl (w.heap.size + 1) (secA ls) rfl rfl 84 zs64 HG2 (by rw [secA_size, HSL.out]; kernel_rfl) (by rw [secA_size, HSL.out]; rfl) (secA_one _) ?_
  refine hK.out _ _ ⟨below_setRow Sf.1 (Nat.le_succ _) _, (setRow_other _ _ _ _ (by omega)).trans Sf.2⟩ (fun Sg => ?_)
  clear hK K
  try simp only [Act.put, List.setIfInBounds_toArray, List.set_cons_zero, List.set_cons_succ]
  refine wpAnyH_done (by kernel_rfl) ?_ _
  go_wp2_with fail
  exact bodyPost_ret (results_cell_row rfl _ _ _ _ _ _ _ rfl (setRow_heap _ _ _ _ _ _ HG2) Try.underlying84 rfl (by rw [secA_size, HSL.out]; kernel_rfl)) rfl ⟨rfl, Sg.1⟩
/-- Two lists of bytes, joined. -/
theorem concat_two (l m : List Nat) (p q : Option Addr) (c d : Nat) (w : World) (hs : l.length + m.length ≤ 100000) (hb : ∀ b ∈ l, b < 256) (hd : ∀ b ∈ m, b < 256) (hc : BytesAt w p l) (hq : BytesAt w q m) (n1 : p = none → c = 0) (n2 : q = none → d = 0) :
    Calls Try.prog 44 #[.slice (some ⟨w.heap.size, 0, none⟩) 2 2] (w.alloc (.cells #[.slice p l.length c, .slice q m.length d] 39)) fun r w' => ∃ t, r = .returned t ∧ RowB (w.alloc (.cells #[.slice p l.length c, .slice q m.length d] 39)) (l ++ m) t w' := by
  have e : flatL [(p, l, c), (q, m, d)] = l ++ m := by simp [flatL]
  have hB : Below w.heap.size w (w.alloc (.cells #[.slice p l.length c, .slice q m.length d] 39)) := (Below.refl _ _).alloc (Nat.le_refl _) _
  have h := concat_any [(p, l, c), (q, m, d)] (some ⟨w.heap.size, 0, none⟩) 2 (w.alloc (.cells #[.slice p l.length c, .slice q m.length d] 39)) (by simp)
    (Lib.hid (lists_two (by omega) (by omega) hb hd (by go_cell) (by go_cell) (bytesAt_below hc hB) (bytesAt_below hq hB)))
    (Lib.hid fun x hx => by
      simp only [List.mem_cons, List.not_mem_nil, or_false] at hx
      rcases hx with rfl | rfl
      · exact n1
      · exact n2) (by rw [e, List.length_append]; exact hs)
  rw [e] at h
  exact h
set_option maxRecDepth 100000 in
set_option maxHeartbeats 4000000 in
theorem encode_ok (E i p : Nat) (cm : Bool) (n k : Nat) (hE : E < 2 ^ 64) (hi : i < 4294967296) (hp : p < 4294967296) (hn : n < 4294967296) (hk : k < 4294967296) (q : Option Addr) (cap : Nat) (bs : List Nat) (hbl : bs.length = 512) (hbb : ∀ b ∈ bs, b < 256) (w : World) (hbs : BytesAt w q bs) (hnn : q = none → cap = 0) (hok : frameOk i p cm n 512 = true) :
    Calls Try.prog 23 #[.agg #[.int .u64 E, .int .i64 i, .int .i64 p, .bool cm, .int .i64 n, .int .u32 k, .slice q 512 cap]] w fun r w' => ∃ t, r = .returned (.tuple #[t, .int .i64 0]) ∧ RowB w (frameL E i p cm n k bs) t w' := by
  have CC := Lib.hid (checkFrame_any E i p cm n k q 512 cap)
  rw [if_pos hok] at CC
  unfold frameV at CC
  have CH := Lib.hid fun (w' : World) (h : Below w.heap.size w w') => frameSector_any E i p cm n k hE hi hp hn hk q cap bs hbl hbb w' (bytesAt_below hbs h)
  have HSL := Lib.hid (frameS_length E i p cm n k bs)
  have hsb := frameS_byte E i p cm n k bs
  have hfl : frameL E i p cm n k bs = frameS E i p cm n k bs ++ bs := rfl
  have HBS := Lib.hid fun (w' : World) (h : Below w.heap.size w w') => bytesAt_below hbs h
  generalize frameL E i p cm n k bs = fl at *
  generalize frameS E i p cm n k bs = ls at *
  have KT := Lib.hid fun p c (w : World) h1 h2 h3 => concat_two ls bs p q c cap w (by have := HSL.out; omega) hsb hbb h1 h2 h3 hnn
  rw [← hfl, HSL.out, hbl] at KT
  clear hok hsb hfl hE hi hp hn hk hbl hbb hbs hnn
  go_enter Try.func23, Try.ntmps23
  go_upto_region 1 with fail
  obtain ⟨w1, hw1⟩ : ∃ w1, w.alloc (.cells #[.int .u64 E, .int .i64 i, .int .i64 p, .bool cm, .int .i64 n, .int .u32 k, .slice q 512 cap] 51) = w1 := ⟨_, rfl⟩
  have HB1 : Hid (Below w.heap.size w w1) := Lib.hid (by subst hw1; exact (Below.refl _ _).alloc (Nat.le_refl _) _)
  have HCL : Hid (∀ w', Below w1.heap.size w1 w' → w'.cell? ⟨w.heap.size, 0, none⟩ = some (.int .u64 E) ∧ w'.cell? ⟨w.heap.size, 1, none⟩ = some (.int .i64 i) ∧ w'.cell? ⟨w.heap.size, 2, none⟩ = some (.int .i64 p) ∧ w'.cell? ⟨w.heap.size, 3, none⟩ = some (.bool cm) ∧ w'.cell? ⟨w.heap.size, 4, none⟩ = some (.int .i64 n) ∧ w'.cell? ⟨w.heap.size, 5, none⟩ = some (.int .u32 k) ∧ w'.cell? ⟨w.heap.size, 6, none⟩ = some (.slice q 512 cap)) := Lib.hid fun w' h => by
    have k0 : w1.cell? ⟨w.heap.size, 0, none⟩ = some (.int .u64 E) := by subst hw1; go_cell
    have k1 : w1.cell? ⟨w.heap.size, 1, none⟩ = some (.int .i64 i) := by subst hw1; go_cell
    have k2 : w1.cell? ⟨w.heap.size, 2, none⟩ = some (.int .i64 p) := by subst hw1; go_cell
    have k3 : w1.cell? ⟨w.heap.size, 3, none⟩ = some (.bool cm) := by subst hw1; go_cell
    have k4 : w1.cell? ⟨w.heap.size, 4, none⟩ = some (.int .i64 n) := by subst hw1; go_cell
    have k5 : w1.cell? ⟨w.heap.size, 5, none⟩ = some (.int .u32 k) := by subst hw1; go_cell
    have k6 : w1.cell? ⟨w.heap.size, 6, none⟩ = some (.slice q 512 cap) := by subst hw1; go_cell
    exact ⟨(h.cell (lt_of_cell_some k0)).trans k0, (h.cell (lt_of_cell_some k1)).trans k1, (h.cell (lt_of_cell_some k2)).trans k2, (h.cell (lt_of_cell_some k3)).trans k3, (h.cell (lt_of_cell_some k4)).trans k4, (h.cell (lt_of_cell_some k5)).trans k5, (h.cell (lt_of_cell_some k6)).trans k6⟩
  obtain ⟨k0, k1, k2, k3, k4, k5, k6⟩ := HCL.out _ (Below.refl _ _)
  rw [hw1]
  clear hw1
  go_upto_region 5 with (first
    | (go_at_call 42; (with_reducible refine (CC.out _).mono ?_); rintro e wb ⟨rfl, hb⟩; have HBB := Lib.hid hb; obtain ⟨k0, k1, k2, k3, k4, k5, k6⟩ := HCL.out _ hb; clear hb)
    | (go_at_call 43; (with_reducible refine (CH.out _ (kbT HB1.out HBB.out)).mono ?_); rintro e wc ⟨rfl, hb⟩; have HBC := Lib.hid (kbT HBB.out hb); clear hb)
    | (refine wpList_store_row rfl 84 _ _ rfl wc.heap.size (secA ls) rfl rfl 84 _ (heap_alloc_last wc _) (by rw [secA_size, HSL.out]; kernel_rfl) (by rw [secA_size, HSL.out]; rfl) (secA_one _) ?_; rw [World.setRow_alloc_new]))
  obtain ⟨wz, hwz⟩ : ∃ wz, wc.alloc (.cells (secA ls) 84) = wz := ⟨_, rfl⟩
  have HZ : Hid (Below w1.heap.size w1 wz) := Lib.hid (by subst hwz; exact HBC.out.alloc HBC.out.size _)
  have HBY : Hid (BytesAt wz (some ⟨wc.heap.size, 0, none⟩) ls) := Lib.hid (by subst hwz; exact bytes_sec wc ls 84)
  rw [hwz]
  clear hwz k0 k1 k2 k3 k4 k5 k6
  refine wp_region_held_drew (S := fun w' => Below wz.heap.size wz w') (by kernel_rfl) ((Below.refl _ _).drew) (fun H0 => ?_)
  obtain ⟨wd, hwd⟩ : ∃ wd, wz.drew = wd := ⟨_, rfl⟩
  rw [hwd] at H0 ⊢
  clear hwd
  refine wpAnyH_take (i := 0) (oi := { dst := some 13, op := Go.Op.slice 84 (Go.Operand.tmp 5) none none none, type := 39, pos := "frame.go:71", after := #[], guard := none }) (v := ?_) rfl (by kernel_rfl) (by kernel_rfl) (by kernel_rfl) (fun _ _ _ h => h) (Or.inl ⟨by rfl, ?_⟩) H0 ?_
  rotate_left
  focus (intro w' hSw; (try dsimp only at hSw); go_simp; (try with_reducible rfl))
  simp only [Act.put, List.setIfInBounds_toArray, List.set_cons_zero, List.set_cons_succ]
  refine wpAnyH_take (i := 1) (oi := { dst := some 14, op := Go.Op.fieldAddr 51 (Go.Operand.tmp 1) 6, type := 0, pos := "frame.go:71", after := #[], guard := none }) (v := ?_) rfl (by kernel_rfl) (by kernel_rfl) (by kernel_rfl) (fun _ _ _ h => h) (Or.inl ⟨by rfl, ?_⟩) H0 ?_
  rotate_left
  focus (intro w' hSw; (try dsimp only at hSw); go_simp; (try with_reducible rfl))
  simp only [Act.put, List.setIfInBounds_toArray, List.set_cons_zero, List.set_cons_succ]
  refine wpAnyH_take (i := 2) (oi := { dst := some 15, op := Go.Op.load 39 (Go.Operand.tmp 14), type := 39, pos := "frame.go:71", after := #[{ on := 1, ground := Go.Ground.data }], guard := none }) (v := ?_) rfl (by kernel_rfl) (by kernel_rfl) (by kernel_rfl) (fun _ _ _ h => h) (Or.inl ⟨by rfl, ?_⟩) H0 ?_
  rotate_left
  focus (intro w' hSw; (try dsimp only at hSw); obtain ⟨k0, k1, k2, k3, k4, k5, k6⟩ := HCL.out _ (kbT HZ.out hSw); go_simp; (try with_reducible rfl))
  simp only [Act.put, List.setIfInBounds_toArray, List.set_cons_zero, List.set_cons_succ]
  refine wpAnyH_ready (rs := [3]) (by kernel_rfl) (by simp) ?_
  refine AllReadyH.cons (o := { dst := some 16, op := Go.Op.buildSlice 115 2 #[(0, Go.Operand.tmp 13), (1, Go.Operand.tmp 15)], type := 115, pos := "frame.go:71", after := #[{ on := 0, ground := Go.Ground.data }, { on := 2, ground := Go.Ground.data }], guard := none }) rfl (fun K hK => ?_) ?_
  rotate_left
  exact AllReadyH.nil
  go_simp
  obtain ⟨wb, hwb⟩ : ∃ wb, wd.alloc (.cells #[.slice (some ⟨wc.heap.size, 0, none⟩) 64 64, .slice q 512 cap] 39) = wb := ⟨_, rfl⟩
  have hbw : Below wd.heap.size wd wb := by subst hwb; exact (Below.refl _ _).alloc (Nat.le_refl _) _
  rw [hwb]
  refine hK.out _ _ (kbT H0 hbw) (fun Hb => ?_)
  clear hK K
  try simp only [Act.put, List.setIfInBounds_toArray, List.set_cons_zero, List.set_cons_succ]
  refine wpAnyH_ready (rs := [4]) (by kernel_rfl) (by simp) ?_
  refine AllReadyH.cons (o := { dst := some 17, op := Go.Op.call { callee := Go.Callee.value (Go.Operand.func 44), args := #[Go.Operand.tmp 16], argTypes := #[115] }, type := 39, pos := "frame.go:71", after := #[{ on := 3, ground := Go.Ground.data }], guard := none }) rfl (fun K hK => ?_) ?_
  rotate_left
  exact AllReadyH.nil
  go_simp
  have c44 := KT.out (some ⟨wc.heap.size, 0, none⟩) 64 wd (bytesAt_below HBY.out H0) (HBS.out _ (kbT HB1.out (kbT HZ.out H0))) (fun h => nomatch h)
  rw [hwb] at c44
  (go_at_call 44; (with_reducible refine c44.mono ?_); rintro e we ⟨t, rfl, hr⟩)
  try go_wp2_with fail
  have hbe := kbT hbw (show Below wb.heap.size wb we from hr.2)
  refine hK.out _ _ (kbT H0 hbe) (fun He => ?_)
  clear hK K
  try simp only [Act.put, List.setIfInBounds_toArray, List.set_cons_zero, List.set_cons_succ]
  refine wpAnyH_take (i := 5) (oi := { dst := some 2, op := Go.Op.assign (Go.Operand.tmp 17), type := 39, pos := "frame.go:71", after := #[{ on := 4, ground := Go.Ground.data }, { on := 4, ground := Go.Ground.chain }, { on := 0, ground := Go.Ground.phase }, { on := 1, ground := Go.Ground.phase }, { on := 2, ground := Go.Ground.phase }, { on := 3, ground := Go.Ground.phase }, { on := 4, ground := Go.Ground.phase }], guard := none }) (v := ?_) rfl (by kernel_rfl) (by kernel_rfl) (by kernel_rfl) (fun _ _ _ h => h) (Or.inl ⟨by rfl, ?_⟩) He ?_
  rotate_left
  focus (intro w' hSw; (try dsimp only at hSw); go_simp; (try with_reducible rfl))
  simp only [Act.put, List.setIfInBounds_toArray, List.set_cons_zero, List.set_cons_succ]
  refine wpAnyH_take (i := 6) (oi := { dst := some 3, op := Go.Op.assign (Go.Operand.const (Go.Value.int Go.IntKind.i64 0)), type := 24, pos := "frame.go:71", after := #[{ on := 5, ground := Go.Ground.chain }, { on := 0, ground := Go.Ground.phase }, { on := 1, ground := Go.Ground.phase }, { on := 2, ground := Go.Ground.phase }, { on := 3, ground := Go.Ground.phase }, { on := 4, ground := Go.Ground.phase }, { on := 5, ground := Go.Ground.phase }], guard := none }) (v := ?_) rfl (by kernel_rfl) (by kernel_rfl) (by kernel_rfl) (fun _ _ _ h => h) (Or.inl ⟨by rfl, ?_⟩) He ?_
  rotate_left
  focus (intro w' hSw; (try dsimp only at hSw); go_simp; (try with_reducible rfl))
  simp only [Act.put, List.setIfInBounds_toArray, List.set_cons_zero, List.set_cons_succ]
  refine wpAnyH_done (by kernel_rfl) ?_ _
  go_wp2_with fail
  go_ret2
  exact ⟨_, rfl, hr.grow (kbT HB1.out (kbT HZ.out (kbT H0 hbw)))⟩
end Go.Proofs.Ythnllhfdbnnjhaa
