/- Parts: C2 C3 C4. -/
import Derived.Test.YthbnochlpnikaaaMC1
namespace Go.Proofs.Ythbnochlpnikaaa
open Go.RowKit Go.Shelf

set_option maxRecDepth 100000 in
set_option maxHeartbeats 4000000 in
theorem act_write0 {Rep : DiskRep} (S : DiskOk Rep) {w : World} {d : Value} {s : DS} {F : Nat → Prop} {p : Option Addr} {c : Nat} {q : Option Addr} {dd : Nat} {x : ActS} (hw0 : x.what = 0) (hP : PairOk Rep w d s F p c q dd) (hW : Whole s) (hf : Few s) (hl : s.left ≤ 9223372036854775807) (hx : ActIn w F x) :
    Calls Try.prog 9 #[d, refV s p c q dd, actV x] w (ActPost Rep F p q (writeS s x.place (strOf (bytesA x))).1 w) := by
  have hl2 := hW.left
  have hbl := bytesA_few x
  have hbb := bytesA_byte hx.byte
  have HBL := Lib.hid hbl
  have HBB := Lib.hid hbb
  have C22 := Lib.hid (actBytes_any x hx.byte)
  simp only [actV] at C22
  rw [hw0] at C22
  obtain ⟨l, hll⟩ : ∃ l, bytesA x = l := ⟨_, rfl⟩
  rw [hll] at hbl hbb HBL HBB C22 ⊢
  clear hll hbl hbb
  have HP := Lib.hid hP
  have HW := Lib.hid hW
  have HF := Lib.hid hf
  have HX := Lib.hid hx
  have NM := Lib.hid num_any
  have hlow := S.low _ _ _ _ hP.rep
  have LOW := Lib.hid hlow
  obtain ⟨wA, hwA⟩ : ∃ wA, (((w.alloc (.cells #[.int .i64 s.many, .slice p s.sync.length c, .slice q s.loose.length dd, .int .i64 s.left] 35)).alloc (.cells #[.int .i64 0, .int .i64 x.place, .int .i64 x.n, .int .u8 x.byte, .slice x.kp x.keep.length x.kc] 25)).alloc (.cells #[.int .i64 0, .slice none 0 0, .slice none 0 0, .int .i64 0] 35)).alloc (.cells #[.int .i64 s.many, .slice p s.sync.length c, .slice q s.loose.length dd, .int .i64 s.left] 35) = wA := ⟨_, rfl⟩
  have BA : Below w.heap.size w wA := by subst hwA; exact ((((Below.refl _ _).alloc (Nat.le_refl _) _).alloc (by simp) _).alloc (by simp; omega) _).alloc (by simp; omega) _
  have SA : wA.heap.size = w.heap.size + 4 := by subst hwA; simp
  have rV : wA.heap[w.heap.size]? = some (.cells #[.int .i64 s.many, .slice p s.sync.length c, .slice q s.loose.length dd, .int .i64 s.left] 35 (0, 0)) := by
    rw [← hwA]
    exact (Below.heap_alloc _ _ _ (by simp <;> omega)).trans ((Below.heap_alloc _ _ _ (by simp <;> omega)).trans ((Below.heap_alloc _ _ _ (by simp <;> omega)).trans (World.alloc_heap_new w _)))
  have rX : wA.heap[w.heap.size + 1]? = some (.cells #[.int .i64 0, .int .i64 x.place, .int .i64 x.n, .int .u8 x.byte, .slice x.kp x.keep.length x.kc] 25 (0, 0)) := by
    rw [← hwA]
    have e := World.alloc_heap_new (w.alloc (.cells #[.int .i64 s.many, .slice p s.sync.length c, .slice q s.loose.length dd, .int .i64 s.left] 35)) (.cells #[.int .i64 0, .int .i64 x.place, .int .i64 x.n, .int .u8 x.byte, .slice x.kp x.keep.length x.kc] 25)
    rw [World.size_alloc] at e
    exact (Below.heap_alloc _ _ _ (by simp <;> omega)).trans ((Below.heap_alloc _ _ _ (by simp <;> omega)).trans e)
  have rR : wA.heap[w.heap.size + 1 + 1]? = some (.cells #[.int .i64 0, .slice none 0 0, .slice none 0 0, .int .i64 0] 35 (0, 0)) := by
    rw [← hwA]
    have e := World.alloc_heap_new ((w.alloc (.cells #[.int .i64 s.many, .slice p s.sync.length c, .slice q s.loose.length dd, .int .i64 s.left] 35)).alloc (.cells #[.int .i64 0, .int .i64 x.place, .int .i64 x.n, .int .u8 x.byte, .slice x.kp x.keep.length x.kc] 25)) (.cells #[.int .i64 0, .slice none 0 0, .slice none 0 0, .int .i64 0] 35)
    rw [World.size_alloc, World.size_alloc] at e
    exact (Below.heap_alloc _ _ _ (by simp <;> omega)).trans e
  have rO : wA.heap[w.heap.size + 1 + 1 + 1]? = some (.cells #[.int .i64 s.many, .slice p s.sync.length c, .slice q s.loose.length dd, .int .i64 s.left] 35 (0, 0)) := by
    rw [← hwA]
    have e := World.alloc_heap_new (((w.alloc (.cells #[.int .i64 s.many, .slice p s.sync.length c, .slice q s.loose.length dd, .int .i64 s.left] 35)).alloc (.cells #[.int .i64 0, .int .i64 x.place, .int .i64 x.n, .int .u8 x.byte, .slice x.kp x.keep.length x.kc] 25)).alloc (.cells #[.int .i64 0, .slice none 0 0, .slice none 0 0, .int .i64 0] 35)) (.cells #[.int .i64 s.many, .slice p s.sync.length c, .slice q s.loose.length dd, .int .i64 s.left] 35)
    rw [World.size_alloc, World.size_alloc, World.size_alloc] at e
    exact e
  have apr : ∀ k, w.heap.size ≤ k → k < w.heap.size + 4 → ∀ w', Apart F wA w' → w'.heap[k]? = wA.heap[k]? := fun k h1 h2 w' h => h.block k (by omega) (fun f => by have := LOW.out k f; omega)
  have KV : Hid (∀ w', Apart F wA w' → w'.heap[w.heap.size]? = some (.cells #[.int .i64 s.many, .slice p s.sync.length c, .slice q s.loose.length dd, .int .i64 s.left] 35 (0, 0))) := Lib.hid fun w' h => (apr _ (by omega) (by omega) w' h).trans rV
  have KX : Hid (∀ w', Apart F wA w' → w'.heap[w.heap.size + 1]? = some (.cells #[.int .i64 0, .int .i64 x.place, .int .i64 x.n, .int .u8 x.byte, .slice x.kp x.keep.length x.kc] 25 (0, 0))) := Lib.hid fun w' h => (apr _ (by omega) (by omega) w' h).trans rX
  have KR : Hid (∀ w', Apart F wA w' → w'.heap[w.heap.size + 1 + 1]? = some (.cells #[.int .i64 0, .slice none 0 0, .slice none 0 0, .int .i64 0] 35 (0, 0))) := Lib.hid fun w' h => (apr _ (by omega) (by omega) w' h).trans rR
  have KO : Hid (∀ w', Apart F wA w' → w'.heap[w.heap.size + 1 + 1 + 1]? = some (.cells #[.int .i64 s.many, .slice p s.sync.length c, .slice q s.loose.length dd, .int .i64 s.left] 35 (0, 0))) := Lib.hid fun w' h => (apr _ (by omega) (by omega) w' h).trans rO
  have RA := Lib.hid (S.keep _ _ _ _ _ hP.rep BA.size (fun k hk => BA.block k (hlow k hk)))
  have AA : Hid (Apart F w wA) := Lib.hid (Below.apart BA F)
  have hA4 := Lib.hid (Nat.le_of_eq SA.symm)
  have HSA := Lib.hid SA
  unfold refV actV
  rw [hw0]
  clear hw0
  clear hP hW hf hx hlow rV rX rR rO apr BA SA
  go_enter Try.func9, Try.ntmps9
  go_upto_region 2 with fail
  try rw [hwA]
  clear hwA
  have hr0 := KX.out _ (Below.apart (Below.refl wA.heap.size wA) F)
  have c0 := row_at (i := 0) hr0 rfl
  go_upto_region 7 with fail
  clear c0 hr0
  refine wp_region_held_drew (S := fun w' => Apart F wA w') (by kernel_rfl) (Below.apart ((Below.refl _ _).drew) F) (fun H0 => ?_)
  refine wpAnyH_take (i := 0) (oi := { dst := some 26, op := Go.Op.move (Go.Operand.tmp 0), type := 29, pos := "law.go:55", after := #[], guard := none }) (v := ?_) rfl (by kernel_rfl) (by kernel_rfl) (by kernel_rfl) (fun _ _ _ h => h) (Or.inl ⟨by rfl, ?_⟩) H0 ?_
  rotate_left
  focus (intro w' hSw; (try dsimp only at hSw); go_simp; (try with_reducible rfl))
  simp only [Act.put, List.setIfInBounds_toArray, List.set_cons_zero, List.set_cons_succ]
  refine wpAnyH_take (i := 1) (oi := { dst := some 27, op := Go.Op.fieldAddr 25 (Go.Operand.tmp 5) 1, type := 0, pos := "law.go:55", after := #[], guard := none }) (v := ?_) rfl (by kernel_rfl) (by kernel_rfl) (by kernel_rfl) (fun _ _ _ h => h) (Or.inl ⟨by rfl, ?_⟩) H0 ?_
  rotate_left
  focus (intro w' hSw; (try dsimp only at hSw); go_simp; (try with_reducible rfl))
  simp only [Act.put, List.setIfInBounds_toArray, List.set_cons_zero, List.set_cons_succ]
  refine wpAnyH_take (i := 2) (oi := { dst := some 28, op := Go.Op.load 3 (Go.Operand.tmp 27), type := 3, pos := "law.go:55", after := #[{ on := 1, ground := Go.Ground.data }], guard := none }) (v := ?_) rfl (by kernel_rfl) (by kernel_rfl) (by kernel_rfl) (fun _ _ _ h => h) (Or.inl ⟨by rfl, ?_⟩) H0 ?_
  rotate_left
  focus (intro w' hSw; (try dsimp only at hSw); have hr := KX.out _ hSw; have c0 := row_at (i := 0) hr rfl; have c1 := row_at (i := 1) hr rfl; have c2 := row_at (i := 2) hr rfl; have c3 := row_at (i := 3) hr rfl; have c4 := row_at (i := 4) hr rfl; go_simp; (try with_reducible rfl))
  simp only [Act.put, List.setIfInBounds_toArray, List.set_cons_zero, List.set_cons_succ]
  refine wpAnyH_take (i := 3) (oi := { dst := some 29, op := Go.Op.load 25 (Go.Operand.tmp 5), type := 25, pos := "law.go:55", after := #[], guard := none }) (v := ?_) rfl (by kernel_rfl) (by kernel_rfl) (by kernel_rfl) (fun _ _ _ h => h) (Or.inl ⟨by rfl, ?_⟩) H0 ?_
  rotate_left
  focus (intro w' hSw; (try dsimp only at hSw); have hr := KX.out _ hSw; have c0 := row_at (i := 0) hr rfl; have c1 := row_at (i := 1) hr rfl; have c2 := row_at (i := 2) hr rfl; have c3 := row_at (i := 3) hr rfl; have c4 := row_at (i := 4) hr rfl; go_simp; (try with_reducible rfl))
  simp only [Act.put, List.setIfInBounds_toArray, List.set_cons_zero, List.set_cons_succ]
  refine wpAnyH_ready (rs := [4]) (by kernel_rfl) (by simp) ?_
  refine AllReadyH.cons (o := { dst := some 30, op := Go.Op.call { callee := Go.Callee.value (Go.Operand.func 22), args := #[Go.Operand.tmp 29], argTypes := #[25] }, type := 47, pos := "law.go:55", after := #[{ on := 3, ground := Go.Ground.data }], guard := none }) rfl (fun K hK => ?_) ?_
  rotate_left
  exact AllReadyH.nil
  go_simp
  (go_at_call 22; (with_reducible refine (C22.out _).mono ?_); rintro e wa ⟨t, rfl, hrb⟩; have hbA := hrb.2; obtain ⟨pb, cb, rfl, hb1, hb2, hb3, hb4⟩ := hrb.at'; have hnil := rowB_nil hrb)
  try go_wp2_with fail
  refine hK.out _ _ (H0.thn (Below.apart hbA F)) (fun H1 => ?_)
  clear hK K
  try simp only [Act.put, List.setIfInBounds_toArray, List.set_cons_zero, List.set_cons_succ]
  have hsa : wA.heap.size ≤ wa.heap.size := H1.size
  have Ra : Rep wa d s F := S.keep _ _ _ _ _ RA.out hsa (fun k hk => hbA.block k (S.low _ _ _ _ RA.out k hk))
  have hin : BytesIn wa F pb l cb := ⟨hb3, HBB.out, fun e => hnil e, ⟨hb1, by unfold maxLen at hb2; omega⟩, fun _ B off e f => by have h1 := hb4 _ e; have h2 := LOW.out B f; have h3 := HSA.out; simp only at h1; have h4 := (Below.refl wA.heap.size wA).drew.size; omega⟩
  refine wpAnyH_ready (rs := [5]) (by kernel_rfl) (by simp) ?_
  refine AllReadyH.cons (o := { dst := some 31, op := Go.Op.call { callee := Go.Callee.value (Go.Operand.func 15), args := #[Go.Operand.tmp 26, Go.Operand.tmp 28, Go.Operand.tmp 30], argTypes := #[29, 3, 47] }, type := 30, pos := "law.go:55", after := #[{ on := 0, ground := Go.Ground.data }, { on := 2, ground := Go.Ground.data }, { on := 4, ground := Go.Ground.data }, { on := 4, ground := Go.Ground.chain }], guard := none }) rfl (fun K hK => ?_) ?_
  rotate_left
  exact AllReadyH.nil
  go_simp
  (go_at_call 15; (with_reducible refine (S.write _ _ _ _ _ _ _ _ Ra HW.out HF.out (by have := HBL.out; omega) hin).mono ?_); rintro e wb ⟨rfl, hg⟩; obtain ⟨F', hR', hF', hAp⟩ := hg)
  try go_wp2_with fail
  refine hK.out _ _ (H1.thn hAp) (fun H2 => ?_)
  clear hK K
  try simp only [Act.put, List.setIfInBounds_toArray, List.set_cons_zero, List.set_cons_succ]
  refine wpAnyH_take (i := 6) (oi := { dst := some 11, op := Go.Op.assign (Go.Operand.tmp 31), type := 30, pos := "law.go:55", after := #[{ on := 5, ground := Go.Ground.data }, { on := 5, ground := Go.Ground.chain }, { on := 0, ground := Go.Ground.phase }, { on := 1, ground := Go.Ground.phase }, { on := 2, ground := Go.Ground.phase }, { on := 3, ground := Go.Ground.phase }, { on := 4, ground := Go.Ground.phase }, { on := 5, ground := Go.Ground.phase }], guard := none }) (v := ?_) rfl (by kernel_rfl) (by kernel_rfl) (by kernel_rfl) (fun _ _ _ h => h) (Or.inl ⟨by rfl, ?_⟩) H2 ?_
  rotate_left
  focus (intro w' hSw; (try dsimp only at hSw); go_simp; (try with_reducible rfl))
  simp only [Act.put, List.setIfInBounds_toArray, List.set_cons_zero, List.set_cons_succ]
  refine wpAnyH_done (by kernel_rfl) ?_ _
  have HG := Lib.hid (And.intro hR' (And.intro hF' hAp))
  have HH2 := Lib.hid H2
  have HH1 := Lib.hid H1
  have hsb : w.heap.size + 4 ≤ wb.heap.size := by have := hA4.out; have := H2.size; omega
  have HSB := Lib.hid hsb
  have KV8 : Hid (∀ w', ButK (w.heap.size + 1 + 1 + 1) wb w' → w'.heap[w.heap.size]? = some (.cells #[.int .i64 s.many, .slice p s.sync.length c, .slice q s.loose.length dd, .int .i64 s.left] 35 (0, 0))) := Lib.hid fun w' h => (h.block _ (by omega) (by omega)).trans (KV.out _ HH2.out)
  have KX8 : Hid (∀ w', ButK (w.heap.size + 1 + 1 + 1) wb w' → w'.heap[w.heap.size + 1]? = some (.cells #[.int .i64 0, .int .i64 x.place, .int .i64 x.n, .int .u8 x.byte, .slice x.kp x.keep.length x.kc] 25 (0, 0))) := Lib.hid fun w' h => (h.block _ (by omega) (by omega)).trans (KX.out _ HH2.out)
  have RB : Hid (∀ w', Below wb.heap.size wb w' → RefAt w' s p c q dd) := Lib.hid fun w' h => HP.out.ref.asIs (fun B off e => by
    have h1 := HP.out.pq B off e
    have h2 := (AA.out.thn HH2.out).block B h1.2 h1.1
    exact (h.block B (by omega)).trans h2)
  clear hR' hF' hAp H2 H1 hsb
  go_upto_region 8 with fail
  refine wp_region_held_drew (S := fun w' => ButK (w.heap.size + 1 + 1 + 1) wb w') (by kernel_rfl) (.of ((Below.refl _ _).drew)) (fun G0 => ?_)
  refine wpAnyH_take (i := 0) (oi := { dst := some 33, op := Go.Op.load 35 (Go.Operand.tmp 4), type := 35, pos := "law.go:56", after := #[], guard := none }) (v := ?_) rfl (by kernel_rfl) (by kernel_rfl) (by kernel_rfl) (fun _ _ _ h => h) (Or.inl ⟨by rfl, ?_⟩) G0 ?_
  rotate_left
  focus (intro w' hSw; (try dsimp only at hSw); have hr := KV8.out _ hSw; have c0 := row_at (i := 0) hr rfl; have c1 := row_at (i := 1) hr rfl; have c2 := row_at (i := 2) hr rfl; have c3 := row_at (i := 3) hr rfl; go_simp; (try with_reducible rfl))
  simp only [Act.put, List.setIfInBounds_toArray, List.set_cons_zero, List.set_cons_succ]
  refine wpAnyH_take (i := 1) (oi := { dst := some 34, op := Go.Op.fieldAddr 25 (Go.Operand.tmp 5) 1, type := 0, pos := "law.go:56", after := #[], guard := none }) (v := ?_) rfl (by kernel_rfl) (by kernel_rfl) (by kernel_rfl) (fun _ _ _ h => h) (Or.inl ⟨by rfl, ?_⟩) G0 ?_
  rotate_left
  focus (intro w' hSw; (try dsimp only at hSw); go_simp; (try with_reducible rfl))
  simp only [Act.put, List.setIfInBounds_toArray, List.set_cons_zero, List.set_cons_succ]
  refine wpAnyH_take (i := 2) (oi := { dst := some 35, op := Go.Op.load 3 (Go.Operand.tmp 34), type := 3, pos := "law.go:56", after := #[{ on := 1, ground := Go.Ground.data }], guard := none }) (v := ?_) rfl (by kernel_rfl) (by kernel_rfl) (by kernel_rfl) (fun _ _ _ h => h) (Or.inl ⟨by rfl, ?_⟩) G0 ?_
  rotate_left
  focus (intro w' hSw; (try dsimp only at hSw); have hr := KX8.out _ hSw; have c0 := row_at (i := 0) hr rfl; have c1 := row_at (i := 1) hr rfl; have c2 := row_at (i := 2) hr rfl; have c3 := row_at (i := 3) hr rfl; have c4 := row_at (i := 4) hr rfl; go_simp; (try with_reducible rfl))
  simp only [Act.put, List.setIfInBounds_toArray, List.set_cons_zero, List.set_cons_succ]
  refine wpAnyH_take (i := 3) (oi := { dst := some 36, op := Go.Op.load 25 (Go.Operand.tmp 5), type := 25, pos := "law.go:56", after := #[], guard := none }) (v := ?_) rfl (by kernel_rfl) (by kernel_rfl) (by kernel_rfl) (fun _ _ _ h => h) (Or.inl ⟨by rfl, ?_⟩) G0 ?_
  rotate_left
  focus (intro w' hSw; (try dsimp only at hSw); have hr := KX8.out _ hSw; have c0 := row_at (i := 0) hr rfl; have c1 := row_at (i := 1) hr rfl; have c2 := row_at (i := 2) hr rfl; have c3 := row_at (i := 3) hr rfl; have c4 := row_at (i := 4) hr rfl; go_simp; (try with_reducible rfl))
  simp only [Act.put, List.setIfInBounds_toArray, List.set_cons_zero, List.set_cons_succ]
  refine wpAnyH_ready (rs := [4]) (by kernel_rfl) (by simp) ?_
  refine AllReadyH.cons (o := { dst := some 37, op := Go.Op.call { callee := Go.Callee.value (Go.Operand.func 22), args := #[Go.Operand.tmp 36], argTypes := #[25] }, type := 47, pos := "law.go:56", after := #[{ on := 3, ground := Go.Ground.data }], guard := none }) rfl (fun K hK => ?_) ?_
  rotate_left
  exact AllReadyH.nil
  go_simp
  (go_at_call 22; (with_reducible refine (C22.out _).mono ?_); rintro e wa2 ⟨t2, rfl, hrb2⟩; have hbB := hrb2.2; obtain ⟨pb2, cb2, rfl, -, -, hb3', hb4'⟩ := hrb2.at')
  try go_wp2_with fail
  refine hK.out _ _ (G0.trans (.of hbB)) (fun G1 => ?_)
  clear hK K
  try simp only [Act.put, List.setIfInBounds_toArray, List.set_cons_zero, List.set_cons_succ]
  have hbB2 : Below wb.heap.size wb wa2 := below_any ((Below.refl _ _).drew) hbB
  have HBB2 := Lib.hid hbB2
  have CVB : Hid (∀ w', ButK (w.heap.size + 1 + 1 + 1) wa2 w' → (convert 47 9 (.slice pb2 l.length cb2)).run Try.prog w' = .ok (.string (strOf l)) w') := Lib.hid fun w' h => conv_at w' pb2 cb2 l HBB.out (fun i hi => by
    obtain ⟨B, off, e, cc⟩ := hb3' i hi
    have h1 := hb4' _ e
    have h2 := (Below.refl wb.heap.size wb).drew.size
    have h3 := HSB.out
    exact ⟨B, off, e, (World.cell?_of_block (a := ⟨B, off + i, none⟩) (h.block B (lt_of_cell_some cc) (by simp only at h1; omega))).trans cc⟩)
  have RWr := Lib.hid (refWrite_any s p c q dd x.place (strOf l) wa2 (by rw [strOf_size]; have := HBL.out; omega) HF.out ⟨hl2, hl⟩ (Lib.hid (RB.out _ hbB2)))
  simp only [refV] at RWr
  refine wpAnyH_turn (S' := fun w' => ButK (w.heap.size + 1 + 1 + 1) wa2 w') (fun w' h => G1.trans h) _ _ _ _ ?_
  have G2 : ButK (w.heap.size + 1 + 1 + 1) wa2 wa2 := .of (Below.refl _ _)
  clear hb3' hb4' hbB hbB2
  refine wpAnyH_take (i := 5) (oi := { dst := some 38, op := Go.Op.convert 47 9 (Go.Operand.tmp 37), type := 9, pos := "law.go:56", after := #[{ on := 4, ground := Go.Ground.data }], guard := none }) (v := ?_) rfl (by kernel_rfl) (by kernel_rfl) (by kernel_rfl) (fun _ _ _ h => h) (Or.inl ⟨by rfl, ?_⟩) G2 ?_
  rotate_left
  focus (intro w' hSw; (try dsimp only at hSw); have hv := CVB.out _ hSw; go_simp; (try with_reducible rfl))
  simp only [Act.put, List.setIfInBounds_toArray, List.set_cons_zero, List.set_cons_succ]
  refine wpAnyH_ready (rs := [6]) (by kernel_rfl) (by simp) ?_
  refine AllReadyH.cons (o := { dst := some 39, op := Go.Op.call { callee := Go.Callee.value (Go.Operand.func 23), args := #[Go.Operand.tmp 33, Go.Operand.tmp 35, Go.Operand.tmp 38], argTypes := #[35, 3, 9] }, type := 67, pos := "law.go:56", after := #[{ on := 0, ground := Go.Ground.data }, { on := 2, ground := Go.Ground.data }, { on := 5, ground := Go.Ground.data }, { on := 4, ground := Go.Ground.chain }], guard := none }) rfl (fun K hK => ?_) ?_
  rotate_left
  exact AllReadyH.nil
  go_simp
  (go_at_call 23; (with_reducible refine RWr.out.mono ?_); rintro e wc ⟨p', c', q', d', rfl, hr', f1, f2, hby⟩; have HRP := Lib.hid (And.intro hr' (And.intro f1 (And.intro f2 hby))); clear hr' f1 f2)
  try go_wp2_with fail
  refine hK.out _ _ (G2.trans (.of hby)) (fun G3 => ?_)
  clear hK K
  try simp only [Act.put, List.setIfInBounds_toArray, List.set_cons_zero, List.set_cons_succ]
  refine wpAnyH_take (i := 7) (oi := { dst := some 32, op := Go.Op.move (Go.Operand.tmp 39), type := 67, pos := "law.go:56", after := #[{ on := 6, ground := Go.Ground.data }], guard := none }) (v := ?_) rfl (by kernel_rfl) (by kernel_rfl) (by kernel_rfl) (fun _ _ _ h => h) (Or.inl ⟨by rfl, ?_⟩) G3 ?_
  rotate_left
  focus (intro w' hSw; (try dsimp only at hSw); go_simp; (try with_reducible rfl))
  simp only [Act.put, List.setIfInBounds_toArray, List.set_cons_zero, List.set_cons_succ]
  refine wpAnyH_take (i := 8) (oi := { dst := some 40, op := Go.Op.extract (Go.Operand.tmp 32) 0, type := 35, pos := "law.go:56", after := #[{ on := 7, ground := Go.Ground.data }], guard := none }) (v := ?_) rfl (by kernel_rfl) (by kernel_rfl) (by kernel_rfl) (fun _ _ _ h => h) (Or.inl ⟨by rfl, ?_⟩) G3 ?_
  rotate_left
  focus (intro w' hSw; (try dsimp only at hSw); go_simp; (try with_reducible rfl))
  simp only [Act.put, List.setIfInBounds_toArray, List.set_cons_zero, List.set_cons_succ]
  refine wpAnyH_take (i := 9) (oi := { dst := some 41, op := Go.Op.extract (Go.Operand.tmp 32) 1, type := 3, pos := "law.go:56", after := #[{ on := 7, ground := Go.Ground.data }, { on := 10, ground := Go.Ground.gcOnly Go.Departure.lateStores }], guard := none }) (v := ?_) rfl (by kernel_rfl) (by kernel_rfl) (by kernel_rfl) (fun _ _ _ h => h) (Or.inl ⟨by rfl, ?_⟩) G3 ?_
  rotate_left
  focus (intro w' hSw; (try dsimp only at hSw); go_simp; (try with_reducible rfl))
  simp only [Act.put, List.setIfInBounds_toArray, List.set_cons_zero, List.set_cons_succ]
  have rOc := (HRP.out.2.2.2.block _ (by have := HSB.out; have := HBB2.out.size; omega)).trans ((HBB2.out.block _ (by have := HSB.out; omega)).trans (KO.out _ HH2.out))
  refine wpAnyH_ready (rs := [10]) (by kernel_rfl) (by simp) ?_
  refine AllReadyH.cons (o := { dst := none, op := Go.Op.store 35 (Go.Operand.tmp 9) (Go.Operand.tmp 40), type := 0, pos := "law.go:56", after := #[{ on := 8, ground := Go.Ground.data }, { on := 6, ground := Go.Ground.chain }, { on := 0, ground := Go.Ground.phase }, { on := 1, ground := Go.Ground.phase }, { on := 2, ground := Go.Ground.phase }, { on := 3, ground := Go.Ground.phase }, { on := 4, ground := Go.Ground.phase }, { on := 5, ground := Go.Ground.phase }, { on := 6, ground := Go.Ground.phase }, { on := 7, ground := Go.Ground.phase }, { on := 8, ground := Go.Ground.phase }, { on := 9, ground := Go.Ground.textOnly Go.Departure.lateStores }], guard := none }) rfl (fun K hK => ?_) ?_
  rotate_left
  exact AllReadyH.nil
  refine step_store_row rfl 35 (.tmp 9) (.tmp 40) rfl (w.heap.size + 1 + 1 + 1) #[.int .i64 (writeS s x.place (strOf l)).1.many, .slice p' (writeS s x.place (strOf l)).1.sync.length c', .slice q' (writeS s x.place (strOf l)).1.loose.length d', .int .i64 (writeS s x.place (strOf l)).1.left] rfl rfl 35 #[.int .i64 s.many, .slice p s.sync.length c, .slice q s.loose.length dd, .int .i64 s.left] rOc rfl rfl (by simp [Value.oneCell']) ?_
  have hrD := setRow_heap wc (w.heap.size + 1 + 1 + 1) #[.int .i64 s.many, .slice p s.sync.length c, .slice q s.loose.length dd, .int .i64 s.left] #[.int .i64 (writeS s x.place (strOf l)).1.many, .slice p' (writeS s x.place (strOf l)).1.sync.length c', .slice q' (writeS s x.place (strOf l)).1.loose.length d', .int .i64 (writeS s x.place (strOf l)).1.left] 35 (0, 0) rOc
  have hkD : ButK (w.heap.size + 1 + 1 + 1) wc (wc.setRow (w.heap.size + 1 + 1 + 1) #[.int .i64 (writeS s x.place (strOf l)).1.many, .slice p' (writeS s x.place (strOf l)).1.sync.length c', .slice q' (writeS s x.place (strOf l)).1.loose.length d', .int .i64 (writeS s x.place (strOf l)).1.left]) := ButK.row _ _
  have hsD : (wc.setRow (w.heap.size + 1 + 1 + 1) #[.int .i64 (writeS s x.place (strOf l)).1.many, .slice p' (writeS s x.place (strOf l)).1.sync.length c', .slice q' (writeS s x.place (strOf l)).1.loose.length d', .int .i64 (writeS s x.place (strOf l)).1.left]).heap.size = wc.heap.size := by simp
  obtain ⟨wD, hwD⟩ : ∃ wD, wc.setRow (w.heap.size + 1 + 1 + 1) #[.int .i64 (writeS s x.place (strOf l)).1.many, .slice p' (writeS s x.place (strOf l)).1.sync.length c', .slice q' (writeS s x.place (strOf l)).1.loose.length d', .int .i64 (writeS s x.place (strOf l)).1.left] = wD := ⟨_, rfl⟩
  rw [hwD] at hrD hkD hsD ⊢
  have HKD := Lib.hid hkD
  have HSD := Lib.hid hsD
  have HRD := Lib.hid hrD
  refine hK.out _ _ (G3.trans hkD) (fun G9 => ?_)
  clear hK K hwD hkD hsD hrD
  try simp only [Act.put, List.setIfInBounds_toArray, List.set_cons_zero, List.set_cons_succ]
  refine wpAnyH_take (i := 11) (oi := { dst := some 10, op := Go.Op.assign (Go.Operand.tmp 41), type := 3, pos := "law.go:56", after := #[{ on := 9, ground := Go.Ground.data }, { on := 10, ground := Go.Ground.chain }, { on := 0, ground := Go.Ground.phase }, { on := 1, ground := Go.Ground.phase }, { on := 2, ground := Go.Ground.phase }, { on := 3, ground := Go.Ground.phase }, { on := 4, ground := Go.Ground.phase }, { on := 5, ground := Go.Ground.phase }, { on := 6, ground := Go.Ground.phase }, { on := 7, ground := Go.Ground.phase }, { on := 8, ground := Go.Ground.phase }, { on := 9, ground := Go.Ground.phase }, { on := 10, ground := Go.Ground.phase }], guard := none }) (v := ?_) rfl (by kernel_rfl) (by kernel_rfl) (by kernel_rfl) (fun _ _ _ h => h) (Or.inl ⟨by rfl, ?_⟩) G9 ?_
  rotate_left
  focus (intro w' hSw; (try dsimp only at hSw); go_simp; (try with_reducible rfl))
  simp only [Act.put, List.setIfInBounds_toArray, List.set_cons_zero, List.set_cons_succ]
  refine wpAnyH_done (by kernel_rfl) ?_ _
  have hsc : w.heap.size + 4 ≤ wD.heap.size := by have h1 := HSB.out; have h2 := HBB2.out.size; have h3 := HRP.out.2.2.2.size; have h4 := HSD.out; omega
  have KO2 : Hid (∀ w', ButK (w.heap.size + 1 + 1) wD w' → w'.heap[w.heap.size + 1 + 1 + 1]? = some (.cells #[.int .i64 (writeS s x.place (strOf l)).1.many, .slice p' (writeS s x.place (strOf l)).1.sync.length c', .slice q' (writeS s x.place (strOf l)).1.loose.length d', .int .i64 (writeS s x.place (strOf l)).1.left] 35 (0, 0))) := Lib.hid fun w' h => (h.block _ (by omega) (by omega)).trans HRD.out
  have KR2 : Hid (∀ w', Below wD.heap.size wD w' → w'.heap[w.heap.size + 1 + 1]? = some (.cells #[.int .i64 0, .slice none 0 0, .slice none 0 0, .int .i64 0] 35 (0, 0))) := Lib.hid fun w' h => (h.block _ (by omega)).trans ((HKD.out.block _ (by have := HSD.out; omega) (by omega)).trans ((HRP.out.2.2.2.block _ (by have := HSB.out; have := HBB2.out.size; omega)).trans ((HBB2.out.block _ (by have := HSB.out; omega)).trans (KR.out _ HH2.out))))
  clear hsc
  have hee : ∀ e : Int, (e == e) = true := fun e => by simp
  go_upto_region 22 with fail
  refine wp_region_held_drew (S := fun w' => ButK (w.heap.size + 1 + 1) wD w') (by kernel_rfl) (.of ((Below.refl _ _).drew)) (fun G0 => ?_)
  refine wpAnyH_take (i := 0) (oi := { dst := some 109, op := Go.Op.move (Go.Operand.tmp 0), type := 29, pos := "law.go:73", after := #[], guard := none }) (v := ?_) rfl (by kernel_rfl) (by kernel_rfl) (by kernel_rfl) (fun _ _ _ h => h) (Or.inl ⟨by rfl, ?_⟩) G0 ?_
  rotate_left
  focus (intro w' hSw; (try dsimp only at hSw); go_simp; (try with_reducible rfl))
  simp only [Act.put, List.setIfInBounds_toArray, List.set_cons_zero, List.set_cons_succ]
  refine wpAnyH_take (i := 1) (oi := { dst := some 110, op := Go.Op.load 35 (Go.Operand.tmp 9), type := 35, pos := "law.go:73", after := #[{ on := 6, ground := Go.Ground.gcOnly Go.Departure.lateStores }], guard := none }) (v := ?_) rfl (by kernel_rfl) (by kernel_rfl) (by kernel_rfl) (fun _ _ _ h => h) (Or.inl ⟨by rfl, ?_⟩) G0 ?_
  rotate_left
  focus (intro w' hSw; (try dsimp only at hSw); have hr := KO2.out _ hSw; have c0 := row_at (i := 0) hr rfl; have c1 := row_at (i := 1) hr rfl; have c2 := row_at (i := 2) hr rfl; have c3 := row_at (i := 3) hr rfl; go_simp; (try with_reducible rfl))
  simp only [Act.put, List.setIfInBounds_toArray, List.set_cons_zero, List.set_cons_succ]
  refine wpAnyH_take (i := 2) (oi := { dst := some 111, op := Go.Op.move (Go.Operand.tmp 11), type := 30, pos := "law.go:73", after := #[], guard := none }) (v := ?_) rfl (by kernel_rfl) (by kernel_rfl) (by kernel_rfl) (fun _ _ _ h => h) (Or.inl ⟨by rfl, ?_⟩) G0 ?_
  rotate_left
  focus (intro w' hSw; (try dsimp only at hSw); go_simp; (try with_reducible rfl))
  simp only [Act.put, List.setIfInBounds_toArray, List.set_cons_zero, List.set_cons_succ]
  refine wpAnyH_take (i := 4) (oi := { dst := some 113, op := Go.Op.move (Go.Operand.tmp 10), type := 3, pos := "law.go:73", after := #[{ on := 7, ground := Go.Ground.gcOnly Go.Departure.lateStores }], guard := none }) (v := ?_) rfl (by kernel_rfl) (by kernel_rfl) (by kernel_rfl) (fun _ _ _ h => h) (Or.inl ⟨by rfl, ?_⟩) G0 ?_
  rotate_left
  focus (intro w' hSw; (try dsimp only at hSw); go_simp; (try with_reducible rfl))
  simp only [Act.put, List.setIfInBounds_toArray, List.set_cons_zero, List.set_cons_succ]
  refine wpAnyH_ready (rs := [3]) (by kernel_rfl) (by simp) ?_
  refine AllReadyH.cons (o := { dst := some 112, op := Go.Op.call { callee := Go.Callee.value (Go.Operand.func 12), args := #[Go.Operand.tmp 111], argTypes := #[30] }, type := 3, pos := "law.go:73", after := #[{ on := 2, ground := Go.Ground.data }], guard := none }) rfl (fun K hK => ?_) ?_
  rotate_left
  exact AllReadyH.nil
  go_simp
  (go_at_call 12; (with_reducible refine (NM.out _ _).mono ?_); rintro e wn ⟨rfl, rfl⟩)
  try go_wp2_with fail
  refine hK.out _ _ G0 (fun G1 => ?_)
  clear hK K
  try simp only [Act.put, List.setIfInBounds_toArray, List.set_cons_zero, List.set_cons_succ]
  clear G1
  refine wpAnyH_take (i := 5) (oi := { dst := some 114, op := Go.Op.binOp Go.BinOp.eql 3 (Go.Operand.tmp 112) (Go.Operand.tmp 113) 3, type := 4, pos := "law.go:73", after := #[{ on := 3, ground := Go.Ground.data }, { on := 4, ground := Go.Ground.data }, { on := 7, ground := Go.Ground.gcOnly Go.Departure.lateStores }], guard := none }) (v := ?_) rfl (by kernel_rfl) (by kernel_rfl) (by kernel_rfl) (fun _ _ _ h => h) (Or.inl ⟨by rfl, ?_⟩) G0 ?_
  rotate_left
  focus (intro w' hSw; (try dsimp only at hSw); go_simp; (try with_reducible rfl))
  simp only [Act.put, List.setIfInBounds_toArray, List.set_cons_zero, List.set_cons_succ]
  refine wpAnyH_take (i := 6) (oi := { dst := some 6, op := Go.Op.assign (Go.Operand.tmp 109), type := 29, pos := "law.go:73", after := #[{ on := 0, ground := Go.Ground.data }, { on := 3, ground := Go.Ground.chain }, { on := 0, ground := Go.Ground.phase }, { on := 1, ground := Go.Ground.textOnly Go.Departure.lateStores }, { on := 2, ground := Go.Ground.textOnly Go.Departure.lateStores }, { on := 3, ground := Go.Ground.textOnly Go.Departure.lateStoresUnsure }, { on := 4, ground := Go.Ground.textOnly Go.Departure.lateStores }, { on := 5, ground := Go.Ground.textOnly Go.Departure.lateStores }], guard := none }) (v := ?_) rfl (by kernel_rfl) (by kernel_rfl) (by kernel_rfl) (fun _ _ _ h => h) (Or.inl ⟨by rfl, ?_⟩) G0 ?_
  rotate_left
  focus (intro w' hSw; (try dsimp only at hSw); go_simp; (try with_reducible rfl))
  simp only [Act.put, List.setIfInBounds_toArray, List.set_cons_zero, List.set_cons_succ]
  refine wpAnyH_ready (rs := [7]) (by kernel_rfl) (by simp) ?_
  refine AllReadyH.cons (o := { dst := none, op := Go.Op.store 35 (Go.Operand.tmp 7) (Go.Operand.tmp 110), type := 0, pos := "law.go:73", after := #[{ on := 1, ground := Go.Ground.data }, { on := 6, ground := Go.Ground.chain }, { on := 0, ground := Go.Ground.phase }, { on := 1, ground := Go.Ground.phase }, { on := 2, ground := Go.Ground.textOnly Go.Departure.lateStores }, { on := 3, ground := Go.Ground.textOnly Go.Departure.lateStoresUnsure }, { on := 4, ground := Go.Ground.textOnly Go.Departure.lateStores }, { on := 5, ground := Go.Ground.textOnly Go.Departure.lateStores }, { on := 6, ground := Go.Ground.phase }], guard := none }) rfl (fun K hK => ?_) ?_
  rotate_left
  exact AllReadyH.nil
  refine step_store_row rfl 35 (.tmp 7) (.tmp 110) rfl (w.heap.size + 1 + 1) #[.int .i64 (writeS s x.place (strOf l)).1.many, .slice p' (writeS s x.place (strOf l)).1.sync.length c', .slice q' (writeS s x.place (strOf l)).1.loose.length d', .int .i64 (writeS s x.place (strOf l)).1.left] rfl rfl 35 #[.int .i64 0, .slice none 0 0, .slice none 0 0, .int .i64 0] (KR2.out _ ((Below.refl _ _).drew)) rfl rfl (by simp [Value.oneCell']) ?_
  have hrE := setRow_heap wD.drew (w.heap.size + 1 + 1) #[.int .i64 0, .slice none 0 0, .slice none 0 0, .int .i64 0] #[.int .i64 (writeS s x.place (strOf l)).1.many, .slice p' (writeS s x.place (strOf l)).1.sync.length c', .slice q' (writeS s x.place (strOf l)).1.loose.length d', .int .i64 (writeS s x.place (strOf l)).1.left] 35 (0, 0) (KR2.out _ ((Below.refl _ _).drew))
  have hkE : ButK (w.heap.size + 1 + 1) wD (wD.drew.setRow (w.heap.size + 1 + 1) #[.int .i64 (writeS s x.place (strOf l)).1.many, .slice p' (writeS s x.place (strOf l)).1.sync.length c', .slice q' (writeS s x.place (strOf l)).1.loose.length d', .int .i64 (writeS s x.place (strOf l)).1.left]) := (ButK.of ((Below.refl _ _).drew)).trans (ButK.row _ _)
  have hsE : (wD.drew.setRow (w.heap.size + 1 + 1) #[.int .i64 (writeS s x.place (strOf l)).1.many, .slice p' (writeS s x.place (strOf l)).1.sync.length c', .slice q' (writeS s x.place (strOf l)).1.loose.length d', .int .i64 (writeS s x.place (strOf l)).1.left]).heap.size = wD.heap.size := by simp
  obtain ⟨wE, hwE⟩ : ∃ wE, wD.drew.setRow (w.heap.size + 1 + 1) #[.int .i64 (writeS s x.place (strOf l)).1.many, .slice p' (writeS s x.place (strOf l)).1.sync.length c', .slice q' (writeS s x.place (strOf l)).1.loose.length d', .int .i64 (writeS s x.place (strOf l)).1.left] = wE := ⟨_, rfl⟩
  rw [hwE] at hrE hkE hsE ⊢
  refine hK.out _ _ hkE (fun G2 => ?_)
  clear hK K hwE
  try simp only [Act.put, List.setIfInBounds_toArray, List.set_cons_zero, List.set_cons_succ]
  refine wpAnyH_take (i := 8) (oi := { dst := some 8, op := Go.Op.assign (Go.Operand.tmp 114), type := 4, pos := "law.go:73", after := #[{ on := 5, ground := Go.Ground.data }, { on := 7, ground := Go.Ground.chain }, { on := 0, ground := Go.Ground.phase }, { on := 1, ground := Go.Ground.phase }, { on := 2, ground := Go.Ground.phase }, { on := 3, ground := Go.Ground.phase }, { on := 4, ground := Go.Ground.phase }, { on := 5, ground := Go.Ground.phase }, { on := 6, ground := Go.Ground.phase }, { on := 7, ground := Go.Ground.phase }], guard := none }) (v := ?_) rfl (by kernel_rfl) (by kernel_rfl) (by kernel_rfl) (fun _ _ _ h => h) (Or.inl ⟨by rfl, ?_⟩) G2 ?_
  rotate_left
  focus (intro w' hSw; (try dsimp only at hSw); go_simp; (try with_reducible rfl))
  simp only [Act.put, List.setIfInBounds_toArray, List.set_cons_zero, List.set_cons_succ]
  refine wpAnyH_done (by kernel_rfl) ?_ _
  have z0 := row_at (i := 0) hrE rfl; have z1 := row_at (i := 1) hrE rfl; have z2 := row_at (i := 2) hrE rfl; have z3 := row_at (i := 3) hrE rfl
  have HKE := Lib.hid hkE
  have HSE := Lib.hid hsE
  clear hkE hsE hrE G2
  go_wp2_with fail
  refine bodyPost_ret (v := .tuple #[d, .agg #[.int .i64 (writeS s x.place (strOf l)).1.many, .slice p' (writeS s x.place (strOf l)).1.sync.length c', .slice q' (writeS s x.place (strOf l)).1.loose.length d', .int .i64 (writeS s x.place (strOf l)).1.left], .bool true]) ?_ rfl ?_
  · simp [results, Try.results9, go_sem, z0, z1, z2, z3]
  · refine ⟨d, _, p', c', q', d', rfl, act_end S HP.out (AA.out.thn HH1.out) (by have := hA4.out; have := HH1.out.size; omega) HG.out.1 HG.out.2.1 HG.out.2.2 HBB2.out HRP.out.1 HRP.out.2.1 HRP.out.2.2.1 HRP.out.2.2.2 (.inr ⟨wD, HKD.out, HKE.out⟩) (HSE.out.trans HSD.out)⟩
set_option maxRecDepth 100000 in
set_option maxHeartbeats 4000000 in
theorem act_write1 {Rep : DiskRep} (S : DiskOk Rep) {w : World} {d : Value} {s : DS} {F : Nat → Prop} {p : Option Addr} {c : Nat} {q : Option Addr} {dd : Nat} {x : ActS} (hw0 : x.what = 1) (hP : PairOk Rep w d s F p c q dd) (hW : Whole s) (hf : Few s) (hl : s.left ≤ 9223372036854775807) (hx : ActIn w F x) :
    Calls Try.prog 9 #[d, refV s p c q dd, actV x] w (ActPost Rep F p q (writeS s x.place (strOf (bytesA x))).1 w) := by
  have hl2 := hW.left
  have hbl := bytesA_few x
  have hbb := bytesA_byte hx.byte
  have HBL := Lib.hid hbl
  have HBB := Lib.hid hbb
  have C22 := Lib.hid (actBytes_any x hx.byte)
  simp only [actV] at C22
  rw [hw0] at C22
  obtain ⟨l, hll⟩ : ∃ l, bytesA x = l := ⟨_, rfl⟩
  rw [hll] at hbl hbb HBL HBB C22 ⊢
  clear hll hbl hbb
  have HP := Lib.hid hP
  have HW := Lib.hid hW
  have HF := Lib.hid hf
  have HX := Lib.hid hx
  have NM := Lib.hid num_any
  have hlow := S.low _ _ _ _ hP.rep
  have LOW := Lib.hid hlow
  obtain ⟨wA, hwA⟩ : ∃ wA, (((w.alloc (.cells #[.int .i64 s.many, .slice p s.sync.length c, .slice q s.loose.length dd, .int .i64 s.left] 35)).alloc (.cells #[.int .i64 1, .int .i64 x.place, .int .i64 x.n, .int .u8 x.byte, .slice x.kp x.keep.length x.kc] 25)).alloc (.cells #[.int .i64 0, .slice none 0 0, .slice none 0 0, .int .i64 0] 35)).alloc (.cells #[.int .i64 s.many, .slice p s.sync.length c, .slice q s.loose.length dd, .int .i64 s.left] 35) = wA := ⟨_, rfl⟩
  have BA : Below w.heap.size w wA := by subst hwA; exact ((((Below.refl _ _).alloc (Nat.le_refl _) _).alloc (by simp) _).alloc (by simp; omega) _).alloc (by simp; omega) _
  have SA : wA.heap.size = w.heap.size + 4 := by subst hwA; simp
  have rV : wA.heap[w.heap.size]? = some (.cells #[.int .i64 s.many, .slice p s.sync.length c, .slice q s.loose.length dd, .int .i64 s.left] 35 (0, 0)) := by
    rw [← hwA]
    exact (Below.heap_alloc _ _ _ (by simp <;> omega)).trans ((Below.heap_alloc _ _ _ (by simp <;> omega)).trans ((Below.heap_alloc _ _ _ (by simp <;> omega)).trans (World.alloc_heap_new w _)))
  have rX : wA.heap[w.heap.size + 1]? = some (.cells #[.int .i64 1, .int .i64 x.place, .int .i64 x.n, .int .u8 x.byte, .slice x.kp x.keep.length x.kc] 25 (0, 0)) := by
    rw [← hwA]
    have e := World.alloc_heap_new (w.alloc (.cells #[.int .i64 s.many, .slice p s.sync.length c, .slice q s.loose.length dd, .int .i64 s.left] 35)) (.cells #[.int .i64 1, .int .i64 x.place, .int .i64 x.n, .int .u8 x.byte, .slice x.kp x.keep.length x.kc] 25)
    rw [World.size_alloc] at e
    exact (Below.heap_alloc _ _ _ (by simp <;> omega)).trans ((Below.heap_alloc _ _ _ (by simp <;> omega)).trans e)
  have rR : wA.heap[w.heap.size + 1 + 1]? = some (.cells #[.int .i64 0, .slice none 0 0, .slice none 0 0, .int .i64 0] 35 (0, 0)) := by
    rw [← hwA]
    have e := World.alloc_heap_new ((w.alloc (.cells #[.int .i64 s.many, .slice p s.sync.length c, .slice q s.loose.length dd, .int .i64 s.left] 35)).alloc (.cells #[.int .i64 1, .int .i64 x.place, .int .i64 x.n, .int .u8 x.byte, .slice x.kp x.keep.length x.kc] 25)) (.cells #[.int .i64 0, .slice none 0 0, .slice none 0 0, .int .i64 0] 35)
    rw [World.size_alloc, World.size_alloc] at e
    exact (Below.heap_alloc _ _ _ (by simp <;> omega)).trans e
  have rO : wA.heap[w.heap.size + 1 + 1 + 1]? = some (.cells #[.int .i64 s.many, .slice p s.sync.length c, .slice q s.loose.length dd, .int .i64 s.left] 35 (0, 0)) := by
    rw [← hwA]
    have e := World.alloc_heap_new (((w.alloc (.cells #[.int .i64 s.many, .slice p s.sync.length c, .slice q s.loose.length dd, .int .i64 s.left] 35)).alloc (.cells #[.int .i64 1, .int .i64 x.place, .int .i64 x.n, .int .u8 x.byte, .slice x.kp x.keep.length x.kc] 25)).alloc (.cells #[.int .i64 0, .slice none 0 0, .slice none 0 0, .int .i64 0] 35)) (.cells #[.int .i64 s.many, .slice p s.sync.length c, .slice q s.loose.length dd, .int .i64 s.left] 35)
    rw [World.size_alloc, World.size_alloc, World.size_alloc] at e
    exact e
  have apr : ∀ k, w.heap.size ≤ k → k < w.heap.size + 4 → ∀ w', Apart F wA w' → w'.heap[k]? = wA.heap[k]? := fun k h1 h2 w' h => h.block k (by omega) (fun f => by have := LOW.out k f; omega)
  have KV : Hid (∀ w', Apart F wA w' → w'.heap[w.heap.size]? = some (.cells #[.int .i64 s.many, .slice p s.sync.length c, .slice q s.loose.length dd, .int .i64 s.left] 35 (0, 0))) := Lib.hid fun w' h => (apr _ (by omega) (by omega) w' h).trans rV
  have KX : Hid (∀ w', Apart F wA w' → w'.heap[w.heap.size + 1]? = some (.cells #[.int .i64 1, .int .i64 x.place, .int .i64 x.n, .int .u8 x.byte, .slice x.kp x.keep.length x.kc] 25 (0, 0))) := Lib.hid fun w' h => (apr _ (by omega) (by omega) w' h).trans rX
  have KR : Hid (∀ w', Apart F wA w' → w'.heap[w.heap.size + 1 + 1]? = some (.cells #[.int .i64 0, .slice none 0 0, .slice none 0 0, .int .i64 0] 35 (0, 0))) := Lib.hid fun w' h => (apr _ (by omega) (by omega) w' h).trans rR
  have KO : Hid (∀ w', Apart F wA w' → w'.heap[w.heap.size + 1 + 1 + 1]? = some (.cells #[.int .i64 s.many, .slice p s.sync.length c, .slice q s.loose.length dd, .int .i64 s.left] 35 (0, 0))) := Lib.hid fun w' h => (apr _ (by omega) (by omega) w' h).trans rO
  have RA := Lib.hid (S.keep _ _ _ _ _ hP.rep BA.size (fun k hk => BA.block k (hlow k hk)))
  have AA : Hid (Apart F w wA) := Lib.hid (Below.apart BA F)
  have hA4 := Lib.hid (Nat.le_of_eq SA.symm)
  have HSA := Lib.hid SA
  unfold refV actV
  rw [hw0]
  clear hw0
  clear hP hW hf hx hlow rV rX rR rO apr BA SA
  go_enter Try.func9, Try.ntmps9
  go_upto_region 2 with fail
  try rw [hwA]
  clear hwA
  have hr0 := KX.out _ (Below.apart (Below.refl wA.heap.size wA) F)
  have c0 := row_at (i := 0) hr0 rfl
  go_upto_region 7 with fail
  clear c0 hr0
  refine wp_region_held_drew (S := fun w' => Apart F wA w') (by kernel_rfl) (Below.apart ((Below.refl _ _).drew) F) (fun H0 => ?_)
  refine wpAnyH_take (i := 0) (oi := { dst := some 26, op := Go.Op.move (Go.Operand.tmp 0), type := 29, pos := "law.go:55", after := #[], guard := none }) (v := ?_) rfl (by kernel_rfl) (by kernel_rfl) (by kernel_rfl) (fun _ _ _ h => h) (Or.inl ⟨by rfl, ?_⟩) H0 ?_
  rotate_left
  focus (intro w' hSw; (try dsimp only at hSw); go_simp; (try with_reducible rfl))
  simp only [Act.put, List.setIfInBounds_toArray, List.set_cons_zero, List.set_cons_succ]
  refine wpAnyH_take (i := 1) (oi := { dst := some 27, op := Go.Op.fieldAddr 25 (Go.Operand.tmp 5) 1, type := 0, pos := "law.go:55", after := #[], guard := none }) (v := ?_) rfl (by kernel_rfl) (by kernel_rfl) (by kernel_rfl) (fun _ _ _ h => h) (Or.inl ⟨by rfl, ?_⟩) H0 ?_
  rotate_left
  focus (intro w' hSw; (try dsimp only at hSw); go_simp; (try with_reducible rfl))
  simp only [Act.put, List.setIfInBounds_toArray, List.set_cons_zero, List.set_cons_succ]
  refine wpAnyH_take (i := 2) (oi := { dst := some 28, op := Go.Op.load 3 (Go.Operand.tmp 27), type := 3, pos := "law.go:55", after := #[{ on := 1, ground := Go.Ground.data }], guard := none }) (v := ?_) rfl (by kernel_rfl) (by kernel_rfl) (by kernel_rfl) (fun _ _ _ h => h) (Or.inl ⟨by rfl, ?_⟩) H0 ?_
  rotate_left
  focus (intro w' hSw; (try dsimp only at hSw); have hr := KX.out _ hSw; have c0 := row_at (i := 0) hr rfl; have c1 := row_at (i := 1) hr rfl; have c2 := row_at (i := 2) hr rfl; have c3 := row_at (i := 3) hr rfl; have c4 := row_at (i := 4) hr rfl; go_simp; (try with_reducible rfl))
  simp only [Act.put, List.setIfInBounds_toArray, List.set_cons_zero, List.set_cons_succ]
  refine wpAnyH_take (i := 3) (oi := { dst := some 29, op := Go.Op.load 25 (Go.Operand.tmp 5), type := 25, pos := "law.go:55", after := #[], guard := none }) (v := ?_) rfl (by kernel_rfl) (by kernel_rfl) (by kernel_rfl) (fun _ _ _ h => h) (Or.inl ⟨by rfl, ?_⟩) H0 ?_
  rotate_left
  focus (intro w' hSw; (try dsimp only at hSw); have hr := KX.out _ hSw; have c0 := row_at (i := 0) hr rfl; have c1 := row_at (i := 1) hr rfl; have c2 := row_at (i := 2) hr rfl; have c3 := row_at (i := 3) hr rfl; have c4 := row_at (i := 4) hr rfl; go_simp; (try with_reducible rfl))
  simp only [Act.put, List.setIfInBounds_toArray, List.set_cons_zero, List.set_cons_succ]
  refine wpAnyH_ready (rs := [4]) (by kernel_rfl) (by simp) ?_
  refine AllReadyH.cons (o := { dst := some 30, op := Go.Op.call { callee := Go.Callee.value (Go.Operand.func 22), args := #[Go.Operand.tmp 29], argTypes := #[25] }, type := 47, pos := "law.go:55", after := #[{ on := 3, ground := Go.Ground.data }], guard := none }) rfl (fun K hK => ?_) ?_
  rotate_left
  exact AllReadyH.nil
  go_simp
  (go_at_call 22; (with_reducible refine (C22.out _).mono ?_); rintro e wa ⟨t, rfl, hrb⟩; have hbA := hrb.2; obtain ⟨pb, cb, rfl, hb1, hb2, hb3, hb4⟩ := hrb.at'; have hnil := rowB_nil hrb)
  try go_wp2_with fail
  refine hK.out _ _ (H0.thn (Below.apart hbA F)) (fun H1 => ?_)
  clear hK K
  try simp only [Act.put, List.setIfInBounds_toArray, List.set_cons_zero, List.set_cons_succ]
  have hsa : wA.heap.size ≤ wa.heap.size := H1.size
  have Ra : Rep wa d s F := S.keep _ _ _ _ _ RA.out hsa (fun k hk => hbA.block k (S.low _ _ _ _ RA.out k hk))
  have hin : BytesIn wa F pb l cb := ⟨hb3, HBB.out, fun e => hnil e, ⟨hb1, by unfold maxLen at hb2; omega⟩, fun _ B off e f => by have h1 := hb4 _ e; have h2 := LOW.out B f; have h3 := HSA.out; simp only at h1; have h4 := (Below.refl wA.heap.size wA).drew.size; omega⟩
  refine wpAnyH_ready (rs := [5]) (by kernel_rfl) (by simp) ?_
  refine AllReadyH.cons (o := { dst := some 31, op := Go.Op.call { callee := Go.Callee.value (Go.Operand.func 15), args := #[Go.Operand.tmp 26, Go.Operand.tmp 28, Go.Operand.tmp 30], argTypes := #[29, 3, 47] }, type := 30, pos := "law.go:55", after := #[{ on := 0, ground := Go.Ground.data }, { on := 2, ground := Go.Ground.data }, { on := 4, ground := Go.Ground.data }, { on := 4, ground := Go.Ground.chain }], guard := none }) rfl (fun K hK => ?_) ?_
  rotate_left
  exact AllReadyH.nil
  go_simp
  (go_at_call 15; (with_reducible refine (S.write _ _ _ _ _ _ _ _ Ra HW.out HF.out (by have := HBL.out; omega) hin).mono ?_); rintro e wb ⟨rfl, hg⟩; obtain ⟨F', hR', hF', hAp⟩ := hg)
  try go_wp2_with fail
  refine hK.out _ _ (H1.thn hAp) (fun H2 => ?_)
  clear hK K
  try simp only [Act.put, List.setIfInBounds_toArray, List.set_cons_zero, List.set_cons_succ]
  refine wpAnyH_take (i := 6) (oi := { dst := some 11, op := Go.Op.assign (Go.Operand.tmp 31), type := 30, pos := "law.go:55", after := #[{ on := 5, ground := Go.Ground.data }, { on := 5, ground := Go.Ground.chain }, { on := 0, ground := Go.Ground.phase }, { on := 1, ground := Go.Ground.phase }, { on := 2, ground := Go.Ground.phase }, { on := 3, ground := Go.Ground.phase }, { on := 4, ground := Go.Ground.phase }, { on := 5, ground := Go.Ground.phase }], guard := none }) (v := ?_) rfl (by kernel_rfl) (by kernel_rfl) (by kernel_rfl) (fun _ _ _ h => h) (Or.inl ⟨by rfl, ?_⟩) H2 ?_
  rotate_left
  focus (intro w' hSw; (try dsimp only at hSw); go_simp; (try with_reducible rfl))
  simp only [Act.put, List.setIfInBounds_toArray, List.set_cons_zero, List.set_cons_succ]
  refine wpAnyH_done (by kernel_rfl) ?_ _
  have HG := Lib.hid (And.intro hR' (And.intro hF' hAp))
  have HH2 := Lib.hid H2
  have HH1 := Lib.hid H1
  have hsb : w.heap.size + 4 ≤ wb.heap.size := by have := hA4.out; have := H2.size; omega
  have HSB := Lib.hid hsb
  have KV8 : Hid (∀ w', ButK (w.heap.size + 1 + 1 + 1) wb w' → w'.heap[w.heap.size]? = some (.cells #[.int .i64 s.many, .slice p s.sync.length c, .slice q s.loose.length dd, .int .i64 s.left] 35 (0, 0))) := Lib.hid fun w' h => (h.block _ (by omega) (by omega)).trans (KV.out _ HH2.out)
  have KX8 : Hid (∀ w', ButK (w.heap.size + 1 + 1 + 1) wb w' → w'.heap[w.heap.size + 1]? = some (.cells #[.int .i64 1, .int .i64 x.place, .int .i64 x.n, .int .u8 x.byte, .slice x.kp x.keep.length x.kc] 25 (0, 0))) := Lib.hid fun w' h => (h.block _ (by omega) (by omega)).trans (KX.out _ HH2.out)
  have RB : Hid (∀ w', Below wb.heap.size wb w' → RefAt w' s p c q dd) := Lib.hid fun w' h => HP.out.ref.asIs (fun B off e => by
    have h1 := HP.out.pq B off e
    have h2 := (AA.out.thn HH2.out).block B h1.2 h1.1
    exact (h.block B (by omega)).trans h2)
  clear hR' hF' hAp H2 H1 hsb
  go_upto_region 8 with fail
  refine wp_region_held_drew (S := fun w' => ButK (w.heap.size + 1 + 1 + 1) wb w') (by kernel_rfl) (.of ((Below.refl _ _).drew)) (fun G0 => ?_)
  refine wpAnyH_take (i := 0) (oi := { dst := some 33, op := Go.Op.load 35 (Go.Operand.tmp 4), type := 35, pos := "law.go:56", after := #[], guard := none }) (v := ?_) rfl (by kernel_rfl) (by kernel_rfl) (by kernel_rfl) (fun _ _ _ h => h) (Or.inl ⟨by rfl, ?_⟩) G0 ?_
  rotate_left
  focus (intro w' hSw; (try dsimp only at hSw); have hr := KV8.out _ hSw; have c0 := row_at (i := 0) hr rfl; have c1 := row_at (i := 1) hr rfl; have c2 := row_at (i := 2) hr rfl; have c3 := row_at (i := 3) hr rfl; go_simp; (try with_reducible rfl))
  simp only [Act.put, List.setIfInBounds_toArray, List.set_cons_zero, List.set_cons_succ]
  refine wpAnyH_take (i := 1) (oi := { dst := some 34, op := Go.Op.fieldAddr 25 (Go.Operand.tmp 5) 1, type := 0, pos := "law.go:56", after := #[], guard := none }) (v := ?_) rfl (by kernel_rfl) (by kernel_rfl) (by kernel_rfl) (fun _ _ _ h => h) (Or.inl ⟨by rfl, ?_⟩) G0 ?_
  rotate_left
  focus (intro w' hSw; (try dsimp only at hSw); go_simp; (try with_reducible rfl))
  simp only [Act.put, List.setIfInBounds_toArray, List.set_cons_zero, List.set_cons_succ]
  refine wpAnyH_take (i := 2) (oi := { dst := some 35, op := Go.Op.load 3 (Go.Operand.tmp 34), type := 3, pos := "law.go:56", after := #[{ on := 1, ground := Go.Ground.data }], guard := none }) (v := ?_) rfl (by kernel_rfl) (by kernel_rfl) (by kernel_rfl) (fun _ _ _ h => h) (Or.inl ⟨by rfl, ?_⟩) G0 ?_
  rotate_left
  focus (intro w' hSw; (try dsimp only at hSw); have hr := KX8.out _ hSw; have c0 := row_at (i := 0) hr rfl; have c1 := row_at (i := 1) hr rfl; have c2 := row_at (i := 2) hr rfl; have c3 := row_at (i := 3) hr rfl; have c4 := row_at (i := 4) hr rfl; go_simp; (try with_reducible rfl))
  simp only [Act.put, List.setIfInBounds_toArray, List.set_cons_zero, List.set_cons_succ]
  refine wpAnyH_take (i := 3) (oi := { dst := some 36, op := Go.Op.load 25 (Go.Operand.tmp 5), type := 25, pos := "law.go:56", after := #[], guard := none }) (v := ?_) rfl (by kernel_rfl) (by kernel_rfl) (by kernel_rfl) (fun _ _ _ h => h) (Or.inl ⟨by rfl, ?_⟩) G0 ?_
  rotate_left
  focus (intro w' hSw; (try dsimp only at hSw); have hr := KX8.out _ hSw; have c0 := row_at (i := 0) hr rfl; have c1 := row_at (i := 1) hr rfl; have c2 := row_at (i := 2) hr rfl; have c3 := row_at (i := 3) hr rfl; have c4 := row_at (i := 4) hr rfl; go_simp; (try with_reducible rfl))
  simp only [Act.put, List.setIfInBounds_toArray, List.set_cons_zero, List.set_cons_succ]
  refine wpAnyH_ready (rs := [4]) (by kernel_rfl) (by simp) ?_
  refine AllReadyH.cons (o := { dst := some 37, op := Go.Op.call { callee := Go.Callee.value (Go.Operand.func 22), args := #[Go.Operand.tmp 36], argTypes := #[25] }, type := 47, pos := "law.go:56", after := #[{ on := 3, ground := Go.Ground.data }], guard := none }) rfl (fun K hK => ?_) ?_
  rotate_left
  exact AllReadyH.nil
  go_simp
  (go_at_call 22; (with_reducible refine (C22.out _).mono ?_); rintro e wa2 ⟨t2, rfl, hrb2⟩; have hbB := hrb2.2; obtain ⟨pb2, cb2, rfl, -, -, hb3', hb4'⟩ := hrb2.at')
  try go_wp2_with fail
  refine hK.out _ _ (G0.trans (.of hbB)) (fun G1 => ?_)
  clear hK K
  try simp only [Act.put, List.setIfInBounds_toArray, List.set_cons_zero, List.set_cons_succ]
  have hbB2 : Below wb.heap.size wb wa2 := below_any ((Below.refl _ _).drew) hbB
  have HBB2 := Lib.hid hbB2
  have CVB : Hid (∀ w', ButK (w.heap.size + 1 + 1 + 1) wa2 w' → (convert 47 9 (.slice pb2 l.length cb2)).run Try.prog w' = .ok (.string (strOf l)) w') := Lib.hid fun w' h => conv_at w' pb2 cb2 l HBB.out (fun i hi => by
    obtain ⟨B, off, e, cc⟩ := hb3' i hi
    have h1 := hb4' _ e
    have h2 := (Below.refl wb.heap.size wb).drew.size
    have h3 := HSB.out
    exact ⟨B, off, e, (World.cell?_of_block (a := ⟨B, off + i, none⟩) (h.block B (lt_of_cell_some cc) (by simp only at h1; omega))).trans cc⟩)
  have RWr := Lib.hid (refWrite_any s p c q dd x.place (strOf l) wa2 (by rw [strOf_size]; have := HBL.out; omega) HF.out ⟨hl2, hl⟩ (Lib.hid (RB.out _ hbB2)))
  simp only [refV] at RWr
  refine wpAnyH_turn (S' := fun w' => ButK (w.heap.size + 1 + 1 + 1) wa2 w') (fun w' h => G1.trans h) _ _ _ _ ?_
  have G2 : ButK (w.heap.size + 1 + 1 + 1) wa2 wa2 := .of (Below.refl _ _)
  clear hb3' hb4' hbB hbB2
  refine wpAnyH_take (i := 5) (oi := { dst := some 38, op := Go.Op.convert 47 9 (Go.Operand.tmp 37), type := 9, pos := "law.go:56", after := #[{ on := 4, ground := Go.Ground.data }], guard := none }) (v := ?_) rfl (by kernel_rfl) (by kernel_rfl) (by kernel_rfl) (fun _ _ _ h => h) (Or.inl ⟨by rfl, ?_⟩) G2 ?_
  rotate_left
  focus (intro w' hSw; (try dsimp only at hSw); have hv := CVB.out _ hSw; go_simp; (try with_reducible rfl))
  simp only [Act.put, List.setIfInBounds_toArray, List.set_cons_zero, List.set_cons_succ]
  refine wpAnyH_ready (rs := [6]) (by kernel_rfl) (by simp) ?_
  refine AllReadyH.cons (o := { dst := some 39, op := Go.Op.call { callee := Go.Callee.value (Go.Operand.func 23), args := #[Go.Operand.tmp 33, Go.Operand.tmp 35, Go.Operand.tmp 38], argTypes := #[35, 3, 9] }, type := 67, pos := "law.go:56", after := #[{ on := 0, ground := Go.Ground.data }, { on := 2, ground := Go.Ground.data }, { on := 5, ground := Go.Ground.data }, { on := 4, ground := Go.Ground.chain }], guard := none }) rfl (fun K hK => ?_) ?_
  rotate_left
  exact AllReadyH.nil
  go_simp
  (go_at_call 23; (with_reducible refine RWr.out.mono ?_); rintro e wc ⟨p', c', q', d', rfl, hr', f1, f2, hby⟩; have HRP := Lib.hid (And.intro hr' (And.intro f1 (And.intro f2 hby))); clear hr' f1 f2)
  try go_wp2_with fail
  refine hK.out _ _ (G2.trans (.of hby)) (fun G3 => ?_)
  clear hK K
  try simp only [Act.put, List.setIfInBounds_toArray, List.set_cons_zero, List.set_cons_succ]
  refine wpAnyH_take (i := 7) (oi := { dst := some 32, op := Go.Op.move (Go.Operand.tmp 39), type := 67, pos := "law.go:56", after := #[{ on := 6, ground := Go.Ground.data }], guard := none }) (v := ?_) rfl (by kernel_rfl) (by kernel_rfl) (by kernel_rfl) (fun _ _ _ h => h) (Or.inl ⟨by rfl, ?_⟩) G3 ?_
  rotate_left
  focus (intro w' hSw; (try dsimp only at hSw); go_simp; (try with_reducible rfl))
  simp only [Act.put, List.setIfInBounds_toArray, List.set_cons_zero, List.set_cons_succ]
  refine wpAnyH_take (i := 8) (oi := { dst := some 40, op := Go.Op.extract (Go.Operand.tmp 32) 0, type := 35, pos := "law.go:56", after := #[{ on := 7, ground := Go.Ground.data }], guard := none }) (v := ?_) rfl (by kernel_rfl) (by kernel_rfl) (by kernel_rfl) (fun _ _ _ h => h) (Or.inl ⟨by rfl, ?_⟩) G3 ?_
  rotate_left
  focus (intro w' hSw; (try dsimp only at hSw); go_simp; (try with_reducible rfl))
  simp only [Act.put, List.setIfInBounds_toArray, List.set_cons_zero, List.set_cons_succ]
  refine wpAnyH_take (i := 9) (oi := { dst := some 41, op := Go.Op.extract (Go.Operand.tmp 32) 1, type := 3, pos := "law.go:56", after := #[{ on := 7, ground := Go.Ground.data }, { on := 10, ground := Go.Ground.gcOnly Go.Departure.lateStores }], guard := none }) (v := ?_) rfl (by kernel_rfl) (by kernel_rfl) (by kernel_rfl) (fun _ _ _ h => h) (Or.inl ⟨by rfl, ?_⟩) G3 ?_
  rotate_left
  focus (intro w' hSw; (try dsimp only at hSw); go_simp; (try with_reducible rfl))
  simp only [Act.put, List.setIfInBounds_toArray, List.set_cons_zero, List.set_cons_succ]
  have rOc := (HRP.out.2.2.2.block _ (by have := HSB.out; have := HBB2.out.size; omega)).trans ((HBB2.out.block _ (by have := HSB.out; omega)).trans (KO.out _ HH2.out))
  refine wpAnyH_ready (rs := [10]) (by kernel_rfl) (by simp) ?_
  refine AllReadyH.cons (o := { dst := none, op := Go.Op.store 35 (Go.Operand.tmp 9) (Go.Operand.tmp 40), type := 0, pos := "law.go:56", after := #[{ on := 8, ground := Go.Ground.data }, { on := 6, ground := Go.Ground.chain }, { on := 0, ground := Go.Ground.phase }, { on := 1, ground := Go.Ground.phase }, { on := 2, ground := Go.Ground.phase }, { on := 3, ground := Go.Ground.phase }, { on := 4, ground := Go.Ground.phase }, { on := 5, ground := Go.Ground.phase }, { on := 6, ground := Go.Ground.phase }, { on := 7, ground := Go.Ground.phase }, { on := 8, ground := Go.Ground.phase }, { on := 9, ground := Go.Ground.textOnly Go.Departure.lateStores }], guard := none }) rfl (fun K hK => ?_) ?_
  rotate_left
  exact AllReadyH.nil
  refine step_store_row rfl 35 (.tmp 9) (.tmp 40) rfl (w.heap.size + 1 + 1 + 1) #[.int .i64 (writeS s x.place (strOf l)).1.many, .slice p' (writeS s x.place (strOf l)).1.sync.length c', .slice q' (writeS s x.place (strOf l)).1.loose.length d', .int .i64 (writeS s x.place (strOf l)).1.left] rfl rfl 35 #[.int .i64 s.many, .slice p s.sync.length c, .slice q s.loose.length dd, .int .i64 s.left] rOc rfl rfl (by simp [Value.oneCell']) ?_
  have hrD := setRow_heap wc (w.heap.size + 1 + 1 + 1) #[.int .i64 s.many, .slice p s.sync.length c, .slice q s.loose.length dd, .int .i64 s.left] #[.int .i64 (writeS s x.place (strOf l)).1.many, .slice p' (writeS s x.place (strOf l)).1.sync.length c', .slice q' (writeS s x.place (strOf l)).1.loose.length d', .int .i64 (writeS s x.place (strOf l)).1.left] 35 (0, 0) rOc
  have hkD : ButK (w.heap.size + 1 + 1 + 1) wc (wc.setRow (w.heap.size + 1 + 1 + 1) #[.int .i64 (writeS s x.place (strOf l)).1.many, .slice p' (writeS s x.place (strOf l)).1.sync.length c', .slice q' (writeS s x.place (strOf l)).1.loose.length d', .int .i64 (writeS s x.place (strOf l)).1.left]) := ButK.row _ _
  have hsD : (wc.setRow (w.heap.size + 1 + 1 + 1) #[.int .i64 (writeS s x.place (strOf l)).1.many, .slice p' (writeS s x.place (strOf l)).1.sync.length c', .slice q' (writeS s x.place (strOf l)).1.loose.length d', .int .i64 (writeS s x.place (strOf l)).1.left]).heap.size = wc.heap.size := by simp
  obtain ⟨wD, hwD⟩ : ∃ wD, wc.setRow (w.heap.size + 1 + 1 + 1) #[.int .i64 (writeS s x.place (strOf l)).1.many, .slice p' (writeS s x.place (strOf l)).1.sync.length c', .slice q' (writeS s x.place (strOf l)).1.loose.length d', .int .i64 (writeS s x.place (strOf l)).1.left] = wD := ⟨_, rfl⟩
  rw [hwD] at hrD hkD hsD ⊢
  have HKD := Lib.hid hkD
  have HSD := Lib.hid hsD
  have HRD := Lib.hid hrD
  refine hK.out _ _ (G3.trans hkD) (fun G9 => ?_)
  clear hK K hwD hkD hsD hrD
  try simp only [Act.put, List.setIfInBounds_toArray, List.set_cons_zero, List.set_cons_succ]
  refine wpAnyH_take (i := 11) (oi := { dst := some 10, op := Go.Op.assign (Go.Operand.tmp 41), type := 3, pos := "law.go:56", after := #[{ on := 9, ground := Go.Ground.data }, { on := 10, ground := Go.Ground.chain }, { on := 0, ground := Go.Ground.phase }, { on := 1, ground := Go.Ground.phase }, { on := 2, ground := Go.Ground.phase }, { on := 3, ground := Go.Ground.phase }, { on := 4, ground := Go.Ground.phase }, { on := 5, ground := Go.Ground.phase }, { on := 6, ground := Go.Ground.phase }, { on := 7, ground := Go.Ground.phase }, { on := 8, ground := Go.Ground.phase }, { on := 9, ground := Go.Ground.phase }, { on := 10, ground := Go.Ground.phase }], guard := none }) (v := ?_) rfl (by kernel_rfl) (by kernel_rfl) (by kernel_rfl) (fun _ _ _ h => h) (Or.inl ⟨by rfl, ?_⟩) G9 ?_
  rotate_left
  focus (intro w' hSw; (try dsimp only at hSw); go_simp; (try with_reducible rfl))
  simp only [Act.put, List.setIfInBounds_toArray, List.set_cons_zero, List.set_cons_succ]
  refine wpAnyH_done (by kernel_rfl) ?_ _
  have hsc : w.heap.size + 4 ≤ wD.heap.size := by have h1 := HSB.out; have h2 := HBB2.out.size; have h3 := HRP.out.2.2.2.size; have h4 := HSD.out; omega
  have KO2 : Hid (∀ w', ButK (w.heap.size + 1 + 1) wD w' → w'.heap[w.heap.size + 1 + 1 + 1]? = some (.cells #[.int .i64 (writeS s x.place (strOf l)).1.many, .slice p' (writeS s x.place (strOf l)).1.sync.length c', .slice q' (writeS s x.place (strOf l)).1.loose.length d', .int .i64 (writeS s x.place (strOf l)).1.left] 35 (0, 0))) := Lib.hid fun w' h => (h.block _ (by omega) (by omega)).trans HRD.out
  have KR2 : Hid (∀ w', Below wD.heap.size wD w' → w'.heap[w.heap.size + 1 + 1]? = some (.cells #[.int .i64 0, .slice none 0 0, .slice none 0 0, .int .i64 0] 35 (0, 0))) := Lib.hid fun w' h => (h.block _ (by omega)).trans ((HKD.out.block _ (by have := HSD.out; omega) (by omega)).trans ((HRP.out.2.2.2.block _ (by have := HSB.out; have := HBB2.out.size; omega)).trans ((HBB2.out.block _ (by have := HSB.out; omega)).trans (KR.out _ HH2.out))))
  clear hsc
  have hee : ∀ e : Int, (e == e) = true := fun e => by simp
  go_upto_region 22 with fail
  refine wp_region_held_drew (S := fun w' => ButK (w.heap.size + 1 + 1) wD w') (by kernel_rfl) (.of ((Below.refl _ _).drew)) (fun G0 => ?_)
  refine wpAnyH_take (i := 0) (oi := { dst := some 109, op := Go.Op.move (Go.Operand.tmp 0), type := 29, pos := "law.go:73", after := #[], guard := none }) (v := ?_) rfl (by kernel_rfl) (by kernel_rfl) (by kernel_rfl) (fun _ _ _ h => h) (Or.inl ⟨by rfl, ?_⟩) G0 ?_
  rotate_left
  focus (intro w' hSw; (try dsimp only at hSw); go_simp; (try with_reducible rfl))
  simp only [Act.put, List.setIfInBounds_toArray, List.set_cons_zero, List.set_cons_succ]
  refine wpAnyH_take (i := 1) (oi := { dst := some 110, op := Go.Op.load 35 (Go.Operand.tmp 9), type := 35, pos := "law.go:73", after := #[{ on := 6, ground := Go.Ground.gcOnly Go.Departure.lateStores }], guard := none }) (v := ?_) rfl (by kernel_rfl) (by kernel_rfl) (by kernel_rfl) (fun _ _ _ h => h) (Or.inl ⟨by rfl, ?_⟩) G0 ?_
  rotate_left
  focus (intro w' hSw; (try dsimp only at hSw); have hr := KO2.out _ hSw; have c0 := row_at (i := 0) hr rfl; have c1 := row_at (i := 1) hr rfl; have c2 := row_at (i := 2) hr rfl; have c3 := row_at (i := 3) hr rfl; go_simp; (try with_reducible rfl))
  simp only [Act.put, List.setIfInBounds_toArray, List.set_cons_zero, List.set_cons_succ]
  refine wpAnyH_take (i := 2) (oi := { dst := some 111, op := Go.Op.move (Go.Operand.tmp 11), type := 30, pos := "law.go:73", after := #[], guard := none }) (v := ?_) rfl (by kernel_rfl) (by kernel_rfl) (by kernel_rfl) (fun _ _ _ h => h) (Or.inl ⟨by rfl, ?_⟩) G0 ?_
  rotate_left
  focus (intro w' hSw; (try dsimp only at hSw); go_simp; (try with_reducible rfl))
  simp only [Act.put, List.setIfInBounds_toArray, List.set_cons_zero, List.set_cons_succ]
  refine wpAnyH_take (i := 4) (oi := { dst := some 113, op := Go.Op.move (Go.Operand.tmp 10), type := 3, pos := "law.go:73", after := #[{ on := 7, ground := Go.Ground.gcOnly Go.Departure.lateStores }], guard := none }) (v := ?_) rfl (by kernel_rfl) (by kernel_rfl) (by kernel_rfl) (fun _ _ _ h => h) (Or.inl ⟨by rfl, ?_⟩) G0 ?_
  rotate_left
  focus (intro w' hSw; (try dsimp only at hSw); go_simp; (try with_reducible rfl))
  simp only [Act.put, List.setIfInBounds_toArray, List.set_cons_zero, List.set_cons_succ]
  refine wpAnyH_ready (rs := [3]) (by kernel_rfl) (by simp) ?_
  refine AllReadyH.cons (o := { dst := some 112, op := Go.Op.call { callee := Go.Callee.value (Go.Operand.func 12), args := #[Go.Operand.tmp 111], argTypes := #[30] }, type := 3, pos := "law.go:73", after := #[{ on := 2, ground := Go.Ground.data }], guard := none }) rfl (fun K hK => ?_) ?_
  rotate_left
  exact AllReadyH.nil
  go_simp
  (go_at_call 12; (with_reducible refine (NM.out _ _).mono ?_); rintro e wn ⟨rfl, rfl⟩)
  try go_wp2_with fail
  refine hK.out _ _ G0 (fun G1 => ?_)
  clear hK K
  try simp only [Act.put, List.setIfInBounds_toArray, List.set_cons_zero, List.set_cons_succ]
  clear G1
  refine wpAnyH_take (i := 5) (oi := { dst := some 114, op := Go.Op.binOp Go.BinOp.eql 3 (Go.Operand.tmp 112) (Go.Operand.tmp 113) 3, type := 4, pos := "law.go:73", after := #[{ on := 3, ground := Go.Ground.data }, { on := 4, ground := Go.Ground.data }, { on := 7, ground := Go.Ground.gcOnly Go.Departure.lateStores }], guard := none }) (v := ?_) rfl (by kernel_rfl) (by kernel_rfl) (by kernel_rfl) (fun _ _ _ h => h) (Or.inl ⟨by rfl, ?_⟩) G0 ?_
  rotate_left
  focus (intro w' hSw; (try dsimp only at hSw); go_simp; (try with_reducible rfl))
  simp only [Act.put, List.setIfInBounds_toArray, List.set_cons_zero, List.set_cons_succ]
  refine wpAnyH_take (i := 6) (oi := { dst := some 6, op := Go.Op.assign (Go.Operand.tmp 109), type := 29, pos := "law.go:73", after := #[{ on := 0, ground := Go.Ground.data }, { on := 3, ground := Go.Ground.chain }, { on := 0, ground := Go.Ground.phase }, { on := 1, ground := Go.Ground.textOnly Go.Departure.lateStores }, { on := 2, ground := Go.Ground.textOnly Go.Departure.lateStores }, { on := 3, ground := Go.Ground.textOnly Go.Departure.lateStoresUnsure }, { on := 4, ground := Go.Ground.textOnly Go.Departure.lateStores }, { on := 5, ground := Go.Ground.textOnly Go.Departure.lateStores }], guard := none }) (v := ?_) rfl (by kernel_rfl) (by kernel_rfl) (by kernel_rfl) (fun _ _ _ h => h) (Or.inl ⟨by rfl, ?_⟩) G0 ?_
  rotate_left
  focus (intro w' hSw; (try dsimp only at hSw); go_simp; (try with_reducible rfl))
  simp only [Act.put, List.setIfInBounds_toArray, List.set_cons_zero, List.set_cons_succ]
  refine wpAnyH_ready (rs := [7]) (by kernel_rfl) (by simp) ?_
  refine AllReadyH.cons (o := { dst := none, op := Go.Op.store 35 (Go.Operand.tmp 7) (Go.Operand.tmp 110), type := 0, pos := "law.go:73", after := #[{ on := 1, ground := Go.Ground.data }, { on := 6, ground := Go.Ground.chain }, { on := 0, ground := Go.Ground.phase }, { on := 1, ground := Go.Ground.phase }, { on := 2, ground := Go.Ground.textOnly Go.Departure.lateStores }, { on := 3, ground := Go.Ground.textOnly Go.Departure.lateStoresUnsure }, { on := 4, ground := Go.Ground.textOnly Go.Departure.lateStores }, { on := 5, ground := Go.Ground.textOnly Go.Departure.lateStores }, { on := 6, ground := Go.Ground.phase }], guard := none }) rfl (fun K hK => ?_) ?_
  rotate_left
  exact AllReadyH.nil
  refine step_store_row rfl 35 (.tmp 7) (.tmp 110) rfl (w.heap.size + 1 + 1) #[.int .i64 (writeS s x.place (strOf l)).1.many, .slice p' (writeS s x.place (strOf l)).1.sync.length c', .slice q' (writeS s x.place (strOf l)).1.loose.length d', .int .i64 (writeS s x.place (strOf l)).1.left] rfl rfl 35 #[.int .i64 0, .slice none 0 0, .slice none 0 0, .int .i64 0] (KR2.out _ ((Below.refl _ _).drew)) rfl rfl (by simp [Value.oneCell']) ?_
  have hrE := setRow_heap wD.drew (w.heap.size + 1 + 1) #[.int .i64 0, .slice none 0 0, .slice none 0 0, .int .i64 0] #[.int .i64 (writeS s x.place (strOf l)).1.many, .slice p' (writeS s x.place (strOf l)).1.sync.length c', .slice q' (writeS s x.place (strOf l)).1.loose.length d', .int .i64 (writeS s x.place (strOf l)).1.left] 35 (0, 0) (KR2.out _ ((Below.refl _ _).drew))
  have hkE : ButK (w.heap.size + 1 + 1) wD (wD.drew.setRow (w.heap.size + 1 + 1) #[.int .i64 (writeS s x.place (strOf l)).1.many, .slice p' (writeS s x.place (strOf l)).1.sync.length c', .slice q' (writeS s x.place (strOf l)).1.loose.length d', .int .i64 (writeS s x.place (strOf l)).1.left]) := (ButK.of ((Below.refl _ _).drew)).trans (ButK.row _ _)
  have hsE : (wD.drew.setRow (w.heap.size + 1 + 1) #[.int .i64 (writeS s x.place (strOf l)).1.many, .slice p' (writeS s x.place (strOf l)).1.sync.length c', .slice q' (writeS s x.place (strOf l)).1.loose.length d', .int .i64 (writeS s x.place (strOf l)).1.left]).heap.size = wD.heap.size := by simp
  obtain ⟨wE, hwE⟩ : ∃ wE, wD.drew.setRow (w.heap.size + 1 + 1) #[.int .i64 (writeS s x.place (strOf l)).1.many, .slice p' (writeS s x.place (strOf l)).1.sync.length c', .slice q' (writeS s x.place (strOf l)).1.loose.length d', .int .i64 (writeS s x.place (strOf l)).1.left] = wE := ⟨_, rfl⟩
  rw [hwE] at hrE hkE hsE ⊢
  refine hK.out _ _ hkE (fun G2 => ?_)
  clear hK K hwE
  try simp only [Act.put, List.setIfInBounds_toArray, List.set_cons_zero, List.set_cons_succ]
  refine wpAnyH_take (i := 8) (oi := { dst := some 8, op := Go.Op.assign (Go.Operand.tmp 114), type := 4, pos := "law.go:73", after := #[{ on := 5, ground := Go.Ground.data }, { on := 7, ground := Go.Ground.chain }, { on := 0, ground := Go.Ground.phase }, { on := 1, ground := Go.Ground.phase }, { on := 2, ground := Go.Ground.phase }, { on := 3, ground := Go.Ground.phase }, { on := 4, ground := Go.Ground.phase }, { on := 5, ground := Go.Ground.phase }, { on := 6, ground := Go.Ground.phase }, { on := 7, ground := Go.Ground.phase }], guard := none }) (v := ?_) rfl (by kernel_rfl) (by kernel_rfl) (by kernel_rfl) (fun _ _ _ h => h) (Or.inl ⟨by rfl, ?_⟩) G2 ?_
  rotate_left
  focus (intro w' hSw; (try dsimp only at hSw); go_simp; (try with_reducible rfl))
  simp only [Act.put, List.setIfInBounds_toArray, List.set_cons_zero, List.set_cons_succ]
  refine wpAnyH_done (by kernel_rfl) ?_ _
  have z0 := row_at (i := 0) hrE rfl; have z1 := row_at (i := 1) hrE rfl; have z2 := row_at (i := 2) hrE rfl; have z3 := row_at (i := 3) hrE rfl
  have HKE := Lib.hid hkE
  have HSE := Lib.hid hsE
  clear hkE hsE hrE G2
  go_wp2_with fail
  refine bodyPost_ret (v := .tuple #[d, .agg #[.int .i64 (writeS s x.place (strOf l)).1.many, .slice p' (writeS s x.place (strOf l)).1.sync.length c', .slice q' (writeS s x.place (strOf l)).1.loose.length d', .int .i64 (writeS s x.place (strOf l)).1.left], .bool true]) ?_ rfl ?_
  · simp [results, Try.results9, go_sem, z0, z1, z2, z3]
  · refine ⟨d, _, p', c', q', d', rfl, act_end S HP.out (AA.out.thn HH1.out) (by have := hA4.out; have := HH1.out.size; omega) HG.out.1 HG.out.2.1 HG.out.2.2 HBB2.out HRP.out.1 HRP.out.2.1 HRP.out.2.2.1 HRP.out.2.2.2 (.inr ⟨wD, HKD.out, HKE.out⟩) (HSE.out.trans HSD.out)⟩
set_option maxRecDepth 100000 in
set_option maxHeartbeats 4000000 in
theorem act_write2 {Rep : DiskRep} (S : DiskOk Rep) {w : World} {d : Value} {s : DS} {F : Nat → Prop} {p : Option Addr} {c : Nat} {q : Option Addr} {dd : Nat} {x : ActS} (hw0 : x.what = 2) (hP : PairOk Rep w d s F p c q dd) (hW : Whole s) (hf : Few s) (hl : s.left ≤ 9223372036854775807) (hx : ActIn w F x) :
    Calls Try.prog 9 #[d, refV s p c q dd, actV x] w (ActPost Rep F p q (writeS s x.place (strOf (bytesA x))).1 w) := by
  have hl2 := hW.left
  have hbl := bytesA_few x
  have hbb := bytesA_byte hx.byte
  have HBL := Lib.hid hbl
  have HBB := Lib.hid hbb
  have C22 := Lib.hid (actBytes_any x hx.byte)
  simp only [actV] at C22
  rw [hw0] at C22
  obtain ⟨l, hll⟩ : ∃ l, bytesA x = l := ⟨_, rfl⟩
  rw [hll] at hbl hbb HBL HBB C22 ⊢
  clear hll hbl hbb
  have HP := Lib.hid hP
  have HW := Lib.hid hW
  have HF := Lib.hid hf
  have HX := Lib.hid hx
  have NM := Lib.hid num_any
  have hlow := S.low _ _ _ _ hP.rep
  have LOW := Lib.hid hlow
  obtain ⟨wA, hwA⟩ : ∃ wA, (((w.alloc (.cells #[.int .i64 s.many, .slice p s.sync.length c, .slice q s.loose.length dd, .int .i64 s.left] 35)).alloc (.cells #[.int .i64 2, .int .i64 x.place, .int .i64 x.n, .int .u8 x.byte, .slice x.kp x.keep.length x.kc] 25)).alloc (.cells #[.int .i64 0, .slice none 0 0, .slice none 0 0, .int .i64 0] 35)).alloc (.cells #[.int .i64 s.many, .slice p s.sync.length c, .slice q s.loose.length dd, .int .i64 s.left] 35) = wA := ⟨_, rfl⟩
  have BA : Below w.heap.size w wA := by subst hwA; exact ((((Below.refl _ _).alloc (Nat.le_refl _) _).alloc (by simp) _).alloc (by simp; omega) _).alloc (by simp; omega) _
  have SA : wA.heap.size = w.heap.size + 4 := by subst hwA; simp
  have rV : wA.heap[w.heap.size]? = some (.cells #[.int .i64 s.many, .slice p s.sync.length c, .slice q s.loose.length dd, .int .i64 s.left] 35 (0, 0)) := by
    rw [← hwA]
    exact (Below.heap_alloc _ _ _ (by simp <;> omega)).trans ((Below.heap_alloc _ _ _ (by simp <;> omega)).trans ((Below.heap_alloc _ _ _ (by simp <;> omega)).trans (World.alloc_heap_new w _)))
  have rX : wA.heap[w.heap.size + 1]? = some (.cells #[.int .i64 2, .int .i64 x.place, .int .i64 x.n, .int .u8 x.byte, .slice x.kp x.keep.length x.kc] 25 (0, 0)) := by
    rw [← hwA]
    have e := World.alloc_heap_new (w.alloc (.cells #[.int .i64 s.many, .slice p s.sync.length c, .slice q s.loose.length dd, .int .i64 s.left] 35)) (.cells #[.int .i64 2, .int .i64 x.place, .int .i64 x.n, .int .u8 x.byte, .slice x.kp x.keep.length x.kc] 25)
    rw [World.size_alloc] at e
    exact (Below.heap_alloc _ _ _ (by simp <;> omega)).trans ((Below.heap_alloc _ _ _ (by simp <;> omega)).trans e)
  have rR : wA.heap[w.heap.size + 1 + 1]? = some (.cells #[.int .i64 0, .slice none 0 0, .slice none 0 0, .int .i64 0] 35 (0, 0)) := by
    rw [← hwA]
    have e := World.alloc_heap_new ((w.alloc (.cells #[.int .i64 s.many, .slice p s.sync.length c, .slice q s.loose.length dd, .int .i64 s.left] 35)).alloc (.cells #[.int .i64 2, .int .i64 x.place, .int .i64 x.n, .int .u8 x.byte, .slice x.kp x.keep.length x.kc] 25)) (.cells #[.int .i64 0, .slice none 0 0, .slice none 0 0, .int .i64 0] 35)
    rw [World.size_alloc, World.size_alloc] at e
    exact (Below.heap_alloc _ _ _ (by simp <;> omega)).trans e
  have rO : wA.heap[w.heap.size + 1 + 1 + 1]? = some (.cells #[.int .i64 s.many, .slice p s.sync.length c, .slice q s.loose.length dd, .int .i64 s.left] 35 (0, 0)) := by
    rw [← hwA]
    have e := World.alloc_heap_new (((w.alloc (.cells #[.int .i64 s.many, .slice p s.sync.length c, .slice q s.loose.length dd, .int .i64 s.left] 35)).alloc (.cells #[.int .i64 2, .int .i64 x.place, .int .i64 x.n, .int .u8 x.byte, .slice x.kp x.keep.length x.kc] 25)).alloc (.cells #[.int .i64 0, .slice none 0 0, .slice none 0 0, .int .i64 0] 35)) (.cells #[.int .i64 s.many, .slice p s.sync.length c, .slice q s.loose.length dd, .int .i64 s.left] 35)
    rw [World.size_alloc, World.size_alloc, World.size_alloc] at e
    exact e
  have apr : ∀ k, w.heap.size ≤ k → k < w.heap.size + 4 → ∀ w', Apart F wA w' → w'.heap[k]? = wA.heap[k]? := fun k h1 h2 w' h => h.block k (by omega) (fun f => by have := LOW.out k f; omega)
  have KV : Hid (∀ w', Apart F wA w' → w'.heap[w.heap.size]? = some (.cells #[.int .i64 s.many, .slice p s.sync.length c, .slice q s.loose.length dd, .int .i64 s.left] 35 (0, 0))) := Lib.hid fun w' h => (apr _ (by omega) (by omega) w' h).trans rV
  have KX : Hid (∀ w', Apart F wA w' → w'.heap[w.heap.size + 1]? = some (.cells #[.int .i64 2, .int .i64 x.place, .int .i64 x.n, .int .u8 x.byte, .slice x.kp x.keep.length x.kc] 25 (0, 0))) := Lib.hid fun w' h => (apr _ (by omega) (by omega) w' h).trans rX
  have KR : Hid (∀ w', Apart F wA w' → w'.heap[w.heap.size + 1 + 1]? = some (.cells #[.int .i64 0, .slice none 0 0, .slice none 0 0, .int .i64 0] 35 (0, 0))) := Lib.hid fun w' h => (apr _ (by omega) (by omega) w' h).trans rR
  have KO : Hid (∀ w', Apart F wA w' → w'.heap[w.heap.size + 1 + 1 + 1]? = some (.cells #[.int .i64 s.many, .slice p s.sync.length c, .slice q s.loose.length dd, .int .i64 s.left] 35 (0, 0))) := Lib.hid fun w' h => (apr _ (by omega) (by omega) w' h).trans rO
  have RA := Lib.hid (S.keep _ _ _ _ _ hP.rep BA.size (fun k hk => BA.block k (hlow k hk)))
  have AA : Hid (Apart F w wA) := Lib.hid (Below.apart BA F)
  have hA4 := Lib.hid (Nat.le_of_eq SA.symm)
  have HSA := Lib.hid SA
  unfold refV actV
  rw [hw0]
  clear hw0
  clear hP hW hf hx hlow rV rX rR rO apr BA SA
  go_enter Try.func9, Try.ntmps9
  go_upto_region 2 with fail
  try rw [hwA]
  clear hwA
  have hr0 := KX.out _ (Below.apart (Below.refl wA.heap.size wA) F)
  have c0 := row_at (i := 0) hr0 rfl
  go_upto_region 7 with fail
  clear c0 hr0
  refine wp_region_held_drew (S := fun w' => Apart F wA w') (by kernel_rfl) (Below.apart ((Below.refl _ _).drew) F) (fun H0 => ?_)
  refine wpAnyH_take (i := 0) (oi := { dst := some 26, op := Go.Op.move (Go.Operand.tmp 0), type := 29, pos := "law.go:55", after := #[], guard := none }) (v := ?_) rfl (by kernel_rfl) (by kernel_rfl) (by kernel_rfl) (fun _ _ _ h => h) (Or.inl ⟨by rfl, ?_⟩) H0 ?_
  rotate_left
  focus (intro w' hSw; (try dsimp only at hSw); go_simp; (try with_reducible rfl))
  simp only [Act.put, List.setIfInBounds_toArray, List.set_cons_zero, List.set_cons_succ]
  refine wpAnyH_take (i := 1) (oi := { dst := some 27, op := Go.Op.fieldAddr 25 (Go.Operand.tmp 5) 1, type := 0, pos := "law.go:55", after := #[], guard := none }) (v := ?_) rfl (by kernel_rfl) (by kernel_rfl) (by kernel_rfl) (fun _ _ _ h => h) (Or.inl ⟨by rfl, ?_⟩) H0 ?_
  rotate_left
  focus (intro w' hSw; (try dsimp only at hSw); go_simp; (try with_reducible rfl))
  simp only [Act.put, List.setIfInBounds_toArray, List.set_cons_zero, List.set_cons_succ]
  refine wpAnyH_take (i := 2) (oi := { dst := some 28, op := Go.Op.load 3 (Go.Operand.tmp 27), type := 3, pos := "law.go:55", after := #[{ on := 1, ground := Go.Ground.data }], guard := none }) (v := ?_) rfl (by kernel_rfl) (by kernel_rfl) (by kernel_rfl) (fun _ _ _ h => h) (Or.inl ⟨by rfl, ?_⟩) H0 ?_
  rotate_left
  focus (intro w' hSw; (try dsimp only at hSw); have hr := KX.out _ hSw; have c0 := row_at (i := 0) hr rfl; have c1 := row_at (i := 1) hr rfl; have c2 := row_at (i := 2) hr rfl; have c3 := row_at (i := 3) hr rfl; have c4 := row_at (i := 4) hr rfl; go_simp; (try with_reducible rfl))
  simp only [Act.put, List.setIfInBounds_toArray, List.set_cons_zero, List.set_cons_succ]
  refine wpAnyH_take (i := 3) (oi := { dst := some 29, op := Go.Op.load 25 (Go.Operand.tmp 5), type := 25, pos := "law.go:55", after := #[], guard := none }) (v := ?_) rfl (by kernel_rfl) (by kernel_rfl) (by kernel_rfl) (fun _ _ _ h => h) (Or.inl ⟨by rfl, ?_⟩) H0 ?_
  rotate_left
  focus (intro w' hSw; (try dsimp only at hSw); have hr := KX.out _ hSw; have c0 := row_at (i := 0) hr rfl; have c1 := row_at (i := 1) hr rfl; have c2 := row_at (i := 2) hr rfl; have c3 := row_at (i := 3) hr rfl; have c4 := row_at (i := 4) hr rfl; go_simp; (try with_reducible rfl))
  simp only [Act.put, List.setIfInBounds_toArray, List.set_cons_zero, List.set_cons_succ]
  refine wpAnyH_ready (rs := [4]) (by kernel_rfl) (by simp) ?_
  refine AllReadyH.cons (o := { dst := some 30, op := Go.Op.call { callee := Go.Callee.value (Go.Operand.func 22), args := #[Go.Operand.tmp 29], argTypes := #[25] }, type := 47, pos := "law.go:55", after := #[{ on := 3, ground := Go.Ground.data }], guard := none }) rfl (fun K hK => ?_) ?_
  rotate_left
  exact AllReadyH.nil
  go_simp
  (go_at_call 22; (with_reducible refine (C22.out _).mono ?_); rintro e wa ⟨t, rfl, hrb⟩; have hbA := hrb.2; obtain ⟨pb, cb, rfl, hb1, hb2, hb3, hb4⟩ := hrb.at'; have hnil := rowB_nil hrb)
  try go_wp2_with fail
  refine hK.out _ _ (H0.thn (Below.apart hbA F)) (fun H1 => ?_)
  clear hK K
  try simp only [Act.put, List.setIfInBounds_toArray, List.set_cons_zero, List.set_cons_succ]
  have hsa : wA.heap.size ≤ wa.heap.size := H1.size
  have Ra : Rep wa d s F := S.keep _ _ _ _ _ RA.out hsa (fun k hk => hbA.block k (S.low _ _ _ _ RA.out k hk))
  have hin : BytesIn wa F pb l cb := ⟨hb3, HBB.out, fun e => hnil e, ⟨hb1, by unfold maxLen at hb2; omega⟩, fun _ B off e f => by have h1 := hb4 _ e; have h2 := LOW.out B f; have h3 := HSA.out; simp only at h1; have h4 := (Below.refl wA.heap.size wA).drew.size; omega⟩
  refine wpAnyH_ready (rs := [5]) (by kernel_rfl) (by simp) ?_
  refine AllReadyH.cons (o := { dst := some 31, op := Go.Op.call { callee := Go.Callee.value (Go.Operand.func 15), args := #[Go.Operand.tmp 26, Go.Operand.tmp 28, Go.Operand.tmp 30], argTypes := #[29, 3, 47] }, type := 30, pos := "law.go:55", after := #[{ on := 0, ground := Go.Ground.data }, { on := 2, ground := Go.Ground.data }, { on := 4, ground := Go.Ground.data }, { on := 4, ground := Go.Ground.chain }], guard := none }) rfl (fun K hK => ?_) ?_
  rotate_left
  exact AllReadyH.nil
  go_simp
  (go_at_call 15; (with_reducible refine (S.write _ _ _ _ _ _ _ _ Ra HW.out HF.out (by have := HBL.out; omega) hin).mono ?_); rintro e wb ⟨rfl, hg⟩; obtain ⟨F', hR', hF', hAp⟩ := hg)
  try go_wp2_with fail
  refine hK.out _ _ (H1.thn hAp) (fun H2 => ?_)
  clear hK K
  try simp only [Act.put, List.setIfInBounds_toArray, List.set_cons_zero, List.set_cons_succ]
  refine wpAnyH_take (i := 6) (oi := { dst := some 11, op := Go.Op.assign (Go.Operand.tmp 31), type := 30, pos := "law.go:55", after := #[{ on := 5, ground := Go.Ground.data }, { on := 5, ground := Go.Ground.chain }, { on := 0, ground := Go.Ground.phase }, { on := 1, ground := Go.Ground.phase }, { on := 2, ground := Go.Ground.phase }, { on := 3, ground := Go.Ground.phase }, { on := 4, ground := Go.Ground.phase }, { on := 5, ground := Go.Ground.phase }], guard := none }) (v := ?_) rfl (by kernel_rfl) (by kernel_rfl) (by kernel_rfl) (fun _ _ _ h => h) (Or.inl ⟨by rfl, ?_⟩) H2 ?_
  rotate_left
  focus (intro w' hSw; (try dsimp only at hSw); go_simp; (try with_reducible rfl))
  simp only [Act.put, List.setIfInBounds_toArray, List.set_cons_zero, List.set_cons_succ]
  refine wpAnyH_done (by kernel_rfl) ?_ _
  have HG := Lib.hid (And.intro hR' (And.intro hF' hAp))
  have HH2 := Lib.hid H2
  have HH1 := Lib.hid H1
  have hsb : w.heap.size + 4 ≤ wb.heap.size := by have := hA4.out; have := H2.size; omega
  have HSB := Lib.hid hsb
  have KV8 : Hid (∀ w', ButK (w.heap.size + 1 + 1 + 1) wb w' → w'.heap[w.heap.size]? = some (.cells #[.int .i64 s.many, .slice p s.sync.length c, .slice q s.loose.length dd, .int .i64 s.left] 35 (0, 0))) := Lib.hid fun w' h => (h.block _ (by omega) (by omega)).trans (KV.out _ HH2.out)
  have KX8 : Hid (∀ w', ButK (w.heap.size + 1 + 1 + 1) wb w' → w'.heap[w.heap.size + 1]? = some (.cells #[.int .i64 2, .int .i64 x.place, .int .i64 x.n, .int .u8 x.byte, .slice x.kp x.keep.length x.kc] 25 (0, 0))) := Lib.hid fun w' h => (h.block _ (by omega) (by omega)).trans (KX.out _ HH2.out)
  have RB : Hid (∀ w', Below wb.heap.size wb w' → RefAt w' s p c q dd) := Lib.hid fun w' h => HP.out.ref.asIs (fun B off e => by
    have h1 := HP.out.pq B off e
    have h2 := (AA.out.thn HH2.out).block B h1.2 h1.1
    exact (h.block B (by omega)).trans h2)
  clear hR' hF' hAp H2 H1 hsb
  go_upto_region 8 with fail
  refine wp_region_held_drew (S := fun w' => ButK (w.heap.size + 1 + 1 + 1) wb w') (by kernel_rfl) (.of ((Below.refl _ _).drew)) (fun G0 => ?_)
  refine wpAnyH_take (i := 0) (oi := { dst := some 33, op := Go.Op.load 35 (Go.Operand.tmp 4), type := 35, pos := "law.go:56", after := #[], guard := none }) (v := ?_) rfl (by kernel_rfl) (by kernel_rfl) (by kernel_rfl) (fun _ _ _ h => h) (Or.inl ⟨by rfl, ?_⟩) G0 ?_
  rotate_left
  focus (intro w' hSw; (try dsimp only at hSw); have hr := KV8.out _ hSw; have c0 := row_at (i := 0) hr rfl; have c1 := row_at (i := 1) hr rfl; have c2 := row_at (i := 2) hr rfl; have c3 := row_at (i := 3) hr rfl; go_simp; (try with_reducible rfl))
  simp only [Act.put, List.setIfInBounds_toArray, List.set_cons_zero, List.set_cons_succ]
  refine wpAnyH_take (i := 1) (oi := { dst := some 34, op := Go.Op.fieldAddr 25 (Go.Operand.tmp 5) 1, type := 0, pos := "law.go:56", after := #[], guard := none }) (v := ?_) rfl (by kernel_rfl) (by kernel_rfl) (by kernel_rfl) (fun _ _ _ h => h) (Or.inl ⟨by rfl, ?_⟩) G0 ?_
  rotate_left
  focus (intro w' hSw; (try dsimp only at hSw); go_simp; (try with_reducible rfl))
  simp only [Act.put, List.setIfInBounds_toArray, List.set_cons_zero, List.set_cons_succ]
  refine wpAnyH_take (i := 2) (oi := { dst := some 35, op := Go.Op.load 3 (Go.Operand.tmp 34), type := 3, pos := "law.go:56", after := #[{ on := 1, ground := Go.Ground.data }], guard := none }) (v := ?_) rfl (by kernel_rfl) (by kernel_rfl) (by kernel_rfl) (fun _ _ _ h => h) (Or.inl ⟨by rfl, ?_⟩) G0 ?_
  rotate_left
  focus (intro w' hSw; (try dsimp only at hSw); have hr := KX8.out _ hSw; have c0 := row_at (i := 0) hr rfl; have c1 := row_at (i := 1) hr rfl; have c2 := row_at (i := 2) hr rfl; have c3 := row_at (i := 3) hr rfl; have c4 := row_at (i := 4) hr rfl; go_simp; (try with_reducible rfl))
  simp only [Act.put, List.setIfInBounds_toArray, List.set_cons_zero, List.set_cons_succ]
  refine wpAnyH_take (i := 3) (oi := { dst := some 36, op := Go.Op.load 25 (Go.Operand.tmp 5), type := 25, pos := "law.go:56", after := #[], guard := none }) (v := ?_) rfl (by kernel_rfl) (by kernel_rfl) (by kernel_rfl) (fun _ _ _ h => h) (Or.inl ⟨by rfl, ?_⟩) G0 ?_
  rotate_left
  focus (intro w' hSw; (try dsimp only at hSw); have hr := KX8.out _ hSw; have c0 := row_at (i := 0) hr rfl; have c1 := row_at (i := 1) hr rfl; have c2 := row_at (i := 2) hr rfl; have c3 := row_at (i := 3) hr rfl; have c4 := row_at (i := 4) hr rfl; go_simp; (try with_reducible rfl))
  simp only [Act.put, List.setIfInBounds_toArray, List.set_cons_zero, List.set_cons_succ]
  refine wpAnyH_ready (rs := [4]) (by kernel_rfl) (by simp) ?_
  refine AllReadyH.cons (o := { dst := some 37, op := Go.Op.call { callee := Go.Callee.value (Go.Operand.func 22), args := #[Go.Operand.tmp 36], argTypes := #[25] }, type := 47, pos := "law.go:56", after := #[{ on := 3, ground := Go.Ground.data }], guard := none }) rfl (fun K hK => ?_) ?_
  rotate_left
  exact AllReadyH.nil
  go_simp
  (go_at_call 22; (with_reducible refine (C22.out _).mono ?_); rintro e wa2 ⟨t2, rfl, hrb2⟩; have hbB := hrb2.2; obtain ⟨pb2, cb2, rfl, -, -, hb3', hb4'⟩ := hrb2.at')
  try go_wp2_with fail
  refine hK.out _ _ (G0.trans (.of hbB)) (fun G1 => ?_)
  clear hK K
  try simp only [Act.put, List.setIfInBounds_toArray, List.set_cons_zero, List.set_cons_succ]
  have hbB2 : Below wb.heap.size wb wa2 := below_any ((Below.refl _ _).drew) hbB
  have HBB2 := Lib.hid hbB2
  have CVB : Hid (∀ w', ButK (w.heap.size + 1 + 1 + 1) wa2 w' → (convert 47 9 (.slice pb2 l.length cb2)).run Try.prog w' = .ok (.string (strOf l)) w') := Lib.hid fun w' h => conv_at w' pb2 cb2 l HBB.out (fun i hi => by
    obtain ⟨B, off, e, cc⟩ := hb3' i hi
    have h1 := hb4' _ e
    have h2 := (Below.refl wb.heap.size wb).drew.size
    have h3 := HSB.out
    exact ⟨B, off, e, (World.cell?_of_block (a := ⟨B, off + i, none⟩) (h.block B (lt_of_cell_some cc) (by simp only at h1; omega))).trans cc⟩)
  have RWr := Lib.hid (refWrite_any s p c q dd x.place (strOf l) wa2 (by rw [strOf_size]; have := HBL.out; omega) HF.out ⟨hl2, hl⟩ (Lib.hid (RB.out _ hbB2)))
  simp only [refV] at RWr
  refine wpAnyH_turn (S' := fun w' => ButK (w.heap.size + 1 + 1 + 1) wa2 w') (fun w' h => G1.trans h) _ _ _ _ ?_
  have G2 : ButK (w.heap.size + 1 + 1 + 1) wa2 wa2 := .of (Below.refl _ _)
  clear hb3' hb4' hbB hbB2
  refine wpAnyH_take (i := 5) (oi := { dst := some 38, op := Go.Op.convert 47 9 (Go.Operand.tmp 37), type := 9, pos := "law.go:56", after := #[{ on := 4, ground := Go.Ground.data }], guard := none }) (v := ?_) rfl (by kernel_rfl) (by kernel_rfl) (by kernel_rfl) (fun _ _ _ h => h) (Or.inl ⟨by rfl, ?_⟩) G2 ?_
  rotate_left
  focus (intro w' hSw; (try dsimp only at hSw); have hv := CVB.out _ hSw; go_simp; (try with_reducible rfl))
  simp only [Act.put, List.setIfInBounds_toArray, List.set_cons_zero, List.set_cons_succ]
  refine wpAnyH_ready (rs := [6]) (by kernel_rfl) (by simp) ?_
  refine AllReadyH.cons (o := { dst := some 39, op := Go.Op.call { callee := Go.Callee.value (Go.Operand.func 23), args := #[Go.Operand.tmp 33, Go.Operand.tmp 35, Go.Operand.tmp 38], argTypes := #[35, 3, 9] }, type := 67, pos := "law.go:56", after := #[{ on := 0, ground := Go.Ground.data }, { on := 2, ground := Go.Ground.data }, { on := 5, ground := Go.Ground.data }, { on := 4, ground := Go.Ground.chain }], guard := none }) rfl (fun K hK => ?_) ?_
  rotate_left
  exact AllReadyH.nil
  go_simp
  (go_at_call 23; (with_reducible refine RWr.out.mono ?_); rintro e wc ⟨p', c', q', d', rfl, hr', f1, f2, hby⟩; have HRP := Lib.hid (And.intro hr' (And.intro f1 (And.intro f2 hby))); clear hr' f1 f2)
  try go_wp2_with fail
  refine hK.out _ _ (G2.trans (.of hby)) (fun G3 => ?_)
  clear hK K
  try simp only [Act.put, List.setIfInBounds_toArray, List.set_cons_zero, List.set_cons_succ]
  refine wpAnyH_take (i := 7) (oi := { dst := some 32, op := Go.Op.move (Go.Operand.tmp 39), type := 67, pos := "law.go:56", after := #[{ on := 6, ground := Go.Ground.data }], guard := none }) (v := ?_) rfl (by kernel_rfl) (by kernel_rfl) (by kernel_rfl) (fun _ _ _ h => h) (Or.inl ⟨by rfl, ?_⟩) G3 ?_
  rotate_left
  focus (intro w' hSw; (try dsimp only at hSw); go_simp; (try with_reducible rfl))
  simp only [Act.put, List.setIfInBounds_toArray, List.set_cons_zero, List.set_cons_succ]
  refine wpAnyH_take (i := 8) (oi := { dst := some 40, op := Go.Op.extract (Go.Operand.tmp 32) 0, type := 35, pos := "law.go:56", after := #[{ on := 7, ground := Go.Ground.data }], guard := none }) (v := ?_) rfl (by kernel_rfl) (by kernel_rfl) (by kernel_rfl) (fun _ _ _ h => h) (Or.inl ⟨by rfl, ?_⟩) G3 ?_
  rotate_left
  focus (intro w' hSw; (try dsimp only at hSw); go_simp; (try with_reducible rfl))
  simp only [Act.put, List.setIfInBounds_toArray, List.set_cons_zero, List.set_cons_succ]
  refine wpAnyH_take (i := 9) (oi := { dst := some 41, op := Go.Op.extract (Go.Operand.tmp 32) 1, type := 3, pos := "law.go:56", after := #[{ on := 7, ground := Go.Ground.data }, { on := 10, ground := Go.Ground.gcOnly Go.Departure.lateStores }], guard := none }) (v := ?_) rfl (by kernel_rfl) (by kernel_rfl) (by kernel_rfl) (fun _ _ _ h => h) (Or.inl ⟨by rfl, ?_⟩) G3 ?_
  rotate_left
  focus (intro w' hSw; (try dsimp only at hSw); go_simp; (try with_reducible rfl))
  simp only [Act.put, List.setIfInBounds_toArray, List.set_cons_zero, List.set_cons_succ]
  have rOc := (HRP.out.2.2.2.block _ (by have := HSB.out; have := HBB2.out.size; omega)).trans ((HBB2.out.block _ (by have := HSB.out; omega)).trans (KO.out _ HH2.out))
  refine wpAnyH_ready (rs := [10]) (by kernel_rfl) (by simp) ?_
  refine AllReadyH.cons (o := { dst := none, op := Go.Op.store 35 (Go.Operand.tmp 9) (Go.Operand.tmp 40), type := 0, pos := "law.go:56", after := #[{ on := 8, ground := Go.Ground.data }, { on := 6, ground := Go.Ground.chain }, { on := 0, ground := Go.Ground.phase }, { on := 1, ground := Go.Ground.phase }, { on := 2, ground := Go.Ground.phase }, { on := 3, ground := Go.Ground.phase }, { on := 4, ground := Go.Ground.phase }, { on := 5, ground := Go.Ground.phase }, { on := 6, ground := Go.Ground.phase }, { on := 7, ground := Go.Ground.phase }, { on := 8, ground := Go.Ground.phase }, { on := 9, ground := Go.Ground.textOnly Go.Departure.lateStores }], guard := none }) rfl (fun K hK => ?_) ?_
  rotate_left
  exact AllReadyH.nil
  refine step_store_row rfl 35 (.tmp 9) (.tmp 40) rfl (w.heap.size + 1 + 1 + 1) #[.int .i64 (writeS s x.place (strOf l)).1.many, .slice p' (writeS s x.place (strOf l)).1.sync.length c', .slice q' (writeS s x.place (strOf l)).1.loose.length d', .int .i64 (writeS s x.place (strOf l)).1.left] rfl rfl 35 #[.int .i64 s.many, .slice p s.sync.length c, .slice q s.loose.length dd, .int .i64 s.left] rOc rfl rfl (by simp [Value.oneCell']) ?_
  have hrD := setRow_heap wc (w.heap.size + 1 + 1 + 1) #[.int .i64 s.many, .slice p s.sync.length c, .slice q s.loose.length dd, .int .i64 s.left] #[.int .i64 (writeS s x.place (strOf l)).1.many, .slice p' (writeS s x.place (strOf l)).1.sync.length c', .slice q' (writeS s x.place (strOf l)).1.loose.length d', .int .i64 (writeS s x.place (strOf l)).1.left] 35 (0, 0) rOc
  have hkD : ButK (w.heap.size + 1 + 1 + 1) wc (wc.setRow (w.heap.size + 1 + 1 + 1) #[.int .i64 (writeS s x.place (strOf l)).1.many, .slice p' (writeS s x.place (strOf l)).1.sync.length c', .slice q' (writeS s x.place (strOf l)).1.loose.length d', .int .i64 (writeS s x.place (strOf l)).1.left]) := ButK.row _ _
  have hsD : (wc.setRow (w.heap.size + 1 + 1 + 1) #[.int .i64 (writeS s x.place (strOf l)).1.many, .slice p' (writeS s x.place (strOf l)).1.sync.length c', .slice q' (writeS s x.place (strOf l)).1.loose.length d', .int .i64 (writeS s x.place (strOf l)).1.left]).heap.size = wc.heap.size := by simp
  obtain ⟨wD, hwD⟩ : ∃ wD, wc.setRow (w.heap.size + 1 + 1 + 1) #[.int .i64 (writeS s x.place (strOf l)).1.many, .slice p' (writeS s x.place (strOf l)).1.sync.length c', .slice q' (writeS s x.place (strOf l)).1.loose.length d', .int .i64 (writeS s x.place (strOf l)).1.left] = wD := ⟨_, rfl⟩
  rw [hwD] at hrD hkD hsD ⊢
  have HKD := Lib.hid hkD
  have HSD := Lib.hid hsD
  have HRD := Lib.hid hrD
  refine hK.out _ _ (G3.trans hkD) (fun G9 => ?_)
  clear hK K hwD hkD hsD hrD
  try simp only [Act.put, List.setIfInBounds_toArray, List.set_cons_zero, List.set_cons_succ]
  refine wpAnyH_take (i := 11) (oi := { dst := some 10, op := Go.Op.assign (Go.Operand.tmp 41), type := 3, pos := "law.go:56", after := #[{ on := 9, ground := Go.Ground.data }, { on := 10, ground := Go.Ground.chain }, { on := 0, ground := Go.Ground.phase }, { on := 1, ground := Go.Ground.phase }, { on := 2, ground := Go.Ground.phase }, { on := 3, ground := Go.Ground.phase }, { on := 4, ground := Go.Ground.phase }, { on := 5, ground := Go.Ground.phase }, { on := 6, ground := Go.Ground.phase }, { on := 7, ground := Go.Ground.phase }, { on := 8, ground := Go.Ground.phase }, { on := 9, ground := Go.Ground.phase }, { on := 10, ground := Go.Ground.phase }], guard := none }) (v := ?_) rfl (by kernel_rfl) (by kernel_rfl) (by kernel_rfl) (fun _ _ _ h => h) (Or.inl ⟨by rfl, ?_⟩) G9 ?_
  rotate_left
  focus (intro w' hSw; (try dsimp only at hSw); go_simp; (try with_reducible rfl))
  simp only [Act.put, List.setIfInBounds_toArray, List.set_cons_zero, List.set_cons_succ]
  refine wpAnyH_done (by kernel_rfl) ?_ _
  have hsc : w.heap.size + 4 ≤ wD.heap.size := by have h1 := HSB.out; have h2 := HBB2.out.size; have h3 := HRP.out.2.2.2.size; have h4 := HSD.out; omega
  have KO2 : Hid (∀ w', ButK (w.heap.size + 1 + 1) wD w' → w'.heap[w.heap.size + 1 + 1 + 1]? = some (.cells #[.int .i64 (writeS s x.place (strOf l)).1.many, .slice p' (writeS s x.place (strOf l)).1.sync.length c', .slice q' (writeS s x.place (strOf l)).1.loose.length d', .int .i64 (writeS s x.place (strOf l)).1.left] 35 (0, 0))) := Lib.hid fun w' h => (h.block _ (by omega) (by omega)).trans HRD.out
  have KR2 : Hid (∀ w', Below wD.heap.size wD w' → w'.heap[w.heap.size + 1 + 1]? = some (.cells #[.int .i64 0, .slice none 0 0, .slice none 0 0, .int .i64 0] 35 (0, 0))) := Lib.hid fun w' h => (h.block _ (by omega)).trans ((HKD.out.block _ (by have := HSD.out; omega) (by omega)).trans ((HRP.out.2.2.2.block _ (by have := HSB.out; have := HBB2.out.size; omega)).trans ((HBB2.out.block _ (by have := HSB.out; omega)).trans (KR.out _ HH2.out))))
  clear hsc
  have hee : ∀ e : Int, (e == e) = true := fun e => by simp
  go_upto_region 22 with fail
  refine wp_region_held_drew (S := fun w' => ButK (w.heap.size + 1 + 1) wD w') (by kernel_rfl) (.of ((Below.refl _ _).drew)) (fun G0 => ?_)
  refine wpAnyH_take (i := 0) (oi := { dst := some 109, op := Go.Op.move (Go.Operand.tmp 0), type := 29, pos := "law.go:73", after := #[], guard := none }) (v := ?_) rfl (by kernel_rfl) (by kernel_rfl) (by kernel_rfl) (fun _ _ _ h => h) (Or.inl ⟨by rfl, ?_⟩) G0 ?_
  rotate_left
  focus (intro w' hSw; (try dsimp only at hSw); go_simp; (try with_reducible rfl))
  simp only [Act.put, List.setIfInBounds_toArray, List.set_cons_zero, List.set_cons_succ]
  refine wpAnyH_take (i := 1) (oi := { dst := some 110, op := Go.Op.load 35 (Go.Operand.tmp 9), type := 35, pos := "law.go:73", after := #[{ on := 6, ground := Go.Ground.gcOnly Go.Departure.lateStores }], guard := none }) (v := ?_) rfl (by kernel_rfl) (by kernel_rfl) (by kernel_rfl) (fun _ _ _ h => h) (Or.inl ⟨by rfl, ?_⟩) G0 ?_
  rotate_left
  focus (intro w' hSw; (try dsimp only at hSw); have hr := KO2.out _ hSw; have c0 := row_at (i := 0) hr rfl; have c1 := row_at (i := 1) hr rfl; have c2 := row_at (i := 2) hr rfl; have c3 := row_at (i := 3) hr rfl; go_simp; (try with_reducible rfl))
  simp only [Act.put, List.setIfInBounds_toArray, List.set_cons_zero, List.set_cons_succ]
  refine wpAnyH_take (i := 2) (oi := { dst := some 111, op := Go.Op.move (Go.Operand.tmp 11), type := 30, pos := "law.go:73", after := #[], guard := none }) (v := ?_) rfl (by kernel_rfl) (by kernel_rfl) (by kernel_rfl) (fun _ _ _ h => h) (Or.inl ⟨by rfl, ?_⟩) G0 ?_
  rotate_left
  focus (intro w' hSw; (try dsimp only at hSw); go_simp; (try with_reducible rfl))
  simp only [Act.put, List.setIfInBounds_toArray, List.set_cons_zero, List.set_cons_succ]
  refine wpAnyH_take (i := 4) (oi := { dst := some 113, op := Go.Op.move (Go.Operand.tmp 10), type := 3, pos := "law.go:73", after := #[{ on := 7, ground := Go.Ground.gcOnly Go.Departure.lateStores }], guard := none }) (v := ?_) rfl (by kernel_rfl) (by kernel_rfl) (by kernel_rfl) (fun _ _ _ h => h) (Or.inl ⟨by rfl, ?_⟩) G0 ?_
  rotate_left
  focus (intro w' hSw; (try dsimp only at hSw); go_simp; (try with_reducible rfl))
  simp only [Act.put, List.setIfInBounds_toArray, List.set_cons_zero, List.set_cons_succ]
  refine wpAnyH_ready (rs := [3]) (by kernel_rfl) (by simp) ?_
  refine AllReadyH.cons (o := { dst := some 112, op := Go.Op.call { callee := Go.Callee.value (Go.Operand.func 12), args := #[Go.Operand.tmp 111], argTypes := #[30] }, type := 3, pos := "law.go:73", after := #[{ on := 2, ground := Go.Ground.data }], guard := none }) rfl (fun K hK => ?_) ?_
  rotate_left
  exact AllReadyH.nil
  go_simp
  (go_at_call 12; (with_reducible refine (NM.out _ _).mono ?_); rintro e wn ⟨rfl, rfl⟩)
  try go_wp2_with fail
  refine hK.out _ _ G0 (fun G1 => ?_)
  clear hK K
  try simp only [Act.put, List.setIfInBounds_toArray, List.set_cons_zero, List.set_cons_succ]
  clear G1
  refine wpAnyH_take (i := 5) (oi := { dst := some 114, op := Go.Op.binOp Go.BinOp.eql 3 (Go.Operand.tmp 112) (Go.Operand.tmp 113) 3, type := 4, pos := "law.go:73", after := #[{ on := 3, ground := Go.Ground.data }, { on := 4, ground := Go.Ground.data }, { on := 7, ground := Go.Ground.gcOnly Go.Departure.lateStores }], guard := none }) (v := ?_) rfl (by kernel_rfl) (by kernel_rfl) (by kernel_rfl) (fun _ _ _ h => h) (Or.inl ⟨by rfl, ?_⟩) G0 ?_
  rotate_left
  focus (intro w' hSw; (try dsimp only at hSw); go_simp; (try with_reducible rfl))
  simp only [Act.put, List.setIfInBounds_toArray, List.set_cons_zero, List.set_cons_succ]
  refine wpAnyH_take (i := 6) (oi := { dst := some 6, op := Go.Op.assign (Go.Operand.tmp 109), type := 29, pos := "law.go:73", after := #[{ on := 0, ground := Go.Ground.data }, { on := 3, ground := Go.Ground.chain }, { on := 0, ground := Go.Ground.phase }, { on := 1, ground := Go.Ground.textOnly Go.Departure.lateStores }, { on := 2, ground := Go.Ground.textOnly Go.Departure.lateStores }, { on := 3, ground := Go.Ground.textOnly Go.Departure.lateStoresUnsure }, { on := 4, ground := Go.Ground.textOnly Go.Departure.lateStores }, { on := 5, ground := Go.Ground.textOnly Go.Departure.lateStores }], guard := none }) (v := ?_) rfl (by kernel_rfl) (by kernel_rfl) (by kernel_rfl) (fun _ _ _ h => h) (Or.inl ⟨by rfl, ?_⟩) G0 ?_
  rotate_left
  focus (intro w' hSw; (try dsimp only at hSw); go_simp; (try with_reducible rfl))
  simp only [Act.put, List.setIfInBounds_toArray, List.set_cons_zero, List.set_cons_succ]
  refine wpAnyH_ready (rs := [7]) (by kernel_rfl) (by simp) ?_
  refine AllReadyH.cons (o := { dst := none, op := Go.Op.store 35 (Go.Operand.tmp 7) (Go.Operand.tmp 110), type := 0, pos := "law.go:73", after := #[{ on := 1, ground := Go.Ground.data }, { on := 6, ground := Go.Ground.chain }, { on := 0, ground := Go.Ground.phase }, { on := 1, ground := Go.Ground.phase }, { on := 2, ground := Go.Ground.textOnly Go.Departure.lateStores }, { on := 3, ground := Go.Ground.textOnly Go.Departure.lateStoresUnsure }, { on := 4, ground := Go.Ground.textOnly Go.Departure.lateStores }, { on := 5, ground := Go.Ground.textOnly Go.Departure.lateStores }, { on := 6, ground := Go.Ground.phase }], guard := none }) rfl (fun K hK => ?_) ?_
  rotate_left
  exact AllReadyH.nil
  refine step_store_row rfl 35 (.tmp 7) (.tmp 110) rfl (w.heap.size + 1 + 1) #[.int .i64 (writeS s x.place (strOf l)).1.many, .slice p' (writeS s x.place (strOf l)).1.sync.length c', .slice q' (writeS s x.place (strOf l)).1.loose.length d', .int .i64 (writeS s x.place (strOf l)).1.left] rfl rfl 35 #[.int .i64 0, .slice none 0 0, .slice none 0 0, .int .i64 0] (KR2.out _ ((Below.refl _ _).drew)) rfl rfl (by simp [Value.oneCell']) ?_
  have hrE := setRow_heap wD.drew (w.heap.size + 1 + 1) #[.int .i64 0, .slice none 0 0, .slice none 0 0, .int .i64 0] #[.int .i64 (writeS s x.place (strOf l)).1.many, .slice p' (writeS s x.place (strOf l)).1.sync.length c', .slice q' (writeS s x.place (strOf l)).1.loose.length d', .int .i64 (writeS s x.place (strOf l)).1.left] 35 (0, 0) (KR2.out _ ((Below.refl _ _).drew))
  have hkE : ButK (w.heap.size + 1 + 1) wD (wD.drew.setRow (w.heap.size + 1 + 1) #[.int .i64 (writeS s x.place (strOf l)).1.many, .slice p' (writeS s x.place (strOf l)).1.sync.length c', .slice q' (writeS s x.place (strOf l)).1.loose.length d', .int .i64 (writeS s x.place (strOf l)).1.left]) := (ButK.of ((Below.refl _ _).drew)).trans (ButK.row _ _)
  have hsE : (wD.drew.setRow (w.heap.size + 1 + 1) #[.int .i64 (writeS s x.place (strOf l)).1.many, .slice p' (writeS s x.place (strOf l)).1.sync.length c', .slice q' (writeS s x.place (strOf l)).1.loose.length d', .int .i64 (writeS s x.place (strOf l)).1.left]).heap.size = wD.heap.size := by simp
  obtain ⟨wE, hwE⟩ : ∃ wE, wD.drew.setRow (w.heap.size + 1 + 1) #[.int .i64 (writeS s x.place (strOf l)).1.many, .slice p' (writeS s x.place (strOf l)).1.sync.length c', .slice q' (writeS s x.place (strOf l)).1.loose.length d', .int .i64 (writeS s x.place (strOf l)).1.left] = wE := ⟨_, rfl⟩
  rw [hwE] at hrE hkE hsE ⊢
  refine hK.out _ _ hkE (fun G2 => ?_)
  clear hK K hwE
  try simp only [Act.put, List.setIfInBounds_toArray, List.set_cons_zero, List.set_cons_succ]
  refine wpAnyH_take (i := 8) (oi := { dst := some 8, op := Go.Op.assign (Go.Operand.tmp 114), type := 4, pos := "law.go:73", after := #[{ on := 5, ground := Go.Ground.data }, { on := 7, ground := Go.Ground.chain }, { on := 0, ground := Go.Ground.phase }, { on := 1, ground := Go.Ground.phase }, { on := 2, ground := Go.Ground.phase }, { on := 3, ground := Go.Ground.phase }, { on := 4, ground := Go.Ground.phase }, { on := 5, ground := Go.Ground.phase }, { on := 6, ground := Go.Ground.phase }, { on := 7, ground := Go.Ground.phase }], guard := none }) (v := ?_) rfl (by kernel_rfl) (by kernel_rfl) (by kernel_rfl) (fun _ _ _ h => h) (Or.inl ⟨by rfl, ?_⟩) G2 ?_
  rotate_left
  focus (intro w' hSw; (try dsimp only at hSw); go_simp; (try with_reducible rfl))
  simp only [Act.put, List.setIfInBounds_toArray, List.set_cons_zero, List.set_cons_succ]
  refine wpAnyH_done (by kernel_rfl) ?_ _
  have z0 := row_at (i := 0) hrE rfl; have z1 := row_at (i := 1) hrE rfl; have z2 := row_at (i := 2) hrE rfl; have z3 := row_at (i := 3) hrE rfl
  have HKE := Lib.hid hkE
  have HSE := Lib.hid hsE
  clear hkE hsE hrE G2
  go_wp2_with fail
  refine bodyPost_ret (v := .tuple #[d, .agg #[.int .i64 (writeS s x.place (strOf l)).1.many, .slice p' (writeS s x.place (strOf l)).1.sync.length c', .slice q' (writeS s x.place (strOf l)).1.loose.length d', .int .i64 (writeS s x.place (strOf l)).1.left], .bool true]) ?_ rfl ?_
  · simp [results, Try.results9, go_sem, z0, z1, z2, z3]
  · refine ⟨d, _, p', c', q', d', rfl, act_end S HP.out (AA.out.thn HH1.out) (by have := hA4.out; have := HH1.out.size; omega) HG.out.1 HG.out.2.1 HG.out.2.2 HBB2.out HRP.out.1 HRP.out.2.1 HRP.out.2.2.1 HRP.out.2.2.2 (.inr ⟨wD, HKD.out, HKE.out⟩) (HSE.out.trans HSD.out)⟩
end Go.Proofs.Ythbnochlpnikaaa
namespace Go.Proofs.Ythbnochlpnikaaa
open Go.RowKit Go.Shelf

set_option maxRecDepth 100000 in
set_option maxHeartbeats 4000000 in
theorem act_sync {Rep : DiskRep} (S : DiskOk Rep) {w : World} {d : Value} {s : DS} {F : Nat → Prop} {p : Option Addr} {c : Nat} {q : Option Addr} {dd : Nat} {x : ActS} (hw0 : x.what = 3) (hP : PairOk Rep w d s F p c q dd) (hW : Whole s) (hf : Few s) (hl : s.left ≤ 9223372036854775807) (hx : ActIn w F x) :
    Calls Try.prog 9 #[d, refV s p c q dd, actV x] w (ActPost Rep F p q (syncS s).1 w) := by
  have hl2 := hW.left
  have HP := Lib.hid hP
  have HW := Lib.hid hW
  have HF := Lib.hid hf
  have HX := Lib.hid hx
  have NM := Lib.hid num_any
  have hlow := S.low _ _ _ _ hP.rep
  have LOW := Lib.hid hlow
  obtain ⟨wA, hwA⟩ : ∃ wA, (((w.alloc (.cells #[.int .i64 s.many, .slice p s.sync.length c, .slice q s.loose.length dd, .int .i64 s.left] 35)).alloc (.cells #[.int .i64 3, .int .i64 x.place, .int .i64 x.n, .int .u8 x.byte, .slice x.kp x.keep.length x.kc] 25)).alloc (.cells #[.int .i64 0, .slice none 0 0, .slice none 0 0, .int .i64 0] 35)).alloc (.cells #[.int .i64 s.many, .slice p s.sync.length c, .slice q s.loose.length dd, .int .i64 s.left] 35) = wA := ⟨_, rfl⟩
  have BA : Below w.heap.size w wA := by subst hwA; exact ((((Below.refl _ _).alloc (Nat.le_refl _) _).alloc (by simp) _).alloc (by simp; omega) _).alloc (by simp; omega) _
  have SA : wA.heap.size = w.heap.size + 4 := by subst hwA; simp
  have rV : wA.heap[w.heap.size]? = some (.cells #[.int .i64 s.many, .slice p s.sync.length c, .slice q s.loose.length dd, .int .i64 s.left] 35 (0, 0)) := by
    rw [← hwA]
    exact (Below.heap_alloc _ _ _ (by simp <;> omega)).trans ((Below.heap_alloc _ _ _ (by simp <;> omega)).trans ((Below.heap_alloc _ _ _ (by simp <;> omega)).trans (World.alloc_heap_new w _)))
  have rX : wA.heap[w.heap.size + 1]? = some (.cells #[.int .i64 3, .int .i64 x.place, .int .i64 x.n, .int .u8 x.byte, .slice x.kp x.keep.length x.kc] 25 (0, 0)) := by
    rw [← hwA]
    have e := World.alloc_heap_new (w.alloc (.cells #[.int .i64 s.many, .slice p s.sync.length c, .slice q s.loose.length dd, .int .i64 s.left] 35)) (.cells #[.int .i64 3, .int .i64 x.place, .int .i64 x.n, .int .u8 x.byte, .slice x.kp x.keep.length x.kc] 25)
    rw [World.size_alloc] at e
    exact (Below.heap_alloc _ _ _ (by simp <;> omega)).trans ((Below.heap_alloc _ _ _ (by simp <;> omega)).trans e)
  have rR : wA.heap[w.heap.size + 1 + 1]? = some (.cells #[.int .i64 0, .slice none 0 0, .slice none 0 0, .int .i64 0] 35 (0, 0)) := by
    rw [← hwA]
    have e := World.alloc_heap_new ((w.alloc (.cells #[.int .i64 s.many, .slice p s.sync.length c, .slice q s.loose.length dd, .int .i64 s.left] 35)).alloc (.cells #[.int .i64 3, .int .i64 x.place, .int .i64 x.n, .int .u8 x.byte, .slice x.kp x.keep.length x.kc] 25)) (.cells #[.int .i64 0, .slice none 0 0, .slice none 0 0, .int .i64 0] 35)
    rw [World.size_alloc, World.size_alloc] at e
    exact (Below.heap_alloc _ _ _ (by simp <;> omega)).trans e
  have rO : wA.heap[w.heap.size + 1 + 1 + 1]? = some (.cells #[.int .i64 s.many, .slice p s.sync.length c, .slice q s.loose.length dd, .int .i64 s.left] 35 (0, 0)) := by
    rw [← hwA]
    have e := World.alloc_heap_new (((w.alloc (.cells #[.int .i64 s.many, .slice p s.sync.length c, .slice q s.loose.length dd, .int .i64 s.left] 35)).alloc (.cells #[.int .i64 3, .int .i64 x.place, .int .i64 x.n, .int .u8 x.byte, .slice x.kp x.keep.length x.kc] 25)).alloc (.cells #[.int .i64 0, .slice none 0 0, .slice none 0 0, .int .i64 0] 35)) (.cells #[.int .i64 s.many, .slice p s.sync.length c, .slice q s.loose.length dd, .int .i64 s.left] 35)
    rw [World.size_alloc, World.size_alloc, World.size_alloc] at e
    exact e
  have apr : ∀ k, w.heap.size ≤ k → k < w.heap.size + 4 → ∀ w', Apart F wA w' → w'.heap[k]? = wA.heap[k]? := fun k h1 h2 w' h => h.block k (by omega) (fun f => by have := LOW.out k f; omega)
  have KV : Hid (∀ w', Apart F wA w' → w'.heap[w.heap.size]? = some (.cells #[.int .i64 s.many, .slice p s.sync.length c, .slice q s.loose.length dd, .int .i64 s.left] 35 (0, 0))) := Lib.hid fun w' h => (apr _ (by omega) (by omega) w' h).trans rV
  have KX : Hid (∀ w', Apart F wA w' → w'.heap[w.heap.size + 1]? = some (.cells #[.int .i64 3, .int .i64 x.place, .int .i64 x.n, .int .u8 x.byte, .slice x.kp x.keep.length x.kc] 25 (0, 0))) := Lib.hid fun w' h => (apr _ (by omega) (by omega) w' h).trans rX
  have KR : Hid (∀ w', Apart F wA w' → w'.heap[w.heap.size + 1 + 1]? = some (.cells #[.int .i64 0, .slice none 0 0, .slice none 0 0, .int .i64 0] 35 (0, 0))) := Lib.hid fun w' h => (apr _ (by omega) (by omega) w' h).trans rR
  have KO : Hid (∀ w', Apart F wA w' → w'.heap[w.heap.size + 1 + 1 + 1]? = some (.cells #[.int .i64 s.many, .slice p s.sync.length c, .slice q s.loose.length dd, .int .i64 s.left] 35 (0, 0))) := Lib.hid fun w' h => (apr _ (by omega) (by omega) w' h).trans rO
  have RA := Lib.hid (S.keep _ _ _ _ _ hP.rep BA.size (fun k hk => BA.block k (hlow k hk)))
  have AA : Hid (Apart F w wA) := Lib.hid (Below.apart BA F)
  have hA4 := Lib.hid (Nat.le_of_eq SA.symm)
  have HSA := Lib.hid SA
  unfold refV actV
  rw [hw0]
  clear hw0
  clear hP hW hf hx hlow rV rX rR rO apr BA SA
  go_enter Try.func9, Try.ntmps9
  go_upto_region 2 with fail
  try rw [hwA]
  clear hwA
  have hr0 := KX.out _ (Below.apart (Below.refl wA.heap.size wA) F)
  have c0 := row_at (i := 0) hr0 rfl
  go_upto_region 10 with fail
  clear c0 hr0
  have H1 : Apart F wA wA := Below.apart (Below.refl _ _) F
  have hr0 := KX.out _ H1
  have c0 := row_at (i := 0) hr0 rfl; have c1 := row_at (i := 1) hr0 rfl; have c2 := row_at (i := 2) hr0 rfl; have c3 := row_at (i := 3) hr0 rfl; have c4 := row_at (i := 4) hr0 rfl
  go_upto_region 11 with (go_at_call 17; (with_reducible refine (S.sync _ _ _ _ RA.out HW.out HF.out).mono ?_); rintro e wb ⟨rfl, hg⟩; obtain ⟨F', hR', hF', hAp⟩ := hg)
  clear c0 c1 c2 c3 c4 hr0
  have H2 := hAp
  have HG := Lib.hid (And.intro hR' (And.intro hF' hAp))
  have HH2 := Lib.hid H2
  have HH1 := Lib.hid H1
  have hsb : w.heap.size + 4 ≤ wb.heap.size := by have := hA4.out; have := H2.size; omega
  have HSB := Lib.hid hsb
  have KV8 : Hid (∀ w', ButK (w.heap.size + 1 + 1 + 1) wb w' → w'.heap[w.heap.size]? = some (.cells #[.int .i64 s.many, .slice p s.sync.length c, .slice q s.loose.length dd, .int .i64 s.left] 35 (0, 0))) := Lib.hid fun w' h => (h.block _ (by omega) (by omega)).trans (KV.out _ HH2.out)
  have KX8 : Hid (∀ w', ButK (w.heap.size + 1 + 1 + 1) wb w' → w'.heap[w.heap.size + 1]? = some (.cells #[.int .i64 3, .int .i64 x.place, .int .i64 x.n, .int .u8 x.byte, .slice x.kp x.keep.length x.kc] 25 (0, 0))) := Lib.hid fun w' h => (h.block _ (by omega) (by omega)).trans (KX.out _ HH2.out)
  have RB : Hid (∀ w', Below wb.heap.size wb w' → RefAt w' s p c q dd) := Lib.hid fun w' h => HP.out.ref.asIs (fun B off e => by
    have h1 := HP.out.pq B off e
    have h2 := (AA.out.thn HH2.out).block B h1.2 h1.1
    exact (h.block B (by omega)).trans h2)
  clear hR' hF' hAp H2 H1 hsb
  have hv8 := KV8.out _ (.of (Below.refl _ _))
  have hx8 := KX8.out _ (.of (Below.refl _ _))
  have c0 := row_at (i := 0) hv8 rfl; have c1 := row_at (i := 1) hv8 rfl; have c2 := row_at (i := 2) hv8 rfl; have c3 := row_at (i := 3) hv8 rfl
  have e0 := row_at (i := 0) hx8 rfl; have e1 := row_at (i := 1) hx8 rfl; have e2 := row_at (i := 2) hx8 rfl; have e3 := row_at (i := 3) hx8 rfl; have e4 := row_at (i := 4) hx8 rfl
  have HRB := Lib.hid (RB.out _ (Below.refl _ _))
  have RY := Lib.hid (refSync_any s p c q dd wb HF.out ⟨hl2, hl⟩ HRB)
  simp only [refV] at RY
  have HBB2 : Hid (Below wb.heap.size wb wb) := Lib.hid (Below.refl _ _)
  go_upto_region 22 with (first
    | (go_at_call 24; (with_reducible refine RY.out.mono ?_); rintro e wc ⟨p', c', q', d', rfl, hr', f1, f2, hby⟩; have HRP := Lib.hid (And.intro hr' (And.intro f1 (And.intro f2 hby))); have rOc := (hby.block _ (by have := HSB.out; omega)).trans (KO.out _ HH2.out); clear hr' f1 f2 hby)
    | (refine wpList_store_row rfl 35 (.tmp 9) (.tmp 49) rfl (w.heap.size + 1 + 1 + 1) #[.int .i64 (syncS s).1.many, .slice p' (syncS s).1.sync.length c', .slice q' (syncS s).1.loose.length d', .int .i64 (syncS s).1.left] rfl rfl 35 #[.int .i64 s.many, .slice p s.sync.length c, .slice q s.loose.length dd, .int .i64 s.left] rOc rfl rfl (by simp [Value.oneCell']) ?_; have hrD := setRow_heap wc (w.heap.size + 1 + 1 + 1) #[.int .i64 s.many, .slice p s.sync.length c, .slice q s.loose.length dd, .int .i64 s.left] #[.int .i64 (syncS s).1.many, .slice p' (syncS s).1.sync.length c', .slice q' (syncS s).1.loose.length d', .int .i64 (syncS s).1.left] 35 (0, 0) rOc; have hkD : ButK (w.heap.size + 1 + 1 + 1) wc (wc.setRow (w.heap.size + 1 + 1 + 1) #[.int .i64 (syncS s).1.many, .slice p' (syncS s).1.sync.length c', .slice q' (syncS s).1.loose.length d', .int .i64 (syncS s).1.left]) := ButK.row _ _; have hsD : (wc.setRow (w.heap.size + 1 + 1 + 1) #[.int .i64 (syncS s).1.many, .slice p' (syncS s).1.sync.length c', .slice q' (syncS s).1.loose.length d', .int .i64 (syncS s).1.left]).heap.size = wc.heap.size := (by simp); obtain ⟨wD, hwD⟩ : ∃ wD, wc.setRow (w.heap.size + 1 + 1 + 1) #[.int .i64 (syncS s).1.many, .slice p' (syncS s).1.sync.length c', .slice q' (syncS s).1.loose.length d', .int .i64 (syncS s).1.left] = wD := ⟨_, rfl⟩; rw [hwD] at hrD hkD hsD ⊢; have HKD := Lib.hid hkD; have HSD := Lib.hid hsD; have HRD := Lib.hid hrD; clear hwD hkD hsD hrD))
  clear c0 c1 c2 c3 e0 e1 e2 e3 e4 hv8 hx8
  have hsc : w.heap.size + 4 ≤ wD.heap.size := by have h1 := HSB.out; have h2 := HBB2.out.size; have h3 := HRP.out.2.2.2.size; have h4 := HSD.out; omega
  have KO2 : Hid (∀ w', ButK (w.heap.size + 1 + 1) wD w' → w'.heap[w.heap.size + 1 + 1 + 1]? = some (.cells #[.int .i64 (syncS s).1.many, .slice p' (syncS s).1.sync.length c', .slice q' (syncS s).1.loose.length d', .int .i64 (syncS s).1.left] 35 (0, 0))) := Lib.hid fun w' h => (h.block _ (by omega) (by omega)).trans HRD.out
  have KR2 : Hid (∀ w', Below wD.heap.size wD w' → w'.heap[w.heap.size + 1 + 1]? = some (.cells #[.int .i64 0, .slice none 0 0, .slice none 0 0, .int .i64 0] 35 (0, 0))) := Lib.hid fun w' h => (h.block _ (by omega)).trans ((HKD.out.block _ (by have := HSD.out; omega) (by omega)).trans ((HRP.out.2.2.2.block _ (by have := HSB.out; have := HBB2.out.size; omega)).trans ((HBB2.out.block _ (by have := HSB.out; omega)).trans (KR.out _ HH2.out))))
  clear hsc
  have hee : ∀ e : Int, (e == e) = true := fun e => by simp
  refine wp_region_held_drew (S := fun w' => ButK (w.heap.size + 1 + 1) wD w') (by kernel_rfl) (.of ((Below.refl _ _).drew)) (fun G0 => ?_)
  refine wpAnyH_take (i := 0) (oi := { dst := some 109, op := Go.Op.move (Go.Operand.tmp 0), type := 29, pos := "law.go:73", after := #[], guard := none }) (v := ?_) rfl (by kernel_rfl) (by kernel_rfl) (by kernel_rfl) (fun _ _ _ h => h) (Or.inl ⟨by rfl, ?_⟩) G0 ?_
  rotate_left
  focus (intro w' hSw; (try dsimp only at hSw); go_simp; (try with_reducible rfl))
  simp only [Act.put, List.setIfInBounds_toArray, List.set_cons_zero, List.set_cons_succ]
  refine wpAnyH_take (i := 1) (oi := { dst := some 110, op := Go.Op.load 35 (Go.Operand.tmp 9), type := 35, pos := "law.go:73", after := #[{ on := 6, ground := Go.Ground.gcOnly Go.Departure.lateStores }], guard := none }) (v := ?_) rfl (by kernel_rfl) (by kernel_rfl) (by kernel_rfl) (fun _ _ _ h => h) (Or.inl ⟨by rfl, ?_⟩) G0 ?_
  rotate_left
  focus (intro w' hSw; (try dsimp only at hSw); have hr := KO2.out _ hSw; have c0 := row_at (i := 0) hr rfl; have c1 := row_at (i := 1) hr rfl; have c2 := row_at (i := 2) hr rfl; have c3 := row_at (i := 3) hr rfl; go_simp; (try with_reducible rfl))
  simp only [Act.put, List.setIfInBounds_toArray, List.set_cons_zero, List.set_cons_succ]
  refine wpAnyH_take (i := 2) (oi := { dst := some 111, op := Go.Op.move (Go.Operand.tmp 11), type := 30, pos := "law.go:73", after := #[], guard := none }) (v := ?_) rfl (by kernel_rfl) (by kernel_rfl) (by kernel_rfl) (fun _ _ _ h => h) (Or.inl ⟨by rfl, ?_⟩) G0 ?_
  rotate_left
  focus (intro w' hSw; (try dsimp only at hSw); go_simp; (try with_reducible rfl))
  simp only [Act.put, List.setIfInBounds_toArray, List.set_cons_zero, List.set_cons_succ]
  refine wpAnyH_take (i := 4) (oi := { dst := some 113, op := Go.Op.move (Go.Operand.tmp 10), type := 3, pos := "law.go:73", after := #[{ on := 7, ground := Go.Ground.gcOnly Go.Departure.lateStores }], guard := none }) (v := ?_) rfl (by kernel_rfl) (by kernel_rfl) (by kernel_rfl) (fun _ _ _ h => h) (Or.inl ⟨by rfl, ?_⟩) G0 ?_
  rotate_left
  focus (intro w' hSw; (try dsimp only at hSw); go_simp; (try with_reducible rfl))
  simp only [Act.put, List.setIfInBounds_toArray, List.set_cons_zero, List.set_cons_succ]
  refine wpAnyH_ready (rs := [3]) (by kernel_rfl) (by simp) ?_
  refine AllReadyH.cons (o := { dst := some 112, op := Go.Op.call { callee := Go.Callee.value (Go.Operand.func 12), args := #[Go.Operand.tmp 111], argTypes := #[30] }, type := 3, pos := "law.go:73", after := #[{ on := 2, ground := Go.Ground.data }], guard := none }) rfl (fun K hK => ?_) ?_
  rotate_left
  exact AllReadyH.nil
  go_simp
  (go_at_call 12; (with_reducible refine (NM.out _ _).mono ?_); rintro e wn ⟨rfl, rfl⟩)
  try go_wp2_with fail
  refine hK.out _ _ G0 (fun G1 => ?_)
  clear hK K
  try simp only [Act.put, List.setIfInBounds_toArray, List.set_cons_zero, List.set_cons_succ]
  clear G1
  refine wpAnyH_take (i := 5) (oi := { dst := some 114, op := Go.Op.binOp Go.BinOp.eql 3 (Go.Operand.tmp 112) (Go.Operand.tmp 113) 3, type := 4, pos := "law.go:73", after := #[{ on := 3, ground := Go.Ground.data }, { on := 4, ground := Go.Ground.data }, { on := 7, ground := Go.Ground.gcOnly Go.Departure.lateStores }], guard := none }) (v := ?_) rfl (by kernel_rfl) (by kernel_rfl) (by kernel_rfl) (fun _ _ _ h => h) (Or.inl ⟨by rfl, ?_⟩) G0 ?_
  rotate_left
  focus (intro w' hSw; (try dsimp only at hSw); go_simp; (try with_reducible rfl))
  simp only [Act.put, List.setIfInBounds_toArray, List.set_cons_zero, List.set_cons_succ]
  refine wpAnyH_take (i := 6) (oi := { dst := some 6, op := Go.Op.assign (Go.Operand.tmp 109), type := 29, pos := "law.go:73", after := #[{ on := 0, ground := Go.Ground.data }, { on := 3, ground := Go.Ground.chain }, { on := 0, ground := Go.Ground.phase }, { on := 1, ground := Go.Ground.textOnly Go.Departure.lateStores }, { on := 2, ground := Go.Ground.textOnly Go.Departure.lateStores }, { on := 3, ground := Go.Ground.textOnly Go.Departure.lateStoresUnsure }, { on := 4, ground := Go.Ground.textOnly Go.Departure.lateStores }, { on := 5, ground := Go.Ground.textOnly Go.Departure.lateStores }], guard := none }) (v := ?_) rfl (by kernel_rfl) (by kernel_rfl) (by kernel_rfl) (fun _ _ _ h => h) (Or.inl ⟨by rfl, ?_⟩) G0 ?_
  rotate_left
  focus (intro w' hSw; (try dsimp only at hSw); go_simp; (try with_reducible rfl))
  simp only [Act.put, List.setIfInBounds_toArray, List.set_cons_zero, List.set_cons_succ]
  refine wpAnyH_ready (rs := [7]) (by kernel_rfl) (by simp) ?_
  refine AllReadyH.cons (o := { dst := none, op := Go.Op.store 35 (Go.Operand.tmp 7) (Go.Operand.tmp 110), type := 0, pos := "law.go:73", after := #[{ on := 1, ground := Go.Ground.data }, { on := 6, ground := Go.Ground.chain }, { on := 0, ground := Go.Ground.phase }, { on := 1, ground := Go.Ground.phase }, { on := 2, ground := Go.Ground.textOnly Go.Departure.lateStores }, { on := 3, ground := Go.Ground.textOnly Go.Departure.lateStoresUnsure }, { on := 4, ground := Go.Ground.textOnly Go.Departure.lateStores }, { on := 5, ground := Go.Ground.textOnly Go.Departure.lateStores }, { on := 6, ground := Go.Ground.phase }], guard := none }) rfl (fun K hK => ?_) ?_
  rotate_left
  exact AllReadyH.nil
  refine step_store_row rfl 35 (.tmp 7) (.tmp 110) rfl (w.heap.size + 1 + 1) #[.int .i64 (syncS s).1.many, .slice p' (syncS s).1.sync.length c', .slice q' (syncS s).1.loose.length d', .int .i64 (syncS s).1.left] rfl rfl 35 #[.int .i64 0, .slice none 0 0, .slice none 0 0, .int .i64 0] (KR2.out _ ((Below.refl _ _).drew)) rfl rfl (by simp [Value.oneCell']) ?_
  have hrE := setRow_heap wD.drew (w.heap.size + 1 + 1) #[.int .i64 0, .slice none 0 0, .slice none 0 0, .int .i64 0] #[.int .i64 (syncS s).1.many, .slice p' (syncS s).1.sync.length c', .slice q' (syncS s).1.loose.length d', .int .i64 (syncS s).1.left] 35 (0, 0) (KR2.out _ ((Below.refl _ _).drew))
  have hkE : ButK (w.heap.size + 1 + 1) wD (wD.drew.setRow (w.heap.size + 1 + 1) #[.int .i64 (syncS s).1.many, .slice p' (syncS s).1.sync.length c', .slice q' (syncS s).1.loose.length d', .int .i64 (syncS s).1.left]) := (ButK.of ((Below.refl _ _).drew)).trans (ButK.row _ _)
  have hsE : (wD.drew.setRow (w.heap.size + 1 + 1) #[.int .i64 (syncS s).1.many, .slice p' (syncS s).1.sync.length c', .slice q' (syncS s).1.loose.length d', .int .i64 (syncS s).1.left]).heap.size = wD.heap.size := by simp
  obtain ⟨wE, hwE⟩ : ∃ wE, wD.drew.setRow (w.heap.size + 1 + 1) #[.int .i64 (syncS s).1.many, .slice p' (syncS s).1.sync.length c', .slice q' (syncS s).1.loose.length d', .int .i64 (syncS s).1.left] = wE := ⟨_, rfl⟩
  rw [hwE] at hrE hkE hsE ⊢
  refine hK.out _ _ hkE (fun G2 => ?_)
  clear hK K hwE
  try simp only [Act.put, List.setIfInBounds_toArray, List.set_cons_zero, List.set_cons_succ]
  refine wpAnyH_take (i := 8) (oi := { dst := some 8, op := Go.Op.assign (Go.Operand.tmp 114), type := 4, pos := "law.go:73", after := #[{ on := 5, ground := Go.Ground.data }, { on := 7, ground := Go.Ground.chain }, { on := 0, ground := Go.Ground.phase }, { on := 1, ground := Go.Ground.phase }, { on := 2, ground := Go.Ground.phase }, { on := 3, ground := Go.Ground.phase }, { on := 4, ground := Go.Ground.phase }, { on := 5, ground := Go.Ground.phase }, { on := 6, ground := Go.Ground.phase }, { on := 7, ground := Go.Ground.phase }], guard := none }) (v := ?_) rfl (by kernel_rfl) (by kernel_rfl) (by kernel_rfl) (fun _ _ _ h => h) (Or.inl ⟨by rfl, ?_⟩) G2 ?_
  rotate_left
  focus (intro w' hSw; (try dsimp only at hSw); go_simp; (try with_reducible rfl))
  simp only [Act.put, List.setIfInBounds_toArray, List.set_cons_zero, List.set_cons_succ]
  refine wpAnyH_done (by kernel_rfl) ?_ _
  have z0 := row_at (i := 0) hrE rfl; have z1 := row_at (i := 1) hrE rfl; have z2 := row_at (i := 2) hrE rfl; have z3 := row_at (i := 3) hrE rfl
  have HKE := Lib.hid hkE
  have HSE := Lib.hid hsE
  clear hkE hsE hrE G2
  go_wp2_with fail
  refine bodyPost_ret (v := .tuple #[d, .agg #[.int .i64 (syncS s).1.many, .slice p' (syncS s).1.sync.length c', .slice q' (syncS s).1.loose.length d', .int .i64 (syncS s).1.left], .bool true]) ?_ rfl ?_
  · simp [results, Try.results9, go_sem, z0, z1, z2, z3]
  · refine ⟨d, _, p', c', q', d', rfl, act_end S HP.out (AA.out.thn HH1.out) (by have := hA4.out; have := HH1.out.size; omega) HG.out.1 HG.out.2.1 HG.out.2.2 HBB2.out HRP.out.1 HRP.out.2.1 HRP.out.2.2.1 HRP.out.2.2.2 (.inr ⟨wD, HKD.out, HKE.out⟩) (HSE.out.trans HSD.out)⟩
set_option maxRecDepth 100000 in
set_option maxHeartbeats 4000000 in
theorem act_stop {Rep : DiskRep} (S : DiskOk Rep) {w : World} {d : Value} {s : DS} {F : Nat → Prop} {p : Option Addr} {c : Nat} {q : Option Addr} {dd : Nat} {x : ActS} (hw0 : x.what = 4) (hP : PairOk Rep w d s F p c q dd) (hW : Whole s) (hf : Few s) (hl : s.left ≤ 9223372036854775807) (hx : ActIn w F x) :
    Calls Try.prog 9 #[d, refV s p c q dd, actV x] w (ActPost Rep F p q (stopS s x.n).1 w) := by
  have hl2 := hW.left
  have HP := Lib.hid hP
  have HW := Lib.hid hW
  have HF := Lib.hid hf
  have HX := Lib.hid hx
  have NM := Lib.hid num_any
  have hlow := S.low _ _ _ _ hP.rep
  have LOW := Lib.hid hlow
  obtain ⟨wA, hwA⟩ : ∃ wA, (((w.alloc (.cells #[.int .i64 s.many, .slice p s.sync.length c, .slice q s.loose.length dd, .int .i64 s.left] 35)).alloc (.cells #[.int .i64 4, .int .i64 x.place, .int .i64 x.n, .int .u8 x.byte, .slice x.kp x.keep.length x.kc] 25)).alloc (.cells #[.int .i64 0, .slice none 0 0, .slice none 0 0, .int .i64 0] 35)).alloc (.cells #[.int .i64 s.many, .slice p s.sync.length c, .slice q s.loose.length dd, .int .i64 s.left] 35) = wA := ⟨_, rfl⟩
  have BA : Below w.heap.size w wA := by subst hwA; exact ((((Below.refl _ _).alloc (Nat.le_refl _) _).alloc (by simp) _).alloc (by simp; omega) _).alloc (by simp; omega) _
  have SA : wA.heap.size = w.heap.size + 4 := by subst hwA; simp
  have rV : wA.heap[w.heap.size]? = some (.cells #[.int .i64 s.many, .slice p s.sync.length c, .slice q s.loose.length dd, .int .i64 s.left] 35 (0, 0)) := by
    rw [← hwA]
    exact (Below.heap_alloc _ _ _ (by simp <;> omega)).trans ((Below.heap_alloc _ _ _ (by simp <;> omega)).trans ((Below.heap_alloc _ _ _ (by simp <;> omega)).trans (World.alloc_heap_new w _)))
  have rX : wA.heap[w.heap.size + 1]? = some (.cells #[.int .i64 4, .int .i64 x.place, .int .i64 x.n, .int .u8 x.byte, .slice x.kp x.keep.length x.kc] 25 (0, 0)) := by
    rw [← hwA]
    have e := World.alloc_heap_new (w.alloc (.cells #[.int .i64 s.many, .slice p s.sync.length c, .slice q s.loose.length dd, .int .i64 s.left] 35)) (.cells #[.int .i64 4, .int .i64 x.place, .int .i64 x.n, .int .u8 x.byte, .slice x.kp x.keep.length x.kc] 25)
    rw [World.size_alloc] at e
    exact (Below.heap_alloc _ _ _ (by simp <;> omega)).trans ((Below.heap_alloc _ _ _ (by simp <;> omega)).trans e)
  have rR : wA.heap[w.heap.size + 1 + 1]? = some (.cells #[.int .i64 0, .slice none 0 0, .slice none 0 0, .int .i64 0] 35 (0, 0)) := by
    rw [← hwA]
    have e := World.alloc_heap_new ((w.alloc (.cells #[.int .i64 s.many, .slice p s.sync.length c, .slice q s.loose.length dd, .int .i64 s.left] 35)).alloc (.cells #[.int .i64 4, .int .i64 x.place, .int .i64 x.n, .int .u8 x.byte, .slice x.kp x.keep.length x.kc] 25)) (.cells #[.int .i64 0, .slice none 0 0, .slice none 0 0, .int .i64 0] 35)
    rw [World.size_alloc, World.size_alloc] at e
    exact (Below.heap_alloc _ _ _ (by simp <;> omega)).trans e
  have rO : wA.heap[w.heap.size + 1 + 1 + 1]? = some (.cells #[.int .i64 s.many, .slice p s.sync.length c, .slice q s.loose.length dd, .int .i64 s.left] 35 (0, 0)) := by
    rw [← hwA]
    have e := World.alloc_heap_new (((w.alloc (.cells #[.int .i64 s.many, .slice p s.sync.length c, .slice q s.loose.length dd, .int .i64 s.left] 35)).alloc (.cells #[.int .i64 4, .int .i64 x.place, .int .i64 x.n, .int .u8 x.byte, .slice x.kp x.keep.length x.kc] 25)).alloc (.cells #[.int .i64 0, .slice none 0 0, .slice none 0 0, .int .i64 0] 35)) (.cells #[.int .i64 s.many, .slice p s.sync.length c, .slice q s.loose.length dd, .int .i64 s.left] 35)
    rw [World.size_alloc, World.size_alloc, World.size_alloc] at e
    exact e
  have apr : ∀ k, w.heap.size ≤ k → k < w.heap.size + 4 → ∀ w', Apart F wA w' → w'.heap[k]? = wA.heap[k]? := fun k h1 h2 w' h => h.block k (by omega) (fun f => by have := LOW.out k f; omega)
  have KV : Hid (∀ w', Apart F wA w' → w'.heap[w.heap.size]? = some (.cells #[.int .i64 s.many, .slice p s.sync.length c, .slice q s.loose.length dd, .int .i64 s.left] 35 (0, 0))) := Lib.hid fun w' h => (apr _ (by omega) (by omega) w' h).trans rV
  have KX : Hid (∀ w', Apart F wA w' → w'.heap[w.heap.size + 1]? = some (.cells #[.int .i64 4, .int .i64 x.place, .int .i64 x.n, .int .u8 x.byte, .slice x.kp x.keep.length x.kc] 25 (0, 0))) := Lib.hid fun w' h => (apr _ (by omega) (by omega) w' h).trans rX
  have KR : Hid (∀ w', Apart F wA w' → w'.heap[w.heap.size + 1 + 1]? = some (.cells #[.int .i64 0, .slice none 0 0, .slice none 0 0, .int .i64 0] 35 (0, 0))) := Lib.hid fun w' h => (apr _ (by omega) (by omega) w' h).trans rR
  have KO : Hid (∀ w', Apart F wA w' → w'.heap[w.heap.size + 1 + 1 + 1]? = some (.cells #[.int .i64 s.many, .slice p s.sync.length c, .slice q s.loose.length dd, .int .i64 s.left] 35 (0, 0))) := Lib.hid fun w' h => (apr _ (by omega) (by omega) w' h).trans rO
  have RA := Lib.hid (S.keep _ _ _ _ _ hP.rep BA.size (fun k hk => BA.block k (hlow k hk)))
  have AA : Hid (Apart F w wA) := Lib.hid (Below.apart BA F)
  have hA4 := Lib.hid (Nat.le_of_eq SA.symm)
  have HSA := Lib.hid SA
  unfold refV actV
  rw [hw0]
  clear hw0
  clear hP hW hf hx hlow rV rX rR rO apr BA SA
  go_enter Try.func9, Try.ntmps9
  go_upto_region 2 with fail
  try rw [hwA]
  clear hwA
  have hr0 := KX.out _ (Below.apart (Below.refl wA.heap.size wA) F)
  have c0 := row_at (i := 0) hr0 rfl
  go_upto_region 13 with fail
  clear c0 hr0
  have H1 : Apart F wA wA := Below.apart (Below.refl _ _) F
  have hr0 := KX.out _ H1
  have c0 := row_at (i := 0) hr0 rfl; have c1 := row_at (i := 1) hr0 rfl; have c2 := row_at (i := 2) hr0 rfl; have c3 := row_at (i := 3) hr0 rfl; have c4 := row_at (i := 4) hr0 rfl
  go_upto_region 14 with (go_at_call 20; (with_reducible refine (S.stop _ _ _ _ _ RA.out HW.out HX.out.n).mono ?_); rintro e wb ⟨rfl, hg⟩; obtain ⟨F', hR', hF', hAp⟩ := hg)
  clear c0 c1 c2 c3 c4 hr0
  have H2 := hAp
  have HG := Lib.hid (And.intro hR' (And.intro hF' hAp))
  have HH2 := Lib.hid H2
  have HH1 := Lib.hid H1
  have hsb : w.heap.size + 4 ≤ wb.heap.size := by have := hA4.out; have := H2.size; omega
  have HSB := Lib.hid hsb
  have KV8 : Hid (∀ w', ButK (w.heap.size + 1 + 1 + 1) wb w' → w'.heap[w.heap.size]? = some (.cells #[.int .i64 s.many, .slice p s.sync.length c, .slice q s.loose.length dd, .int .i64 s.left] 35 (0, 0))) := Lib.hid fun w' h => (h.block _ (by omega) (by omega)).trans (KV.out _ HH2.out)
  have KX8 : Hid (∀ w', ButK (w.heap.size + 1 + 1 + 1) wb w' → w'.heap[w.heap.size + 1]? = some (.cells #[.int .i64 4, .int .i64 x.place, .int .i64 x.n, .int .u8 x.byte, .slice x.kp x.keep.length x.kc] 25 (0, 0))) := Lib.hid fun w' h => (h.block _ (by omega) (by omega)).trans (KX.out _ HH2.out)
  have RB : Hid (∀ w', Below wb.heap.size wb w' → RefAt w' s p c q dd) := Lib.hid fun w' h => HP.out.ref.asIs (fun B off e => by
    have h1 := HP.out.pq B off e
    have h2 := (AA.out.thn HH2.out).block B h1.2 h1.1
    exact (h.block B (by omega)).trans h2)
  clear hR' hF' hAp H2 H1 hsb
  have hv8 := KV8.out _ (.of (Below.refl _ _))
  have hx8 := KX8.out _ (.of (Below.refl _ _))
  have c0 := row_at (i := 0) hv8 rfl; have c1 := row_at (i := 1) hv8 rfl; have c2 := row_at (i := 2) hv8 rfl; have c3 := row_at (i := 3) hv8 rfl
  have e0 := row_at (i := 0) hx8 rfl; have e1 := row_at (i := 1) hx8 rfl; have e2 := row_at (i := 2) hx8 rfl; have e3 := row_at (i := 3) hx8 rfl; have e4 := row_at (i := 4) hx8 rfl
  have HRB := Lib.hid (RB.out _ (Below.refl _ _))
  have RY := Lib.hid (refStop_any s p c q dd x.n wb HRB)
  simp only [refV] at RY
  have HBB2 : Hid (Below wb.heap.size wb wb) := Lib.hid (Below.refl _ _)
  go_upto_region 22 with (first
    | (go_at_call 25; (with_reducible refine RY.out.mono ?_); rintro e wc ⟨p', c', q', d', rfl, hr', f1, f2, hby⟩; have HRP := Lib.hid (And.intro hr' (And.intro f1 (And.intro f2 hby))); have rOc := (hby.block _ (by have := HSB.out; omega)).trans (KO.out _ HH2.out); clear hr' f1 f2 hby)
    | (refine wpList_store_row rfl 35 (.tmp 9) (.tmp 62) rfl (w.heap.size + 1 + 1 + 1) #[.int .i64 (stopS s x.n).1.many, .slice p' (stopS s x.n).1.sync.length c', .slice q' (stopS s x.n).1.loose.length d', .int .i64 (stopS s x.n).1.left] rfl rfl 35 #[.int .i64 s.many, .slice p s.sync.length c, .slice q s.loose.length dd, .int .i64 s.left] rOc rfl rfl (by simp [Value.oneCell']) ?_; have hrD := setRow_heap wc (w.heap.size + 1 + 1 + 1) #[.int .i64 s.many, .slice p s.sync.length c, .slice q s.loose.length dd, .int .i64 s.left] #[.int .i64 (stopS s x.n).1.many, .slice p' (stopS s x.n).1.sync.length c', .slice q' (stopS s x.n).1.loose.length d', .int .i64 (stopS s x.n).1.left] 35 (0, 0) rOc; have hkD : ButK (w.heap.size + 1 + 1 + 1) wc (wc.setRow (w.heap.size + 1 + 1 + 1) #[.int .i64 (stopS s x.n).1.many, .slice p' (stopS s x.n).1.sync.length c', .slice q' (stopS s x.n).1.loose.length d', .int .i64 (stopS s x.n).1.left]) := ButK.row _ _; have hsD : (wc.setRow (w.heap.size + 1 + 1 + 1) #[.int .i64 (stopS s x.n).1.many, .slice p' (stopS s x.n).1.sync.length c', .slice q' (stopS s x.n).1.loose.length d', .int .i64 (stopS s x.n).1.left]).heap.size = wc.heap.size := (by simp); obtain ⟨wD, hwD⟩ : ∃ wD, wc.setRow (w.heap.size + 1 + 1 + 1) #[.int .i64 (stopS s x.n).1.many, .slice p' (stopS s x.n).1.sync.length c', .slice q' (stopS s x.n).1.loose.length d', .int .i64 (stopS s x.n).1.left] = wD := ⟨_, rfl⟩; rw [hwD] at hrD hkD hsD ⊢; have HKD := Lib.hid hkD; have HSD := Lib.hid hsD; have HRD := Lib.hid hrD; clear hwD hkD hsD hrD))
  clear c0 c1 c2 c3 e0 e1 e2 e3 e4 hv8 hx8
  have hsc : w.heap.size + 4 ≤ wD.heap.size := by have h1 := HSB.out; have h2 := HBB2.out.size; have h3 := HRP.out.2.2.2.size; have h4 := HSD.out; omega
  have KO2 : Hid (∀ w', ButK (w.heap.size + 1 + 1) wD w' → w'.heap[w.heap.size + 1 + 1 + 1]? = some (.cells #[.int .i64 (stopS s x.n).1.many, .slice p' (stopS s x.n).1.sync.length c', .slice q' (stopS s x.n).1.loose.length d', .int .i64 (stopS s x.n).1.left] 35 (0, 0))) := Lib.hid fun w' h => (h.block _ (by omega) (by omega)).trans HRD.out
  have KR2 : Hid (∀ w', Below wD.heap.size wD w' → w'.heap[w.heap.size + 1 + 1]? = some (.cells #[.int .i64 0, .slice none 0 0, .slice none 0 0, .int .i64 0] 35 (0, 0))) := Lib.hid fun w' h => (h.block _ (by omega)).trans ((HKD.out.block _ (by have := HSD.out; omega) (by omega)).trans ((HRP.out.2.2.2.block _ (by have := HSB.out; have := HBB2.out.size; omega)).trans ((HBB2.out.block _ (by have := HSB.out; omega)).trans (KR.out _ HH2.out))))
  clear hsc
  have hee : ∀ e : Int, (e == e) = true := fun e => by simp
  refine wp_region_held_drew (S := fun w' => ButK (w.heap.size + 1 + 1) wD w') (by kernel_rfl) (.of ((Below.refl _ _).drew)) (fun G0 => ?_)
  refine wpAnyH_take (i := 0) (oi := { dst := some 109, op := Go.Op.move (Go.Operand.tmp 0), type := 29, pos := "law.go:73", after := #[], guard := none }) (v := ?_) rfl (by kernel_rfl) (by kernel_rfl) (by kernel_rfl) (fun _ _ _ h => h) (Or.inl ⟨by rfl, ?_⟩) G0 ?_
  rotate_left
  focus (intro w' hSw; (try dsimp only at hSw); go_simp; (try with_reducible rfl))
  simp only [Act.put, List.setIfInBounds_toArray, List.set_cons_zero, List.set_cons_succ]
  refine wpAnyH_take (i := 1) (oi := { dst := some 110, op := Go.Op.load 35 (Go.Operand.tmp 9), type := 35, pos := "law.go:73", after := #[{ on := 6, ground := Go.Ground.gcOnly Go.Departure.lateStores }], guard := none }) (v := ?_) rfl (by kernel_rfl) (by kernel_rfl) (by kernel_rfl) (fun _ _ _ h => h) (Or.inl ⟨by rfl, ?_⟩) G0 ?_
  rotate_left
  focus (intro w' hSw; (try dsimp only at hSw); have hr := KO2.out _ hSw; have c0 := row_at (i := 0) hr rfl; have c1 := row_at (i := 1) hr rfl; have c2 := row_at (i := 2) hr rfl; have c3 := row_at (i := 3) hr rfl; go_simp; (try with_reducible rfl))
  simp only [Act.put, List.setIfInBounds_toArray, List.set_cons_zero, List.set_cons_succ]
  refine wpAnyH_take (i := 2) (oi := { dst := some 111, op := Go.Op.move (Go.Operand.tmp 11), type := 30, pos := "law.go:73", after := #[], guard := none }) (v := ?_) rfl (by kernel_rfl) (by kernel_rfl) (by kernel_rfl) (fun _ _ _ h => h) (Or.inl ⟨by rfl, ?_⟩) G0 ?_
  rotate_left
  focus (intro w' hSw; (try dsimp only at hSw); go_simp; (try with_reducible rfl))
  simp only [Act.put, List.setIfInBounds_toArray, List.set_cons_zero, List.set_cons_succ]
  refine wpAnyH_take (i := 4) (oi := { dst := some 113, op := Go.Op.move (Go.Operand.tmp 10), type := 3, pos := "law.go:73", after := #[{ on := 7, ground := Go.Ground.gcOnly Go.Departure.lateStores }], guard := none }) (v := ?_) rfl (by kernel_rfl) (by kernel_rfl) (by kernel_rfl) (fun _ _ _ h => h) (Or.inl ⟨by rfl, ?_⟩) G0 ?_
  rotate_left
  focus (intro w' hSw; (try dsimp only at hSw); go_simp; (try with_reducible rfl))
  simp only [Act.put, List.setIfInBounds_toArray, List.set_cons_zero, List.set_cons_succ]
  refine wpAnyH_ready (rs := [3]) (by kernel_rfl) (by simp) ?_
  refine AllReadyH.cons (o := { dst := some 112, op := Go.Op.call { callee := Go.Callee.value (Go.Operand.func 12), args := #[Go.Operand.tmp 111], argTypes := #[30] }, type := 3, pos := "law.go:73", after := #[{ on := 2, ground := Go.Ground.data }], guard := none }) rfl (fun K hK => ?_) ?_
  rotate_left
  exact AllReadyH.nil
  go_simp
  (go_at_call 12; (with_reducible refine (NM.out _ _).mono ?_); rintro e wn ⟨rfl, rfl⟩)
  try go_wp2_with fail
  refine hK.out _ _ G0 (fun G1 => ?_)
  clear hK K
  try simp only [Act.put, List.setIfInBounds_toArray, List.set_cons_zero, List.set_cons_succ]
  clear G1
  refine wpAnyH_take (i := 5) (oi := { dst := some 114, op := Go.Op.binOp Go.BinOp.eql 3 (Go.Operand.tmp 112) (Go.Operand.tmp 113) 3, type := 4, pos := "law.go:73", after := #[{ on := 3, ground := Go.Ground.data }, { on := 4, ground := Go.Ground.data }, { on := 7, ground := Go.Ground.gcOnly Go.Departure.lateStores }], guard := none }) (v := ?_) rfl (by kernel_rfl) (by kernel_rfl) (by kernel_rfl) (fun _ _ _ h => h) (Or.inl ⟨by rfl, ?_⟩) G0 ?_
  rotate_left
  focus (intro w' hSw; (try dsimp only at hSw); go_simp; (try with_reducible rfl))
  simp only [Act.put, List.setIfInBounds_toArray, List.set_cons_zero, List.set_cons_succ]
  refine wpAnyH_take (i := 6) (oi := { dst := some 6, op := Go.Op.assign (Go.Operand.tmp 109), type := 29, pos := "law.go:73", after := #[{ on := 0, ground := Go.Ground.data }, { on := 3, ground := Go.Ground.chain }, { on := 0, ground := Go.Ground.phase }, { on := 1, ground := Go.Ground.textOnly Go.Departure.lateStores }, { on := 2, ground := Go.Ground.textOnly Go.Departure.lateStores }, { on := 3, ground := Go.Ground.textOnly Go.Departure.lateStoresUnsure }, { on := 4, ground := Go.Ground.textOnly Go.Departure.lateStores }, { on := 5, ground := Go.Ground.textOnly Go.Departure.lateStores }], guard := none }) (v := ?_) rfl (by kernel_rfl) (by kernel_rfl) (by kernel_rfl) (fun _ _ _ h => h) (Or.inl ⟨by rfl, ?_⟩) G0 ?_
  rotate_left
  focus (intro w' hSw; (try dsimp only at hSw); go_simp; (try with_reducible rfl))
  simp only [Act.put, List.setIfInBounds_toArray, List.set_cons_zero, List.set_cons_succ]
  refine wpAnyH_ready (rs := [7]) (by kernel_rfl) (by simp) ?_
  refine AllReadyH.cons (o := { dst := none, op := Go.Op.store 35 (Go.Operand.tmp 7) (Go.Operand.tmp 110), type := 0, pos := "law.go:73", after := #[{ on := 1, ground := Go.Ground.data }, { on := 6, ground := Go.Ground.chain }, { on := 0, ground := Go.Ground.phase }, { on := 1, ground := Go.Ground.phase }, { on := 2, ground := Go.Ground.textOnly Go.Departure.lateStores }, { on := 3, ground := Go.Ground.textOnly Go.Departure.lateStoresUnsure }, { on := 4, ground := Go.Ground.textOnly Go.Departure.lateStores }, { on := 5, ground := Go.Ground.textOnly Go.Departure.lateStores }, { on := 6, ground := Go.Ground.phase }], guard := none }) rfl (fun K hK => ?_) ?_
  rotate_left
  exact AllReadyH.nil
  refine step_store_row rfl 35 (.tmp 7) (.tmp 110) rfl (w.heap.size + 1 + 1) #[.int .i64 (stopS s x.n).1.many, .slice p' (stopS s x.n).1.sync.length c', .slice q' (stopS s x.n).1.loose.length d', .int .i64 (stopS s x.n).1.left] rfl rfl 35 #[.int .i64 0, .slice none 0 0, .slice none 0 0, .int .i64 0] (KR2.out _ ((Below.refl _ _).drew)) rfl rfl (by simp [Value.oneCell']) ?_
  have hrE := setRow_heap wD.drew (w.heap.size + 1 + 1) #[.int .i64 0, .slice none 0 0, .slice none 0 0, .int .i64 0] #[.int .i64 (stopS s x.n).1.many, .slice p' (stopS s x.n).1.sync.length c', .slice q' (stopS s x.n).1.loose.length d', .int .i64 (stopS s x.n).1.left] 35 (0, 0) (KR2.out _ ((Below.refl _ _).drew))
  have hkE : ButK (w.heap.size + 1 + 1) wD (wD.drew.setRow (w.heap.size + 1 + 1) #[.int .i64 (stopS s x.n).1.many, .slice p' (stopS s x.n).1.sync.length c', .slice q' (stopS s x.n).1.loose.length d', .int .i64 (stopS s x.n).1.left]) := (ButK.of ((Below.refl _ _).drew)).trans (ButK.row _ _)
  have hsE : (wD.drew.setRow (w.heap.size + 1 + 1) #[.int .i64 (stopS s x.n).1.many, .slice p' (stopS s x.n).1.sync.length c', .slice q' (stopS s x.n).1.loose.length d', .int .i64 (stopS s x.n).1.left]).heap.size = wD.heap.size := by simp
  obtain ⟨wE, hwE⟩ : ∃ wE, wD.drew.setRow (w.heap.size + 1 + 1) #[.int .i64 (stopS s x.n).1.many, .slice p' (stopS s x.n).1.sync.length c', .slice q' (stopS s x.n).1.loose.length d', .int .i64 (stopS s x.n).1.left] = wE := ⟨_, rfl⟩
  rw [hwE] at hrE hkE hsE ⊢
  refine hK.out _ _ hkE (fun G2 => ?_)
  clear hK K hwE
  try simp only [Act.put, List.setIfInBounds_toArray, List.set_cons_zero, List.set_cons_succ]
  refine wpAnyH_take (i := 8) (oi := { dst := some 8, op := Go.Op.assign (Go.Operand.tmp 114), type := 4, pos := "law.go:73", after := #[{ on := 5, ground := Go.Ground.data }, { on := 7, ground := Go.Ground.chain }, { on := 0, ground := Go.Ground.phase }, { on := 1, ground := Go.Ground.phase }, { on := 2, ground := Go.Ground.phase }, { on := 3, ground := Go.Ground.phase }, { on := 4, ground := Go.Ground.phase }, { on := 5, ground := Go.Ground.phase }, { on := 6, ground := Go.Ground.phase }, { on := 7, ground := Go.Ground.phase }], guard := none }) (v := ?_) rfl (by kernel_rfl) (by kernel_rfl) (by kernel_rfl) (fun _ _ _ h => h) (Or.inl ⟨by rfl, ?_⟩) G2 ?_
  rotate_left
  focus (intro w' hSw; (try dsimp only at hSw); go_simp; (try with_reducible rfl))
  simp only [Act.put, List.setIfInBounds_toArray, List.set_cons_zero, List.set_cons_succ]
  refine wpAnyH_done (by kernel_rfl) ?_ _
  have z0 := row_at (i := 0) hrE rfl; have z1 := row_at (i := 1) hrE rfl; have z2 := row_at (i := 2) hrE rfl; have z3 := row_at (i := 3) hrE rfl
  have HKE := Lib.hid hkE
  have HSE := Lib.hid hsE
  clear hkE hsE hrE G2
  go_wp2_with fail
  refine bodyPost_ret (v := .tuple #[d, .agg #[.int .i64 (stopS s x.n).1.many, .slice p' (stopS s x.n).1.sync.length c', .slice q' (stopS s x.n).1.loose.length d', .int .i64 (stopS s x.n).1.left], .bool true]) ?_ rfl ?_
  · simp [results, Try.results9, go_sem, z0, z1, z2, z3]
  · refine ⟨d, _, p', c', q', d', rfl, act_end S HP.out (AA.out.thn HH1.out) (by have := hA4.out; have := HH1.out.size; omega) HG.out.1 HG.out.2.1 HG.out.2.2 HBB2.out HRP.out.1 HRP.out.2.1 HRP.out.2.2.1 HRP.out.2.2.2 (.inr ⟨wD, HKD.out, HKE.out⟩) (HSE.out.trans HSD.out)⟩
set_option maxRecDepth 100000 in
set_option maxHeartbeats 4000000 in
theorem act_crash {Rep : DiskRep} (S : DiskOk Rep) {w : World} {d : Value} {s : DS} {F : Nat → Prop} {p : Option Addr} {c : Nat} {q : Option Addr} {dd : Nat} {x : ActS} (hw0 : x.what = 5) (hP : PairOk Rep w d s F p c q dd) (hW : Whole s) (hf : Few s) (hl : s.left ≤ 9223372036854775807) (hx : ActIn w F x) :
    Calls Try.prog 9 #[d, refV s p c q dd, actV x] w (ActPost Rep F p q (crashS s x.n x.keep).1 w) := by
  have hl2 := hW.left
  have HP := Lib.hid hP
  have HW := Lib.hid hW
  have HF := Lib.hid hf
  have HX := Lib.hid hx
  have NM := Lib.hid num_any
  have hlow := S.low _ _ _ _ hP.rep
  have LOW := Lib.hid hlow
  obtain ⟨wA, hwA⟩ : ∃ wA, (((w.alloc (.cells #[.int .i64 s.many, .slice p s.sync.length c, .slice q s.loose.length dd, .int .i64 s.left] 35)).alloc (.cells #[.int .i64 5, .int .i64 x.place, .int .i64 x.n, .int .u8 x.byte, .slice x.kp x.keep.length x.kc] 25)).alloc (.cells #[.int .i64 0, .slice none 0 0, .slice none 0 0, .int .i64 0] 35)).alloc (.cells #[.int .i64 s.many, .slice p s.sync.length c, .slice q s.loose.length dd, .int .i64 s.left] 35) = wA := ⟨_, rfl⟩
  have BA : Below w.heap.size w wA := by subst hwA; exact ((((Below.refl _ _).alloc (Nat.le_refl _) _).alloc (by simp) _).alloc (by simp; omega) _).alloc (by simp; omega) _
  have SA : wA.heap.size = w.heap.size + 4 := by subst hwA; simp
  have rV : wA.heap[w.heap.size]? = some (.cells #[.int .i64 s.many, .slice p s.sync.length c, .slice q s.loose.length dd, .int .i64 s.left] 35 (0, 0)) := by
    rw [← hwA]
    exact (Below.heap_alloc _ _ _ (by simp <;> omega)).trans ((Below.heap_alloc _ _ _ (by simp <;> omega)).trans ((Below.heap_alloc _ _ _ (by simp <;> omega)).trans (World.alloc_heap_new w _)))
  have rX : wA.heap[w.heap.size + 1]? = some (.cells #[.int .i64 5, .int .i64 x.place, .int .i64 x.n, .int .u8 x.byte, .slice x.kp x.keep.length x.kc] 25 (0, 0)) := by
    rw [← hwA]
    have e := World.alloc_heap_new (w.alloc (.cells #[.int .i64 s.many, .slice p s.sync.length c, .slice q s.loose.length dd, .int .i64 s.left] 35)) (.cells #[.int .i64 5, .int .i64 x.place, .int .i64 x.n, .int .u8 x.byte, .slice x.kp x.keep.length x.kc] 25)
    rw [World.size_alloc] at e
    exact (Below.heap_alloc _ _ _ (by simp <;> omega)).trans ((Below.heap_alloc _ _ _ (by simp <;> omega)).trans e)
  have rR : wA.heap[w.heap.size + 1 + 1]? = some (.cells #[.int .i64 0, .slice none 0 0, .slice none 0 0, .int .i64 0] 35 (0, 0)) := by
    rw [← hwA]
    have e := World.alloc_heap_new ((w.alloc (.cells #[.int .i64 s.many, .slice p s.sync.length c, .slice q s.loose.length dd, .int .i64 s.left] 35)).alloc (.cells #[.int .i64 5, .int .i64 x.place, .int .i64 x.n, .int .u8 x.byte, .slice x.kp x.keep.length x.kc] 25)) (.cells #[.int .i64 0, .slice none 0 0, .slice none 0 0, .int .i64 0] 35)
    rw [World.size_alloc, World.size_alloc] at e
    exact (Below.heap_alloc _ _ _ (by simp <;> omega)).trans e
  have rO : wA.heap[w.heap.size + 1 + 1 + 1]? = some (.cells #[.int .i64 s.many, .slice p s.sync.length c, .slice q s.loose.length dd, .int .i64 s.left] 35 (0, 0)) := by
    rw [← hwA]
    have e := World.alloc_heap_new (((w.alloc (.cells #[.int .i64 s.many, .slice p s.sync.length c, .slice q s.loose.length dd, .int .i64 s.left] 35)).alloc (.cells #[.int .i64 5, .int .i64 x.place, .int .i64 x.n, .int .u8 x.byte, .slice x.kp x.keep.length x.kc] 25)).alloc (.cells #[.int .i64 0, .slice none 0 0, .slice none 0 0, .int .i64 0] 35)) (.cells #[.int .i64 s.many, .slice p s.sync.length c, .slice q s.loose.length dd, .int .i64 s.left] 35)
    rw [World.size_alloc, World.size_alloc, World.size_alloc] at e
    exact e
  have apr : ∀ k, w.heap.size ≤ k → k < w.heap.size + 4 → ∀ w', Apart F wA w' → w'.heap[k]? = wA.heap[k]? := fun k h1 h2 w' h => h.block k (by omega) (fun f => by have := LOW.out k f; omega)
  have KV : Hid (∀ w', Apart F wA w' → w'.heap[w.heap.size]? = some (.cells #[.int .i64 s.many, .slice p s.sync.length c, .slice q s.loose.length dd, .int .i64 s.left] 35 (0, 0))) := Lib.hid fun w' h => (apr _ (by omega) (by omega) w' h).trans rV
  have KX : Hid (∀ w', Apart F wA w' → w'.heap[w.heap.size + 1]? = some (.cells #[.int .i64 5, .int .i64 x.place, .int .i64 x.n, .int .u8 x.byte, .slice x.kp x.keep.length x.kc] 25 (0, 0))) := Lib.hid fun w' h => (apr _ (by omega) (by omega) w' h).trans rX
  have KR : Hid (∀ w', Apart F wA w' → w'.heap[w.heap.size + 1 + 1]? = some (.cells #[.int .i64 0, .slice none 0 0, .slice none 0 0, .int .i64 0] 35 (0, 0))) := Lib.hid fun w' h => (apr _ (by omega) (by omega) w' h).trans rR
  have KO : Hid (∀ w', Apart F wA w' → w'.heap[w.heap.size + 1 + 1 + 1]? = some (.cells #[.int .i64 s.many, .slice p s.sync.length c, .slice q s.loose.length dd, .int .i64 s.left] 35 (0, 0))) := Lib.hid fun w' h => (apr _ (by omega) (by omega) w' h).trans rO
  have RA := Lib.hid (S.keep _ _ _ _ _ hP.rep BA.size (fun k hk => BA.block k (hlow k hk)))
  have AA : Hid (Apart F w wA) := Lib.hid (Below.apart BA F)
  have hA4 := Lib.hid (Nat.le_of_eq SA.symm)
  have HSA := Lib.hid SA
  unfold refV actV
  rw [hw0]
  clear hw0
  clear hP hW hf hx hlow rV rX rR rO apr BA SA
  go_enter Try.func9, Try.ntmps9
  go_upto_region 2 with fail
  try rw [hwA]
  clear hwA
  have hr0 := KX.out _ (Below.apart (Below.refl wA.heap.size wA) F)
  have c0 := row_at (i := 0) hr0 rfl
  go_upto_region 16 with fail
  clear c0 hr0
  have H1 : Apart F wA wA := Below.apart (Below.refl _ _) F
  have hr0 := KX.out _ H1
  have c0 := row_at (i := 0) hr0 rfl; have c1 := row_at (i := 1) hr0 rfl; have c2 := row_at (i := 2) hr0 rfl; have c3 := row_at (i := 3) hr0 rfl; have c4 := row_at (i := 4) hr0 rfl
  go_upto_region 17 with (go_at_call 18; (with_reducible refine (S.crash _ _ _ _ _ _ _ _ RA.out HW.out HF.out (Nat.le_trans HX.out.keep (by omega)) (HX.out.bools.asIs AA.out)).mono ?_); rintro e wb ⟨rfl, hg⟩; obtain ⟨F', hR', hF', hAp⟩ := hg)
  clear c0 c1 c2 c3 c4 hr0
  have H2 := hAp
  have HG := Lib.hid (And.intro hR' (And.intro hF' hAp))
  have HH2 := Lib.hid H2
  have HH1 := Lib.hid H1
  have hsb : w.heap.size + 4 ≤ wb.heap.size := by have := hA4.out; have := H2.size; omega
  have HSB := Lib.hid hsb
  have KV8 : Hid (∀ w', ButK (w.heap.size + 1 + 1 + 1) wb w' → w'.heap[w.heap.size]? = some (.cells #[.int .i64 s.many, .slice p s.sync.length c, .slice q s.loose.length dd, .int .i64 s.left] 35 (0, 0))) := Lib.hid fun w' h => (h.block _ (by omega) (by omega)).trans (KV.out _ HH2.out)
  have KX8 : Hid (∀ w', ButK (w.heap.size + 1 + 1 + 1) wb w' → w'.heap[w.heap.size + 1]? = some (.cells #[.int .i64 5, .int .i64 x.place, .int .i64 x.n, .int .u8 x.byte, .slice x.kp x.keep.length x.kc] 25 (0, 0))) := Lib.hid fun w' h => (h.block _ (by omega) (by omega)).trans (KX.out _ HH2.out)
  have RB : Hid (∀ w', Below wb.heap.size wb w' → RefAt w' s p c q dd) := Lib.hid fun w' h => HP.out.ref.asIs (fun B off e => by
    have h1 := HP.out.pq B off e
    have h2 := (AA.out.thn HH2.out).block B h1.2 h1.1
    exact (h.block B (by omega)).trans h2)
  clear hR' hF' hAp H2 H1 hsb
  have hv8 := KV8.out _ (.of (Below.refl _ _))
  have hx8 := KX8.out _ (.of (Below.refl _ _))
  have c0 := row_at (i := 0) hv8 rfl; have c1 := row_at (i := 1) hv8 rfl; have c2 := row_at (i := 2) hv8 rfl; have c3 := row_at (i := 3) hv8 rfl
  have e0 := row_at (i := 0) hx8 rfl; have e1 := row_at (i := 1) hx8 rfl; have e2 := row_at (i := 2) hx8 rfl; have e3 := row_at (i := 3) hx8 rfl; have e4 := row_at (i := 4) hx8 rfl
  have HRB := Lib.hid (RB.out _ (Below.refl _ _))
  have RY := Lib.hid (refCrash_any s p c q dd x.n x.kp x.keep x.kc wb HF.out (Nat.le_trans HX.out.keep (by omega)) HW.out HRB (Lib.hid (HX.out.bools.asIs (AA.out.thn HH2.out)).at'))
  simp only [refV] at RY
  have HBB2 : Hid (Below wb.heap.size wb wb) := Lib.hid (Below.refl _ _)
  go_upto_region 22 with (first
    | (go_at_call 26; (with_reducible refine RY.out.mono ?_); rintro e wc ⟨p', c', q', d', rfl, hr', f1, f2, hby⟩; have HRP := Lib.hid (And.intro hr' (And.intro f1 (And.intro f2 hby))); have rOc := (hby.block _ (by have := HSB.out; omega)).trans (KO.out _ HH2.out); clear hr' f1 f2 hby)
    | (refine wpList_store_row rfl 35 (.tmp 9) (.tmp 79) rfl (w.heap.size + 1 + 1 + 1) #[.int .i64 (crashS s x.n x.keep).1.many, .slice p' (crashS s x.n x.keep).1.sync.length c', .slice q' (crashS s x.n x.keep).1.loose.length d', .int .i64 (crashS s x.n x.keep).1.left] rfl rfl 35 #[.int .i64 s.many, .slice p s.sync.length c, .slice q s.loose.length dd, .int .i64 s.left] rOc rfl rfl (by simp [Value.oneCell']) ?_; have hrD := setRow_heap wc (w.heap.size + 1 + 1 + 1) #[.int .i64 s.many, .slice p s.sync.length c, .slice q s.loose.length dd, .int .i64 s.left] #[.int .i64 (crashS s x.n x.keep).1.many, .slice p' (crashS s x.n x.keep).1.sync.length c', .slice q' (crashS s x.n x.keep).1.loose.length d', .int .i64 (crashS s x.n x.keep).1.left] 35 (0, 0) rOc; have hkD : ButK (w.heap.size + 1 + 1 + 1) wc (wc.setRow (w.heap.size + 1 + 1 + 1) #[.int .i64 (crashS s x.n x.keep).1.many, .slice p' (crashS s x.n x.keep).1.sync.length c', .slice q' (crashS s x.n x.keep).1.loose.length d', .int .i64 (crashS s x.n x.keep).1.left]) := ButK.row _ _; have hsD : (wc.setRow (w.heap.size + 1 + 1 + 1) #[.int .i64 (crashS s x.n x.keep).1.many, .slice p' (crashS s x.n x.keep).1.sync.length c', .slice q' (crashS s x.n x.keep).1.loose.length d', .int .i64 (crashS s x.n x.keep).1.left]).heap.size = wc.heap.size := (by simp); obtain ⟨wD, hwD⟩ : ∃ wD, wc.setRow (w.heap.size + 1 + 1 + 1) #[.int .i64 (crashS s x.n x.keep).1.many, .slice p' (crashS s x.n x.keep).1.sync.length c', .slice q' (crashS s x.n x.keep).1.loose.length d', .int .i64 (crashS s x.n x.keep).1.left] = wD := ⟨_, rfl⟩; rw [hwD] at hrD hkD hsD ⊢; have HKD := Lib.hid hkD; have HSD := Lib.hid hsD; have HRD := Lib.hid hrD; clear hwD hkD hsD hrD))
  clear c0 c1 c2 c3 e0 e1 e2 e3 e4 hv8 hx8
  have hsc : w.heap.size + 4 ≤ wD.heap.size := by have h1 := HSB.out; have h2 := HBB2.out.size; have h3 := HRP.out.2.2.2.size; have h4 := HSD.out; omega
  have KO2 : Hid (∀ w', ButK (w.heap.size + 1 + 1) wD w' → w'.heap[w.heap.size + 1 + 1 + 1]? = some (.cells #[.int .i64 (crashS s x.n x.keep).1.many, .slice p' (crashS s x.n x.keep).1.sync.length c', .slice q' (crashS s x.n x.keep).1.loose.length d', .int .i64 (crashS s x.n x.keep).1.left] 35 (0, 0))) := Lib.hid fun w' h => (h.block _ (by omega) (by omega)).trans HRD.out
  have KR2 : Hid (∀ w', Below wD.heap.size wD w' → w'.heap[w.heap.size + 1 + 1]? = some (.cells #[.int .i64 0, .slice none 0 0, .slice none 0 0, .int .i64 0] 35 (0, 0))) := Lib.hid fun w' h => (h.block _ (by omega)).trans ((HKD.out.block _ (by have := HSD.out; omega) (by omega)).trans ((HRP.out.2.2.2.block _ (by have := HSB.out; have := HBB2.out.size; omega)).trans ((HBB2.out.block _ (by have := HSB.out; omega)).trans (KR.out _ HH2.out))))
  clear hsc
  have hee : ∀ e : Int, (e == e) = true := fun e => by simp
  refine wp_region_held_drew (S := fun w' => ButK (w.heap.size + 1 + 1) wD w') (by kernel_rfl) (.of ((Below.refl _ _).drew)) (fun G0 => ?_)
  refine wpAnyH_take (i := 0) (oi := { dst := some 109, op := Go.Op.move (Go.Operand.tmp 0), type := 29, pos := "law.go:73", after := #[], guard := none }) (v := ?_) rfl (by kernel_rfl) (by kernel_rfl) (by kernel_rfl) (fun _ _ _ h => h) (Or.inl ⟨by rfl, ?_⟩) G0 ?_
  rotate_left
  focus (intro w' hSw; (try dsimp only at hSw); go_simp; (try with_reducible rfl))
  simp only [Act.put, List.setIfInBounds_toArray, List.set_cons_zero, List.set_cons_succ]
  refine wpAnyH_take (i := 1) (oi := { dst := some 110, op := Go.Op.load 35 (Go.Operand.tmp 9), type := 35, pos := "law.go:73", after := #[{ on := 6, ground := Go.Ground.gcOnly Go.Departure.lateStores }], guard := none }) (v := ?_) rfl (by kernel_rfl) (by kernel_rfl) (by kernel_rfl) (fun _ _ _ h => h) (Or.inl ⟨by rfl, ?_⟩) G0 ?_
  rotate_left
  focus (intro w' hSw; (try dsimp only at hSw); have hr := KO2.out _ hSw; have c0 := row_at (i := 0) hr rfl; have c1 := row_at (i := 1) hr rfl; have c2 := row_at (i := 2) hr rfl; have c3 := row_at (i := 3) hr rfl; go_simp; (try with_reducible rfl))
  simp only [Act.put, List.setIfInBounds_toArray, List.set_cons_zero, List.set_cons_succ]
  refine wpAnyH_take (i := 2) (oi := { dst := some 111, op := Go.Op.move (Go.Operand.tmp 11), type := 30, pos := "law.go:73", after := #[], guard := none }) (v := ?_) rfl (by kernel_rfl) (by kernel_rfl) (by kernel_rfl) (fun _ _ _ h => h) (Or.inl ⟨by rfl, ?_⟩) G0 ?_
  rotate_left
  focus (intro w' hSw; (try dsimp only at hSw); go_simp; (try with_reducible rfl))
  simp only [Act.put, List.setIfInBounds_toArray, List.set_cons_zero, List.set_cons_succ]
  refine wpAnyH_take (i := 4) (oi := { dst := some 113, op := Go.Op.move (Go.Operand.tmp 10), type := 3, pos := "law.go:73", after := #[{ on := 7, ground := Go.Ground.gcOnly Go.Departure.lateStores }], guard := none }) (v := ?_) rfl (by kernel_rfl) (by kernel_rfl) (by kernel_rfl) (fun _ _ _ h => h) (Or.inl ⟨by rfl, ?_⟩) G0 ?_
  rotate_left
  focus (intro w' hSw; (try dsimp only at hSw); go_simp; (try with_reducible rfl))
  simp only [Act.put, List.setIfInBounds_toArray, List.set_cons_zero, List.set_cons_succ]
  refine wpAnyH_ready (rs := [3]) (by kernel_rfl) (by simp) ?_
  refine AllReadyH.cons (o := { dst := some 112, op := Go.Op.call { callee := Go.Callee.value (Go.Operand.func 12), args := #[Go.Operand.tmp 111], argTypes := #[30] }, type := 3, pos := "law.go:73", after := #[{ on := 2, ground := Go.Ground.data }], guard := none }) rfl (fun K hK => ?_) ?_
  rotate_left
  exact AllReadyH.nil
  go_simp
  (go_at_call 12; (with_reducible refine (NM.out _ _).mono ?_); rintro e wn ⟨rfl, rfl⟩)
  try go_wp2_with fail
  refine hK.out _ _ G0 (fun G1 => ?_)
  clear hK K
  try simp only [Act.put, List.setIfInBounds_toArray, List.set_cons_zero, List.set_cons_succ]
  clear G1
  refine wpAnyH_take (i := 5) (oi := { dst := some 114, op := Go.Op.binOp Go.BinOp.eql 3 (Go.Operand.tmp 112) (Go.Operand.tmp 113) 3, type := 4, pos := "law.go:73", after := #[{ on := 3, ground := Go.Ground.data }, { on := 4, ground := Go.Ground.data }, { on := 7, ground := Go.Ground.gcOnly Go.Departure.lateStores }], guard := none }) (v := ?_) rfl (by kernel_rfl) (by kernel_rfl) (by kernel_rfl) (fun _ _ _ h => h) (Or.inl ⟨by rfl, ?_⟩) G0 ?_
  rotate_left
  focus (intro w' hSw; (try dsimp only at hSw); go_simp; (try with_reducible rfl))
  simp only [Act.put, List.setIfInBounds_toArray, List.set_cons_zero, List.set_cons_succ]
  refine wpAnyH_take (i := 6) (oi := { dst := some 6, op := Go.Op.assign (Go.Operand.tmp 109), type := 29, pos := "law.go:73", after := #[{ on := 0, ground := Go.Ground.data }, { on := 3, ground := Go.Ground.chain }, { on := 0, ground := Go.Ground.phase }, { on := 1, ground := Go.Ground.textOnly Go.Departure.lateStores }, { on := 2, ground := Go.Ground.textOnly Go.Departure.lateStores }, { on := 3, ground := Go.Ground.textOnly Go.Departure.lateStoresUnsure }, { on := 4, ground := Go.Ground.textOnly Go.Departure.lateStores }, { on := 5, ground := Go.Ground.textOnly Go.Departure.lateStores }], guard := none }) (v := ?_) rfl (by kernel_rfl) (by kernel_rfl) (by kernel_rfl) (fun _ _ _ h => h) (Or.inl ⟨by rfl, ?_⟩) G0 ?_
  rotate_left
  focus (intro w' hSw; (try dsimp only at hSw); go_simp; (try with_reducible rfl))
  simp only [Act.put, List.setIfInBounds_toArray, List.set_cons_zero, List.set_cons_succ]
  refine wpAnyH_ready (rs := [7]) (by kernel_rfl) (by simp) ?_
  refine AllReadyH.cons (o := { dst := none, op := Go.Op.store 35 (Go.Operand.tmp 7) (Go.Operand.tmp 110), type := 0, pos := "law.go:73", after := #[{ on := 1, ground := Go.Ground.data }, { on := 6, ground := Go.Ground.chain }, { on := 0, ground := Go.Ground.phase }, { on := 1, ground := Go.Ground.phase }, { on := 2, ground := Go.Ground.textOnly Go.Departure.lateStores }, { on := 3, ground := Go.Ground.textOnly Go.Departure.lateStoresUnsure }, { on := 4, ground := Go.Ground.textOnly Go.Departure.lateStores }, { on := 5, ground := Go.Ground.textOnly Go.Departure.lateStores }, { on := 6, ground := Go.Ground.phase }], guard := none }) rfl (fun K hK => ?_) ?_
  rotate_left
  exact AllReadyH.nil
  refine step_store_row rfl 35 (.tmp 7) (.tmp 110) rfl (w.heap.size + 1 + 1) #[.int .i64 (crashS s x.n x.keep).1.many, .slice p' (crashS s x.n x.keep).1.sync.length c', .slice q' (crashS s x.n x.keep).1.loose.length d', .int .i64 (crashS s x.n x.keep).1.left] rfl rfl 35 #[.int .i64 0, .slice none 0 0, .slice none 0 0, .int .i64 0] (KR2.out _ ((Below.refl _ _).drew)) rfl rfl (by simp [Value.oneCell']) ?_
  have hrE := setRow_heap wD.drew (w.heap.size + 1 + 1) #[.int .i64 0, .slice none 0 0, .slice none 0 0, .int .i64 0] #[.int .i64 (crashS s x.n x.keep).1.many, .slice p' (crashS s x.n x.keep).1.sync.length c', .slice q' (crashS s x.n x.keep).1.loose.length d', .int .i64 (crashS s x.n x.keep).1.left] 35 (0, 0) (KR2.out _ ((Below.refl _ _).drew))
  have hkE : ButK (w.heap.size + 1 + 1) wD (wD.drew.setRow (w.heap.size + 1 + 1) #[.int .i64 (crashS s x.n x.keep).1.many, .slice p' (crashS s x.n x.keep).1.sync.length c', .slice q' (crashS s x.n x.keep).1.loose.length d', .int .i64 (crashS s x.n x.keep).1.left]) := (ButK.of ((Below.refl _ _).drew)).trans (ButK.row _ _)
  have hsE : (wD.drew.setRow (w.heap.size + 1 + 1) #[.int .i64 (crashS s x.n x.keep).1.many, .slice p' (crashS s x.n x.keep).1.sync.length c', .slice q' (crashS s x.n x.keep).1.loose.length d', .int .i64 (crashS s x.n x.keep).1.left]).heap.size = wD.heap.size := by simp
  obtain ⟨wE, hwE⟩ : ∃ wE, wD.drew.setRow (w.heap.size + 1 + 1) #[.int .i64 (crashS s x.n x.keep).1.many, .slice p' (crashS s x.n x.keep).1.sync.length c', .slice q' (crashS s x.n x.keep).1.loose.length d', .int .i64 (crashS s x.n x.keep).1.left] = wE := ⟨_, rfl⟩
  rw [hwE] at hrE hkE hsE ⊢
  refine hK.out _ _ hkE (fun G2 => ?_)
  clear hK K hwE
  try simp only [Act.put, List.setIfInBounds_toArray, List.set_cons_zero, List.set_cons_succ]
  refine wpAnyH_take (i := 8) (oi := { dst := some 8, op := Go.Op.assign (Go.Operand.tmp 114), type := 4, pos := "law.go:73", after := #[{ on := 5, ground := Go.Ground.data }, { on := 7, ground := Go.Ground.chain }, { on := 0, ground := Go.Ground.phase }, { on := 1, ground := Go.Ground.phase }, { on := 2, ground := Go.Ground.phase }, { on := 3, ground := Go.Ground.phase }, { on := 4, ground := Go.Ground.phase }, { on := 5, ground := Go.Ground.phase }, { on := 6, ground := Go.Ground.phase }, { on := 7, ground := Go.Ground.phase }], guard := none }) (v := ?_) rfl (by kernel_rfl) (by kernel_rfl) (by kernel_rfl) (fun _ _ _ h => h) (Or.inl ⟨by rfl, ?_⟩) G2 ?_
  rotate_left
  focus (intro w' hSw; (try dsimp only at hSw); go_simp; (try with_reducible rfl))
  simp only [Act.put, List.setIfInBounds_toArray, List.set_cons_zero, List.set_cons_succ]
  refine wpAnyH_done (by kernel_rfl) ?_ _
  have z0 := row_at (i := 0) hrE rfl; have z1 := row_at (i := 1) hrE rfl; have z2 := row_at (i := 2) hrE rfl; have z3 := row_at (i := 3) hrE rfl
  have HKE := Lib.hid hkE
  have HSE := Lib.hid hsE
  clear hkE hsE hrE G2
  go_wp2_with fail
  refine bodyPost_ret (v := .tuple #[d, .agg #[.int .i64 (crashS s x.n x.keep).1.many, .slice p' (crashS s x.n x.keep).1.sync.length c', .slice q' (crashS s x.n x.keep).1.loose.length d', .int .i64 (crashS s x.n x.keep).1.left], .bool true]) ?_ rfl ?_
  · simp [results, Try.results9, go_sem, z0, z1, z2, z3]
  · refine ⟨d, _, p', c', q', d', rfl, act_end S HP.out (AA.out.thn HH1.out) (by have := hA4.out; have := HH1.out.size; omega) HG.out.1 HG.out.2.1 HG.out.2.2 HBB2.out HRP.out.1 HRP.out.2.1 HRP.out.2.2.1 HRP.out.2.2.2 (.inr ⟨wD, HKD.out, HKE.out⟩) (HSE.out.trans HSD.out)⟩
end Go.Proofs.Ythbnochlpnikaaa
namespace Go.Proofs.Ythbnochlpnikaaa
open Go.RowKit Go.Shelf

set_option maxRecDepth 100000 in
set_option maxHeartbeats 4000000 in
theorem act_read {Rep : DiskRep} (S : DiskOk Rep) {w : World} {d : Value} {s : DS} {F : Nat → Prop} {p : Option Addr} {c : Nat} {q : Option Addr} {dd : Nat} {x : ActS} (hw0 : x.what = 6) (hP : PairOk Rep w d s F p c q dd) (hW : Whole s) (hf : Few s) (hl : s.left ≤ 9223372036854775807) (hx : ActIn w F x) :
    Calls Try.prog 9 #[d, refV s p c q dd, actV x] w (ActPost Rep F p q s w) := by
  have hl2 := hW.left
  have HP := Lib.hid hP
  have HW := Lib.hid hW
  have HF := Lib.hid hf
  have HX := Lib.hid hx
  have NM := Lib.hid num_any
  have hlow := S.low _ _ _ _ hP.rep
  have LOW := Lib.hid hlow
  obtain ⟨wA, hwA⟩ : ∃ wA, (((w.alloc (.cells #[.int .i64 s.many, .slice p s.sync.length c, .slice q s.loose.length dd, .int .i64 s.left] 35)).alloc (.cells #[.int .i64 6, .int .i64 x.place, .int .i64 x.n, .int .u8 x.byte, .slice x.kp x.keep.length x.kc] 25)).alloc (.cells #[.int .i64 0, .slice none 0 0, .slice none 0 0, .int .i64 0] 35)).alloc (.cells #[.int .i64 s.many, .slice p s.sync.length c, .slice q s.loose.length dd, .int .i64 s.left] 35) = wA := ⟨_, rfl⟩
  have BA : Below w.heap.size w wA := by subst hwA; exact ((((Below.refl _ _).alloc (Nat.le_refl _) _).alloc (by simp) _).alloc (by simp; omega) _).alloc (by simp; omega) _
  have SA : wA.heap.size = w.heap.size + 4 := by subst hwA; simp
  have rV : wA.heap[w.heap.size]? = some (.cells #[.int .i64 s.many, .slice p s.sync.length c, .slice q s.loose.length dd, .int .i64 s.left] 35 (0, 0)) := by
    rw [← hwA]
    exact (Below.heap_alloc _ _ _ (by simp <;> omega)).trans ((Below.heap_alloc _ _ _ (by simp <;> omega)).trans ((Below.heap_alloc _ _ _ (by simp <;> omega)).trans (World.alloc_heap_new w _)))
  have rX : wA.heap[w.heap.size + 1]? = some (.cells #[.int .i64 6, .int .i64 x.place, .int .i64 x.n, .int .u8 x.byte, .slice x.kp x.keep.length x.kc] 25 (0, 0)) := by
    rw [← hwA]
    have e := World.alloc_heap_new (w.alloc (.cells #[.int .i64 s.many, .slice p s.sync.length c, .slice q s.loose.length dd, .int .i64 s.left] 35)) (.cells #[.int .i64 6, .int .i64 x.place, .int .i64 x.n, .int .u8 x.byte, .slice x.kp x.keep.length x.kc] 25)
    rw [World.size_alloc] at e
    exact (Below.heap_alloc _ _ _ (by simp <;> omega)).trans ((Below.heap_alloc _ _ _ (by simp <;> omega)).trans e)
  have rR : wA.heap[w.heap.size + 1 + 1]? = some (.cells #[.int .i64 0, .slice none 0 0, .slice none 0 0, .int .i64 0] 35 (0, 0)) := by
    rw [← hwA]
    have e := World.alloc_heap_new ((w.alloc (.cells #[.int .i64 s.many, .slice p s.sync.length c, .slice q s.loose.length dd, .int .i64 s.left] 35)).alloc (.cells #[.int .i64 6, .int .i64 x.place, .int .i64 x.n, .int .u8 x.byte, .slice x.kp x.keep.length x.kc] 25)) (.cells #[.int .i64 0, .slice none 0 0, .slice none 0 0, .int .i64 0] 35)
    rw [World.size_alloc, World.size_alloc] at e
    exact (Below.heap_alloc _ _ _ (by simp <;> omega)).trans e
  have rO : wA.heap[w.heap.size + 1 + 1 + 1]? = some (.cells #[.int .i64 s.many, .slice p s.sync.length c, .slice q s.loose.length dd, .int .i64 s.left] 35 (0, 0)) := by
    rw [← hwA]
    have e := World.alloc_heap_new (((w.alloc (.cells #[.int .i64 s.many, .slice p s.sync.length c, .slice q s.loose.length dd, .int .i64 s.left] 35)).alloc (.cells #[.int .i64 6, .int .i64 x.place, .int .i64 x.n, .int .u8 x.byte, .slice x.kp x.keep.length x.kc] 25)).alloc (.cells #[.int .i64 0, .slice none 0 0, .slice none 0 0, .int .i64 0] 35)) (.cells #[.int .i64 s.many, .slice p s.sync.length c, .slice q s.loose.length dd, .int .i64 s.left] 35)
    rw [World.size_alloc, World.size_alloc, World.size_alloc] at e
    exact e
  have apr : ∀ k, w.heap.size ≤ k → k < w.heap.size + 4 → ∀ w', Apart F wA w' → w'.heap[k]? = wA.heap[k]? := fun k h1 h2 w' h => h.block k (by omega) (fun f => by have := LOW.out k f; omega)
  have KV : Hid (∀ w', Apart F wA w' → w'.heap[w.heap.size]? = some (.cells #[.int .i64 s.many, .slice p s.sync.length c, .slice q s.loose.length dd, .int .i64 s.left] 35 (0, 0))) := Lib.hid fun w' h => (apr _ (by omega) (by omega) w' h).trans rV
  have KX : Hid (∀ w', Apart F wA w' → w'.heap[w.heap.size + 1]? = some (.cells #[.int .i64 6, .int .i64 x.place, .int .i64 x.n, .int .u8 x.byte, .slice x.kp x.keep.length x.kc] 25 (0, 0))) := Lib.hid fun w' h => (apr _ (by omega) (by omega) w' h).trans rX
  have KR : Hid (∀ w', Apart F wA w' → w'.heap[w.heap.size + 1 + 1]? = some (.cells #[.int .i64 0, .slice none 0 0, .slice none 0 0, .int .i64 0] 35 (0, 0))) := Lib.hid fun w' h => (apr _ (by omega) (by omega) w' h).trans rR
  have KO : Hid (∀ w', Apart F wA w' → w'.heap[w.heap.size + 1 + 1 + 1]? = some (.cells #[.int .i64 s.many, .slice p s.sync.length c, .slice q s.loose.length dd, .int .i64 s.left] 35 (0, 0))) := Lib.hid fun w' h => (apr _ (by omega) (by omega) w' h).trans rO
  have RA := Lib.hid (S.keep _ _ _ _ _ hP.rep BA.size (fun k hk => BA.block k (hlow k hk)))
  have AA : Hid (Apart F w wA) := Lib.hid (Below.apart BA F)
  have hA4 := Lib.hid (Nat.le_of_eq SA.symm)
  have HSA := Lib.hid SA
  unfold refV actV
  rw [hw0]
  clear hw0
  clear hP hW hf hx hlow rV rX rR rO apr BA SA
  go_enter Try.func9, Try.ntmps9
  go_upto_region 2 with fail
  try rw [hwA]
  clear hwA
  have hr0 := KX.out _ (Below.apart (Below.refl wA.heap.size wA) F)
  have c0 := row_at (i := 0) hr0 rfl
  go_upto_region 19 with fail
  clear c0 hr0
  have hr0 := KX.out _ (Below.apart (Below.refl _ _) F)
  have c0 := row_at (i := 0) hr0 rfl; have c1 := row_at (i := 1) hr0 rfl; have c2 := row_at (i := 2) hr0 rfl; have c3 := row_at (i := 3) hr0 rfl; have c4 := row_at (i := 4) hr0 rfl
  go_upto_region 20 with (go_at_call 19; (with_reducible refine (S.read _ _ _ _ _ RA.out HW.out HF.out).mono ?_); rintro e wa ⟨t, l, rfl, ⟨⟨pb, cb, rfl, -, -, hby, hge⟩, hbA⟩, hlb, hls⟩; have HGE := Lib.hid hge; clear hge; have HA1 := Lib.hid hbA; have HBY := Lib.hid hby; have HLB := Lib.hid hlb; have HLS := Lib.hid hls; clear hbA hby hlb hls)
  clear c0 c1 c2 c3 c4 hr0
  have hr0 := KX.out _ (Below.apart HA1.out F)
  have hv0 := KV.out _ (Below.apart HA1.out F)
  have RB : Hid (RefAt wa s p c q dd) := Lib.hid (HP.out.ref.asIs (fun B off e => by
    have h1 := HP.out.pq B off e
    exact (AA.out.thn (Below.apart HA1.out F)).block B h1.2 h1.1))
  have RY := Lib.hid (refRead_any s p c q dd x.place wa HF.out RB)
  simp only [refV] at RY
  have c0 := row_at (i := 0) hr0 rfl; have c1 := row_at (i := 1) hr0 rfl; have c2 := row_at (i := 2) hr0 rfl; have c3 := row_at (i := 3) hr0 rfl; have c4 := row_at (i := 4) hr0 rfl
  have e0 := row_at (i := 0) hv0 rfl; have e1 := row_at (i := 1) hv0 rfl; have e2 := row_at (i := 2) hv0 rfl; have e3 := row_at (i := 3) hv0 rfl
  go_upto_region 21 with (go_at_call 27; (with_reducible refine RY.out.mono ?_); rintro e wb ⟨rfl, hbB⟩; have HB1 := Lib.hid (below_any HA1.out hbB); have HBYB := Lib.hid (bytesAt_below HBY.out hbB); have HRB := Lib.hid (RB.out.below hbB); clear hbB)
  clear c0 c1 c2 c3 c4 hr0 e0 e1 e2 e3 hv0
  have hsb : w.heap.size + 4 ≤ wb.heap.size := by have := hA4.out; have := HB1.out.size; omega
  have HSB := Lib.hid hsb
  have KV8 : Hid (∀ w', ButK (w.heap.size + 1 + 1) wb w' → w'.heap[w.heap.size]? = some (.cells #[.int .i64 s.many, .slice p s.sync.length c, .slice q s.loose.length dd, .int .i64 s.left] 35 (0, 0))) := Lib.hid fun w' h => (h.block _ (by omega) (by omega)).trans (KV.out _ (Below.apart HB1.out F))
  have rR8 := Lib.hid (KR.out _ (Below.apart (below_any HB1.out (Below.refl _ _).drew) F))
  have HTOLD : Hid (∀ i, i < l.length → ∃ B off, pb = some ⟨B, off, none⟩ ∧ wb.cell? ⟨B, off + i, none⟩ = some (.int .u8 (l.getD i 0 : Nat)) ∧ B ≠ w.heap.size + 1 + 1) := Lib.hid fun i hi => by
    obtain ⟨B, off, e, cc⟩ := HBYB.out i hi
    exact ⟨B, off, e, cc, by have h1 := HGE.out _ e; have h2 := hA4.out; simp only at h1; omega⟩
  have CVB : Hid (∀ w', ButK (w.heap.size + 1 + 1) wb w' → (convert 47 9 (.slice pb l.length cb)).run Try.prog w' = .ok (.string (readS s x.place).1) w') := Lib.hid fun w' h => by
    rw [← HLS.out]
    exact conv_at w' pb cb l HLB.out (fun i hi => by
      obtain ⟨B, off, e, cc⟩ := HTOLD.out i hi
      exact ⟨B, off, e, (World.cell?_of_block (a := ⟨B, off + i, none⟩) (h.block B (lt_of_cell_some cc.1) cc.2)).trans cc.1⟩)
  clear hsb
  have hss : ((readS s x.place).1.toList == (readS s x.place).1.toList) = true := by simp
  refine wp_region_held_drew (S := fun w' => ButK (w.heap.size + 1 + 1) wb w') (by kernel_rfl) (.of ((Below.refl _ _).drew)) (fun G0 => ?_)
  refine wpAnyH_take (i := 0) (oi := { dst := some 97, op := Go.Op.move (Go.Operand.tmp 0), type := 29, pos := "law.go:69", after := #[], guard := none }) (v := ?_) rfl (by kernel_rfl) (by kernel_rfl) (by kernel_rfl) (fun _ _ _ h => h) (Or.inl ⟨by rfl, ?_⟩) G0 ?_
  rotate_left
  focus (intro w' hSw; (try dsimp only at hSw); go_simp; (try with_reducible rfl))
  simp only [Act.put, List.setIfInBounds_toArray, List.set_cons_zero, List.set_cons_succ]
  refine wpAnyH_take (i := 1) (oi := { dst := some 98, op := Go.Op.load 35 (Go.Operand.tmp 4), type := 35, pos := "law.go:69", after := #[{ on := 12, ground := Go.Ground.gcOnly Go.Departure.lateStores }], guard := none }) (v := ?_) rfl (by kernel_rfl) (by kernel_rfl) (by kernel_rfl) (fun _ _ _ h => h) (Or.inl ⟨by rfl, ?_⟩) G0 ?_
  rotate_left
  focus (intro w' hSw; (try dsimp only at hSw); have hr := KV8.out _ hSw; have c0 := row_at (i := 0) hr rfl; have c1 := row_at (i := 1) hr rfl; have c2 := row_at (i := 2) hr rfl; have c3 := row_at (i := 3) hr rfl; go_simp; (try with_reducible rfl))
  simp only [Act.put, List.setIfInBounds_toArray, List.set_cons_zero, List.set_cons_succ]
  refine wpAnyH_take (i := 2) (oi := { dst := some 99, op := Go.Op.move (Go.Operand.tmp 12), type := 47, pos := "law.go:69", after := #[], guard := none }) (v := ?_) rfl (by kernel_rfl) (by kernel_rfl) (by kernel_rfl) (fun _ _ _ h => h) (Or.inl ⟨by rfl, ?_⟩) G0 ?_
  rotate_left
  focus (intro w' hSw; (try dsimp only at hSw); go_simp; (try with_reducible rfl))
  simp only [Act.put, List.setIfInBounds_toArray, List.set_cons_zero, List.set_cons_succ]
  refine wpAnyH_take (i := 3) (oi := { dst := some 100, op := Go.Op.convert 47 9 (Go.Operand.tmp 99), type := 9, pos := "law.go:69", after := #[{ on := 2, ground := Go.Ground.data }], guard := none }) (v := ?_) rfl (by kernel_rfl) (by kernel_rfl) (by kernel_rfl) (fun _ _ _ h => h) (Or.inl ⟨by rfl, ?_⟩) G0 ?_
  rotate_left
  focus (intro w' hSw; (try dsimp only at hSw); have hv := CVB.out _ hSw; go_simp; (try with_reducible rfl))
  simp only [Act.put, List.setIfInBounds_toArray, List.set_cons_zero, List.set_cons_succ]
  refine wpAnyH_take (i := 4) (oi := { dst := some 101, op := Go.Op.move (Go.Operand.tmp 14), type := 9, pos := "law.go:69", after := #[], guard := none }) (v := ?_) rfl (by kernel_rfl) (by kernel_rfl) (by kernel_rfl) (fun _ _ _ h => h) (Or.inl ⟨by rfl, ?_⟩) G0 ?_
  rotate_left
  focus (intro w' hSw; (try dsimp only at hSw); go_simp; (try with_reducible rfl))
  simp only [Act.put, List.setIfInBounds_toArray, List.set_cons_zero, List.set_cons_succ]
  refine wpAnyH_take (i := 5) (oi := { dst := some 102, op := Go.Op.binOp Go.BinOp.eql 9 (Go.Operand.tmp 100) (Go.Operand.tmp 101) 9, type := 4, pos := "law.go:69", after := #[{ on := 3, ground := Go.Ground.data }, { on := 4, ground := Go.Ground.data }], guard := none }) (v := ?_) rfl (by kernel_rfl) (by kernel_rfl) (by kernel_rfl) (fun _ _ _ h => h) (Or.inl ⟨by rfl, ?_⟩) G0 ?_
  rotate_left
  focus (intro w' hSw; (try dsimp only at hSw); go_simp; (try with_reducible rfl))
  simp only [Act.put, List.setIfInBounds_toArray, List.set_cons_zero, List.set_cons_succ]
  refine wpAnyH_take (i := 6) (oi := { dst := some 103, op := Go.Op.move (Go.Operand.tmp 102), type := 4, pos := "law.go:69", after := #[{ on := 5, ground := Go.Ground.data }], guard := none }) (v := ?_) rfl (by kernel_rfl) (by kernel_rfl) (by kernel_rfl) (fun _ _ _ h => h) (Or.inl ⟨by rfl, ?_⟩) G0 ?_
  rotate_left
  focus (intro w' hSw; (try dsimp only at hSw); go_simp; (try with_reducible rfl))
  simp only [Act.put, List.setIfInBounds_toArray, List.set_cons_zero, List.set_cons_succ]
  refine wpAnyH_take (i := 7) (oi := { dst := some 104, op := Go.Op.move (Go.Operand.tmp 13), type := 30, pos := "law.go:69", after := #[{ on := 6, ground := Go.Ground.guard }], guard := some (6, true) }) (v := ?_) rfl (by kernel_rfl) (by kernel_rfl) (by kernel_rfl) (fun _ _ _ h => h) (Or.inl ⟨by rfl, ?_⟩) G0 ?_
  rotate_left
  focus (intro w' hSw; (try dsimp only at hSw); go_simp; (try with_reducible rfl))
  simp only [Act.put, List.setIfInBounds_toArray, List.set_cons_zero, List.set_cons_succ]
  refine wpAnyH_take (i := 9) (oi := { dst := some 106, op := Go.Op.move (Go.Operand.tmp 15), type := 3, pos := "law.go:69", after := #[{ on := 6, ground := Go.Ground.guard }, { on := 13, ground := Go.Ground.gcOnly Go.Departure.lateStores }], guard := some (6, true) }) (v := ?_) rfl (by kernel_rfl) (by kernel_rfl) (by kernel_rfl) (fun _ _ _ h => h) (Or.inl ⟨by rfl, ?_⟩) G0 ?_
  rotate_left
  focus (intro w' hSw; (try dsimp only at hSw); go_simp; (try with_reducible rfl))
  simp only [Act.put, List.setIfInBounds_toArray, List.set_cons_zero, List.set_cons_succ]
  refine wpAnyH_ready (rs := [8]) (by kernel_rfl) (by simp) ?_
  refine AllReadyH.cons (o := { dst := some 105, op := Go.Op.call { callee := Go.Callee.value (Go.Operand.func 12), args := #[Go.Operand.tmp 104], argTypes := #[30] }, type := 3, pos := "law.go:69", after := #[{ on := 7, ground := Go.Ground.data }, { on := 6, ground := Go.Ground.chain }, { on := 6, ground := Go.Ground.guard }], guard := some (6, true) }) rfl (fun K hK => ?_) ?_
  rotate_left
  exact AllReadyH.nil
  go_simp
  (go_at_call 12; (with_reducible refine (NM.out _ _).mono ?_); rintro e wn ⟨rfl, rfl⟩)
  try go_wp2_with fail
  refine hK.out _ _ G0 (fun G1 => ?_)
  clear hK K
  try simp only [Act.put, List.setIfInBounds_toArray, List.set_cons_zero, List.set_cons_succ]
  clear G1
  refine wpAnyH_take (i := 10) (oi := { dst := some 107, op := Go.Op.binOp Go.BinOp.eql 3 (Go.Operand.tmp 105) (Go.Operand.tmp 106) 3, type := 4, pos := "law.go:69", after := #[{ on := 8, ground := Go.Ground.data }, { on := 9, ground := Go.Ground.data }, { on := 6, ground := Go.Ground.guard }, { on := 13, ground := Go.Ground.gcOnly Go.Departure.lateStores }], guard := some (6, true) }) (v := ?_) rfl (by kernel_rfl) (by kernel_rfl) (by kernel_rfl) (fun _ _ _ h => h) (Or.inl ⟨by rfl, ?_⟩) G0 ?_
  rotate_left
  focus (intro w' hSw; (try dsimp only at hSw); go_simp; (try with_reducible rfl))
  simp only [Act.put, List.setIfInBounds_toArray, List.set_cons_zero, List.set_cons_succ]
  refine wpAnyH_take (i := 11) (oi := { dst := some 108, op := Go.Op.pick (Go.Operand.tmp 103) (Go.Operand.tmp 107) (Go.Operand.const (Go.Value.bool false)), type := 4, pos := "law.go:69", after := #[{ on := 6, ground := Go.Ground.data }, { on := 10, ground := Go.Ground.data }, { on := 13, ground := Go.Ground.gcOnly Go.Departure.lateStores }], guard := none }) (v := ?_) rfl (by kernel_rfl) (by kernel_rfl) (by kernel_rfl) (fun _ _ _ h => h) (Or.inl ⟨by rfl, ?_⟩) G0 ?_
  rotate_left
  focus (intro w' hSw; (try dsimp only at hSw); go_simp; (try with_reducible rfl))
  simp only [Act.put, List.setIfInBounds_toArray, List.set_cons_zero, List.set_cons_succ]
  refine wpAnyH_take (i := 12) (oi := { dst := some 6, op := Go.Op.assign (Go.Operand.tmp 97), type := 29, pos := "law.go:69", after := #[{ on := 0, ground := Go.Ground.data }, { on := 8, ground := Go.Ground.chain }, { on := 0, ground := Go.Ground.phase }, { on := 1, ground := Go.Ground.textOnly Go.Departure.lateStores }, { on := 2, ground := Go.Ground.textOnly Go.Departure.lateStores }, { on := 3, ground := Go.Ground.textOnly Go.Departure.lateStores }, { on := 4, ground := Go.Ground.textOnly Go.Departure.lateStores }, { on := 5, ground := Go.Ground.textOnly Go.Departure.lateStores }, { on := 6, ground := Go.Ground.textOnly Go.Departure.lateStores }, { on := 7, ground := Go.Ground.textOnly Go.Departure.lateStores }, { on := 8, ground := Go.Ground.textOnly Go.Departure.lateStoresUnsure }, { on := 9, ground := Go.Ground.textOnly Go.Departure.lateStores }, { on := 10, ground := Go.Ground.textOnly Go.Departure.lateStores }, { on := 11, ground := Go.Ground.textOnly Go.Departure.lateStores }], guard := none }) (v := ?_) rfl (by kernel_rfl) (by kernel_rfl) (by kernel_rfl) (fun _ _ _ h => h) (Or.inl ⟨by rfl, ?_⟩) G0 ?_
  rotate_left
  focus (intro w' hSw; (try dsimp only at hSw); go_simp; (try with_reducible rfl))
  simp only [Act.put, List.setIfInBounds_toArray, List.set_cons_zero, List.set_cons_succ]
  refine wpAnyH_ready (rs := [13]) (by kernel_rfl) (by simp) ?_
  refine AllReadyH.cons (o := { dst := none, op := Go.Op.store 35 (Go.Operand.tmp 7) (Go.Operand.tmp 98), type := 0, pos := "law.go:69", after := #[{ on := 1, ground := Go.Ground.data }, { on := 12, ground := Go.Ground.chain }, { on := 0, ground := Go.Ground.phase }, { on := 1, ground := Go.Ground.phase }, { on := 2, ground := Go.Ground.textOnly Go.Departure.lateStores }, { on := 3, ground := Go.Ground.textOnly Go.Departure.lateStores }, { on := 4, ground := Go.Ground.textOnly Go.Departure.lateStores }, { on := 5, ground := Go.Ground.textOnly Go.Departure.lateStores }, { on := 6, ground := Go.Ground.textOnly Go.Departure.lateStores }, { on := 7, ground := Go.Ground.textOnly Go.Departure.lateStores }, { on := 8, ground := Go.Ground.textOnly Go.Departure.lateStoresUnsure }, { on := 9, ground := Go.Ground.textOnly Go.Departure.lateStores }, { on := 10, ground := Go.Ground.textOnly Go.Departure.lateStores }, { on := 11, ground := Go.Ground.textOnly Go.Departure.lateStores }, { on := 12, ground := Go.Ground.phase }], guard := none }) rfl (fun K hK => ?_) ?_
  rotate_left
  exact AllReadyH.nil
  refine step_store_row rfl 35 (.tmp 7) (.tmp 98) rfl (w.heap.size + 1 + 1) #[.int .i64 s.many, .slice p s.sync.length c, .slice q s.loose.length dd, .int .i64 s.left] rfl rfl 35 #[.int .i64 0, .slice none 0 0, .slice none 0 0, .int .i64 0] rR8.out rfl rfl (by simp [Value.oneCell']) ?_
  have hrE := setRow_heap wb.drew (w.heap.size + 1 + 1) #[.int .i64 0, .slice none 0 0, .slice none 0 0, .int .i64 0] #[.int .i64 s.many, .slice p s.sync.length c, .slice q s.loose.length dd, .int .i64 s.left] 35 (0, 0) rR8.out
  have hkE : ButK (w.heap.size + 1 + 1) wb (wb.drew.setRow (w.heap.size + 1 + 1) #[.int .i64 s.many, .slice p s.sync.length c, .slice q s.loose.length dd, .int .i64 s.left]) := G0.trans (ButK.row _ _)
  have hsE : (wb.drew.setRow (w.heap.size + 1 + 1) #[.int .i64 s.many, .slice p s.sync.length c, .slice q s.loose.length dd, .int .i64 s.left]).heap.size = wb.drew.heap.size := by simp
  obtain ⟨wE, hwE⟩ : ∃ wE, wb.drew.setRow (w.heap.size + 1 + 1) #[.int .i64 s.many, .slice p s.sync.length c, .slice q s.loose.length dd, .int .i64 s.left] = wE := ⟨_, rfl⟩
  rw [hwE] at hrE hkE hsE ⊢
  refine hK.out _ _ hkE (fun G9 => ?_)
  clear hK K hwE
  try simp only [Act.put, List.setIfInBounds_toArray, List.set_cons_zero, List.set_cons_succ]
  refine wpAnyH_take (i := 14) (oi := { dst := some 8, op := Go.Op.assign (Go.Operand.tmp 108), type := 4, pos := "law.go:69", after := #[{ on := 11, ground := Go.Ground.data }, { on := 13, ground := Go.Ground.chain }, { on := 0, ground := Go.Ground.phase }, { on := 1, ground := Go.Ground.phase }, { on := 2, ground := Go.Ground.phase }, { on := 3, ground := Go.Ground.phase }, { on := 4, ground := Go.Ground.phase }, { on := 5, ground := Go.Ground.phase }, { on := 6, ground := Go.Ground.phase }, { on := 7, ground := Go.Ground.phase }, { on := 8, ground := Go.Ground.phase }, { on := 9, ground := Go.Ground.phase }, { on := 10, ground := Go.Ground.phase }, { on := 11, ground := Go.Ground.phase }, { on := 12, ground := Go.Ground.phase }, { on := 13, ground := Go.Ground.phase }], guard := none }) (v := ?_) rfl (by kernel_rfl) (by kernel_rfl) (by kernel_rfl) (fun _ _ _ h => h) (Or.inl ⟨by rfl, ?_⟩) G9 ?_
  rotate_left
  focus (intro w' hSw; (try dsimp only at hSw); go_simp; (try with_reducible rfl))
  simp only [Act.put, List.setIfInBounds_toArray, List.set_cons_zero, List.set_cons_succ]
  refine wpAnyH_done (by kernel_rfl) ?_ _
  have z0 := row_at (i := 0) hrE rfl; have z1 := row_at (i := 1) hrE rfl; have z2 := row_at (i := 2) hrE rfl; have z3 := row_at (i := 3) hrE rfl
  have HKE := Lib.hid hkE
  have HSE := Lib.hid hsE
  clear hkE hsE hrE
  go_wp2_with fail
  refine bodyPost_ret (v := .tuple #[d, .agg #[.int .i64 s.many, .slice p s.sync.length c, .slice q s.loose.length dd, .int .i64 s.left], .bool true]) ?_ rfl ?_
  · simp [results, Try.results9, go_sem, z0, z1, z2, z3]
  · refine ⟨d, _, p, c, q, dd, rfl, act_end S HP.out AA.out hA4.out RA.out (fun k h => .inl h) (Below.apart (Below.refl _ _) F) HB1.out HRB.out .left .right (Below.refl _ _) (.inr ⟨wb, .of (Below.refl _ _), HKE.out⟩) (HSE.out.trans (by simp))⟩
set_option maxRecDepth 100000 in
set_option maxHeartbeats 4000000 in
theorem act_copy {Rep : DiskRep} (S : DiskOk Rep) {w : World} {d : Value} {s : DS} {F : Nat → Prop} {p : Option Addr} {c : Nat} {q : Option Addr} {dd : Nat} {x : ActS} (hw0 : ∀ k : Int, 0 ≤ k → k ≤ 6 → x.what ≠ k) (hP : PairOk Rep w d s F p c q dd) (hW : Whole s) (hf : Few s) (hl : s.left ≤ 9223372036854775807) (hx : ActIn w F x) :
    Calls Try.prog 9 #[d, refV s p c q dd, actV x] w (ActPost Rep F p q s w) := by
  have hl2 := hW.left
  have HP := Lib.hid hP
  have HW := Lib.hid hW
  have HF := Lib.hid hf
  have HX := Lib.hid hx
  have NM := Lib.hid num_any
  have hlow := S.low _ _ _ _ hP.rep
  have LOW := Lib.hid hlow
  obtain ⟨wA, hwA⟩ : ∃ wA, (((w.alloc (.cells #[.int .i64 s.many, .slice p s.sync.length c, .slice q s.loose.length dd, .int .i64 s.left] 35)).alloc (.cells #[.int .i64 x.what, .int .i64 x.place, .int .i64 x.n, .int .u8 x.byte, .slice x.kp x.keep.length x.kc] 25)).alloc (.cells #[.int .i64 0, .slice none 0 0, .slice none 0 0, .int .i64 0] 35)).alloc (.cells #[.int .i64 s.many, .slice p s.sync.length c, .slice q s.loose.length dd, .int .i64 s.left] 35) = wA := ⟨_, rfl⟩
  have BA : Below w.heap.size w wA := by subst hwA; exact ((((Below.refl _ _).alloc (Nat.le_refl _) _).alloc (by simp) _).alloc (by simp; omega) _).alloc (by simp; omega) _
  have SA : wA.heap.size = w.heap.size + 4 := by subst hwA; simp
  have rV : wA.heap[w.heap.size]? = some (.cells #[.int .i64 s.many, .slice p s.sync.length c, .slice q s.loose.length dd, .int .i64 s.left] 35 (0, 0)) := by
    rw [← hwA]
    exact (Below.heap_alloc _ _ _ (by simp <;> omega)).trans ((Below.heap_alloc _ _ _ (by simp <;> omega)).trans ((Below.heap_alloc _ _ _ (by simp <;> omega)).trans (World.alloc_heap_new w _)))
  have rX : wA.heap[w.heap.size + 1]? = some (.cells #[.int .i64 x.what, .int .i64 x.place, .int .i64 x.n, .int .u8 x.byte, .slice x.kp x.keep.length x.kc] 25 (0, 0)) := by
    rw [← hwA]
    have e := World.alloc_heap_new (w.alloc (.cells #[.int .i64 s.many, .slice p s.sync.length c, .slice q s.loose.length dd, .int .i64 s.left] 35)) (.cells #[.int .i64 x.what, .int .i64 x.place, .int .i64 x.n, .int .u8 x.byte, .slice x.kp x.keep.length x.kc] 25)
    rw [World.size_alloc] at e
    exact (Below.heap_alloc _ _ _ (by simp <;> omega)).trans ((Below.heap_alloc _ _ _ (by simp <;> omega)).trans e)
  have rR : wA.heap[w.heap.size + 1 + 1]? = some (.cells #[.int .i64 0, .slice none 0 0, .slice none 0 0, .int .i64 0] 35 (0, 0)) := by
    rw [← hwA]
    have e := World.alloc_heap_new ((w.alloc (.cells #[.int .i64 s.many, .slice p s.sync.length c, .slice q s.loose.length dd, .int .i64 s.left] 35)).alloc (.cells #[.int .i64 x.what, .int .i64 x.place, .int .i64 x.n, .int .u8 x.byte, .slice x.kp x.keep.length x.kc] 25)) (.cells #[.int .i64 0, .slice none 0 0, .slice none 0 0, .int .i64 0] 35)
    rw [World.size_alloc, World.size_alloc] at e
    exact (Below.heap_alloc _ _ _ (by simp <;> omega)).trans e
  have rO : wA.heap[w.heap.size + 1 + 1 + 1]? = some (.cells #[.int .i64 s.many, .slice p s.sync.length c, .slice q s.loose.length dd, .int .i64 s.left] 35 (0, 0)) := by
    rw [← hwA]
    have e := World.alloc_heap_new (((w.alloc (.cells #[.int .i64 s.many, .slice p s.sync.length c, .slice q s.loose.length dd, .int .i64 s.left] 35)).alloc (.cells #[.int .i64 x.what, .int .i64 x.place, .int .i64 x.n, .int .u8 x.byte, .slice x.kp x.keep.length x.kc] 25)).alloc (.cells #[.int .i64 0, .slice none 0 0, .slice none 0 0, .int .i64 0] 35)) (.cells #[.int .i64 s.many, .slice p s.sync.length c, .slice q s.loose.length dd, .int .i64 s.left] 35)
    rw [World.size_alloc, World.size_alloc, World.size_alloc] at e
    exact e
  have apr : ∀ k, w.heap.size ≤ k → k < w.heap.size + 4 → ∀ w', Apart F wA w' → w'.heap[k]? = wA.heap[k]? := fun k h1 h2 w' h => h.block k (by omega) (fun f => by have := LOW.out k f; omega)
  have KV : Hid (∀ w', Apart F wA w' → w'.heap[w.heap.size]? = some (.cells #[.int .i64 s.many, .slice p s.sync.length c, .slice q s.loose.length dd, .int .i64 s.left] 35 (0, 0))) := Lib.hid fun w' h => (apr _ (by omega) (by omega) w' h).trans rV
  have KX : Hid (∀ w', Apart F wA w' → w'.heap[w.heap.size + 1]? = some (.cells #[.int .i64 x.what, .int .i64 x.place, .int .i64 x.n, .int .u8 x.byte, .slice x.kp x.keep.length x.kc] 25 (0, 0))) := Lib.hid fun w' h => (apr _ (by omega) (by omega) w' h).trans rX
  have KR : Hid (∀ w', Apart F wA w' → w'.heap[w.heap.size + 1 + 1]? = some (.cells #[.int .i64 0, .slice none 0 0, .slice none 0 0, .int .i64 0] 35 (0, 0))) := Lib.hid fun w' h => (apr _ (by omega) (by omega) w' h).trans rR
  have KO : Hid (∀ w', Apart F wA w' → w'.heap[w.heap.size + 1 + 1 + 1]? = some (.cells #[.int .i64 s.many, .slice p s.sync.length c, .slice q s.loose.length dd, .int .i64 s.left] 35 (0, 0))) := Lib.hid fun w' h => (apr _ (by omega) (by omega) w' h).trans rO
  have RA := Lib.hid (S.keep _ _ _ _ _ hP.rep BA.size (fun k hk => BA.block k (hlow k hk)))
  have AA : Hid (Apart F w wA) := Lib.hid (Below.apart BA F)
  have hA4 := Lib.hid (Nat.le_of_eq SA.symm)
  have HSA := Lib.hid SA
  unfold refV actV
  have n0 := hw0 0 (by omega) (by omega); have n1 := hw0 1 (by omega) (by omega); have n2 := hw0 2 (by omega) (by omega); have n3 := hw0 3 (by omega) (by omega); have n4 := hw0 4 (by omega) (by omega); have n5 := hw0 5 (by omega) (by omega); have n6 := hw0 6 (by omega) (by omega)
  have b0 : (x.what == 0) = false := by simp [n0]
  have b1 : (x.what == 1) = false := by simp [n1]
  have b2 : (x.what == 2) = false := by simp [n2]
  have b3 : (x.what == 3) = false := by simp [n3]
  have b4 : (x.what == 4) = false := by simp [n4]
  have b5 : (x.what == 5) = false := by simp [n5]
  have b6 : (x.what == 6) = false := by simp [n6]
  clear hw0
  clear hP hW hf hx hlow rV rX rR rO apr BA SA
  go_enter Try.func9, Try.ntmps9
  go_upto_region 2 with fail
  try rw [hwA]
  clear hwA
  have hr0 := KX.out _ (Below.apart (Below.refl wA.heap.size wA) F)
  have c0 := row_at (i := 0) hr0 rfl
  go_upto_region 3 with fail
  clear c0 hr0
  have hSA4 := HSA.out
  have KV8 : Hid (∀ w', Apart (fun k => F k ∨ k = w.heap.size + 1 + 1) wA w' → w'.heap[w.heap.size]? = some (.cells #[.int .i64 s.many, .slice p s.sync.length c, .slice q s.loose.length dd, .int .i64 s.left] 35 (0, 0))) := Lib.hid fun w' h => (h.block _ (by omega) (fun f => f.elim (fun f => by have := LOW.out _ f; omega) (fun f => by omega))).trans (KV.out _ (Below.apart (Below.refl _ _) F))
  clear hSA4
  have RD := Lib.hid (S.keep _ _ _ _ _ RA.out (Below.refl wA.heap.size wA).drew.size (fun k hk => (Below.refl wA.heap.size wA).drew.block k (S.low _ _ _ _ RA.out k hk)))
  refine wp_region_held_drew (S := fun w' => Apart (fun k => F k ∨ k = w.heap.size + 1 + 1) wA w') (by kernel_rfl) (Below.apart ((Below.refl _ _).drew) _) (fun G0 => ?_)
  refine wpAnyH_take (i := 0) (oi := { dst := some 19, op := Go.Op.move (Go.Operand.tmp 0), type := 29, pos := "law.go:71", after := #[], guard := none }) (v := ?_) rfl (by kernel_rfl) (by kernel_rfl) (by kernel_rfl) (fun _ _ _ h => h) (Or.inl ⟨by rfl, ?_⟩) G0 ?_
  rotate_left
  focus (intro w' hSw; (try dsimp only at hSw); go_simp; (try with_reducible rfl))
  simp only [Act.put, List.setIfInBounds_toArray, List.set_cons_zero, List.set_cons_succ]
  refine wpAnyH_take (i := 2) (oi := { dst := some 21, op := Go.Op.load 35 (Go.Operand.tmp 4), type := 35, pos := "law.go:71", after := #[{ on := 3, ground := Go.Ground.gcOnly Go.Departure.lateStores }], guard := none }) (v := ?_) rfl (by kernel_rfl) (by kernel_rfl) (by kernel_rfl) (fun _ _ _ h => h) (Or.inl ⟨by rfl, ?_⟩) G0 ?_
  rotate_left
  focus (intro w' hSw; (try dsimp only at hSw); have hr := KV8.out _ hSw; have c0 := row_at (i := 0) hr rfl; have c1 := row_at (i := 1) hr rfl; have c2 := row_at (i := 2) hr rfl; have c3 := row_at (i := 3) hr rfl; go_simp; (try with_reducible rfl))
  simp only [Act.put, List.setIfInBounds_toArray, List.set_cons_zero, List.set_cons_succ]
  refine wpAnyH_ready (rs := [1]) (by kernel_rfl) (by simp) ?_
  refine AllReadyH.cons (o := { dst := some 20, op := Go.Op.call { callee := Go.Callee.value (Go.Operand.func 10), args := #[Go.Operand.tmp 19], argTypes := #[29] }, type := 29, pos := "law.go:71", after := #[{ on := 0, ground := Go.Ground.data }], guard := none }) rfl (fun K hK => ?_) ?_
  rotate_left
  exact AllReadyH.nil
  go_simp
  (go_at_call 10; (with_reducible refine (S.copy _ _ _ _ RD.out HW.out HF.out).mono ?_); rintro e wb ⟨d2, F2, rfl, hR2, hF2, hbB⟩; have HG := Lib.hid (And.intro hR2 (And.intro hF2 hbB)); have HB1 := Lib.hid (below_any (Below.refl wA.heap.size wA).drew hbB); clear hR2 hF2 hbB)
  try go_wp2_with fail
  refine hK.out _ _ (Below.apart HB1.out _) (fun G1 => ?_)
  clear hK K
  try simp only [Act.put, List.setIfInBounds_toArray, List.set_cons_zero, List.set_cons_succ]
  have hsb : w.heap.size + 4 ≤ wb.heap.size := by have := hA4.out; have := HB1.out.size; omega
  have rR8 := Lib.hid (KR.out _ (Below.apart HB1.out F))
  refine wpAnyH_take (i := 3) (oi := { dst := some 6, op := Go.Op.assign (Go.Operand.tmp 20), type := 29, pos := "law.go:71", after := #[{ on := 1, ground := Go.Ground.data }, { on := 1, ground := Go.Ground.chain }, { on := 0, ground := Go.Ground.phase }, { on := 1, ground := Go.Ground.phase }, { on := 2, ground := Go.Ground.textOnly Go.Departure.lateStores }], guard := none }) (v := ?_) rfl (by kernel_rfl) (by kernel_rfl) (by kernel_rfl) (fun _ _ _ h => h) (Or.inl ⟨by rfl, ?_⟩) G1 ?_
  rotate_left
  focus (intro w' hSw; (try dsimp only at hSw); go_simp; (try with_reducible rfl))
  simp only [Act.put, List.setIfInBounds_toArray, List.set_cons_zero, List.set_cons_succ]
  refine wpAnyH_ready (rs := [4]) (by kernel_rfl) (by simp) ?_
  refine AllReadyH.cons (o := { dst := none, op := Go.Op.store 35 (Go.Operand.tmp 7) (Go.Operand.tmp 21), type := 0, pos := "law.go:71", after := #[{ on := 2, ground := Go.Ground.data }, { on := 3, ground := Go.Ground.chain }, { on := 0, ground := Go.Ground.phase }, { on := 1, ground := Go.Ground.phase }, { on := 2, ground := Go.Ground.phase }, { on := 3, ground := Go.Ground.phase }], guard := none }) rfl (fun K hK => ?_) ?_
  rotate_left
  exact AllReadyH.nil
  refine step_store_row rfl 35 (.tmp 7) (.tmp 21) rfl (w.heap.size + 1 + 1) #[.int .i64 s.many, .slice p s.sync.length c, .slice q s.loose.length dd, .int .i64 s.left] rfl rfl 35 #[.int .i64 0, .slice none 0 0, .slice none 0 0, .int .i64 0] rR8.out rfl rfl (by simp [Value.oneCell']) ?_
  have hrE := setRow_heap wb (w.heap.size + 1 + 1) #[.int .i64 0, .slice none 0 0, .slice none 0 0, .int .i64 0] #[.int .i64 s.many, .slice p s.sync.length c, .slice q s.loose.length dd, .int .i64 s.left] 35 (0, 0) rR8.out
  have hkE : ButK (w.heap.size + 1 + 1) wb (wb.setRow (w.heap.size + 1 + 1) #[.int .i64 s.many, .slice p s.sync.length c, .slice q s.loose.length dd, .int .i64 s.left]) := ButK.row _ _
  have hsE : (wb.setRow (w.heap.size + 1 + 1) #[.int .i64 s.many, .slice p s.sync.length c, .slice q s.loose.length dd, .int .i64 s.left]).heap.size = wb.heap.size := by simp
  have hap : Apart (fun k => F k ∨ k = w.heap.size + 1 + 1) wA (wb.setRow (w.heap.size + 1 + 1) #[.int .i64 s.many, .slice p s.sync.length c, .slice q s.loose.length dd, .int .i64 s.left]) := G1.thn ⟨rfl, rfl, rfl, by simp, fun k _ hn => setRow_other wb _ k _ (fun e => hn (.inr e))⟩
  obtain ⟨wE, hwE⟩ : ∃ wE, wb.setRow (w.heap.size + 1 + 1) #[.int .i64 s.many, .slice p s.sync.length c, .slice q s.loose.length dd, .int .i64 s.left] = wE := ⟨_, rfl⟩
  rw [hwE] at hrE hkE hsE hap ⊢
  refine hK.out _ _ hap (fun G9 => ?_)
  clear hK K hwE
  try simp only [Act.put, List.setIfInBounds_toArray, List.set_cons_zero, List.set_cons_succ]
  refine wpAnyH_take (i := 5) (oi := { dst := some 8, op := Go.Op.assign (Go.Operand.const (Go.Value.bool true)), type := 4, pos := "law.go:71", after := #[{ on := 4, ground := Go.Ground.chain }, { on := 0, ground := Go.Ground.phase }, { on := 1, ground := Go.Ground.phase }, { on := 2, ground := Go.Ground.phase }, { on := 3, ground := Go.Ground.phase }, { on := 4, ground := Go.Ground.phase }], guard := none }) (v := ?_) rfl (by kernel_rfl) (by kernel_rfl) (by kernel_rfl) (fun _ _ _ h => h) (Or.inl ⟨by rfl, ?_⟩) G9 ?_
  rotate_left
  focus (intro w' hSw; (try dsimp only at hSw); go_simp; (try with_reducible rfl))
  simp only [Act.put, List.setIfInBounds_toArray, List.set_cons_zero, List.set_cons_succ]
  refine wpAnyH_done (by kernel_rfl) ?_ _
  have RB : Hid (RefAt wb s p c q dd) := Lib.hid (HP.out.ref.asIs (fun B off e => by
    have h1 := HP.out.pq B off e
    exact (AA.out.thn (Below.apart HB1.out F)).block B h1.2 h1.1))
  have z0 := row_at (i := 0) hrE rfl; have z1 := row_at (i := 1) hrE rfl; have z2 := row_at (i := 2) hrE rfl; have z3 := row_at (i := 3) hrE rfl
  have HKE := Lib.hid hkE
  have HSE := Lib.hid hsE
  clear hkE hsE hrE
  go_wp2_with fail
  refine bodyPost_ret (v := .tuple #[d2, .agg #[.int .i64 s.many, .slice p s.sync.length c, .slice q s.loose.length dd, .int .i64 s.left], .bool true]) ?_ rfl ?_
  · simp [results, Try.results9, go_sem, z0, z1, z2, z3]
  · refine ⟨d2, _, p, c, q, dd, rfl, act_end S HP.out AA.out hA4.out HG.out.1 (fun k h => .inr (Nat.le_trans (Below.refl wA.heap.size wA).drew.size (HG.out.2.1 k h))) (Below.apart HB1.out F) (Below.refl _ _) RB.out .left .right (Below.refl _ _) (.inr ⟨wb, .of (Below.refl _ _), HKE.out⟩) HSE.out⟩
end Go.Proofs.Ythbnochlpnikaaa
