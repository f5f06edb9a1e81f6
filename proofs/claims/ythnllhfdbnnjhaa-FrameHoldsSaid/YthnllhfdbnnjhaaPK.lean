/- FrameTorn, walked. -/
import Derived.Test.YthnllhfdbnnjhaaPI
namespace Go.Proofs.Ythnllhfdbnnjhaa
open Go.RowKit Go.Shelf

set_option maxRecDepth 100000 in
/-- Bytes are appended to the call's own, as a step of a drawn region. -/
theorem step_append_bytes {ops : Array Oper} {o : Oper} {a : Act} {w : World} {K : Act → World → Prop} {Q : Exit → Act → World → Prop} {E : Prop} (hgd : o.guard = none) (s x : Operand)
    (ho : o.op = .call { callee := .builtin .append, args := #[s, x], argTypes := #[39, 39] })
    {w0 : World} {l m : List Nat} {v : Value} {q : Option Addr} {n c : Nat} (hs : a.eval s = v) (hR : RowB w0 l v w) (hn : m.length = n) (hx : a.eval x = .slice q n c) (hq : q = none → c = 0) (hm : BytesAt w q m) (hb : l.length + m.length ≤ 100000)
    (h : ∀ v' w', RowB w0 (l ++ m) v' w' → w.grownBy w' v.ownBlock → K (a.put o.dst v') w') : if Region.wanted o (yielded ops a.tmps) = true then Oper.wp Try.prog o a w K Q else E := by
  have hw : Region.wanted o (yielded ops a.tmps) = true := by simp [Region.wanted, hgd]
  rw [if_pos hw]
  subst hn
  obtain ⟨j0, hj, hz0, hz1, hz2⟩ := info_parts info5
  have hown := hR.1
  have hbs := hR.2.size
  cases q with
  | none =>
    have hm0 : m = [] := by
      cases m with
      | nil => rfl
      | cons b t => obtain ⟨B, off, e, -⟩ := hm 0 (by simp); cases e
    subst hm0
    have hc := hq rfl
    subst hc
    have hrun := run_append_owned_none (P := Try.prog) (w := w) w0.heap.size 39 o.type 5 j0 1 Try.underlying39 hj v _ _ hown
    unfold Oper.wp
    simp [execOp, ho, resolve, invoke, builtin, hs, hx, hrun, Result.andThen]
    exact h _ _ (by rw [List.append_nil]; exact hR) (World.grownBy.refl _ _)
  | some ad =>
    obtain ⟨v', w', hrun, h1, h2, -⟩ := run_append_own (P := Try.prog) w w0.heap.size 39 o.type 5 j0 (.int .u8 0) 1 1 Try.underlying39 hj hz0 hz1 hz2 rfl (by decide) v _ _ hown ad m.length c (m.map fun (v : Nat) => Value.int .u8 (v : Int)) (by simp) (by
      intro j u hu
      have hjl : j < m.length := by
        have := (List.getElem?_eq_some_iff.1 hu).1
        simpa using this
      obtain ⟨B', off', e, c⟩ := hm j hjl
      injection e with e
      subst e
      rw [addr_plain, c]
      simp [hjl] at hu
      simp [List.getD_eq_getElem?_getD, hjl, hu]) (by simp [Value.oneCell']) (by unfold maxLen; omega) (by omega) hbs
    unfold Oper.wp
    simp [execOp, ho, resolve, invoke, builtin, hs, hx, hrun, Result.andThen]
    refine h v' w' ⟨?_, hR.2.grown h2 hbs (fun j hj => (hown.lt j hj).1)⟩ h2
    rw [List.length_append, List.map_append]
    exact h1
theorem eq38 (a b : Int) (c d : Int) (e f g h : Int) (w : World) : (binOp .eql 38 (.agg #[.int .u64 a, .int .u64 b, .int .i64 c, .int .i64 d]) (.agg #[.int .u64 e, .int .u64 f, .int .i64 g, .int .i64 h])).run Try.prog w = .ok (.bool (decide (a = e ∧ b = f ∧ c = g ∧ d = h))) w := by
  go_simp
  by_cases h1 : a = e
  · by_cases h2 : b = f
    · by_cases h3 : c = g
      · by_cases h4 : d = h
        · simp [h1, h2, h3, h4]
        · simp [h1, h2, h3, h4]
      · simp [h1, h2, h3]
    · simp [h1, h2]
  · simp [h1]
theorem eqg38 (x y : Operand) (a b : Int) (c d : Int) (e f g h : Int) (w : World) : (eqGuard .eql 38 x y (.agg #[.int .u64 a, .int .u64 b, .int .i64 c, .int .i64 d]) (.agg #[.int .u64 e, .int .u64 f, .int .i64 g, .int .i64 h])).run Try.prog w = .ok () w := by
  go_simp
theorem foldN_fix (k n : Nat) (h : n < 256 ^ k) : foldN (fixE k n) = n := by
  have := read_fix k n h []
  rw [List.append_nil] at this
  unfold readFixE at this
  rw [if_neg (by rw [fixE_length]; omega)] at this
  have h1 := congrArg Prod.fst this
  simp only at h1
  rw [List.take_of_length_le (by rw [fixE_length]; omega)] at h1
  exact h1
theorem headL_form (S E n c : Nat) : ∃ R, headL S E n c = fixE 8 S ++ (fixE 8 E ++ (fixE 4 n ++ (fixE 4 c ++ R))) := by
  refine ⟨fixE 4 (~~~ sumN (headB S E n c)).toNat ++ (headC S E n c ++ List.replicate (64 - (headC S E n c ++ headC S E n c).length) 0), ?_⟩
  conv => lhs; unfold headL padL headC
  conv => lhs; arg 1; arg 1; unfold headB partsL headPs
  simp only [List.map_cons, List.map_nil, List.flatten_cons, List.flatten_nil, List.append_nil, List.append_assoc]
  rfl
theorem take_fix (k n : Nat) (r : List Nat) : (fixE k n ++ r).take k = fixE k n := by rw [List.take_append_of_le_length (by rw [fixE_length]; omega), List.take_of_length_le (by rw [fixE_length]; omega)]
theorem drop_fix (k n : Nat) (r : List Nat) : (fixE k n ++ r).drop k = r := by rw [List.drop_append_of_le_length (by rw [fixE_length]; omega), List.drop_of_length_le (by rw [fixE_length]; omega), List.nil_append]
/-- A head's bytes have the head. -/
theorem head_parts (S E n c : Nat) (hS' : S < 2 ^ 64) (hE' : E < 2 ^ 64) (hn : n < 2 ^ 32) (hc : c < 2 ^ 32) : hS (headL S E n c) = S ∧ hE (headL S E n c) = E ∧ hN (headL S E n c) = n ∧ hC (headL S E n c) = c := by
  obtain ⟨R, h⟩ := headL_form S E n c
  rw [h]
  refine ⟨?_, ?_, ?_, ?_⟩
  · unfold hS
    rw [take_fix, foldN_fix _ _ (by omega)]
  · unfold hE
    rw [drop_fix, take_fix, foldN_fix _ _ (by omega)]
  · unfold hN
    rw [show 16 = 8 + 8 by rfl, ← List.drop_drop, drop_fix, drop_fix, take_fix, foldN_fix _ _ (by omega)]
  · unfold hC
    rw [show 20 = 8 + (8 + 4) by rfl, ← List.drop_drop, ← List.drop_drop, drop_fix, drop_fix, drop_fix, take_fix, foldN_fix _ _ (by omega)]
theorem headL_copy (S E n c : Nat) : (headL S E n c).take 28 = headC S E n c ∧ ((headL S E n c).drop 28).take 28 = headC S E n c := by
  have := headC_length S E n c
  simp only [headL, padL, List.append_assoc]
  constructor
  · rw [List.take_append_of_le_length (by omega), List.take_of_length_le (by omega)]
  · rw [List.drop_append_of_le_length (by omega), List.drop_of_length_le (by omega), List.nil_append, List.take_append_of_le_length (by omega), List.take_of_length_le (by omega)]
theorem headL_of {a b c d e f g h : Nat} (x : headC a b c d = headC e f g h) : headL a b c d = headL e f g h := by
  unfold headL
  rw [x]
/-- The first bytes of one head, so many, and the others of another one: if they are a head's, they are the one's or the other's. -/
theorem torn_head {S E n c S' E' n' c' M : Nat} (hM : M ≤ 64) (h : isHead ((headL S E n c).take M ++ (headL S' E' n' c').drop M) = true) :
    (headL S E n c).take M ++ (headL S' E' n' c').drop M = headL S E n c ∨ (headL S E n c).take M ++ (headL S' E' n' c').drop M = headL S' E' n' c' := by
  have l1 := headL_length S E n c
  have l2 := headL_length S' E' n' c'
  obtain ⟨c1, c2⟩ := headL_copy S E n c
  obtain ⟨d1, d2⟩ := headL_copy S' E' n' c'
  generalize hT : (headL S E n c).take M ++ (headL S' E' n' c').drop M = T at *
  simp only [isHead, Bool.and_eq_true, decide_eq_true_eq] at h
  obtain ⟨⟨-, -⟩, h3⟩ := h
  obtain ⟨e1, e2⟩ := headL_copy (hS T) (hE T) (hN T) (hC T)
  rw [h3] at e1 e2
  rcases Nat.le_total M 28 with hm | hm
  · right
    rw [← h3]
    refine headL_of ?_
    rw [← e2, ← d2, ← hT, List.drop_append, List.drop_of_length_le (by rw [List.length_take]; omega), List.nil_append, List.drop_drop, List.length_take]
    congr 2
    omega
  · left
    rw [← h3]
    refine headL_of ?_
    rw [← e1, ← c1, ← hT, List.take_append_of_le_length (by rw [List.length_take]; omega), List.take_take]
    congr 1
    omega
theorem some_if (M c : Nat) (a b : Addr) : (if 64 = M then some a else some b) = none → c = 0 := by
  split <;> (intro h; cases h)
/-- A block of another make is no row of bytes: it is as it was behind an append. -/
theorem keepA {w0 w w' : World} {l : List Nat} {v : Value} {A : Nat} {cs : Array Value} (hr : RowB w0 l v w) (hg : w.heap[A]? = some (.cells cs 38 (0, 0))) (hgr : w.grownBy w' v.ownBlock) : w'.heap[A]? = some (.cells cs 38 (0, 0)) := by
  refine (hgr.block A (Array.getElem?_eq_some_iff.1 hg).1 ?_).trans hg
  rcases hr.1.2 with ⟨rfl, -⟩ | ⟨g, cap, cur, rfl, -, h3, -⟩
  · intro e; cases e
  · intro e
    simp only [Value.ownBlock, Option.some.injEq] at e
    subst e
    rw [hg] at h3
    cases h3

set_option maxRecDepth 100000 in
set_option maxHeartbeats 8000000 in
theorem torn_walk (S E n c S' E' n' c' M : Nat) (w : World) (hS1 : S < 2 ^ 64) (hE1 : E < 2 ^ 64) (hS2 : S' < 2 ^ 64) (hE2 : E' < 2 ^ 64) (h1 : headOk n c = true) (h2 : headOk n' c' = true) (hM : M ≤ 64) :
    Calls Try.prog 8 #[headV S E n c, headV S' E' n' c', .int .i64 M] w fun r w' => r = .returned (.bool true) ∧ Below w.heap.size w w' := by
  have NM := Lib.hid num_any
  have WKS := Lib.hid works_any
  have C1 := Lib.hid (encodeHead_ok S E n c hS1 hE1 h1)
  have C2 := Lib.hid (encodeHead_ok S' E' n' c' hS2 hE2 h2)
  obtain ⟨T, hT⟩ : ∃ T, T = (headL S E n c).take M ++ (headL S' E' n' c').drop M := ⟨_, rfl⟩
  have l1 := headL_length S E n c
  have l2 := headL_length S' E' n' c'
  have b1 := headL_byte S E n c
  have b2 := headL_byte S' E' n' c'
  have hTl : T.length = 64 := by rw [hT, List.length_append, List.length_take, List.length_drop]; omega
  have hTb : ∀ b ∈ T, b < 256 := fun b hb => by
    rw [hT] at hb
    rcases List.mem_append.1 hb with h | h
    · exact b1 b (List.mem_of_mem_take h)
    · exact b2 b (List.mem_of_mem_drop h)
  -- what it decodes to
  obtain ⟨x1, x2, x3, x4, X, hdv, hdx, hres⟩ : ∃ (x1 x2 x3 x4 X : Int), decV T = .agg #[.int .u64 x1, .int .u64 x2, .int .i64 x3, .int .i64 x4] ∧ decX T = X ∧ (X = 150 ∨ X = 0 ∧ ((x1 = S ∧ x2 = E ∧ x3 = n ∧ x4 = c) ∨ (x1 = S' ∧ x2 = E' ∧ x3 = n' ∧ x4 = c'))) := by
    have q1 := head_bounds h1
    have q2 := head_bounds h2
    cases hh : isHead T with
    | false => exact ⟨0, 0, 0, 0, 150, by simp [decV, hh, headV], by simp [decX, hh], .inl rfl⟩
    | true =>
      refine ⟨hS T, hE T, hN T, hC T, 0, by simp [decV, hh, headV], by simp [decX, hh], .inr ⟨rfl, ?_⟩⟩
      have ht := torn_head (S := S) (E := E) (n := n) (c := c) (S' := S') (E' := E') (n' := n') (c' := c') hM (by rw [← hT]; exact hh)
      rw [← hT] at ht
      rcases ht with ht | ht
      · left
        rw [ht]
        obtain ⟨a1, a2, a3, a4⟩ := head_parts S E n c hS1 hE1 (by omega) (by omega)
        rw [a1, a2, a3, a4]
        exact ⟨rfl, rfl, rfl, rfl⟩
      · right
        rw [ht]
        obtain ⟨a1, a2, a3, a4⟩ := head_parts S' E' n' c' hS2 hE2 (by omega) (by omega)
        rw [a1, a2, a3, a4]
        exact ⟨rfl, rfl, rfl, rfl⟩
  have CD := Lib.hid fun p cp w h3 h4 h5 => decodeHead_any T p cp w h3 h4 hTb h5
  rw [hdv, hdx] at CD
  obtain ⟨xa, hxa⟩ : ∃ xa, xa = (headL S E n c).take M := ⟨_, rfl⟩
  obtain ⟨yb, hyb⟩ : ∃ yb, yb = (headL S' E' n' c').drop M := ⟨_, rfl⟩
  have hxl : xa.length = M := by rw [hxa, List.length_take]; omega
  have hyl : yb.length = 64 - M := by rw [hyb, List.length_drop]; omega
  rw [← hxa, ← hyb] at hT
  have XA := Lib.hid fun (w : World) (g : Nat) (h : BytesAt w (some ⟨g, 0, none⟩) (headL S E n c)) => (show BytesAt w (some ⟨g, 0, none⟩) xa by rw [hxa]; exact bytesAt_take h M)
  have YB := Lib.hid fun (w : World) (g : Nat) (h : BytesAt w (some ⟨g, 0, none⟩) (headL S' E' n' c')) => (show BytesAt w (if 64 = M then some ⟨g, 0, none⟩ else some ⟨g, M, none⟩) yb by
    split
    · intro i hi; omega
    · rw [hyb]; exact bytesAt_sub h M)
  generalize headL S E n c = xs at *
  generalize headL S' E' n' c' = ys at *
  have HT := Lib.hid hT
  have HTL := Lib.hid hTl
  have HXL := Lib.hid hxl
  have HYL := Lib.hid hyl
  have HSUM : Hid (xa.length + yb.length ≤ 100000) := Lib.hid (by omega)
  have HX0 : Hid (([] : List Nat).length + xa.length ≤ 100000) := Lib.hid (by simp; omega)
  have hw0 : IntKind.i64.wrap 0 = 0 := wrap_small (by omega) (by omega)
  have HRES := Lib.hid hres
  unfold headV
  clear hdv hdx hres hxa hyb hT hTl hTb hxl hyl l1 l2 b1 b2 h1 h2 hS1 hE1 hS2 hE2
  go_enter Try.func8, Try.ntmps8
  go_upto_region 5 with (first
    | (go_at_call 19; (with_reducible refine (C1.out _).mono ?_); rintro e wa ⟨g1, rfl, hby, hg, hb⟩; have B1 := Lib.hid (Below.trans (((Below.refl w.heap.size w).alloc (Nat.le_refl _) (.cells #[.int .u64 S, .int .u64 E, .int .i64 n, .int .i64 c] 38)).alloc (by simp) (.cells #[.int .u64 S', .int .u64 E', .int .i64 n', .int .i64 c'] 38)) (hb.mono (by simp; omega)))
       have c0 : wa.cell? ⟨w.heap.size, 0, none⟩ = some (.int .u64 S) := (hb.cell (by simp; omega)).trans (by go_cell)
       have c1 : wa.cell? ⟨w.heap.size, 1, none⟩ = some (.int .u64 E) := (hb.cell (by simp; omega)).trans (by go_cell)
       have c2 : wa.cell? ⟨w.heap.size, 2, none⟩ = some (.int .i64 n) := (hb.cell (by simp; omega)).trans (by go_cell)
       have c3 : wa.cell? ⟨w.heap.size, 3, none⟩ = some (.int .i64 c) := (hb.cell (by simp; omega)).trans (by go_cell)
       have d0 : wa.cell? ⟨w.heap.size + 1, 0, none⟩ = some (.int .u64 S') := (hb.cell (by simp)).trans (by go_cell)
       have d1 : wa.cell? ⟨w.heap.size + 1, 1, none⟩ = some (.int .u64 E') := (hb.cell (by simp)).trans (by go_cell)
       have d2 : wa.cell? ⟨w.heap.size + 1, 2, none⟩ = some (.int .i64 n') := (hb.cell (by simp)).trans (by go_cell)
       have d3 : wa.cell? ⟨w.heap.size + 1, 3, none⟩ = some (.int .i64 c') := (hb.cell (by simp)).trans (by go_cell)
       have HXA := Lib.hid (XA.out _ _ hby); clear hby hb hg)
    | (go_at_call 19; (with_reducible refine (C2.out _).mono ?_); rintro e we ⟨g2, rfl, hby, hg, hb⟩; have B2 := Lib.hid (kbT B1.out hb)
       have c0 := (hb.cell (lt_of_cell_some c0)).trans c0; have c1 := (hb.cell (lt_of_cell_some c1)).trans c1; have c2 := (hb.cell (lt_of_cell_some c2)).trans c2; have c3 := (hb.cell (lt_of_cell_some c3)).trans c3
       have d0 := (hb.cell (lt_of_cell_some d0)).trans d0; have d1 := (hb.cell (lt_of_cell_some d1)).trans d1; have d2 := (hb.cell (lt_of_cell_some d2)).trans d2; have d3 := (hb.cell (lt_of_cell_some d3)).trans d3
       have HXA := Lib.hid (bytesAt_below HXA.out hb); have HYB := Lib.hid (YB.out _ _ hby); clear hby hb hg)
    | (go_at_call 13; refine (NM.out _ _).mono ?_; rintro e wn ⟨rfl, rfl⟩))
  have HC : Hid ((we.cell? ⟨w.heap.size, 0, none⟩ = some (.int .u64 S) ∧ we.cell? ⟨w.heap.size, 1, none⟩ = some (.int .u64 E) ∧ we.cell? ⟨w.heap.size, 2, none⟩ = some (.int .i64 n) ∧ we.cell? ⟨w.heap.size, 3, none⟩ = some (.int .i64 c)) ∧ we.cell? ⟨w.heap.size + 1, 0, none⟩ = some (.int .u64 S') ∧ we.cell? ⟨w.heap.size + 1, 1, none⟩ = some (.int .u64 E') ∧ we.cell? ⟨w.heap.size + 1, 2, none⟩ = some (.int .i64 n') ∧ we.cell? ⟨w.heap.size + 1, 3, none⟩ = some (.int .i64 c')) := Lib.hid ⟨⟨c0, c1, c2, c3⟩, d0, d1, d2, d3⟩
  clear c0 c1 c2 c3 d0 d1 d2 d3
  go_cut [11, 12] from 47 to 59 (fun s11 s12 wx => ∃ A, s11 = .pointer (some ⟨A, 0, none⟩) ∧ s12 = .int .i64 X ∧ (wx.cell? ⟨A, 0, none⟩ = some (.int .u64 x1) ∧ wx.cell? ⟨A, 1, none⟩ = some (.int .u64 x2) ∧ wx.cell? ⟨A, 2, none⟩ = some (.int .i64 x3) ∧ wx.cell? ⟨A, 3, none⟩ = some (.int .i64 x4)) ∧ Hid (Below we.heap.size we wx))
  case first =>
    obtain ⟨q2, hq2⟩ : ∃ q2 : Option Addr, (if 64 = M then some (⟨g2, 0, none⟩ : Addr) else some ⟨g2, M, none⟩) = q2 := ⟨_, rfl⟩
    have HQ := Lib.hid hq2
    have hqn : q2 = none → 64 - M = 0 := by rw [← hq2]; exact some_if _ _ _ _
    rw [hq2] at HYB
    clear hq2
    refine wp_region_held_drew (S := fun w' => Below we.heap.size we w') (by kernel_rfl) ((Below.refl _ _).drew) (fun H0 => ?_)
    obtain ⟨wd, hwd⟩ : ∃ wd, we.drew = wd := ⟨_, rfl⟩
    rw [hwd] at H0 ⊢
    clear hwd
    refine wpAnyH_take (i := 1) (oi := { dst := some 49, op := Go.Op.move (Go.Operand.tmp 7), type := 39, pos := "law.go:115", after := #[], guard := none }) (v := ?_) rfl (by kernel_rfl) (by kernel_rfl) (by kernel_rfl) (fun _ _ _ h => h) (Or.inl ⟨by rfl, ?_⟩) H0 ?_
    rotate_left
    focus (intro w' hSw; (try dsimp only at hSw); go_simp; (try with_reducible rfl))
    simp only [Act.put, List.setIfInBounds_toArray, List.set_cons_zero, List.set_cons_succ]
    refine wpAnyH_take (i := 2) (oi := { dst := some 50, op := Go.Op.move (Go.Operand.tmp 2), type := 3, pos := "law.go:115", after := #[], guard := none }) (v := ?_) rfl (by kernel_rfl) (by kernel_rfl) (by kernel_rfl) (fun _ _ _ h => h) (Or.inl ⟨by rfl, ?_⟩) H0 ?_
    rotate_left
    focus (intro w' hSw; (try dsimp only at hSw); go_simp; (try with_reducible rfl))
    simp only [Act.put, List.setIfInBounds_toArray, List.set_cons_zero, List.set_cons_succ]
    refine wpAnyH_take (i := 3) (oi := { dst := some 51, op := Go.Op.slice 39 (Go.Operand.tmp 49) none (some (Go.Operand.tmp 50)) none, type := 39, pos := "law.go:115", after := #[{ on := 1, ground := Go.Ground.data }, { on := 2, ground := Go.Ground.data }], guard := none }) (v := ?_) rfl (by kernel_rfl) (by kernel_rfl) (by kernel_rfl) (fun _ _ _ h => h) (Or.inl ⟨by rfl, ?_⟩) H0 ?_
    rotate_left
    focus (intro w' hSw; (try dsimp only at hSw); go_simp; (try with_reducible rfl))
    simp only [Act.put, List.setIfInBounds_toArray, List.set_cons_zero, List.set_cons_succ]
    refine wpAnyH_take (i := 5) (oi := { dst := some 53, op := Go.Op.move (Go.Operand.tmp 9), type := 39, pos := "law.go:115", after := #[], guard := none }) (v := ?_) rfl (by kernel_rfl) (by kernel_rfl) (by kernel_rfl) (fun _ _ _ h => h) (Or.inl ⟨by rfl, ?_⟩) H0 ?_
    rotate_left
    focus (intro w' hSw; (try dsimp only at hSw); go_simp; (try with_reducible rfl))
    simp only [Act.put, List.setIfInBounds_toArray, List.set_cons_zero, List.set_cons_succ]
    refine wpAnyH_take (i := 6) (oi := { dst := some 54, op := Go.Op.move (Go.Operand.tmp 2), type := 3, pos := "law.go:115", after := #[], guard := none }) (v := ?_) rfl (by kernel_rfl) (by kernel_rfl) (by kernel_rfl) (fun _ _ _ h => h) (Or.inl ⟨by rfl, ?_⟩) H0 ?_
    rotate_left
    focus (intro w' hSw; (try dsimp only at hSw); go_simp; (try with_reducible rfl))
    simp only [Act.put, List.setIfInBounds_toArray, List.set_cons_zero, List.set_cons_succ]
    refine wpAnyH_take (i := 7) (oi := { dst := some 55, op := Go.Op.slice 39 (Go.Operand.tmp 53) (some (Go.Operand.tmp 54)) none none, type := 39, pos := "law.go:115", after := #[{ on := 5, ground := Go.Ground.data }, { on := 6, ground := Go.Ground.data }], guard := none }) (v := ?_) rfl (by kernel_rfl) (by kernel_rfl) (by kernel_rfl) (fun _ _ _ h => h) (Or.inl ⟨by rfl, ?_⟩) H0 ?_
    rotate_left
    focus (intro w' hSw; (try dsimp only at hSw); go_simp; (try with_reducible rfl))
    simp only [Act.put, List.setIfInBounds_toArray, List.set_cons_zero, List.set_cons_succ]
    rw [HQ.out]
    refine wpAnyH_ready (rs := [0, 13]) (by kernel_rfl) (by simp) ?_
    refine (AllReadyH.cons (o := { dst := some 48, op := Go.Op.buildSlice 39 0 #[], type := 39, pos := "law.go:115", after := #[], guard := none }) rfl (fun K hK => ?_) (AllReadyH.cons (o := { dst := some 11, op := Go.Op.alloc 38, type := 0, pos := "law.go:115", after := #[], guard := none }) rfl (fun K hK => ?_) AllReadyH.nil))
    · skip
      go_simp
      have hr3 := rowB_empty wd
      obtain ⟨wm1, hwm1⟩ : ∃ wz, wd.alloc (.cells #[] 5) = wz := ⟨_, rfl⟩
      rw [hwm1] at hr3 ⊢
      refine hK.out _ _ (kbT H0 hr3.2) (fun Hm2 => ?_)
      clear hwm1
      clear hK K
      try simp only [Act.put, List.setIfInBounds_toArray, List.set_cons_zero, List.set_cons_succ]
      refine wpAnyH_ready (rs := [4, 13]) (by kernel_rfl) (by simp) ?_
      refine (AllReadyH.cons (o := { dst := some 52, op := Go.Op.call { callee := Go.Callee.builtin Go.Builtin.append, args := #[Go.Operand.tmp 48, Go.Operand.tmp 51], argTypes := #[39, 39] }, type := 39, pos := "law.go:115", after := #[{ on := 0, ground := Go.Ground.data }, { on := 3, ground := Go.Ground.data }], guard := none }) rfl (fun K hK => ?_) (AllReadyH.cons (o := { dst := some 11, op := Go.Op.alloc 38, type := 0, pos := "law.go:115", after := #[], guard := none }) rfl (fun K hK => ?_) AllReadyH.nil))
      · skip
        refine step_append_bytes rfl (.tmp 48) (.tmp 51) rfl rfl hr3 HXL.out rfl (fun h => nomatch h) (bytesAt_below HXA.out Hm2) HX0.out ?_
        intro v8 wm4 hr6 hgr7
        rw [List.nil_append] at hr6
        refine hK.out _ _ (kbT H0 hr6.2) (fun Hm5 => ?_)
        clear hK K
        try simp only [Act.put, List.setIfInBounds_toArray, List.set_cons_zero, List.set_cons_succ]
        refine wpAnyH_ready (rs := [8, 13]) (by kernel_rfl) (by simp) ?_
        refine (AllReadyH.cons (o := { dst := some 56, op := Go.Op.call { callee := Go.Callee.builtin Go.Builtin.append, args := #[Go.Operand.tmp 52, Go.Operand.tmp 55], argTypes := #[39, 39] }, type := 39, pos := "law.go:115", after := #[{ on := 4, ground := Go.Ground.data }, { on := 7, ground := Go.Ground.data }, { on := 4, ground := Go.Ground.chain }], guard := none }) rfl (fun K hK => ?_) (AllReadyH.cons (o := { dst := some 11, op := Go.Op.alloc 38, type := 0, pos := "law.go:115", after := #[], guard := none }) rfl (fun K hK => ?_) AllReadyH.nil))
        · skip
          refine step_append_bytes rfl (.tmp 52) (.tmp 55) rfl rfl hr6 HYL.out rfl hqn (bytesAt_below HYB.out Hm5) HSUM.out ?_
          intro v13 wm9 hr11 hgr12
          rw [← HT.out] at hr11
          refine hK.out _ _ (kbT H0 hr11.2) (fun Hm10 => ?_)
          obtain ⟨p14, c15, rfl, hcp16, hcm17, hby18, -⟩ := hr11.at2
          clear hK K
          try simp only [Act.put, List.setIfInBounds_toArray, List.set_cons_zero, List.set_cons_succ]
          refine wpAnyH_ready (rs := [9, 13]) (by kernel_rfl) (by simp) ?_
          refine (AllReadyH.cons (o := { dst := some 57, op := Go.Op.call { callee := Go.Callee.value (Go.Operand.func 21), args := #[Go.Operand.tmp 56], argTypes := #[39] }, type := 44, pos := "law.go:115", after := #[{ on := 8, ground := Go.Ground.data }, { on := 8, ground := Go.Ground.chain }], guard := none }) rfl (fun K hK => ?_) (AllReadyH.cons (o := { dst := some 11, op := Go.Op.alloc 38, type := 0, pos := "law.go:115", after := #[], guard := none }) rfl (fun K hK => ?_) AllReadyH.nil))
          · skip
            go_simp
            (go_at_call 21; (refine (CD.out p14 c15 wm9 hcp16 (by unfold maxLen at hcm17; omega) (hr11.bytes)).mono ?_); rintro e wm19 ⟨rfl, hb21⟩)
            try go_wp2_with fail
            refine hK.out _ _ (kbT Hm10 hb21) (fun Hm20 => ?_)
            clear hK K
            try simp only [Act.put, List.setIfInBounds_toArray, List.set_cons_zero, List.set_cons_succ]
            refine wpAnyH_take (i := 10) (oi := { dst := some 47, op := Go.Op.move (Go.Operand.tmp 57), type := 44, pos := "law.go:115", after := #[{ on := 9, ground := Go.Ground.data }], guard := none }) (v := ?_) rfl (by kernel_rfl) (by kernel_rfl) (by kernel_rfl) (fun _ _ _ h => h) (Or.inl ⟨by rfl, ?_⟩) Hm20 ?_
            rotate_left
            focus (intro w' hSw; (try dsimp only at hSw); go_simp; (try with_reducible rfl))
            simp only [Act.put, List.setIfInBounds_toArray, List.set_cons_zero, List.set_cons_succ]
            refine wpAnyH_take (i := 11) (oi := { dst := some 58, op := Go.Op.extract (Go.Operand.tmp 47) 0, type := 38, pos := "law.go:115", after := #[{ on := 10, ground := Go.Ground.data }], guard := none }) (v := ?_) rfl (by kernel_rfl) (by kernel_rfl) (by kernel_rfl) (fun _ _ _ h => h) (Or.inl ⟨by rfl, ?_⟩) Hm20 ?_
            rotate_left
            focus (intro w' hSw; (try dsimp only at hSw); go_simp; (try with_reducible rfl))
            simp only [Act.put, List.setIfInBounds_toArray, List.set_cons_zero, List.set_cons_succ]
            refine wpAnyH_take (i := 12) (oi := { dst := some 59, op := Go.Op.extract (Go.Operand.tmp 47) 1, type := 24, pos := "law.go:115", after := #[{ on := 10, ground := Go.Ground.data }, { on := 14, ground := Go.Ground.gcOnly Go.Departure.lateStores }], guard := none }) (v := ?_) rfl (by kernel_rfl) (by kernel_rfl) (by kernel_rfl) (fun _ _ _ h => h) (Or.inl ⟨by rfl, ?_⟩) Hm20 ?_
            rotate_left
            focus (intro w' hSw; (try dsimp only at hSw); go_simp; (try with_reducible rfl))
            simp only [Act.put, List.setIfInBounds_toArray, List.set_cons_zero, List.set_cons_succ]
            refine wpAnyH_ready (rs := [13]) (by kernel_rfl) (by simp) ?_
            refine (AllReadyH.cons (o := { dst := some 11, op := Go.Op.alloc 38, type := 0, pos := "law.go:115", after := #[], guard := none }) rfl (fun K hK => ?_) AllReadyH.nil)
            · skip
              go_simp
              obtain ⟨wm22, hwm22⟩ : ∃ wz, wm19.alloc (.cells #[.int .u64 0, .int .u64 0, .int .i64 0, .int .i64 0] 38) = wz := ⟨_, rfl⟩
              have hg24 : wm22.heap[wm19.heap.size]? = some (.cells #[.int .u64 0, .int .u64 0, .int .i64 0, .int .i64 0] 38 (0, 0)) := by rw [← hwm22]; exact heap_alloc_last wm19 _
              have hb25 : Below wm19.heap.size wm19 wm22 := by rw [← hwm22]; exact (Below.refl _ _).alloc (Nat.le_refl _) _
              have hA26 : we.heap.size ≤ wm19.heap.size := Hm20.size
              rw [hwm22]
              refine hK.out _ _ (kbT Hm20 hb25) (fun Hm23 => ?_)
              clear hwm22
              clear hK K
              try simp only [Act.put, List.setIfInBounds_toArray, List.set_cons_zero, List.set_cons_succ]
              refine wpAnyH_ready (rs := [14]) (by kernel_rfl) (by simp) ?_
              refine (AllReadyH.cons (o := { dst := none, op := Go.Op.store 38 (Go.Operand.tmp 11) (Go.Operand.tmp 58), type := 0, pos := "law.go:115", after := #[{ on := 13, ground := Go.Ground.data }, { on := 11, ground := Go.Ground.data }, { on := 9, ground := Go.Ground.chain }, { on := 0, ground := Go.Ground.phase }, { on := 1, ground := Go.Ground.phase }, { on := 2, ground := Go.Ground.phase }, { on := 3, ground := Go.Ground.phase }, { on := 4, ground := Go.Ground.phase }, { on := 5, ground := Go.Ground.phase }, { on := 6, ground := Go.Ground.phase }, { on := 7, ground := Go.Ground.phase }, { on := 8, ground := Go.Ground.phase }, { on := 9, ground := Go.Ground.phase }, { on := 10, ground := Go.Ground.phase }, { on := 11, ground := Go.Ground.phase }, { on := 12, ground := Go.Ground.textOnly Go.Departure.lateStores }, { on := 13, ground := Go.Ground.phase }], guard := none }) rfl (fun K hK => ?_) AllReadyH.nil)
              · skip
                have k0 := row_cell (i := 0) hg24 rfl
                have f0 := row_frozen (i := 0) hg24
                have k1 := row_cell (i := 1) hg24 rfl
                have f1 := row_frozen (i := 1) hg24
                have k2 := row_cell (i := 2) hg24 rfl
                have f2 := row_frozen (i := 2) hg24
                have k3 := row_cell (i := 3) hg24 rfl
                have f3 := row_frozen (i := 3) hg24
                go_simp
                refine hK.out _ _ ((((Hm23.setCell hA26 _).setCell hA26 _).setCell hA26 _).setCell hA26 _) (fun Hm28 => ?_)
                clear hK K
                try simp only [Act.put, List.setIfInBounds_toArray, List.set_cons_zero, List.set_cons_succ]
                refine wpAnyH_take (i := 15) (oi := { dst := some 12, op := Go.Op.assign (Go.Operand.tmp 59), type := 24, pos := "law.go:115", after := #[{ on := 12, ground := Go.Ground.data }, { on := 14, ground := Go.Ground.chain }, { on := 0, ground := Go.Ground.phase }, { on := 1, ground := Go.Ground.phase }, { on := 2, ground := Go.Ground.phase }, { on := 3, ground := Go.Ground.phase }, { on := 4, ground := Go.Ground.phase }, { on := 5, ground := Go.Ground.phase }, { on := 6, ground := Go.Ground.phase }, { on := 7, ground := Go.Ground.phase }, { on := 8, ground := Go.Ground.phase }, { on := 9, ground := Go.Ground.phase }, { on := 10, ground := Go.Ground.phase }, { on := 11, ground := Go.Ground.phase }, { on := 12, ground := Go.Ground.phase }, { on := 13, ground := Go.Ground.phase }, { on := 14, ground := Go.Ground.phase }], guard := none }) (v := ?_) rfl (by kernel_rfl) (by kernel_rfl) (by kernel_rfl) (fun _ _ _ h => h) (Or.inl ⟨by rfl, ?_⟩) Hm28 ?_
                rotate_left
                focus (intro w' hSw; (try dsimp only at hSw); go_simp; (try with_reducible rfl))
                simp only [Act.put, List.setIfInBounds_toArray, List.set_cons_zero, List.set_cons_succ]
                refine wpAnyH_done (by kernel_rfl) ?_ _
                go_wp2_with fail
                go_meet
                exact ⟨_, rfl, rfl, ⟨by go_cell, by go_cell, by go_cell, by go_cell⟩, Lib.hid Hm28⟩
          · skip
            go_simp
            obtain ⟨wm29, hwm29⟩ : ∃ wz, wm9.alloc (.cells #[.int .u64 0, .int .u64 0, .int .i64 0, .int .i64 0] 38) = wz := ⟨_, rfl⟩
            have hg31 : wm29.heap[wm9.heap.size]? = some (.cells #[.int .u64 0, .int .u64 0, .int .i64 0, .int .i64 0] 38 (0, 0)) := by rw [← hwm29]; exact heap_alloc_last wm9 _
            have hb32 : Below wm9.heap.size wm9 wm29 := by rw [← hwm29]; exact (Below.refl _ _).alloc (Nat.le_refl _) _
            have hA33 : we.heap.size ≤ wm9.heap.size := Hm10.size
            rw [hwm29]
            have hr34 := hr11.later hb32
            refine hK.out _ _ (kbT Hm10 hb32) (fun Hm30 => ?_)
            clear hwm29
            clear hK K
            try simp only [Act.put, List.setIfInBounds_toArray, List.set_cons_zero, List.set_cons_succ]
            refine wpAnyH_ready (rs := [9]) (by kernel_rfl) (by simp) ?_
            refine (AllReadyH.cons (o := { dst := some 57, op := Go.Op.call { callee := Go.Callee.value (Go.Operand.func 21), args := #[Go.Operand.tmp 56], argTypes := #[39] }, type := 44, pos := "law.go:115", after := #[{ on := 8, ground := Go.Ground.data }, { on := 8, ground := Go.Ground.chain }], guard := none }) rfl (fun K hK => ?_) AllReadyH.nil)
            · skip
              go_simp
              (go_at_call 21; (refine (CD.out p14 c15 wm29 hcp16 (by unfold maxLen at hcm17; omega) (hr34.bytes)).mono ?_); rintro e wm35 ⟨rfl, hb37⟩)
              try go_wp2_with fail
              have hg38 := (hb37.block _ (Array.getElem?_eq_some_iff.1 hg31).1).trans hg31
              refine hK.out _ _ (kbT Hm30 hb37) (fun Hm36 => ?_)
              clear hK K
              try simp only [Act.put, List.setIfInBounds_toArray, List.set_cons_zero, List.set_cons_succ]
              refine wpAnyH_take (i := 10) (oi := { dst := some 47, op := Go.Op.move (Go.Operand.tmp 57), type := 44, pos := "law.go:115", after := #[{ on := 9, ground := Go.Ground.data }], guard := none }) (v := ?_) rfl (by kernel_rfl) (by kernel_rfl) (by kernel_rfl) (fun _ _ _ h => h) (Or.inl ⟨by rfl, ?_⟩) Hm36 ?_
              rotate_left
              focus (intro w' hSw; (try dsimp only at hSw); go_simp; (try with_reducible rfl))
              simp only [Act.put, List.setIfInBounds_toArray, List.set_cons_zero, List.set_cons_succ]
              refine wpAnyH_take (i := 11) (oi := { dst := some 58, op := Go.Op.extract (Go.Operand.tmp 47) 0, type := 38, pos := "law.go:115", after := #[{ on := 10, ground := Go.Ground.data }], guard := none }) (v := ?_) rfl (by kernel_rfl) (by kernel_rfl) (by kernel_rfl) (fun _ _ _ h => h) (Or.inl ⟨by rfl, ?_⟩) Hm36 ?_
              rotate_left
              focus (intro w' hSw; (try dsimp only at hSw); go_simp; (try with_reducible rfl))
              simp only [Act.put, List.setIfInBounds_toArray, List.set_cons_zero, List.set_cons_succ]
              refine wpAnyH_take (i := 12) (oi := { dst := some 59, op := Go.Op.extract (Go.Operand.tmp 47) 1, type := 24, pos := "law.go:115", after := #[{ on := 10, ground := Go.Ground.data }, { on := 14, ground := Go.Ground.gcOnly Go.Departure.lateStores }], guard := none }) (v := ?_) rfl (by kernel_rfl) (by kernel_rfl) (by kernel_rfl) (fun _ _ _ h => h) (Or.inl ⟨by rfl, ?_⟩) Hm36 ?_
              rotate_left
              focus (intro w' hSw; (try dsimp only at hSw); go_simp; (try with_reducible rfl))
              simp only [Act.put, List.setIfInBounds_toArray, List.set_cons_zero, List.set_cons_succ]
              refine wpAnyH_ready (rs := [14]) (by kernel_rfl) (by simp) ?_
              refine (AllReadyH.cons (o := { dst := none, op := Go.Op.store 38 (Go.Operand.tmp 11) (Go.Operand.tmp 58), type := 0, pos := "law.go:115", after := #[{ on := 13, ground := Go.Ground.data }, { on := 11, ground := Go.Ground.data }, { on := 9, ground := Go.Ground.chain }, { on := 0, ground := Go.Ground.phase }, { on := 1, ground := Go.Ground.phase }, { on := 2, ground := Go.Ground.phase }, { on := 3, ground := Go.Ground.phase }, { on := 4, ground := Go.Ground.phase }, { on := 5, ground := Go.Ground.phase }, { on := 6, ground := Go.Ground.phase }, { on := 7, ground := Go.Ground.phase }, { on := 8, ground := Go.Ground.phase }, { on := 9, ground := Go.Ground.phase }, { on := 10, ground := Go.Ground.phase }, { on := 11, ground := Go.Ground.phase }, { on := 12, ground := Go.Ground.textOnly Go.Departure.lateStores }, { on := 13, ground := Go.Ground.phase }], guard := none }) rfl (fun K hK => ?_) AllReadyH.nil)
              · skip
                have k0 := row_cell (i := 0) hg38 rfl
                have f0 := row_frozen (i := 0) hg38
                have k1 := row_cell (i := 1) hg38 rfl
                have f1 := row_frozen (i := 1) hg38
                have k2 := row_cell (i := 2) hg38 rfl
                have f2 := row_frozen (i := 2) hg38
                have k3 := row_cell (i := 3) hg38 rfl
                have f3 := row_frozen (i := 3) hg38
                go_simp
                refine hK.out _ _ ((((Hm36.setCell hA33 _).setCell hA33 _).setCell hA33 _).setCell hA33 _) (fun Hm40 => ?_)
                clear hK K
                try simp only [Act.put, List.setIfInBounds_toArray, List.set_cons_zero, List.set_cons_succ]
                refine wpAnyH_take (i := 15) (oi := { dst := some 12, op := Go.Op.assign (Go.Operand.tmp 59), type := 24, pos := "law.go:115", after := #[{ on := 12, ground := Go.Ground.data }, { on := 14, ground := Go.Ground.chain }, { on := 0, ground := Go.Ground.phase }, { on := 1, ground := Go.Ground.phase }, { on := 2, ground := Go.Ground.phase }, { on := 3, ground := Go.Ground.phase }, { on := 4, ground := Go.Ground.phase }, { on := 5, ground := Go.Ground.phase }, { on := 6, ground := Go.Ground.phase }, { on := 7, ground := Go.Ground.phase }, { on := 8, ground := Go.Ground.phase }, { on := 9, ground := Go.Ground.phase }, { on := 10, ground := Go.Ground.phase }, { on := 11, ground := Go.Ground.phase }, { on := 12, ground := Go.Ground.phase }, { on := 13, ground := Go.Ground.phase }, { on := 14, ground := Go.Ground.phase }], guard := none }) (v := ?_) rfl (by kernel_rfl) (by kernel_rfl) (by kernel_rfl) (fun _ _ _ h => h) (Or.inl ⟨by rfl, ?_⟩) Hm40 ?_
                rotate_left
                focus (intro w' hSw; (try dsimp only at hSw); go_simp; (try with_reducible rfl))
                simp only [Act.put, List.setIfInBounds_toArray, List.set_cons_zero, List.set_cons_succ]
                refine wpAnyH_done (by kernel_rfl) ?_ _
                go_wp2_with fail
                go_meet
                exact ⟨_, rfl, rfl, ⟨by go_cell, by go_cell, by go_cell, by go_cell⟩, Lib.hid Hm40⟩
        · skip
          go_simp
          obtain ⟨wm41, hwm41⟩ : ∃ wz, wm4.alloc (.cells #[.int .u64 0, .int .u64 0, .int .i64 0, .int .i64 0] 38) = wz := ⟨_, rfl⟩
          have hg43 : wm41.heap[wm4.heap.size]? = some (.cells #[.int .u64 0, .int .u64 0, .int .i64 0, .int .i64 0] 38 (0, 0)) := by rw [← hwm41]; exact heap_alloc_last wm4 _
          have hb44 : Below wm4.heap.size wm4 wm41 := by rw [← hwm41]; exact (Below.refl _ _).alloc (Nat.le_refl _) _
          have hA45 : we.heap.size ≤ wm4.heap.size := Hm5.size
          rw [hwm41]
          have hr46 := hr6.later hb44
          refine hK.out _ _ (kbT Hm5 hb44) (fun Hm42 => ?_)
          clear hwm41
          clear hK K
          try simp only [Act.put, List.setIfInBounds_toArray, List.set_cons_zero, List.set_cons_succ]
          refine wpAnyH_ready (rs := [8]) (by kernel_rfl) (by simp) ?_
          refine (AllReadyH.cons (o := { dst := some 56, op := Go.Op.call { callee := Go.Callee.builtin Go.Builtin.append, args := #[Go.Operand.tmp 52, Go.Operand.tmp 55], argTypes := #[39, 39] }, type := 39, pos := "law.go:115", after := #[{ on := 4, ground := Go.Ground.data }, { on := 7, ground := Go.Ground.data }, { on := 4, ground := Go.Ground.chain }], guard := none }) rfl (fun K hK => ?_) AllReadyH.nil)
          · skip
            refine step_append_bytes rfl (.tmp 52) (.tmp 55) rfl rfl hr46 HYL.out rfl hqn (bytesAt_below HYB.out Hm42) HSUM.out ?_
            intro v51 wm47 hr49 hgr50
            have hg52 := keepA hr46 hg43 hgr50
            rw [← HT.out] at hr49
            refine hK.out _ _ (kbT H0 hr49.2) (fun Hm48 => ?_)
            obtain ⟨p53, c54, rfl, hcp55, hcm56, hby57, -⟩ := hr49.at2
            clear hK K
            try simp only [Act.put, List.setIfInBounds_toArray, List.set_cons_zero, List.set_cons_succ]
            refine wpAnyH_ready (rs := [9]) (by kernel_rfl) (by simp) ?_
            refine (AllReadyH.cons (o := { dst := some 57, op := Go.Op.call { callee := Go.Callee.value (Go.Operand.func 21), args := #[Go.Operand.tmp 56], argTypes := #[39] }, type := 44, pos := "law.go:115", after := #[{ on := 8, ground := Go.Ground.data }, { on := 8, ground := Go.Ground.chain }], guard := none }) rfl (fun K hK => ?_) AllReadyH.nil)
            · skip
              go_simp
              (go_at_call 21; (refine (CD.out p53 c54 wm47 hcp55 (by unfold maxLen at hcm56; omega) (hr49.bytes)).mono ?_); rintro e wm58 ⟨rfl, hb60⟩)
              try go_wp2_with fail
              have hg61 := (hb60.block _ (Array.getElem?_eq_some_iff.1 hg52).1).trans hg52
              refine hK.out _ _ (kbT Hm48 hb60) (fun Hm59 => ?_)
              clear hK K
              try simp only [Act.put, List.setIfInBounds_toArray, List.set_cons_zero, List.set_cons_succ]
              refine wpAnyH_take (i := 10) (oi := { dst := some 47, op := Go.Op.move (Go.Operand.tmp 57), type := 44, pos := "law.go:115", after := #[{ on := 9, ground := Go.Ground.data }], guard := none }) (v := ?_) rfl (by kernel_rfl) (by kernel_rfl) (by kernel_rfl) (fun _ _ _ h => h) (Or.inl ⟨by rfl, ?_⟩) Hm59 ?_
              rotate_left
              focus (intro w' hSw; (try dsimp only at hSw); go_simp; (try with_reducible rfl))
              simp only [Act.put, List.setIfInBounds_toArray, List.set_cons_zero, List.set_cons_succ]
              refine wpAnyH_take (i := 11) (oi := { dst := some 58, op := Go.Op.extract (Go.Operand.tmp 47) 0, type := 38, pos := "law.go:115", after := #[{ on := 10, ground := Go.Ground.data }], guard := none }) (v := ?_) rfl (by kernel_rfl) (by kernel_rfl) (by kernel_rfl) (fun _ _ _ h => h) (Or.inl ⟨by rfl, ?_⟩) Hm59 ?_
              rotate_left
              focus (intro w' hSw; (try dsimp only at hSw); go_simp; (try with_reducible rfl))
              simp only [Act.put, List.setIfInBounds_toArray, List.set_cons_zero, List.set_cons_succ]
              refine wpAnyH_take (i := 12) (oi := { dst := some 59, op := Go.Op.extract (Go.Operand.tmp 47) 1, type := 24, pos := "law.go:115", after := #[{ on := 10, ground := Go.Ground.data }, { on := 14, ground := Go.Ground.gcOnly Go.Departure.lateStores }], guard := none }) (v := ?_) rfl (by kernel_rfl) (by kernel_rfl) (by kernel_rfl) (fun _ _ _ h => h) (Or.inl ⟨by rfl, ?_⟩) Hm59 ?_
              rotate_left
              focus (intro w' hSw; (try dsimp only at hSw); go_simp; (try with_reducible rfl))
              simp only [Act.put, List.setIfInBounds_toArray, List.set_cons_zero, List.set_cons_succ]
              refine wpAnyH_ready (rs := [14]) (by kernel_rfl) (by simp) ?_
              refine (AllReadyH.cons (o := { dst := none, op := Go.Op.store 38 (Go.Operand.tmp 11) (Go.Operand.tmp 58), type := 0, pos := "law.go:115", after := #[{ on := 13, ground := Go.Ground.data }, { on := 11, ground := Go.Ground.data }, { on := 9, ground := Go.Ground.chain }, { on := 0, ground := Go.Ground.phase }, { on := 1, ground := Go.Ground.phase }, { on := 2, ground := Go.Ground.phase }, { on := 3, ground := Go.Ground.phase }, { on := 4, ground := Go.Ground.phase }, { on := 5, ground := Go.Ground.phase }, { on := 6, ground := Go.Ground.phase }, { on := 7, ground := Go.Ground.phase }, { on := 8, ground := Go.Ground.phase }, { on := 9, ground := Go.Ground.phase }, { on := 10, ground := Go.Ground.phase }, { on := 11, ground := Go.Ground.phase }, { on := 12, ground := Go.Ground.textOnly Go.Departure.lateStores }, { on := 13, ground := Go.Ground.phase }], guard := none }) rfl (fun K hK => ?_) AllReadyH.nil)
              · skip
                have k0 := row_cell (i := 0) hg61 rfl
                have f0 := row_frozen (i := 0) hg61
                have k1 := row_cell (i := 1) hg61 rfl
                have f1 := row_frozen (i := 1) hg61
                have k2 := row_cell (i := 2) hg61 rfl
                have f2 := row_frozen (i := 2) hg61
                have k3 := row_cell (i := 3) hg61 rfl
                have f3 := row_frozen (i := 3) hg61
                go_simp
                refine hK.out _ _ ((((Hm59.setCell hA45 _).setCell hA45 _).setCell hA45 _).setCell hA45 _) (fun Hm63 => ?_)
                clear hK K
                try simp only [Act.put, List.setIfInBounds_toArray, List.set_cons_zero, List.set_cons_succ]
                refine wpAnyH_take (i := 15) (oi := { dst := some 12, op := Go.Op.assign (Go.Operand.tmp 59), type := 24, pos := "law.go:115", after := #[{ on := 12, ground := Go.Ground.data }, { on := 14, ground := Go.Ground.chain }, { on := 0, ground := Go.Ground.phase }, { on := 1, ground := Go.Ground.phase }, { on := 2, ground := Go.Ground.phase }, { on := 3, ground := Go.Ground.phase }, { on := 4, ground := Go.Ground.phase }, { on := 5, ground := Go.Ground.phase }, { on := 6, ground := Go.Ground.phase }, { on := 7, ground := Go.Ground.phase }, { on := 8, ground := Go.Ground.phase }, { on := 9, ground := Go.Ground.phase }, { on := 10, ground := Go.Ground.phase }, { on := 11, ground := Go.Ground.phase }, { on := 12, ground := Go.Ground.phase }, { on := 13, ground := Go.Ground.phase }, { on := 14, ground := Go.Ground.phase }], guard := none }) (v := ?_) rfl (by kernel_rfl) (by kernel_rfl) (by kernel_rfl) (fun _ _ _ h => h) (Or.inl ⟨by rfl, ?_⟩) Hm63 ?_
                rotate_left
                focus (intro w' hSw; (try dsimp only at hSw); go_simp; (try with_reducible rfl))
                simp only [Act.put, List.setIfInBounds_toArray, List.set_cons_zero, List.set_cons_succ]
                refine wpAnyH_done (by kernel_rfl) ?_ _
                go_wp2_with fail
                go_meet
                exact ⟨_, rfl, rfl, ⟨by go_cell, by go_cell, by go_cell, by go_cell⟩, Lib.hid Hm63⟩
      · skip
        go_simp
        obtain ⟨wm64, hwm64⟩ : ∃ wz, wm1.alloc (.cells #[.int .u64 0, .int .u64 0, .int .i64 0, .int .i64 0] 38) = wz := ⟨_, rfl⟩
        have hg66 : wm64.heap[wm1.heap.size]? = some (.cells #[.int .u64 0, .int .u64 0, .int .i64 0, .int .i64 0] 38 (0, 0)) := by rw [← hwm64]; exact heap_alloc_last wm1 _
        have hb67 : Below wm1.heap.size wm1 wm64 := by rw [← hwm64]; exact (Below.refl _ _).alloc (Nat.le_refl _) _
        have hA68 : we.heap.size ≤ wm1.heap.size := Hm2.size
        rw [hwm64]
        have hr69 := hr3.later hb67
        refine hK.out _ _ (kbT Hm2 hb67) (fun Hm65 => ?_)
        clear hwm64
        clear hK K
        try simp only [Act.put, List.setIfInBounds_toArray, List.set_cons_zero, List.set_cons_succ]
        refine wpAnyH_ready (rs := [4]) (by kernel_rfl) (by simp) ?_
        refine (AllReadyH.cons (o := { dst := some 52, op := Go.Op.call { callee := Go.Callee.builtin Go.Builtin.append, args := #[Go.Operand.tmp 48, Go.Operand.tmp 51], argTypes := #[39, 39] }, type := 39, pos := "law.go:115", after := #[{ on := 0, ground := Go.Ground.data }, { on := 3, ground := Go.Ground.data }], guard := none }) rfl (fun K hK => ?_) AllReadyH.nil)
        · skip
          refine step_append_bytes rfl (.tmp 48) (.tmp 51) rfl rfl hr69 HXL.out rfl (fun h => nomatch h) (bytesAt_below HXA.out Hm65) HX0.out ?_
          intro v74 wm70 hr72 hgr73
          have hg75 := keepA hr69 hg66 hgr73
          rw [List.nil_append] at hr72
          refine hK.out _ _ (kbT H0 hr72.2) (fun Hm71 => ?_)
          clear hK K
          try simp only [Act.put, List.setIfInBounds_toArray, List.set_cons_zero, List.set_cons_succ]
          refine wpAnyH_ready (rs := [8]) (by kernel_rfl) (by simp) ?_
          refine (AllReadyH.cons (o := { dst := some 56, op := Go.Op.call { callee := Go.Callee.builtin Go.Builtin.append, args := #[Go.Operand.tmp 52, Go.Operand.tmp 55], argTypes := #[39, 39] }, type := 39, pos := "law.go:115", after := #[{ on := 4, ground := Go.Ground.data }, { on := 7, ground := Go.Ground.data }, { on := 4, ground := Go.Ground.chain }], guard := none }) rfl (fun K hK => ?_) AllReadyH.nil)
          · skip
            refine step_append_bytes rfl (.tmp 52) (.tmp 55) rfl rfl hr72 HYL.out rfl hqn (bytesAt_below HYB.out Hm71) HSUM.out ?_
            intro v80 wm76 hr78 hgr79
            have hg81 := keepA hr72 hg75 hgr79
            rw [← HT.out] at hr78
            refine hK.out _ _ (kbT H0 hr78.2) (fun Hm77 => ?_)
            obtain ⟨p82, c83, rfl, hcp84, hcm85, hby86, -⟩ := hr78.at2
            clear hK K
            try simp only [Act.put, List.setIfInBounds_toArray, List.set_cons_zero, List.set_cons_succ]
            refine wpAnyH_ready (rs := [9]) (by kernel_rfl) (by simp) ?_
            refine (AllReadyH.cons (o := { dst := some 57, op := Go.Op.call { callee := Go.Callee.value (Go.Operand.func 21), args := #[Go.Operand.tmp 56], argTypes := #[39] }, type := 44, pos := "law.go:115", after := #[{ on := 8, ground := Go.Ground.data }, { on := 8, ground := Go.Ground.chain }], guard := none }) rfl (fun K hK => ?_) AllReadyH.nil)
            · skip
              go_simp
              (go_at_call 21; (refine (CD.out p82 c83 wm76 hcp84 (by unfold maxLen at hcm85; omega) (hr78.bytes)).mono ?_); rintro e wm87 ⟨rfl, hb89⟩)
              try go_wp2_with fail
              have hg90 := (hb89.block _ (Array.getElem?_eq_some_iff.1 hg81).1).trans hg81
              refine hK.out _ _ (kbT Hm77 hb89) (fun Hm88 => ?_)
              clear hK K
              try simp only [Act.put, List.setIfInBounds_toArray, List.set_cons_zero, List.set_cons_succ]
              refine wpAnyH_take (i := 10) (oi := { dst := some 47, op := Go.Op.move (Go.Operand.tmp 57), type := 44, pos := "law.go:115", after := #[{ on := 9, ground := Go.Ground.data }], guard := none }) (v := ?_) rfl (by kernel_rfl) (by kernel_rfl) (by kernel_rfl) (fun _ _ _ h => h) (Or.inl ⟨by rfl, ?_⟩) Hm88 ?_
              rotate_left
              focus (intro w' hSw; (try dsimp only at hSw); go_simp; (try with_reducible rfl))
              simp only [Act.put, List.setIfInBounds_toArray, List.set_cons_zero, List.set_cons_succ]
              refine wpAnyH_take (i := 11) (oi := { dst := some 58, op := Go.Op.extract (Go.Operand.tmp 47) 0, type := 38, pos := "law.go:115", after := #[{ on := 10, ground := Go.Ground.data }], guard := none }) (v := ?_) rfl (by kernel_rfl) (by kernel_rfl) (by kernel_rfl) (fun _ _ _ h => h) (Or.inl ⟨by rfl, ?_⟩) Hm88 ?_
              rotate_left
              focus (intro w' hSw; (try dsimp only at hSw); go_simp; (try with_reducible rfl))
              simp only [Act.put, List.setIfInBounds_toArray, List.set_cons_zero, List.set_cons_succ]
              refine wpAnyH_take (i := 12) (oi := { dst := some 59, op := Go.Op.extract (Go.Operand.tmp 47) 1, type := 24, pos := "law.go:115", after := #[{ on := 10, ground := Go.Ground.data }, { on := 14, ground := Go.Ground.gcOnly Go.Departure.lateStores }], guard := none }) (v := ?_) rfl (by kernel_rfl) (by kernel_rfl) (by kernel_rfl) (fun _ _ _ h => h) (Or.inl ⟨by rfl, ?_⟩) Hm88 ?_
              rotate_left
              focus (intro w' hSw; (try dsimp only at hSw); go_simp; (try with_reducible rfl))
              simp only [Act.put, List.setIfInBounds_toArray, List.set_cons_zero, List.set_cons_succ]
              refine wpAnyH_ready (rs := [14]) (by kernel_rfl) (by simp) ?_
              refine (AllReadyH.cons (o := { dst := none, op := Go.Op.store 38 (Go.Operand.tmp 11) (Go.Operand.tmp 58), type := 0, pos := "law.go:115", after := #[{ on := 13, ground := Go.Ground.data }, { on := 11, ground := Go.Ground.data }, { on := 9, ground := Go.Ground.chain }, { on := 0, ground := Go.Ground.phase }, { on := 1, ground := Go.Ground.phase }, { on := 2, ground := Go.Ground.phase }, { on := 3, ground := Go.Ground.phase }, { on := 4, ground := Go.Ground.phase }, { on := 5, ground := Go.Ground.phase }, { on := 6, ground := Go.Ground.phase }, { on := 7, ground := Go.Ground.phase }, { on := 8, ground := Go.Ground.phase }, { on := 9, ground := Go.Ground.phase }, { on := 10, ground := Go.Ground.phase }, { on := 11, ground := Go.Ground.phase }, { on := 12, ground := Go.Ground.textOnly Go.Departure.lateStores }, { on := 13, ground := Go.Ground.phase }], guard := none }) rfl (fun K hK => ?_) AllReadyH.nil)
              · skip
                have k0 := row_cell (i := 0) hg90 rfl
                have f0 := row_frozen (i := 0) hg90
                have k1 := row_cell (i := 1) hg90 rfl
                have f1 := row_frozen (i := 1) hg90
                have k2 := row_cell (i := 2) hg90 rfl
                have f2 := row_frozen (i := 2) hg90
                have k3 := row_cell (i := 3) hg90 rfl
                have f3 := row_frozen (i := 3) hg90
                go_simp
                refine hK.out _ _ ((((Hm88.setCell hA68 _).setCell hA68 _).setCell hA68 _).setCell hA68 _) (fun Hm92 => ?_)
                clear hK K
                try simp only [Act.put, List.setIfInBounds_toArray, List.set_cons_zero, List.set_cons_succ]
                refine wpAnyH_take (i := 15) (oi := { dst := some 12, op := Go.Op.assign (Go.Operand.tmp 59), type := 24, pos := "law.go:115", after := #[{ on := 12, ground := Go.Ground.data }, { on := 14, ground := Go.Ground.chain }, { on := 0, ground := Go.Ground.phase }, { on := 1, ground := Go.Ground.phase }, { on := 2, ground := Go.Ground.phase }, { on := 3, ground := Go.Ground.phase }, { on := 4, ground := Go.Ground.phase }, { on := 5, ground := Go.Ground.phase }, { on := 6, ground := Go.Ground.phase }, { on := 7, ground := Go.Ground.phase }, { on := 8, ground := Go.Ground.phase }, { on := 9, ground := Go.Ground.phase }, { on := 10, ground := Go.Ground.phase }, { on := 11, ground := Go.Ground.phase }, { on := 12, ground := Go.Ground.phase }, { on := 13, ground := Go.Ground.phase }, { on := 14, ground := Go.Ground.phase }], guard := none }) (v := ?_) rfl (by kernel_rfl) (by kernel_rfl) (by kernel_rfl) (fun _ _ _ h => h) (Or.inl ⟨by rfl, ?_⟩) Hm92 ?_
                rotate_left
                focus (intro w' hSw; (try dsimp only at hSw); go_simp; (try with_reducible rfl))
                simp only [Act.put, List.setIfInBounds_toArray, List.set_cons_zero, List.set_cons_succ]
                refine wpAnyH_done (by kernel_rfl) ?_ _
                go_wp2_with fail
                go_meet
                exact ⟨_, rfl, rfl, ⟨by go_cell, by go_cell, by go_cell, by go_cell⟩, Lib.hid Hm92⟩
    · skip
      go_simp
      obtain ⟨wm93, hwm93⟩ : ∃ wz, wd.alloc (.cells #[.int .u64 0, .int .u64 0, .int .i64 0, .int .i64 0] 38) = wz := ⟨_, rfl⟩
      have hg95 : wm93.heap[wd.heap.size]? = some (.cells #[.int .u64 0, .int .u64 0, .int .i64 0, .int .i64 0] 38 (0, 0)) := by rw [← hwm93]; exact heap_alloc_last wd _
      have hb96 : Below wd.heap.size wd wm93 := by rw [← hwm93]; exact (Below.refl _ _).alloc (Nat.le_refl _) _
      have hA97 : we.heap.size ≤ wd.heap.size := H0.size
      rw [hwm93]
      refine hK.out _ _ (kbT H0 hb96) (fun Hm94 => ?_)
      clear hwm93
      clear hK K
      try simp only [Act.put, List.setIfInBounds_toArray, List.set_cons_zero, List.set_cons_succ]
      refine wpAnyH_ready (rs := [0]) (by kernel_rfl) (by simp) ?_
      refine (AllReadyH.cons (o := { dst := some 48, op := Go.Op.buildSlice 39 0 #[], type := 39, pos := "law.go:115", after := #[], guard := none }) rfl (fun K hK => ?_) AllReadyH.nil)
      · skip
        go_simp
        have hr100 := rowB_empty wm93
        obtain ⟨wm98, hwm98⟩ : ∃ wz, wm93.alloc (.cells #[] 5) = wz := ⟨_, rfl⟩
        rw [hwm98] at hr100 ⊢
        have hg101 := (hr100.2.block _ (Array.getElem?_eq_some_iff.1 hg95).1).trans hg95
        refine hK.out _ _ (kbT Hm94 hr100.2) (fun Hm99 => ?_)
        clear hwm98
        clear hK K
        try simp only [Act.put, List.setIfInBounds_toArray, List.set_cons_zero, List.set_cons_succ]
        refine wpAnyH_ready (rs := [4]) (by kernel_rfl) (by simp) ?_
        refine (AllReadyH.cons (o := { dst := some 52, op := Go.Op.call { callee := Go.Callee.builtin Go.Builtin.append, args := #[Go.Operand.tmp 48, Go.Operand.tmp 51], argTypes := #[39, 39] }, type := 39, pos := "law.go:115", after := #[{ on := 0, ground := Go.Ground.data }, { on := 3, ground := Go.Ground.data }], guard := none }) rfl (fun K hK => ?_) AllReadyH.nil)
        · skip
          refine step_append_bytes rfl (.tmp 48) (.tmp 51) rfl rfl hr100 HXL.out rfl (fun h => nomatch h) (bytesAt_below HXA.out Hm99) HX0.out ?_
          intro v106 wm102 hr104 hgr105
          have hg107 := keepA hr100 hg101 hgr105
          rw [List.nil_append] at hr104
          refine hK.out _ _ (kbT Hm94 hr104.2) (fun Hm103 => ?_)
          clear hK K
          try simp only [Act.put, List.setIfInBounds_toArray, List.set_cons_zero, List.set_cons_succ]
          refine wpAnyH_ready (rs := [8]) (by kernel_rfl) (by simp) ?_
          refine (AllReadyH.cons (o := { dst := some 56, op := Go.Op.call { callee := Go.Callee.builtin Go.Builtin.append, args := #[Go.Operand.tmp 52, Go.Operand.tmp 55], argTypes := #[39, 39] }, type := 39, pos := "law.go:115", after := #[{ on := 4, ground := Go.Ground.data }, { on := 7, ground := Go.Ground.data }, { on := 4, ground := Go.Ground.chain }], guard := none }) rfl (fun K hK => ?_) AllReadyH.nil)
          · skip
            refine step_append_bytes rfl (.tmp 52) (.tmp 55) rfl rfl hr104 HYL.out rfl hqn (bytesAt_below HYB.out Hm103) HSUM.out ?_
            intro v112 wm108 hr110 hgr111
            have hg113 := keepA hr104 hg107 hgr111
            rw [← HT.out] at hr110
            refine hK.out _ _ (kbT Hm94 hr110.2) (fun Hm109 => ?_)
            obtain ⟨p114, c115, rfl, hcp116, hcm117, hby118, -⟩ := hr110.at2
            clear hK K
            try simp only [Act.put, List.setIfInBounds_toArray, List.set_cons_zero, List.set_cons_succ]
            refine wpAnyH_ready (rs := [9]) (by kernel_rfl) (by simp) ?_
            refine (AllReadyH.cons (o := { dst := some 57, op := Go.Op.call { callee := Go.Callee.value (Go.Operand.func 21), args := #[Go.Operand.tmp 56], argTypes := #[39] }, type := 44, pos := "law.go:115", after := #[{ on := 8, ground := Go.Ground.data }, { on := 8, ground := Go.Ground.chain }], guard := none }) rfl (fun K hK => ?_) AllReadyH.nil)
            · skip
              go_simp
              (go_at_call 21; (refine (CD.out p114 c115 wm108 hcp116 (by unfold maxLen at hcm117; omega) (hr110.bytes)).mono ?_); rintro e wm119 ⟨rfl, hb121⟩)
              try go_wp2_with fail
              have hg122 := (hb121.block _ (Array.getElem?_eq_some_iff.1 hg113).1).trans hg113
              refine hK.out _ _ (kbT Hm109 hb121) (fun Hm120 => ?_)
              clear hK K
              try simp only [Act.put, List.setIfInBounds_toArray, List.set_cons_zero, List.set_cons_succ]
              refine wpAnyH_take (i := 10) (oi := { dst := some 47, op := Go.Op.move (Go.Operand.tmp 57), type := 44, pos := "law.go:115", after := #[{ on := 9, ground := Go.Ground.data }], guard := none }) (v := ?_) rfl (by kernel_rfl) (by kernel_rfl) (by kernel_rfl) (fun _ _ _ h => h) (Or.inl ⟨by rfl, ?_⟩) Hm120 ?_
              rotate_left
              focus (intro w' hSw; (try dsimp only at hSw); go_simp; (try with_reducible rfl))
              simp only [Act.put, List.setIfInBounds_toArray, List.set_cons_zero, List.set_cons_succ]
              refine wpAnyH_take (i := 11) (oi := { dst := some 58, op := Go.Op.extract (Go.Operand.tmp 47) 0, type := 38, pos := "law.go:115", after := #[{ on := 10, ground := Go.Ground.data }], guard := none }) (v := ?_) rfl (by kernel_rfl) (by kernel_rfl) (by kernel_rfl) (fun _ _ _ h => h) (Or.inl ⟨by rfl, ?_⟩) Hm120 ?_
              rotate_left
              focus (intro w' hSw; (try dsimp only at hSw); go_simp; (try with_reducible rfl))
              simp only [Act.put, List.setIfInBounds_toArray, List.set_cons_zero, List.set_cons_succ]
              refine wpAnyH_take (i := 12) (oi := { dst := some 59, op := Go.Op.extract (Go.Operand.tmp 47) 1, type := 24, pos := "law.go:115", after := #[{ on := 10, ground := Go.Ground.data }, { on := 14, ground := Go.Ground.gcOnly Go.Departure.lateStores }], guard := none }) (v := ?_) rfl (by kernel_rfl) (by kernel_rfl) (by kernel_rfl) (fun _ _ _ h => h) (Or.inl ⟨by rfl, ?_⟩) Hm120 ?_
              rotate_left
              focus (intro w' hSw; (try dsimp only at hSw); go_simp; (try with_reducible rfl))
              simp only [Act.put, List.setIfInBounds_toArray, List.set_cons_zero, List.set_cons_succ]
              refine wpAnyH_ready (rs := [14]) (by kernel_rfl) (by simp) ?_
              refine (AllReadyH.cons (o := { dst := none, op := Go.Op.store 38 (Go.Operand.tmp 11) (Go.Operand.tmp 58), type := 0, pos := "law.go:115", after := #[{ on := 13, ground := Go.Ground.data }, { on := 11, ground := Go.Ground.data }, { on := 9, ground := Go.Ground.chain }, { on := 0, ground := Go.Ground.phase }, { on := 1, ground := Go.Ground.phase }, { on := 2, ground := Go.Ground.phase }, { on := 3, ground := Go.Ground.phase }, { on := 4, ground := Go.Ground.phase }, { on := 5, ground := Go.Ground.phase }, { on := 6, ground := Go.Ground.phase }, { on := 7, ground := Go.Ground.phase }, { on := 8, ground := Go.Ground.phase }, { on := 9, ground := Go.Ground.phase }, { on := 10, ground := Go.Ground.phase }, { on := 11, ground := Go.Ground.phase }, { on := 12, ground := Go.Ground.textOnly Go.Departure.lateStores }, { on := 13, ground := Go.Ground.phase }], guard := none }) rfl (fun K hK => ?_) AllReadyH.nil)
              · skip
                have k0 := row_cell (i := 0) hg122 rfl
                have f0 := row_frozen (i := 0) hg122
                have k1 := row_cell (i := 1) hg122 rfl
                have f1 := row_frozen (i := 1) hg122
                have k2 := row_cell (i := 2) hg122 rfl
                have f2 := row_frozen (i := 2) hg122
                have k3 := row_cell (i := 3) hg122 rfl
                have f3 := row_frozen (i := 3) hg122
                go_simp
                refine hK.out _ _ ((((Hm120.setCell hA97 _).setCell hA97 _).setCell hA97 _).setCell hA97 _) (fun Hm124 => ?_)
                clear hK K
                try simp only [Act.put, List.setIfInBounds_toArray, List.set_cons_zero, List.set_cons_succ]
                refine wpAnyH_take (i := 15) (oi := { dst := some 12, op := Go.Op.assign (Go.Operand.tmp 59), type := 24, pos := "law.go:115", after := #[{ on := 12, ground := Go.Ground.data }, { on := 14, ground := Go.Ground.chain }, { on := 0, ground := Go.Ground.phase }, { on := 1, ground := Go.Ground.phase }, { on := 2, ground := Go.Ground.phase }, { on := 3, ground := Go.Ground.phase }, { on := 4, ground := Go.Ground.phase }, { on := 5, ground := Go.Ground.phase }, { on := 6, ground := Go.Ground.phase }, { on := 7, ground := Go.Ground.phase }, { on := 8, ground := Go.Ground.phase }, { on := 9, ground := Go.Ground.phase }, { on := 10, ground := Go.Ground.phase }, { on := 11, ground := Go.Ground.phase }, { on := 12, ground := Go.Ground.phase }, { on := 13, ground := Go.Ground.phase }, { on := 14, ground := Go.Ground.phase }], guard := none }) (v := ?_) rfl (by kernel_rfl) (by kernel_rfl) (by kernel_rfl) (fun _ _ _ h => h) (Or.inl ⟨by rfl, ?_⟩) Hm124 ?_
                rotate_left
                focus (intro w' hSw; (try dsimp only at hSw); go_simp; (try with_reducible rfl))
                simp only [Act.put, List.setIfInBounds_toArray, List.set_cons_zero, List.set_cons_succ]
                refine wpAnyH_done (by kernel_rfl) ?_ _
                go_wp2_with fail
                go_meet
                exact ⟨_, rfl, rfl, ⟨by go_cell, by go_cell, by go_cell, by go_cell⟩, Lib.hid Hm124⟩
  case rest =>
    obtain ⟨A, rfl, rfl, ⟨a0, a1, a2, a3⟩, HBW⟩ := hcut
    have HBW2 := Lib.hid (kbT B2.out HBW.out)
    obtain ⟨⟨c0, c1, c2, c3⟩, d0, d1, d2, d3⟩ := HC.out
    have c0 := (HBW.out.cell (lt_of_cell_some c0)).trans c0
    have c1 := (HBW.out.cell (lt_of_cell_some c1)).trans c1
    have c2 := (HBW.out.cell (lt_of_cell_some c2)).trans c2
    have c3 := (HBW.out.cell (lt_of_cell_some c3)).trans c3
    have d0 := (HBW.out.cell (lt_of_cell_some d0)).trans d0
    have d1 := (HBW.out.cell (lt_of_cell_some d1)).trans d1
    have d2 := (HBW.out.cell (lt_of_cell_some d2)).trans d2
    have d3 := (HBW.out.cell (lt_of_cell_some d3)).trans d3
    have q1 := fun w => eq38 x1 x2 x3 x4 S E n c w
    have q2 := fun w => eq38 x1 x2 x3 x4 S' E' n' c' w
    have g1 := fun x y w => eqg38 x y x1 x2 x3 x4 S E n c w
    have g2 := fun x y w => eqg38 x y x1 x2 x3 x4 S' E' n' c' w
    rcases HRES.out with hX | ⟨hX, hY⟩
    · subst hX
      go_wp2_with (first
        | (go_at_call 13; refine (NM.out _ _).mono ?_; rintro e wn ⟨rfl, rfl⟩)
        | (go_at_call 15; refine (WKS.out _).mono ?_; rintro e wz ⟨rfl, hbz⟩))
      go_ret
      exact ⟨rfl, kbT HBW2.out hbz⟩
    · subst hX
      by_cases hY1 : x1 = S ∧ x2 = E ∧ x3 = n ∧ x4 = c
      · rw [decide_eq_true hY1] at q1
        clear hY hY1 q2 g2
        go_wp2_with (first
          | (go_at_call 13; refine (NM.out _ _).mono ?_; rintro e wn ⟨rfl, rfl⟩)
          | (go_at_call 15; refine (WKS.out _).mono ?_; rintro e wz ⟨rfl, hbz⟩))
        go_ret
        exact ⟨rfl, kbT HBW2.out hbz⟩
      · have hY2 := hY.resolve_left hY1
        rw [decide_eq_false hY1] at q1
        rw [decide_eq_true hY2] at q2
        clear hY hY1 hY2
        go_wp2_with (first
          | (go_at_call 13; refine (NM.out _ _).mono ?_; rintro e wn ⟨rfl, rfl⟩)
          | (go_at_call 15; refine (WKS.out _).mono ?_; rintro e wz ⟨rfl, hbz⟩))
        go_ret
        exact ⟨rfl, kbT HBW2.out hbz⟩
end Go.Proofs.Ythnllhfdbnnjhaa
