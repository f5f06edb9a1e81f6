/- DiskCopies: for every input the call returns true and leaves its arguments as they were. Condition: none besides the form's own. -/
import Derived.Test.YthbnochlpnikaaaMC5
import Derived.ProofKit
import Derived.OpenShut
import Derived.Deep.DeepHandedRow
import Derived.Deep.DeepWitnessRowRef
import Derived.Deep.Slices
import Derived.Lib.SmallJoins
import Derived.SizedLaws
namespace Go.Proofs.Ythbnochlpnikaaa
open Go.RowKit Go.Shelf

theorem actsAt_two (w : World) (x0 x1 : ActS) : ActsAt (w.alloc (.cells #[.int .i64 x0.what, .int .i64 x0.place, .int .i64 x0.n, .int .u8 x0.byte, .slice x0.kp x0.keep.length x0.kc, .int .i64 x1.what, .int .i64 x1.place, .int .i64 x1.n, .int .u8 x1.byte, .slice x1.kp x1.keep.length x1.kc] 25)) (some ⟨w.heap.size, 0, none⟩) [x0, x1] := fun i x hx => by
  have hr := World.alloc_heap_new w (.cells #[.int .i64 x0.what, .int .i64 x0.place, .int .i64 x0.n, .int .u8 x0.byte, .slice x0.kp x0.keep.length x0.kc, .int .i64 x1.what, .int .i64 x1.place, .int .i64 x1.n, .int .u8 x1.byte, .slice x1.kp x1.keep.length x1.kc] 25)
  rcases i with _ | _ | i
  · simp at hx
    subst hx
    exact ⟨w.heap.size, 0, rfl, row_at hr rfl, row_at hr rfl, row_at hr rfl, row_at hr rfl, row_at hr rfl⟩
  · simp at hx
    subst hx
    exact ⟨w.heap.size, 0, rfl, row_at hr rfl, row_at hr rfl, row_at hr rfl, row_at hr rfl, row_at hr rfl⟩
  · simp at hx
theorem actsAt_grown {w w' : World} {A : Nat} {l : List ActS} {o : Option Nat} (h : ActsAt w (some ⟨A, 0, none⟩) l) (hg : w.grownBy w' o) (hne : o ≠ some A) : ActsAt w' (some ⟨A, 0, none⟩) l := fun i x hx => by
  obtain ⟨B, off, e, c0, c1, c2, c3, c4⟩ := h i x hx
  injection e with e
  injection e with e1 e2
  subst e1
  have hb := hg.block A (lt_of_cell_some c0) (fun e => hne e.symm)
  exact ⟨A, off, by rw [e2], (World.cell?_of_block (a := ⟨A, _, none⟩) hb).trans c0, (World.cell?_of_block (a := ⟨A, _, none⟩) hb).trans c1, (World.cell?_of_block (a := ⟨A, _, none⟩) hb).trans c2, (World.cell?_of_block (a := ⟨A, _, none⟩) hb).trans c3, (World.cell?_of_block (a := ⟨A, _, none⟩) hb).trans c4⟩
structure ActArg (w : World) (x : ActS) : Prop where
  byte : x.byte < 256
  n : -9223372036854775808 ≤ x.n ∧ x.n ≤ 9223372036854775807
  bools : BoolsAt w x.kp x.keep
  nil : x.kp = none → x.kc = 0
  cap : x.keep.length ≤ x.kc ∧ x.kc ≤ 9223372036854775807
theorem ActArg.into {w wr : World} {x : ActS} (h : ActArg w x) (hk : x.keep.length ≤ 40) {F : Nat → Prop} (hF : ∀ k, F k → w.heap.size ≤ k) (hb : Below w.heap.size w wr) : ActIn wr F x :=
  ⟨h.byte, h.n, hk, h.bools.below hb, h.nil, h.cap, fun ne B off e f => by
    cases hx : x.keep with
    | nil => exact ne hx
    | cons b t =>
      obtain ⟨B', off', e', c⟩ := h.bools 0 b (by rw [hx]; rfl)
      rw [e] at e'
      injection e' with e'
      injection e' with e1 e2
      subst e1
      have h1 := lt_of_cell_some c
      have h2 := hF B f
      simp only at h1
      omega⟩
abbrev refC (s : DS) (p : Option Addr) (c : Nat) (q : Option Addr) (d : Nat) : Array Value := #[.int .i64 s.many, .slice p s.sync.length c, .slice q s.loose.length d, .int .i64 s.left]
/-- What the loop keeps. -/
structure LoopSt (w wr : World) (A9 : Nat) (X : Array Value) (d : Value) (s : DS) (F : Nat → Prop) (p : Option Addr) (c : Nat) (q : Option Addr) (dd : Nat) : Prop where
  pair : PairOk RepD wr d s F p c q dd
  own : ∀ k, F k → w.heap.size < k ∧ k ≠ A9
  row : wr.heap[A9]? = some (.cells (refC s p c q dd) 35 (0, 0))
  pq : ∀ B off, p = some ⟨B, off, none⟩ ∨ q = some ⟨B, off, none⟩ → B ≠ A9
  below : Below w.heap.size w wr
  x5 : wr.heap[w.heap.size]? = some (.cells X 26 (0, 0))
  a9 : w.heap.size < A9
theorem LoopSt.lt {w wr : World} {A9 : Nat} {X : Array Value} {d : Value} {s : DS} {F : Nat → Prop} {p : Option Addr} {c : Nat} {q : Option Addr} {dd : Nat} (h : LoopSt w wr A9 X d s F p c q dd) : A9 < wr.heap.size := (Array.getElem?_eq_some_iff.1 h.row).1
theorem PairOk.below {w w' : World} {d : Value} {s : DS} {F : Nat → Prop} {p : Option Addr} {c : Nat} {q : Option Addr} {dd : Nat} (h : PairOk RepD w d s F p c q dd) (hb : Below w.heap.size w w') : PairOk RepD w' d s F p c q dd :=
  ⟨diskOk.keep _ _ _ _ _ h.rep hb.size (fun k hk => hb.block k (diskOk.low _ _ _ _ h.rep k hk)), h.ref.below hb, fun B off e => ⟨(h.pq B off e).1, Nat.lt_of_lt_of_le (h.pq B off e).2 hb.size⟩⟩
theorem LoopSt.step {w wr wb : World} {A9 : Nat} {X : Array Value} {d d' : Value} {s s' : DS} {F F' : Nat → Prop} {p : Option Addr} {c : Nat} {q : Option Addr} {dd : Nat} {p' : Option Addr} {c' : Nat} {q' : Option Addr} {dd' : Nat}
    (h : LoopSt w wr A9 X d s F p c q dd) (hP : PairOk RepD wb d' s' F' p' c' q' dd') (hF : ∀ k, F' k → F k ∨ wr.drew.heap.size ≤ k)
    (hfr : ∀ B off, p' = some ⟨B, off, none⟩ ∨ q' = some ⟨B, off, none⟩ → (p = some ⟨B, off, none⟩ ∨ q = some ⟨B, off, none⟩) ∨ wr.drew.heap.size ≤ B) (hap : Apart F wr.drew wb) :
    LoopSt w (wb.setRow A9 (refC s' p' c' q' dd')) A9 X d' s' F' p' c' q' dd' := by
  have hd := (Below.refl wr.heap.size wr).drew
  have hlt := h.lt
  have hds := hd.size
  have hsb := hap.size
  have hn9 : ¬ F A9 := fun f => (h.own A9 f).2 rfl
  have hown' : ∀ k, F' k → w.heap.size < k ∧ k ≠ A9 := fun k hk => (hF k hk).elim (h.own k) (fun h1 => by have := h.a9; omega)
  have hpq' : ∀ B off, p' = some ⟨B, off, none⟩ ∨ q' = some ⟨B, off, none⟩ → B ≠ A9 := fun B off e => (hfr B off e).elim (h.pq B off) (fun h1 => by omega)
  have r9 : wb.heap[A9]? = some (.cells (refC s p c q dd) 35 (0, 0)) := (hap.block _ (by omega) hn9).trans ((hd.block _ hlt).trans h.row)
  have hn5 : ¬ F w.heap.size := fun f => by have := (h.own _ f).1; omega
  refine ⟨⟨diskOk.keep _ _ _ _ _ hP.rep (by simp) (fun k hk => setRow_other _ _ _ _ (hown' k hk).2), hP.ref.asIs (fun B off e => setRow_other _ _ _ _ (hpq' B off e)), fun B off e => ⟨(hP.pq B off e).1, by simpa using (hP.pq B off e).2⟩⟩, hown', setRow_heap _ _ _ _ 35 (0, 0) r9, hpq', ?_, ?_, h.a9⟩
  · have hb : Below w.heap.size w wr.drew := h.below.trans (hd.mono h.below.size)
    have hb2 : Below w.heap.size w wb := hap.below hb (fun k hk => Nat.le_of_lt (h.own k hk).1)
    exact below_setRow hb2 (Nat.le_of_lt h.a9) _
  · rw [setRow_other _ _ _ _ (by have := h.a9; omega)]
    exact (hap.block _ (by have := h.a9; omega) hn5).trans ((hd.block _ (by have := h.a9; omega)).trans h.x5)
theorem sameB_comm (a b : DS) : sameB a b = sameB b a := by
  have h : ∀ a b : DS, sameS a b → sameS b a := fun a b h => ⟨h.1.symm, h.2.1.symm, h.2.2.1.symm, fun k => (h.2.2.2 k).symm⟩
  by_cases hs : sameS a b
  · rw [sameB_true hs, sameB_true (h _ _ hs)]
  · rw [sameB_false hs, sameB_false (fun h' => hs (h _ _ h'))]
theorem dsameB_any {w : World} {Ba a1 a2 : Nat} {va : Value} {sa : DS} (h : DiskAt w Ba a1 a2 va sa) {Bb b1 b2 : Nat} {vb : Value} {sb : DS} (h' : DiskAt w Bb b1 b2 vb sb) (hA : Whole sa) (hB : Whole sb) (hFa : Few sa) (hFb : Few sb) :
    Calls Try.prog 14 #[.pointer (some ⟨Ba, 0, none⟩), .pointer (some ⟨Bb, 0, none⟩)] w fun r w' => r = .returned (.bool (sameB sa sb)) ∧ Below w.heap.size w w' := by
  refine (dsame_any h h' hA hB hFa hFb).mono ?_
  rintro e w' ⟨t, ht, rfl, hb⟩
  refine ⟨?_, hb⟩
  by_cases hs : sameS sa sb
  · rw [sameB_true hs, ht.2 hs]
  · rw [sameB_false hs]
    cases t
    · rfl
    · exact absurd (ht.1 rfl) hs
theorem fewB_parts {l : List ActS} {x0 x1 : ActS} (h : fewB (l ++ [x0, x1]) 22 = true) : l.length ≤ 20 ∧ (∀ x ∈ l, x.keep.length ≤ 40) ∧ x0.keep.length ≤ 40 ∧ x1.keep.length ≤ 40 := by
  unfold fewB at h
  simp only [Bool.and_eq_true, List.all_eq_true, decide_eq_true_eq, List.mem_append, List.length_append, List.length_cons, List.length_nil] at h
  refine ⟨by have := h.2; omega, fun x hx => h.1 x (.inl hx), h.1 x0 (.inr (by simp)), h.1 x1 (.inr (by simp))⟩
def badB (n : Int) (l : List ActS) (x0 x1 : ActS) : Bool := decide (n < 1) || decide (12 < n) || !fewB (l ++ [x0, x1]) 22
set_option maxRecDepth 100000 in
set_option maxHeartbeats 8000000 in
theorem copies_any (n : Int) (l : List ActS) (p : Option Addr) (cap : Nat) (x0 x1 : ActS) (w : World) (hl : (l.length + 2) * 56 ≤ 140737488355328) (hq : p = none → cap = 0) (hL : ActsAt w p l) (hA : ∀ x, x ∈ l ∨ x = x0 ∨ x = x1 → ActArg w x) :
    Calls Try.prog 3 #[.int .i64 n, .slice p l.length cap, .agg #[.int .i64 x0.what, .int .i64 x0.place, .int .i64 x0.n, .int .u8 x0.byte, .slice x0.kp x0.keep.length x0.kc, .int .i64 x1.what, .int .i64 x1.place, .int .i64 x1.n, .int .u8 x1.byte, .slice x1.kp x1.keep.length x1.kc]] w fun r w' => r = .returned (.bool true) ∧ Below w.heap.size w w' := by
  obtain ⟨w1, hw1⟩ : ∃ w1, w.alloc (.cells #[.int .i64 x0.what, .int .i64 x0.place, .int .i64 x0.n, .int .u8 x0.byte, .slice x0.kp x0.keep.length x0.kc, .int .i64 x1.what, .int .i64 x1.place, .int .i64 x1.n, .int .u8 x1.byte, .slice x1.kp x1.keep.length x1.kc] 26) = w1 := ⟨_, rfl⟩
  have B1 : Below w.heap.size w w1 := by subst hw1; exact (Below.refl _ _).alloc (Nat.le_refl _) _
  have S1 : Hid (w1.heap.size = w.heap.size + 1) := Lib.hid (by subst hw1; simp)
  have r10 : w1.heap[w.heap.size]? = some (.cells #[.int .i64 x0.what, .int .i64 x0.place, .int .i64 x0.n, .int .u8 x0.byte, .slice x0.kp x0.keep.length x0.kc, .int .i64 x1.what, .int .i64 x1.place, .int .i64 x1.n, .int .u8 x1.byte, .slice x1.kp x1.keep.length x1.kc] 26 (0, 0)) := by rw [← hw1]; exact World.alloc_heap_new w _
  have K10 : Hid (∀ w', Below w1.heap.size w1 w' → w'.heap[w.heap.size]? = some (.cells #[.int .i64 x0.what, .int .i64 x0.place, .int .i64 x0.n, .int .u8 x0.byte, .slice x0.kp x0.keep.length x0.kc, .int .i64 x1.what, .int .i64 x1.place, .int .i64 x1.n, .int .u8 x1.byte, .slice x1.kp x1.keep.length x1.kc] 26 (0, 0))) := Lib.hid fun w' h => (h.block _ (by have := S1.out; omega)).trans r10
  have HL : Hid (ActsAt w1 p l) := Lib.hid (hL.below B1)
  have HACTS := Lib.hid hL
  have HQ := Lib.hid hq
  have HA := Lib.hid hA
  have HN : Hid ((([] : List ActS).length + l.length) * 56 ≤ 140737488355328) := Lib.hid (by simp only [List.length_nil]; omega)
  have HN2 : Hid ((l.length + [x0, x1].length) * 56 ≤ 140737488355328) := Lib.hid (by simp only [List.length_cons, List.length_nil]; omega)
  have HBB := Lib.hid B1
  have HLEN : Hid ((l ++ [x0, x1]).length = l.length + 2) := Lib.hid (by simp)
  obtain ⟨bad, hbad⟩ : ∃ b, badB n l x0 x1 = b := ⟨_, rfl⟩
  have HBAD : Hid (bad = (decide (n < 1) || decide (12 < n) || !fewB (l ++ [x0, x1]) 22)) := Lib.hid hbad.symm
  clear hl hL B1 r10 hq hA
  go_enter Try.func3, Try.ntmps3
  go_upto_region 1 with fail
  try rw [hw1]
  go_cut [35] from 17 to 34 (fun s35 wx => s35 = .bool bad ∧ Hid (Below w1.heap.size w1 wx))
  case first =>
    by_cases h1 : n < 1
    · have hb1 : decide (n < 1) = true := decide_eq_true h1
      refine wp_region_held_drew (S := fun w' => Below w1.heap.size w1 w') (by kernel_rfl) ((Below.refl _ _).drew) (fun H0 => ?_)
      refine wpAnyH_take (i := 0) (oi := { dst := some 17, op := Go.Op.move (Go.Operand.tmp 0), type := 3, pos := "law.go:146", after := #[], guard := none }) (v := ?_) rfl (by kernel_rfl) (by kernel_rfl) (by kernel_rfl) (fun _ _ _ h => h) (Or.inl ⟨by rfl, ?_⟩) H0 ?_
      rotate_left
      focus (intro w' hSw; (try dsimp only at hSw); go_simp; (try with_reducible rfl))
      simp only [Act.put, List.setIfInBounds_toArray, List.set_cons_zero, List.set_cons_succ]
      refine wpAnyH_take (i := 1) (oi := { dst := some 18, op := Go.Op.binOp Go.BinOp.lss 3 (Go.Operand.tmp 17) (Go.Operand.const (Go.Value.int Go.IntKind.i64 1)) 3, type := 4, pos := "law.go:146", after := #[{ on := 0, ground := Go.Ground.data }], guard := none }) (v := ?_) rfl (by kernel_rfl) (by kernel_rfl) (by kernel_rfl) (fun _ _ _ h => h) (Or.inl ⟨by rfl, ?_⟩) H0 ?_
      rotate_left
      focus (intro w' hSw; (try dsimp only at hSw); go_simp; (try with_reducible rfl))
      simp only [Act.put, List.setIfInBounds_toArray, List.set_cons_zero, List.set_cons_succ]
      refine wpAnyH_take (i := 2) (oi := { dst := some 19, op := Go.Op.move (Go.Operand.tmp 18), type := 4, pos := "law.go:146", after := #[{ on := 1, ground := Go.Ground.data }], guard := none }) (v := ?_) rfl (by kernel_rfl) (by kernel_rfl) (by kernel_rfl) (fun _ _ _ h => h) (Or.inl ⟨by rfl, ?_⟩) H0 ?_
      rotate_left
      focus (intro w' hSw; (try dsimp only at hSw); go_simp; (try with_reducible rfl))
      simp only [Act.put, List.setIfInBounds_toArray, List.set_cons_zero, List.set_cons_succ]
      refine wpAnyH_take (i := 3) (oi := { dst := some 20, op := Go.Op.move (Go.Operand.tmp 0), type := 3, pos := "law.go:146", after := #[{ on := 2, ground := Go.Ground.guard }], guard := some (2, false) }) (v := undef) rfl (by kernel_rfl) (by kernel_rfl) (by kernel_rfl) (fun _ _ _ h => h) (Or.inr ⟨by rfl, rfl⟩) H0 ?_
      simp only [Act.put, List.setIfInBounds_toArray, List.set_cons_zero, List.set_cons_succ]
      refine wpAnyH_take (i := 4) (oi := { dst := some 21, op := Go.Op.binOp Go.BinOp.gtr 3 (Go.Operand.tmp 20) (Go.Operand.const (Go.Value.int Go.IntKind.i64 12)) 3, type := 4, pos := "law.go:146", after := #[{ on := 3, ground := Go.Ground.data }, { on := 2, ground := Go.Ground.guard }], guard := some (2, false) }) (v := undef) rfl (by kernel_rfl) (by kernel_rfl) (by kernel_rfl) (fun _ _ _ h => h) (Or.inr ⟨by rfl, rfl⟩) H0 ?_
      simp only [Act.put, List.setIfInBounds_toArray, List.set_cons_zero, List.set_cons_succ]
      refine wpAnyH_take (i := 5) (oi := { dst := some 22, op := Go.Op.pick (Go.Operand.tmp 19) (Go.Operand.const (Go.Value.bool true)) (Go.Operand.tmp 21), type := 4, pos := "law.go:146", after := #[{ on := 2, ground := Go.Ground.data }, { on := 4, ground := Go.Ground.data }], guard := none }) (v := ?_) rfl (by kernel_rfl) (by kernel_rfl) (by kernel_rfl) (fun _ _ _ h => h) (Or.inl ⟨by rfl, ?_⟩) H0 ?_
      rotate_left
      focus (intro w' hSw; (try dsimp only at hSw); go_simp; (try with_reducible rfl))
      simp only [Act.put, List.setIfInBounds_toArray, List.set_cons_zero, List.set_cons_succ]
      refine wpAnyH_take (i := 6) (oi := { dst := some 23, op := Go.Op.move (Go.Operand.tmp 22), type := 4, pos := "law.go:146", after := #[{ on := 5, ground := Go.Ground.data }, { on := 2, ground := Go.Ground.chain }], guard := none }) (v := ?_) rfl (by kernel_rfl) (by kernel_rfl) (by kernel_rfl) (fun _ _ _ h => h) (Or.inl ⟨by rfl, ?_⟩) H0 ?_
      rotate_left
      focus (intro w' hSw; (try dsimp only at hSw); go_simp; (try with_reducible rfl))
      simp only [Act.put, List.setIfInBounds_toArray, List.set_cons_zero, List.set_cons_succ]
      refine wpAnyH_take (i := 7) (oi := { dst := some 24, op := Go.Op.buildSlice 22 0 #[], type := 22, pos := "law.go:146", after := #[{ on := 6, ground := Go.Ground.guard }], guard := some (6, false) }) (v := undef) rfl (by kernel_rfl) (by kernel_rfl) (by kernel_rfl) (fun _ _ _ h => h) (Or.inr ⟨by rfl, rfl⟩) H0 ?_
      simp only [Act.put, List.setIfInBounds_toArray, List.set_cons_zero, List.set_cons_succ]
      refine wpAnyH_take (i := 8) (oi := { dst := some 25, op := Go.Op.move (Go.Operand.tmp 1), type := 22, pos := "law.go:146", after := #[{ on := 6, ground := Go.Ground.guard }], guard := some (6, false) }) (v := undef) rfl (by kernel_rfl) (by kernel_rfl) (by kernel_rfl) (fun _ _ _ h => h) (Or.inr ⟨by rfl, rfl⟩) H0 ?_
      simp only [Act.put, List.setIfInBounds_toArray, List.set_cons_zero, List.set_cons_succ]
      refine wpAnyH_take (i := 9) (oi := { dst := some 26, op := Go.Op.call { callee := Go.Callee.builtin Go.Builtin.append, args := #[Go.Operand.tmp 24, Go.Operand.tmp 25], argTypes := #[22, 22] }, type := 22, pos := "law.go:146", after := #[{ on := 7, ground := Go.Ground.data }, { on := 8, ground := Go.Ground.data }, { on := 6, ground := Go.Ground.chain }, { on := 6, ground := Go.Ground.guard }], guard := some (6, false) }) (v := undef) rfl (by kernel_rfl) (by kernel_rfl) (by kernel_rfl) (fun _ _ _ h => h) (Or.inr ⟨by rfl, rfl⟩) H0 ?_
      simp only [Act.put, List.setIfInBounds_toArray, List.set_cons_zero, List.set_cons_succ]
      refine wpAnyH_take (i := 10) (oi := { dst := some 27, op := Go.Op.indexAddr 26 (Go.Operand.tmp 5) (Go.Operand.const (Go.Value.int Go.IntKind.i64 0)), type := 0, pos := "law.go:146", after := #[{ on := 6, ground := Go.Ground.guard }], guard := some (6, false) }) (v := undef) rfl (by kernel_rfl) (by kernel_rfl) (by kernel_rfl) (fun _ _ _ h => h) (Or.inr ⟨by rfl, rfl⟩) H0 ?_
      simp only [Act.put, List.setIfInBounds_toArray, List.set_cons_zero, List.set_cons_succ]
      refine wpAnyH_take (i := 11) (oi := { dst := some 28, op := Go.Op.load 25 (Go.Operand.tmp 27), type := 25, pos := "law.go:146", after := #[{ on := 10, ground := Go.Ground.data }, { on := 6, ground := Go.Ground.guard }], guard := some (6, false) }) (v := undef) rfl (by kernel_rfl) (by kernel_rfl) (by kernel_rfl) (fun _ _ _ h => h) (Or.inr ⟨by rfl, rfl⟩) H0 ?_
      simp only [Act.put, List.setIfInBounds_toArray, List.set_cons_zero, List.set_cons_succ]
      refine wpAnyH_take (i := 12) (oi := { dst := some 29, op := Go.Op.indexAddr 26 (Go.Operand.tmp 5) (Go.Operand.const (Go.Value.int Go.IntKind.i64 1)), type := 0, pos := "law.go:146", after := #[{ on := 6, ground := Go.Ground.guard }], guard := some (6, false) }) (v := undef) rfl (by kernel_rfl) (by kernel_rfl) (by kernel_rfl) (fun _ _ _ h => h) (Or.inr ⟨by rfl, rfl⟩) H0 ?_
      simp only [Act.put, List.setIfInBounds_toArray, List.set_cons_zero, List.set_cons_succ]
      refine wpAnyH_take (i := 13) (oi := { dst := some 30, op := Go.Op.load 25 (Go.Operand.tmp 29), type := 25, pos := "law.go:146", after := #[{ on := 12, ground := Go.Ground.data }, { on := 6, ground := Go.Ground.guard }], guard := some (6, false) }) (v := undef) rfl (by kernel_rfl) (by kernel_rfl) (by kernel_rfl) (fun _ _ _ h => h) (Or.inr ⟨by rfl, rfl⟩) H0 ?_
      simp only [Act.put, List.setIfInBounds_toArray, List.set_cons_zero, List.set_cons_succ]
      refine wpAnyH_take (i := 14) (oi := { dst := some 31, op := Go.Op.buildSlice 22 2 #[(0, Go.Operand.tmp 28), (1, Go.Operand.tmp 30)], type := 22, pos := "law.go:146", after := #[{ on := 11, ground := Go.Ground.data }, { on := 13, ground := Go.Ground.data }, { on := 6, ground := Go.Ground.guard }], guard := some (6, false) }) (v := undef) rfl (by kernel_rfl) (by kernel_rfl) (by kernel_rfl) (fun _ _ _ h => h) (Or.inr ⟨by rfl, rfl⟩) H0 ?_
      simp only [Act.put, List.setIfInBounds_toArray, List.set_cons_zero, List.set_cons_succ]
      refine wpAnyH_take (i := 15) (oi := { dst := some 32, op := Go.Op.call { callee := Go.Callee.builtin Go.Builtin.append, args := #[Go.Operand.tmp 26, Go.Operand.tmp 31], argTypes := #[22, 22] }, type := 22, pos := "law.go:146", after := #[{ on := 9, ground := Go.Ground.data }, { on := 14, ground := Go.Ground.data }, { on := 9, ground := Go.Ground.chain }, { on := 6, ground := Go.Ground.guard }], guard := some (6, false) }) (v := undef) rfl (by kernel_rfl) (by kernel_rfl) (by kernel_rfl) (fun _ _ _ h => h) (Or.inr ⟨by rfl, rfl⟩) H0 ?_
      simp only [Act.put, List.setIfInBounds_toArray, List.set_cons_zero, List.set_cons_succ]
      refine wpAnyH_take (i := 16) (oi := { dst := some 33, op := Go.Op.call { callee := Go.Callee.value (Go.Operand.func 5), args := #[Go.Operand.tmp 32, Go.Operand.const (Go.Value.int Go.IntKind.i64 22)], argTypes := #[22, 3] }, type := 4, pos := "law.go:146", after := #[{ on := 15, ground := Go.Ground.data }, { on := 15, ground := Go.Ground.chain }, { on := 6, ground := Go.Ground.guard }], guard := some (6, false) }) (v := undef) rfl (by kernel_rfl) (by kernel_rfl) (by kernel_rfl) (fun _ _ _ h => h) (Or.inr ⟨by rfl, rfl⟩) H0 ?_
      simp only [Act.put, List.setIfInBounds_toArray, List.set_cons_zero, List.set_cons_succ]
      refine wpAnyH_take (i := 17) (oi := { dst := some 34, op := Go.Op.unOp Go.UnOp.not 4 (Go.Operand.tmp 33), type := 4, pos := "law.go:146", after := #[{ on := 16, ground := Go.Ground.data }, { on := 6, ground := Go.Ground.guard }], guard := some (6, false) }) (v := undef) rfl (by kernel_rfl) (by kernel_rfl) (by kernel_rfl) (fun _ _ _ h => h) (Or.inr ⟨by rfl, rfl⟩) H0 ?_
      simp only [Act.put, List.setIfInBounds_toArray, List.set_cons_zero, List.set_cons_succ]
      refine wpAnyH_take (i := 18) (oi := { dst := some 35, op := Go.Op.pick (Go.Operand.tmp 23) (Go.Operand.const (Go.Value.bool true)) (Go.Operand.tmp 34), type := 4, pos := "law.go:146", after := #[{ on := 6, ground := Go.Ground.data }, { on := 17, ground := Go.Ground.data }], guard := none }) (v := ?_) rfl (by kernel_rfl) (by kernel_rfl) (by kernel_rfl) (fun _ _ _ h => h) (Or.inl ⟨by rfl, ?_⟩) H0 ?_
      rotate_left
      focus (intro w' hSw; (try dsimp only at hSw); go_simp; (try with_reducible rfl))
      simp only [Act.put, List.setIfInBounds_toArray, List.set_cons_zero, List.set_cons_succ]
      refine wpAnyH_done (by kernel_rfl) ?_ _
      go_wp2_with fail
      go_meet
      exact ⟨by rw [HBAD.out, hb1]; rfl, Lib.hid H0⟩
    · have hb1 : decide (n < 1) = false := decide_eq_false h1
      by_cases h2 : 12 < n
      · have hb2 : decide (12 < n) = true := decide_eq_true h2
        refine wp_region_held_drew (S := fun w' => Below w1.heap.size w1 w') (by kernel_rfl) ((Below.refl _ _).drew) (fun H0 => ?_)
        refine wpAnyH_take (i := 0) (oi := { dst := some 17, op := Go.Op.move (Go.Operand.tmp 0), type := 3, pos := "law.go:146", after := #[], guard := none }) (v := ?_) rfl (by kernel_rfl) (by kernel_rfl) (by kernel_rfl) (fun _ _ _ h => h) (Or.inl ⟨by rfl, ?_⟩) H0 ?_
        rotate_left
        focus (intro w' hSw; (try dsimp only at hSw); go_simp; (try with_reducible rfl))
        simp only [Act.put, List.setIfInBounds_toArray, List.set_cons_zero, List.set_cons_succ]
        refine wpAnyH_take (i := 1) (oi := { dst := some 18, op := Go.Op.binOp Go.BinOp.lss 3 (Go.Operand.tmp 17) (Go.Operand.const (Go.Value.int Go.IntKind.i64 1)) 3, type := 4, pos := "law.go:146", after := #[{ on := 0, ground := Go.Ground.data }], guard := none }) (v := ?_) rfl (by kernel_rfl) (by kernel_rfl) (by kernel_rfl) (fun _ _ _ h => h) (Or.inl ⟨by rfl, ?_⟩) H0 ?_
        rotate_left
        focus (intro w' hSw; (try dsimp only at hSw); go_simp; (try with_reducible rfl))
        simp only [Act.put, List.setIfInBounds_toArray, List.set_cons_zero, List.set_cons_succ]
        refine wpAnyH_take (i := 2) (oi := { dst := some 19, op := Go.Op.move (Go.Operand.tmp 18), type := 4, pos := "law.go:146", after := #[{ on := 1, ground := Go.Ground.data }], guard := none }) (v := ?_) rfl (by kernel_rfl) (by kernel_rfl) (by kernel_rfl) (fun _ _ _ h => h) (Or.inl ⟨by rfl, ?_⟩) H0 ?_
        rotate_left
        focus (intro w' hSw; (try dsimp only at hSw); go_simp; (try with_reducible rfl))
        simp only [Act.put, List.setIfInBounds_toArray, List.set_cons_zero, List.set_cons_succ]
        refine wpAnyH_take (i := 3) (oi := { dst := some 20, op := Go.Op.move (Go.Operand.tmp 0), type := 3, pos := "law.go:146", after := #[{ on := 2, ground := Go.Ground.guard }], guard := some (2, false) }) (v := ?_) rfl (by kernel_rfl) (by kernel_rfl) (by kernel_rfl) (fun _ _ _ h => h) (Or.inl ⟨by rfl, ?_⟩) H0 ?_
        rotate_left
        focus (intro w' hSw; (try dsimp only at hSw); go_simp; (try with_reducible rfl))
        simp only [Act.put, List.setIfInBounds_toArray, List.set_cons_zero, List.set_cons_succ]
        refine wpAnyH_take (i := 4) (oi := { dst := some 21, op := Go.Op.binOp Go.BinOp.gtr 3 (Go.Operand.tmp 20) (Go.Operand.const (Go.Value.int Go.IntKind.i64 12)) 3, type := 4, pos := "law.go:146", after := #[{ on := 3, ground := Go.Ground.data }, { on := 2, ground := Go.Ground.guard }], guard := some (2, false) }) (v := ?_) rfl (by kernel_rfl) (by kernel_rfl) (by kernel_rfl) (fun _ _ _ h => h) (Or.inl ⟨by rfl, ?_⟩) H0 ?_
        rotate_left
        focus (intro w' hSw; (try dsimp only at hSw); go_simp; (try with_reducible rfl))
        simp only [Act.put, List.setIfInBounds_toArray, List.set_cons_zero, List.set_cons_succ]
        refine wpAnyH_take (i := 5) (oi := { dst := some 22, op := Go.Op.pick (Go.Operand.tmp 19) (Go.Operand.const (Go.Value.bool true)) (Go.Operand.tmp 21), type := 4, pos := "law.go:146", after := #[{ on := 2, ground := Go.Ground.data }, { on := 4, ground := Go.Ground.data }], guard := none }) (v := ?_) rfl (by kernel_rfl) (by kernel_rfl) (by kernel_rfl) (fun _ _ _ h => h) (Or.inl ⟨by rfl, ?_⟩) H0 ?_
        rotate_left
        focus (intro w' hSw; (try dsimp only at hSw); go_simp; (try with_reducible rfl))
        simp only [Act.put, List.setIfInBounds_toArray, List.set_cons_zero, List.set_cons_succ]
        refine wpAnyH_take (i := 6) (oi := { dst := some 23, op := Go.Op.move (Go.Operand.tmp 22), type := 4, pos := "law.go:146", after := #[{ on := 5, ground := Go.Ground.data }, { on := 2, ground := Go.Ground.chain }], guard := none }) (v := ?_) rfl (by kernel_rfl) (by kernel_rfl) (by kernel_rfl) (fun _ _ _ h => h) (Or.inl ⟨by rfl, ?_⟩) H0 ?_
        rotate_left
        focus (intro w' hSw; (try dsimp only at hSw); go_simp; (try with_reducible rfl))
        simp only [Act.put, List.setIfInBounds_toArray, List.set_cons_zero, List.set_cons_succ]
        refine wpAnyH_take (i := 7) (oi := { dst := some 24, op := Go.Op.buildSlice 22 0 #[], type := 22, pos := "law.go:146", after := #[{ on := 6, ground := Go.Ground.guard }], guard := some (6, false) }) (v := undef) rfl (by kernel_rfl) (by kernel_rfl) (by kernel_rfl) (fun _ _ _ h => h) (Or.inr ⟨by rfl, rfl⟩) H0 ?_
        simp only [Act.put, List.setIfInBounds_toArray, List.set_cons_zero, List.set_cons_succ]
        refine wpAnyH_take (i := 8) (oi := { dst := some 25, op := Go.Op.move (Go.Operand.tmp 1), type := 22, pos := "law.go:146", after := #[{ on := 6, ground := Go.Ground.guard }], guard := some (6, false) }) (v := undef) rfl (by kernel_rfl) (by kernel_rfl) (by kernel_rfl) (fun _ _ _ h => h) (Or.inr ⟨by rfl, rfl⟩) H0 ?_
        simp only [Act.put, List.setIfInBounds_toArray, List.set_cons_zero, List.set_cons_succ]
        refine wpAnyH_take (i := 9) (oi := { dst := some 26, op := Go.Op.call { callee := Go.Callee.builtin Go.Builtin.append, args := #[Go.Operand.tmp 24, Go.Operand.tmp 25], argTypes := #[22, 22] }, type := 22, pos := "law.go:146", after := #[{ on := 7, ground := Go.Ground.data }, { on := 8, ground := Go.Ground.data }, { on := 6, ground := Go.Ground.chain }, { on := 6, ground := Go.Ground.guard }], guard := some (6, false) }) (v := undef) rfl (by kernel_rfl) (by kernel_rfl) (by kernel_rfl) (fun _ _ _ h => h) (Or.inr ⟨by rfl, rfl⟩) H0 ?_
        simp only [Act.put, List.setIfInBounds_toArray, List.set_cons_zero, List.set_cons_succ]
        refine wpAnyH_take (i := 10) (oi := { dst := some 27, op := Go.Op.indexAddr 26 (Go.Operand.tmp 5) (Go.Operand.const (Go.Value.int Go.IntKind.i64 0)), type := 0, pos := "law.go:146", after := #[{ on := 6, ground := Go.Ground.guard }], guard := some (6, false) }) (v := undef) rfl (by kernel_rfl) (by kernel_rfl) (by kernel_rfl) (fun _ _ _ h => h) (Or.inr ⟨by rfl, rfl⟩) H0 ?_
        simp only [Act.put, List.setIfInBounds_toArray, List.set_cons_zero, List.set_cons_succ]
        refine wpAnyH_take (i := 11) (oi := { dst := some 28, op := Go.Op.load 25 (Go.Operand.tmp 27), type := 25, pos := "law.go:146", after := #[{ on := 10, ground := Go.Ground.data }, { on := 6, ground := Go.Ground.guard }], guard := some (6, false) }) (v := undef) rfl (by kernel_rfl) (by kernel_rfl) (by kernel_rfl) (fun _ _ _ h => h) (Or.inr ⟨by rfl, rfl⟩) H0 ?_
        simp only [Act.put, List.setIfInBounds_toArray, List.set_cons_zero, List.set_cons_succ]
        refine wpAnyH_take (i := 12) (oi := { dst := some 29, op := Go.Op.indexAddr 26 (Go.Operand.tmp 5) (Go.Operand.const (Go.Value.int Go.IntKind.i64 1)), type := 0, pos := "law.go:146", after := #[{ on := 6, ground := Go.Ground.guard }], guard := some (6, false) }) (v := undef) rfl (by kernel_rfl) (by kernel_rfl) (by kernel_rfl) (fun _ _ _ h => h) (Or.inr ⟨by rfl, rfl⟩) H0 ?_
        simp only [Act.put, List.setIfInBounds_toArray, List.set_cons_zero, List.set_cons_succ]
        refine wpAnyH_take (i := 13) (oi := { dst := some 30, op := Go.Op.load 25 (Go.Operand.tmp 29), type := 25, pos := "law.go:146", after := #[{ on := 12, ground := Go.Ground.data }, { on := 6, ground := Go.Ground.guard }], guard := some (6, false) }) (v := undef) rfl (by kernel_rfl) (by kernel_rfl) (by kernel_rfl) (fun _ _ _ h => h) (Or.inr ⟨by rfl, rfl⟩) H0 ?_
        simp only [Act.put, List.setIfInBounds_toArray, List.set_cons_zero, List.set_cons_succ]
        refine wpAnyH_take (i := 14) (oi := { dst := some 31, op := Go.Op.buildSlice 22 2 #[(0, Go.Operand.tmp 28), (1, Go.Operand.tmp 30)], type := 22, pos := "law.go:146", after := #[{ on := 11, ground := Go.Ground.data }, { on := 13, ground := Go.Ground.data }, { on := 6, ground := Go.Ground.guard }], guard := some (6, false) }) (v := undef) rfl (by kernel_rfl) (by kernel_rfl) (by kernel_rfl) (fun _ _ _ h => h) (Or.inr ⟨by rfl, rfl⟩) H0 ?_
        simp only [Act.put, List.setIfInBounds_toArray, List.set_cons_zero, List.set_cons_succ]
        refine wpAnyH_take (i := 15) (oi := { dst := some 32, op := Go.Op.call { callee := Go.Callee.builtin Go.Builtin.append, args := #[Go.Operand.tmp 26, Go.Operand.tmp 31], argTypes := #[22, 22] }, type := 22, pos := "law.go:146", after := #[{ on := 9, ground := Go.Ground.data }, { on := 14, ground := Go.Ground.data }, { on := 9, ground := Go.Ground.chain }, { on := 6, ground := Go.Ground.guard }], guard := some (6, false) }) (v := undef) rfl (by kernel_rfl) (by kernel_rfl) (by kernel_rfl) (fun _ _ _ h => h) (Or.inr ⟨by rfl, rfl⟩) H0 ?_
        simp only [Act.put, List.setIfInBounds_toArray, List.set_cons_zero, List.set_cons_succ]
        refine wpAnyH_take (i := 16) (oi := { dst := some 33, op := Go.Op.call { callee := Go.Callee.value (Go.Operand.func 5), args := #[Go.Operand.tmp 32, Go.Operand.const (Go.Value.int Go.IntKind.i64 22)], argTypes := #[22, 3] }, type := 4, pos := "law.go:146", after := #[{ on := 15, ground := Go.Ground.data }, { on := 15, ground := Go.Ground.chain }, { on := 6, ground := Go.Ground.guard }], guard := some (6, false) }) (v := undef) rfl (by kernel_rfl) (by kernel_rfl) (by kernel_rfl) (fun _ _ _ h => h) (Or.inr ⟨by rfl, rfl⟩) H0 ?_
        simp only [Act.put, List.setIfInBounds_toArray, List.set_cons_zero, List.set_cons_succ]
        refine wpAnyH_take (i := 17) (oi := { dst := some 34, op := Go.Op.unOp Go.UnOp.not 4 (Go.Operand.tmp 33), type := 4, pos := "law.go:146", after := #[{ on := 16, ground := Go.Ground.data }, { on := 6, ground := Go.Ground.guard }], guard := some (6, false) }) (v := undef) rfl (by kernel_rfl) (by kernel_rfl) (by kernel_rfl) (fun _ _ _ h => h) (Or.inr ⟨by rfl, rfl⟩) H0 ?_
        simp only [Act.put, List.setIfInBounds_toArray, List.set_cons_zero, List.set_cons_succ]
        refine wpAnyH_take (i := 18) (oi := { dst := some 35, op := Go.Op.pick (Go.Operand.tmp 23) (Go.Operand.const (Go.Value.bool true)) (Go.Operand.tmp 34), type := 4, pos := "law.go:146", after := #[{ on := 6, ground := Go.Ground.data }, { on := 17, ground := Go.Ground.data }], guard := none }) (v := ?_) rfl (by kernel_rfl) (by kernel_rfl) (by kernel_rfl) (fun _ _ _ h => h) (Or.inl ⟨by rfl, ?_⟩) H0 ?_
        rotate_left
        focus (intro w' hSw; (try dsimp only at hSw); go_simp; (try with_reducible rfl))
        simp only [Act.put, List.setIfInBounds_toArray, List.set_cons_zero, List.set_cons_succ]
        refine wpAnyH_done (by kernel_rfl) ?_ _
        go_wp2_with fail
        go_meet
        exact ⟨by rw [HBAD.out, hb1, hb2]; rfl, Lib.hid H0⟩
      · have hb2 : decide (12 < n) = false := decide_eq_false h2
        refine wp_region_held_drew (S := fun w' => Below w1.heap.size w1 w') (by kernel_rfl) ((Below.refl _ _).drew) (fun H0 => ?_)
        obtain ⟨wd, hwd⟩ : ∃ wd, w1.drew = wd := ⟨_, rfl⟩
        rw [hwd] at H0 ⊢
        clear hwd
        refine wpAnyH_take (i := 0) (oi := { dst := some 17, op := Go.Op.move (Go.Operand.tmp 0), type := 3, pos := "law.go:146", after := #[], guard := none }) (v := ?_) rfl (by kernel_rfl) (by kernel_rfl) (by kernel_rfl) (fun _ _ _ h => h) (Or.inl ⟨by rfl, ?_⟩) H0 ?_
        rotate_left
        focus (intro w' hSw; (try dsimp only at hSw); go_simp; (try with_reducible rfl))
        simp only [Act.put, List.setIfInBounds_toArray, List.set_cons_zero, List.set_cons_succ]
        refine wpAnyH_take (i := 1) (oi := { dst := some 18, op := Go.Op.binOp Go.BinOp.lss 3 (Go.Operand.tmp 17) (Go.Operand.const (Go.Value.int Go.IntKind.i64 1)) 3, type := 4, pos := "law.go:146", after := #[{ on := 0, ground := Go.Ground.data }], guard := none }) (v := ?_) rfl (by kernel_rfl) (by kernel_rfl) (by kernel_rfl) (fun _ _ _ h => h) (Or.inl ⟨by rfl, ?_⟩) H0 ?_
        rotate_left
        focus (intro w' hSw; (try dsimp only at hSw); go_simp; (try with_reducible rfl))
        simp only [Act.put, List.setIfInBounds_toArray, List.set_cons_zero, List.set_cons_succ]
        refine wpAnyH_take (i := 2) (oi := { dst := some 19, op := Go.Op.move (Go.Operand.tmp 18), type := 4, pos := "law.go:146", after := #[{ on := 1, ground := Go.Ground.data }], guard := none }) (v := ?_) rfl (by kernel_rfl) (by kernel_rfl) (by kernel_rfl) (fun _ _ _ h => h) (Or.inl ⟨by rfl, ?_⟩) H0 ?_
        rotate_left
        focus (intro w' hSw; (try dsimp only at hSw); go_simp; (try with_reducible rfl))
        simp only [Act.put, List.setIfInBounds_toArray, List.set_cons_zero, List.set_cons_succ]
        refine wpAnyH_take (i := 3) (oi := { dst := some 20, op := Go.Op.move (Go.Operand.tmp 0), type := 3, pos := "law.go:146", after := #[{ on := 2, ground := Go.Ground.guard }], guard := some (2, false) }) (v := ?_) rfl (by kernel_rfl) (by kernel_rfl) (by kernel_rfl) (fun _ _ _ h => h) (Or.inl ⟨by rfl, ?_⟩) H0 ?_
        rotate_left
        focus (intro w' hSw; (try dsimp only at hSw); go_simp; (try with_reducible rfl))
        simp only [Act.put, List.setIfInBounds_toArray, List.set_cons_zero, List.set_cons_succ]
        refine wpAnyH_take (i := 4) (oi := { dst := some 21, op := Go.Op.binOp Go.BinOp.gtr 3 (Go.Operand.tmp 20) (Go.Operand.const (Go.Value.int Go.IntKind.i64 12)) 3, type := 4, pos := "law.go:146", after := #[{ on := 3, ground := Go.Ground.data }, { on := 2, ground := Go.Ground.guard }], guard := some (2, false) }) (v := ?_) rfl (by kernel_rfl) (by kernel_rfl) (by kernel_rfl) (fun _ _ _ h => h) (Or.inl ⟨by rfl, ?_⟩) H0 ?_
        rotate_left
        focus (intro w' hSw; (try dsimp only at hSw); go_simp; (try with_reducible rfl))
        simp only [Act.put, List.setIfInBounds_toArray, List.set_cons_zero, List.set_cons_succ]
        refine wpAnyH_take (i := 5) (oi := { dst := some 22, op := Go.Op.pick (Go.Operand.tmp 19) (Go.Operand.const (Go.Value.bool true)) (Go.Operand.tmp 21), type := 4, pos := "law.go:146", after := #[{ on := 2, ground := Go.Ground.data }, { on := 4, ground := Go.Ground.data }], guard := none }) (v := ?_) rfl (by kernel_rfl) (by kernel_rfl) (by kernel_rfl) (fun _ _ _ h => h) (Or.inl ⟨by rfl, ?_⟩) H0 ?_
        rotate_left
        focus (intro w' hSw; (try dsimp only at hSw); go_simp; (try with_reducible rfl))
        simp only [Act.put, List.setIfInBounds_toArray, List.set_cons_zero, List.set_cons_succ]
        refine wpAnyH_take (i := 6) (oi := { dst := some 23, op := Go.Op.move (Go.Operand.tmp 22), type := 4, pos := "law.go:146", after := #[{ on := 5, ground := Go.Ground.data }, { on := 2, ground := Go.Ground.chain }], guard := none }) (v := ?_) rfl (by kernel_rfl) (by kernel_rfl) (by kernel_rfl) (fun _ _ _ h => h) (Or.inl ⟨by rfl, ?_⟩) H0 ?_
        rotate_left
        focus (intro w' hSw; (try dsimp only at hSw); go_simp; (try with_reducible rfl))
        simp only [Act.put, List.setIfInBounds_toArray, List.set_cons_zero, List.set_cons_succ]
        refine wpAnyH_take (i := 8) (oi := { dst := some 25, op := Go.Op.move (Go.Operand.tmp 1), type := 22, pos := "law.go:146", after := #[{ on := 6, ground := Go.Ground.guard }], guard := some (6, false) }) (v := ?_) rfl (by kernel_rfl) (by kernel_rfl) (by kernel_rfl) (fun _ _ _ h => h) (Or.inl ⟨by rfl, ?_⟩) H0 ?_
        rotate_left
        focus (intro w' hSw; (try dsimp only at hSw); go_simp; (try with_reducible rfl))
        simp only [Act.put, List.setIfInBounds_toArray, List.set_cons_zero, List.set_cons_succ]
        refine wpAnyH_take (i := 10) (oi := { dst := some 27, op := Go.Op.indexAddr 26 (Go.Operand.tmp 5) (Go.Operand.const (Go.Value.int Go.IntKind.i64 0)), type := 0, pos := "law.go:146", after := #[{ on := 6, ground := Go.Ground.guard }], guard := some (6, false) }) (v := ?_) rfl (by kernel_rfl) (by kernel_rfl) (by kernel_rfl) (fun _ _ _ h => h) (Or.inl ⟨by rfl, ?_⟩) H0 ?_
        rotate_left
        focus (intro w' hSw; (try dsimp only at hSw); go_simp; (try with_reducible rfl))
        simp only [Act.put, List.setIfInBounds_toArray, List.set_cons_zero, List.set_cons_succ]
        refine wpAnyH_take (i := 11) (oi := { dst := some 28, op := Go.Op.load 25 (Go.Operand.tmp 27), type := 25, pos := "law.go:146", after := #[{ on := 10, ground := Go.Ground.data }, { on := 6, ground := Go.Ground.guard }], guard := some (6, false) }) (v := ?_) rfl (by kernel_rfl) (by kernel_rfl) (by kernel_rfl) (fun _ _ _ h => h) (Or.inl ⟨by rfl, ?_⟩) H0 ?_
        rotate_left
        focus (intro w' hSw; (try dsimp only at hSw); have hr10 := K10.out _ hSw; have k0 := row_at (i := 0) hr10 rfl; have k1 := row_at (i := 1) hr10 rfl; have k2 := row_at (i := 2) hr10 rfl; have k3 := row_at (i := 3) hr10 rfl; have k4 := row_at (i := 4) hr10 rfl; have k5 := row_at (i := 5) hr10 rfl; have k6 := row_at (i := 6) hr10 rfl; have k7 := row_at (i := 7) hr10 rfl; have k8 := row_at (i := 8) hr10 rfl; have k9 := row_at (i := 9) hr10 rfl; go_simp; (try with_reducible rfl))
        simp only [Act.put, List.setIfInBounds_toArray, List.set_cons_zero, List.set_cons_succ]
        refine wpAnyH_take (i := 12) (oi := { dst := some 29, op := Go.Op.indexAddr 26 (Go.Operand.tmp 5) (Go.Operand.const (Go.Value.int Go.IntKind.i64 1)), type := 0, pos := "law.go:146", after := #[{ on := 6, ground := Go.Ground.guard }], guard := some (6, false) }) (v := ?_) rfl (by kernel_rfl) (by kernel_rfl) (by kernel_rfl) (fun _ _ _ h => h) (Or.inl ⟨by rfl, ?_⟩) H0 ?_
        rotate_left
        focus (intro w' hSw; (try dsimp only at hSw); go_simp; (try with_reducible rfl))
        simp only [Act.put, List.setIfInBounds_toArray, List.set_cons_zero, List.set_cons_succ]
        refine wpAnyH_take (i := 13) (oi := { dst := some 30, op := Go.Op.load 25 (Go.Operand.tmp 29), type := 25, pos := "law.go:146", after := #[{ on := 12, ground := Go.Ground.data }, { on := 6, ground := Go.Ground.guard }], guard := some (6, false) }) (v := ?_) rfl (by kernel_rfl) (by kernel_rfl) (by kernel_rfl) (fun _ _ _ h => h) (Or.inl ⟨by rfl, ?_⟩) H0 ?_
        rotate_left
        focus (intro w' hSw; (try dsimp only at hSw); have hr10 := K10.out _ hSw; have k0 := row_at (i := 0) hr10 rfl; have k1 := row_at (i := 1) hr10 rfl; have k2 := row_at (i := 2) hr10 rfl; have k3 := row_at (i := 3) hr10 rfl; have k4 := row_at (i := 4) hr10 rfl; have k5 := row_at (i := 5) hr10 rfl; have k6 := row_at (i := 6) hr10 rfl; have k7 := row_at (i := 7) hr10 rfl; have k8 := row_at (i := 8) hr10 rfl; have k9 := row_at (i := 9) hr10 rfl; go_simp; (try with_reducible rfl))
        simp only [Act.put, List.setIfInBounds_toArray, List.set_cons_zero, List.set_cons_succ]
        refine wpAnyH_ready (rs := [7, 14]) (by kernel_rfl) (by simp) ?_
        refine (AllReadyH.cons (o := { dst := some 24, op := Go.Op.buildSlice 22 0 #[], type := 22, pos := "law.go:146", after := #[{ on := 6, ground := Go.Ground.guard }], guard := some (6, false) }) rfl (fun K hK => ?_) (AllReadyH.cons (o := { dst := some 31, op := Go.Op.buildSlice 22 2 #[(0, Go.Operand.tmp 28), (1, Go.Operand.tmp 30)], type := 22, pos := "law.go:146", after := #[{ on := 11, ground := Go.Ground.data }, { on := 13, ground := Go.Ground.data }, { on := 6, ground := Go.Ground.guard }], guard := some (6, false) }) rfl (fun K hK => ?_) AllReadyH.nil))
        · skip
          go_simp
          have hr3 := rowX_empty wd
          have hs4 : Hid ((wd.alloc (.cells #[] 25)).heap.size = wd.heap.size + 1) := Lib.hid (by simp)
          obtain ⟨wm1, hwm1⟩ : ∃ wz, wd.alloc (.cells #[] 25) = wz := ⟨_, rfl⟩
          rw [hwm1] at hr3 hs4 ⊢
          refine hK.out _ _ (below_any H0 hr3.2) (fun Hm2 => ?_)
          clear hwm1
          clear hK K
          try simp only [Act.put, List.setIfInBounds_toArray, List.set_cons_zero, List.set_cons_succ]
          refine wpAnyH_ready (rs := [9, 14]) (by kernel_rfl) (by simp) ?_
          refine (AllReadyH.cons (o := { dst := some 26, op := Go.Op.call { callee := Go.Callee.builtin Go.Builtin.append, args := #[Go.Operand.tmp 24, Go.Operand.tmp 25], argTypes := #[22, 22] }, type := 22, pos := "law.go:146", after := #[{ on := 7, ground := Go.Ground.data }, { on := 8, ground := Go.Ground.data }, { on := 6, ground := Go.Ground.chain }, { on := 6, ground := Go.Ground.guard }], guard := some (6, false) }) rfl (fun K hK => ?_) (AllReadyH.cons (o := { dst := some 31, op := Go.Op.buildSlice 22 2 #[(0, Go.Operand.tmp 28), (1, Go.Operand.tmp 30)], type := 22, pos := "law.go:146", after := #[{ on := 11, ground := Go.Ground.data }, { on := 13, ground := Go.Ground.data }, { on := 6, ground := Go.Ground.guard }], guard := some (6, false) }) rfl (fun K hK => ?_) AllReadyH.nil))
          · skip
            refine step_append_acts (by rfl) (.tmp 24) (.tmp 25) rfl rfl hr3 rfl HQ.out (HL.out.below Hm2) HN.out ?_
            intro v10 wm6 hr8 hgr9
            rw [List.nil_append] at hr8
            refine hK.out _ _ (below_any H0 hr8.2) (fun Hm7 => ?_)
            clear hK K
            try simp only [Act.put, List.setIfInBounds_toArray, List.set_cons_zero, List.set_cons_succ]
            refine wpAnyH_ready (rs := [14]) (by kernel_rfl) (by simp) ?_
            refine (AllReadyH.cons (o := { dst := some 31, op := Go.Op.buildSlice 22 2 #[(0, Go.Operand.tmp 28), (1, Go.Operand.tmp 30)], type := 22, pos := "law.go:146", after := #[{ on := 11, ground := Go.Ground.data }, { on := 13, ground := Go.Ground.data }, { on := 6, ground := Go.Ground.guard }], guard := some (6, false) }) rfl (fun K hK => ?_) AllReadyH.nil)
            · skip
              go_simp
              have ha13 := actsAt_two wm6 x0 x1
              have hs14 : Hid ((wm6.alloc (.cells #[.int .i64 x0.what, .int .i64 x0.place, .int .i64 x0.n, .int .u8 x0.byte, .slice x0.kp x0.keep.length x0.kc, .int .i64 x1.what, .int .i64 x1.place, .int .i64 x1.n, .int .u8 x1.byte, .slice x1.kp x1.keep.length x1.kc] 25)).heap.size = wm6.heap.size + 1) := Lib.hid (by simp)
              have hb15 : Below wm6.heap.size wm6 (wm6.alloc (.cells #[.int .i64 x0.what, .int .i64 x0.place, .int .i64 x0.n, .int .u8 x0.byte, .slice x0.kp x0.keep.length x0.kc, .int .i64 x1.what, .int .i64 x1.place, .int .i64 x1.n, .int .u8 x1.byte, .slice x1.kp x1.keep.length x1.kc] 25)) := (Below.refl _ _).alloc (Nat.le_refl _) _
              obtain ⟨wm11, hwm11⟩ : ∃ wz, wm6.alloc (.cells #[.int .i64 x0.what, .int .i64 x0.place, .int .i64 x0.n, .int .u8 x0.byte, .slice x0.kp x0.keep.length x0.kc, .int .i64 x1.what, .int .i64 x1.place, .int .i64 x1.n, .int .u8 x1.byte, .slice x1.kp x1.keep.length x1.kc] 25) = wz := ⟨_, rfl⟩
              rw [hwm11] at ha13 hs14 hb15 ⊢
              have hr16 := hr8.later hb15
              refine hK.out _ _ (below_any Hm7 hb15) (fun Hm12 => ?_)
              clear hwm11
              clear hK K
              try simp only [Act.put, List.setIfInBounds_toArray, List.set_cons_zero, List.set_cons_succ]
              refine wpAnyH_ready (rs := [15]) (by kernel_rfl) (by simp) ?_
              refine (AllReadyH.cons (o := { dst := some 32, op := Go.Op.call { callee := Go.Callee.builtin Go.Builtin.append, args := #[Go.Operand.tmp 26, Go.Operand.tmp 31], argTypes := #[22, 22] }, type := 22, pos := "law.go:146", after := #[{ on := 9, ground := Go.Ground.data }, { on := 14, ground := Go.Ground.data }, { on := 9, ground := Go.Ground.chain }, { on := 6, ground := Go.Ground.guard }], guard := some (6, false) }) rfl (fun K hK => ?_) AllReadyH.nil)
              · skip
                refine step_append_acts (m := [x0, x1]) (by rfl) (.tmp 26) (.tmp 31) rfl rfl hr16 rfl (fun h => nomatch h) ha13 HN2.out ?_
                intro v21 wm17 hr19 hgr20
                obtain ⟨pq22, cq23, rfl, h124, h225, ha26⟩ := hr19.at'
                refine hK.out _ _ (below_any H0 hr19.2) (fun Hm18 => ?_)
                clear hK K
                try simp only [Act.put, List.setIfInBounds_toArray, List.set_cons_zero, List.set_cons_succ]
                refine wpAnyH_ready (rs := [16]) (by kernel_rfl) (by simp) ?_
                refine (AllReadyH.cons (o := { dst := some 33, op := Go.Op.call { callee := Go.Callee.value (Go.Operand.func 5), args := #[Go.Operand.tmp 32, Go.Operand.const (Go.Value.int Go.IntKind.i64 22)], argTypes := #[22, 3] }, type := 4, pos := "law.go:146", after := #[{ on := 15, ground := Go.Ground.data }, { on := 15, ground := Go.Ground.chain }, { on := 6, ground := Go.Ground.guard }], guard := some (6, false) }) rfl (fun K hK => ?_) AllReadyH.nil)
                · skip
                  go_simp
                  have hfew := few_any (l ++ [x0, x1]) pq22 cq23 22 wm17 (by have := HN2.out; simp only [List.length_append, List.length_cons, List.length_nil] at this ⊢; omega) (Lib.hid ha26)
                  rw [HLEN.out] at hfew
                  (go_at_call 5; (with_reducible refine hfew.mono ?_); rintro e wn ⟨rfl, rfl⟩)
                  try go_wp2_with fail
                  refine hK.out _ _ Hm18 (fun Hm28 => ?_)
                  clear hK K
                  try simp only [Act.put, List.setIfInBounds_toArray, List.set_cons_zero, List.set_cons_succ]
                  refine wpAnyH_take (i := 17) (oi := { dst := some 34, op := Go.Op.unOp Go.UnOp.not 4 (Go.Operand.tmp 33), type := 4, pos := "law.go:146", after := #[{ on := 16, ground := Go.Ground.data }, { on := 6, ground := Go.Ground.guard }], guard := some (6, false) }) (v := ?_) rfl (by kernel_rfl) (by kernel_rfl) (by kernel_rfl) (fun _ _ _ h => h) (Or.inl ⟨by rfl, ?_⟩) Hm18 ?_
                  rotate_left
                  focus (intro w' hSw; (try dsimp only at hSw); go_simp; (try with_reducible rfl))
                  simp only [Act.put, List.setIfInBounds_toArray, List.set_cons_zero, List.set_cons_succ]
                  refine wpAnyH_take (i := 18) (oi := { dst := some 35, op := Go.Op.pick (Go.Operand.tmp 23) (Go.Operand.const (Go.Value.bool true)) (Go.Operand.tmp 34), type := 4, pos := "law.go:146", after := #[{ on := 6, ground := Go.Ground.data }, { on := 17, ground := Go.Ground.data }], guard := none }) (v := ?_) rfl (by kernel_rfl) (by kernel_rfl) (by kernel_rfl) (fun _ _ _ h => h) (Or.inl ⟨by rfl, ?_⟩) Hm18 ?_
                  rotate_left
                  focus (intro w' hSw; (try dsimp only at hSw); go_simp; (try with_reducible rfl))
                  simp only [Act.put, List.setIfInBounds_toArray, List.set_cons_zero, List.set_cons_succ]
                  refine wpAnyH_done (by kernel_rfl) ?_ _
                  go_wp2_with fail
                  go_meet
                  exact ⟨by rw [HBAD.out, hb1, hb2]; rfl, Lib.hid Hm18⟩
          · skip
            go_simp
            have ha31 := actsAt_two wm1 x0 x1
            have hs32 : Hid ((wm1.alloc (.cells #[.int .i64 x0.what, .int .i64 x0.place, .int .i64 x0.n, .int .u8 x0.byte, .slice x0.kp x0.keep.length x0.kc, .int .i64 x1.what, .int .i64 x1.place, .int .i64 x1.n, .int .u8 x1.byte, .slice x1.kp x1.keep.length x1.kc] 25)).heap.size = wm1.heap.size + 1) := Lib.hid (by simp)
            have hb33 : Below wm1.heap.size wm1 (wm1.alloc (.cells #[.int .i64 x0.what, .int .i64 x0.place, .int .i64 x0.n, .int .u8 x0.byte, .slice x0.kp x0.keep.length x0.kc, .int .i64 x1.what, .int .i64 x1.place, .int .i64 x1.n, .int .u8 x1.byte, .slice x1.kp x1.keep.length x1.kc] 25)) := (Below.refl _ _).alloc (Nat.le_refl _) _
            obtain ⟨wm29, hwm29⟩ : ∃ wz, wm1.alloc (.cells #[.int .i64 x0.what, .int .i64 x0.place, .int .i64 x0.n, .int .u8 x0.byte, .slice x0.kp x0.keep.length x0.kc, .int .i64 x1.what, .int .i64 x1.place, .int .i64 x1.n, .int .u8 x1.byte, .slice x1.kp x1.keep.length x1.kc] 25) = wz := ⟨_, rfl⟩
            rw [hwm29] at ha31 hs32 hb33 ⊢
            have hr34 := hr3.later hb33
            refine hK.out _ _ (below_any Hm2 hb33) (fun Hm30 => ?_)
            clear hwm29
            clear hK K
            try simp only [Act.put, List.setIfInBounds_toArray, List.set_cons_zero, List.set_cons_succ]
            refine wpAnyH_ready (rs := [9]) (by kernel_rfl) (by simp) ?_
            refine (AllReadyH.cons (o := { dst := some 26, op := Go.Op.call { callee := Go.Callee.builtin Go.Builtin.append, args := #[Go.Operand.tmp 24, Go.Operand.tmp 25], argTypes := #[22, 22] }, type := 22, pos := "law.go:146", after := #[{ on := 7, ground := Go.Ground.data }, { on := 8, ground := Go.Ground.data }, { on := 6, ground := Go.Ground.chain }, { on := 6, ground := Go.Ground.guard }], guard := some (6, false) }) rfl (fun K hK => ?_) AllReadyH.nil)
            · skip
              refine step_append_acts (by rfl) (.tmp 24) (.tmp 25) rfl rfl hr34 rfl HQ.out (HL.out.below Hm30) HN.out ?_
              intro v39 wm35 hr37 hgr38
              rw [List.nil_append] at hr37
              have ha40 : ActsAt wm35 (some ⟨wm1.heap.size, 0, none⟩) [x0, x1] := actsAt_grown ha31 hgr38 (by have := hs4.out; have := hs32.out; intro e; injection e with e; simp only at e; omega)
              refine hK.out _ _ (below_any H0 hr37.2) (fun Hm36 => ?_)
              clear hK K
              try simp only [Act.put, List.setIfInBounds_toArray, List.set_cons_zero, List.set_cons_succ]
              refine wpAnyH_ready (rs := [15]) (by kernel_rfl) (by simp) ?_
              refine (AllReadyH.cons (o := { dst := some 32, op := Go.Op.call { callee := Go.Callee.builtin Go.Builtin.append, args := #[Go.Operand.tmp 26, Go.Operand.tmp 31], argTypes := #[22, 22] }, type := 22, pos := "law.go:146", after := #[{ on := 9, ground := Go.Ground.data }, { on := 14, ground := Go.Ground.data }, { on := 9, ground := Go.Ground.chain }, { on := 6, ground := Go.Ground.guard }], guard := some (6, false) }) rfl (fun K hK => ?_) AllReadyH.nil)
              · skip
                refine step_append_acts (m := [x0, x1]) (by rfl) (.tmp 26) (.tmp 31) rfl rfl hr37 rfl (fun h => nomatch h) ha40 HN2.out ?_
                intro v45 wm41 hr43 hgr44
                obtain ⟨pq46, cq47, rfl, h148, h249, ha50⟩ := hr43.at'
                refine hK.out _ _ (below_any H0 hr43.2) (fun Hm42 => ?_)
                clear hK K
                try simp only [Act.put, List.setIfInBounds_toArray, List.set_cons_zero, List.set_cons_succ]
                refine wpAnyH_ready (rs := [16]) (by kernel_rfl) (by simp) ?_
                refine (AllReadyH.cons (o := { dst := some 33, op := Go.Op.call { callee := Go.Callee.value (Go.Operand.func 5), args := #[Go.Operand.tmp 32, Go.Operand.const (Go.Value.int Go.IntKind.i64 22)], argTypes := #[22, 3] }, type := 4, pos := "law.go:146", after := #[{ on := 15, ground := Go.Ground.data }, { on := 15, ground := Go.Ground.chain }, { on := 6, ground := Go.Ground.guard }], guard := some (6, false) }) rfl (fun K hK => ?_) AllReadyH.nil)
                · skip
                  go_simp
                  have hfew := few_any (l ++ [x0, x1]) pq46 cq47 22 wm41 (by have := HN2.out; simp only [List.length_append, List.length_cons, List.length_nil] at this ⊢; omega) (Lib.hid ha50)
                  rw [HLEN.out] at hfew
                  (go_at_call 5; (with_reducible refine hfew.mono ?_); rintro e wn ⟨rfl, rfl⟩)
                  try go_wp2_with fail
                  refine hK.out _ _ Hm42 (fun Hm52 => ?_)
                  clear hK K
                  try simp only [Act.put, List.setIfInBounds_toArray, List.set_cons_zero, List.set_cons_succ]
                  refine wpAnyH_take (i := 17) (oi := { dst := some 34, op := Go.Op.unOp Go.UnOp.not 4 (Go.Operand.tmp 33), type := 4, pos := "law.go:146", after := #[{ on := 16, ground := Go.Ground.data }, { on := 6, ground := Go.Ground.guard }], guard := some (6, false) }) (v := ?_) rfl (by kernel_rfl) (by kernel_rfl) (by kernel_rfl) (fun _ _ _ h => h) (Or.inl ⟨by rfl, ?_⟩) Hm42 ?_
                  rotate_left
                  focus (intro w' hSw; (try dsimp only at hSw); go_simp; (try with_reducible rfl))
                  simp only [Act.put, List.setIfInBounds_toArray, List.set_cons_zero, List.set_cons_succ]
                  refine wpAnyH_take (i := 18) (oi := { dst := some 35, op := Go.Op.pick (Go.Operand.tmp 23) (Go.Operand.const (Go.Value.bool true)) (Go.Operand.tmp 34), type := 4, pos := "law.go:146", after := #[{ on := 6, ground := Go.Ground.data }, { on := 17, ground := Go.Ground.data }], guard := none }) (v := ?_) rfl (by kernel_rfl) (by kernel_rfl) (by kernel_rfl) (fun _ _ _ h => h) (Or.inl ⟨by rfl, ?_⟩) Hm42 ?_
                  rotate_left
                  focus (intro w' hSw; (try dsimp only at hSw); go_simp; (try with_reducible rfl))
                  simp only [Act.put, List.setIfInBounds_toArray, List.set_cons_zero, List.set_cons_succ]
                  refine wpAnyH_done (by kernel_rfl) ?_ _
                  go_wp2_with fail
                  go_meet
                  exact ⟨by rw [HBAD.out, hb1, hb2]; rfl, Lib.hid Hm42⟩
        · skip
          go_simp
          have ha55 := actsAt_two wd x0 x1
          have hs56 : Hid ((wd.alloc (.cells #[.int .i64 x0.what, .int .i64 x0.place, .int .i64 x0.n, .int .u8 x0.byte, .slice x0.kp x0.keep.length x0.kc, .int .i64 x1.what, .int .i64 x1.place, .int .i64 x1.n, .int .u8 x1.byte, .slice x1.kp x1.keep.length x1.kc] 25)).heap.size = wd.heap.size + 1) := Lib.hid (by simp)
          have hb57 : Below wd.heap.size wd (wd.alloc (.cells #[.int .i64 x0.what, .int .i64 x0.place, .int .i64 x0.n, .int .u8 x0.byte, .slice x0.kp x0.keep.length x0.kc, .int .i64 x1.what, .int .i64 x1.place, .int .i64 x1.n, .int .u8 x1.byte, .slice x1.kp x1.keep.length x1.kc] 25)) := (Below.refl _ _).alloc (Nat.le_refl _) _
          obtain ⟨wm53, hwm53⟩ : ∃ wz, wd.alloc (.cells #[.int .i64 x0.what, .int .i64 x0.place, .int .i64 x0.n, .int .u8 x0.byte, .slice x0.kp x0.keep.length x0.kc, .int .i64 x1.what, .int .i64 x1.place, .int .i64 x1.n, .int .u8 x1.byte, .slice x1.kp x1.keep.length x1.kc] 25) = wz := ⟨_, rfl⟩
          rw [hwm53] at ha55 hs56 hb57 ⊢
          refine hK.out _ _ (below_any H0 hb57) (fun Hm54 => ?_)
          clear hwm53
          clear hK K
          try simp only [Act.put, List.setIfInBounds_toArray, List.set_cons_zero, List.set_cons_succ]
          refine wpAnyH_ready (rs := [7]) (by kernel_rfl) (by simp) ?_
          refine (AllReadyH.cons (o := { dst := some 24, op := Go.Op.buildSlice 22 0 #[], type := 22, pos := "law.go:146", after := #[{ on := 6, ground := Go.Ground.guard }], guard := some (6, false) }) rfl (fun K hK => ?_) AllReadyH.nil)
          · skip
            go_simp
            have hr60 := rowX_empty wm53
            have hs61 : Hid ((wm53.alloc (.cells #[] 25)).heap.size = wm53.heap.size + 1) := Lib.hid (by simp)
            obtain ⟨wm58, hwm58⟩ : ∃ wz, wm53.alloc (.cells #[] 25) = wz := ⟨_, rfl⟩
            rw [hwm58] at hr60 hs61 ⊢
            have ha63 := ha55.below hr60.2
            refine hK.out _ _ (below_any Hm54 hr60.2) (fun Hm59 => ?_)
            clear hwm58
            clear hK K
            try simp only [Act.put, List.setIfInBounds_toArray, List.set_cons_zero, List.set_cons_succ]
            refine wpAnyH_ready (rs := [9]) (by kernel_rfl) (by simp) ?_
            refine (AllReadyH.cons (o := { dst := some 26, op := Go.Op.call { callee := Go.Callee.builtin Go.Builtin.append, args := #[Go.Operand.tmp 24, Go.Operand.tmp 25], argTypes := #[22, 22] }, type := 22, pos := "law.go:146", after := #[{ on := 7, ground := Go.Ground.data }, { on := 8, ground := Go.Ground.data }, { on := 6, ground := Go.Ground.chain }, { on := 6, ground := Go.Ground.guard }], guard := some (6, false) }) rfl (fun K hK => ?_) AllReadyH.nil)
            · skip
              refine step_append_acts (by rfl) (.tmp 24) (.tmp 25) rfl rfl hr60 rfl HQ.out (HL.out.below Hm59) HN.out ?_
              intro v68 wm64 hr66 hgr67
              rw [List.nil_append] at hr66
              have ha69 : ActsAt wm64 (some ⟨wd.heap.size, 0, none⟩) [x0, x1] := actsAt_grown ha63 hgr67 (by have := hs56.out; have := hs61.out; intro e; injection e with e; simp only at e; omega)
              refine hK.out _ _ (below_any Hm54 hr66.2) (fun Hm65 => ?_)
              clear hK K
              try simp only [Act.put, List.setIfInBounds_toArray, List.set_cons_zero, List.set_cons_succ]
              refine wpAnyH_ready (rs := [15]) (by kernel_rfl) (by simp) ?_
              refine (AllReadyH.cons (o := { dst := some 32, op := Go.Op.call { callee := Go.Callee.builtin Go.Builtin.append, args := #[Go.Operand.tmp 26, Go.Operand.tmp 31], argTypes := #[22, 22] }, type := 22, pos := "law.go:146", after := #[{ on := 9, ground := Go.Ground.data }, { on := 14, ground := Go.Ground.data }, { on := 9, ground := Go.Ground.chain }, { on := 6, ground := Go.Ground.guard }], guard := some (6, false) }) rfl (fun K hK => ?_) AllReadyH.nil)
              · skip
                refine step_append_acts (m := [x0, x1]) (by rfl) (.tmp 26) (.tmp 31) rfl rfl hr66 rfl (fun h => nomatch h) ha69 HN2.out ?_
                intro v74 wm70 hr72 hgr73
                obtain ⟨pq75, cq76, rfl, h177, h278, ha79⟩ := hr72.at'
                refine hK.out _ _ (below_any Hm54 hr72.2) (fun Hm71 => ?_)
                clear hK K
                try simp only [Act.put, List.setIfInBounds_toArray, List.set_cons_zero, List.set_cons_succ]
                refine wpAnyH_ready (rs := [16]) (by kernel_rfl) (by simp) ?_
                refine (AllReadyH.cons (o := { dst := some 33, op := Go.Op.call { callee := Go.Callee.value (Go.Operand.func 5), args := #[Go.Operand.tmp 32, Go.Operand.const (Go.Value.int Go.IntKind.i64 22)], argTypes := #[22, 3] }, type := 4, pos := "law.go:146", after := #[{ on := 15, ground := Go.Ground.data }, { on := 15, ground := Go.Ground.chain }, { on := 6, ground := Go.Ground.guard }], guard := some (6, false) }) rfl (fun K hK => ?_) AllReadyH.nil)
                · skip
                  go_simp
                  have hfew := few_any (l ++ [x0, x1]) pq75 cq76 22 wm70 (by have := HN2.out; simp only [List.length_append, List.length_cons, List.length_nil] at this ⊢; omega) (Lib.hid ha79)
                  rw [HLEN.out] at hfew
                  (go_at_call 5; (with_reducible refine hfew.mono ?_); rintro e wn ⟨rfl, rfl⟩)
                  try go_wp2_with fail
                  refine hK.out _ _ Hm71 (fun Hm81 => ?_)
                  clear hK K
                  try simp only [Act.put, List.setIfInBounds_toArray, List.set_cons_zero, List.set_cons_succ]
                  refine wpAnyH_take (i := 17) (oi := { dst := some 34, op := Go.Op.unOp Go.UnOp.not 4 (Go.Operand.tmp 33), type := 4, pos := "law.go:146", after := #[{ on := 16, ground := Go.Ground.data }, { on := 6, ground := Go.Ground.guard }], guard := some (6, false) }) (v := ?_) rfl (by kernel_rfl) (by kernel_rfl) (by kernel_rfl) (fun _ _ _ h => h) (Or.inl ⟨by rfl, ?_⟩) Hm71 ?_
                  rotate_left
                  focus (intro w' hSw; (try dsimp only at hSw); go_simp; (try with_reducible rfl))
                  simp only [Act.put, List.setIfInBounds_toArray, List.set_cons_zero, List.set_cons_succ]
                  refine wpAnyH_take (i := 18) (oi := { dst := some 35, op := Go.Op.pick (Go.Operand.tmp 23) (Go.Operand.const (Go.Value.bool true)) (Go.Operand.tmp 34), type := 4, pos := "law.go:146", after := #[{ on := 6, ground := Go.Ground.data }, { on := 17, ground := Go.Ground.data }], guard := none }) (v := ?_) rfl (by kernel_rfl) (by kernel_rfl) (by kernel_rfl) (fun _ _ _ h => h) (Or.inl ⟨by rfl, ?_⟩) Hm71 ?_
                  rotate_left
                  focus (intro w' hSw; (try dsimp only at hSw); go_simp; (try with_reducible rfl))
                  simp only [Act.put, List.setIfInBounds_toArray, List.set_cons_zero, List.set_cons_succ]
                  refine wpAnyH_done (by kernel_rfl) ?_ _
                  go_wp2_with fail
                  go_meet
                  exact ⟨by rw [HBAD.out, hb1, hb2]; rfl, Lib.hid Hm71⟩
  case rest =>
    obtain ⟨rfl, HBX⟩ := hcut
    rename World => w2
    have HB2 := Lib.hid (below_any HBB.out HBX.out)
    have NM := Lib.hid num_any
    cases bad with
    | true =>
      go_wp2_with (go_at_call 6; refine (works_any diskOk _).mono ?_; rintro e w3 ⟨rfl, hb3⟩; have HW3 := Lib.hid hb3; clear hb3)
      go_ret
      exact ⟨rfl, below_any HB2.out HW3.out⟩
    | false =>
    have hbb := HBAD.out
    simp only [Bool.false_eq, Bool.or_eq_false_iff, decide_eq_false_iff_not, Bool.not_eq_false'] at hbb
    obtain ⟨⟨hn1, hn2⟩, hfw⟩ := hbb
    obtain ⟨hl20, hk0, hk1, hk2⟩ := fewB_parts hfw
    obtain ⟨m, rfl⟩ := Int.eq_ofNat_of_zero_le (show 0 ≤ n by omega)
    have hm : 1 ≤ m ∧ m ≤ 12 := by omega
    have r10 := K10.out _ HBX.out
    have HK0 := Lib.hid hk0
    have HK12 := Lib.hid (And.intro hk1 hk2)
    have HL2 := Lib.hid (HL.out.below HBX.out)
    have S2 : Hid (w.heap.size < w2.heap.size) := Lib.hid (Array.getElem?_eq_some_iff.1 r10).1
    have HR10 := Lib.hid r10
    obtain ⟨s0, hs0⟩ : ∃ s, newS m = s := ⟨_, rfl⟩
    have HF0 : Hid (Fit s0 0) := Lib.hid (hs0 ▸ Fit.new ⟨hm.1, by omega⟩)
    have C7 := Lib.hid (diskOk.new m w2 ⟨hm.1, by omega⟩)
    have C8 := Lib.hid fun w => refNew_any m w
    have hRA := fun w => refAt_new w m
    rw [hs0] at C7 C8 hRA
    have HRA := Lib.hid hRA
    simp only [refV] at C8
    clear hbad HBAD hn1 hn2 hfw hk0 hk1 hk2 r10 K10 HL HBX S1 HN HN2 HLEN hs0 hRA
    go_upto_region 4 with (go_at_call 7; (with_reducible refine C7.out.mono ?_); rintro e w3 ⟨d0, F0, rfl, hR0, hFN, hb3⟩; have HN3 := Lib.hid (And.intro hR0 (And.intro hFN hb3)); clear hR0 hFN hb3)
    go_upto_region 5 with (go_at_call 8; (with_reducible refine (C8.out _).mono ?_); rintro e w4 ⟨rfl, hb4⟩; have HB4 := Lib.hid hb4; clear hb4)
    obtain ⟨w5, hw5⟩ : ∃ w5, w4.alloc (.cells (refC s0 none 0 none 0) 35) = w5 := ⟨_, rfl⟩
    have b45 : Below w4.heap.size w4 w5 := by rw [← hw5]; exact (Below.refl _ _).alloc (Nat.le_refl _) _
    have b25 : Below w2.heap.size w2 w5 := below_any (below_any HN3.out.2.2 HB4.out) b45
    have r9 : w5.heap[w4.heap.size]? = some (.cells (refC s0 none 0 none 0) 35 (0, 0)) := by rw [← hw5]; exact World.alloc_heap_new w4 _
    obtain ⟨A9, hA9⟩ : ∃ A, w4.heap.size = A := ⟨_, rfl⟩
    have LS : LoopSt w w5 A9 #[.int .i64 x0.what, .int .i64 x0.place, .int .i64 x0.n, .int .u8 x0.byte, .slice x0.kp x0.keep.length x0.kc, .int .i64 x1.what, .int .i64 x1.place, .int .i64 x1.n, .int .u8 x1.byte, .slice x1.kp x1.keep.length x1.kc] d0 s0 F0 none 0 none 0 := by
      have low := diskOk.low _ _ _ _ HN3.out.1
      have h34 := HB4.out.size
      have h23 := HN3.out.2.2.size
      have h2 := S2.out
      refine ⟨⟨diskOk.keep _ _ _ _ _ HN3.out.1 (Nat.le_trans h34 b45.size) (fun k hk => (b45.block k (by have := low k hk; omega)).trans (HB4.out.block k (low k hk))), HRA.out _, (fun B off e => by rcases e with e | e <;> cases e)⟩, fun k hk => ?_, hA9 ▸ r9, (fun B off e => by rcases e with e | e <;> cases e), below_any HB2.out b25, (b25.block _ h2).trans HR10.out, by omega⟩
      have h5 := low k hk
      have h6 := HN3.out.2.1 k hk
      omega
    have HLS0 := Lib.hid LS
    have HB25 := Lib.hid b25
    try rw [hw5]
    try rw [hA9]
    clear b45 b25 r9 LS hw5 C7 C8 HRA HN3 HB4 hA9
    go_wp2_with fail
    go_loopw [7, 10] (fun d i wr => ∃ (k : Nat) (s : DS) (F : Nat → Prop) (p2 : Option Addr) (c2 : Nat) (q2 : Option Addr) (d2 : Nat), k ≤ l.length ∧ i = .int .i64 k ∧ Hid (LoopSt w wr A9 #[.int .i64 x0.what, .int .i64 x0.place, .int .i64 x0.n, .int .u8 x0.byte, .slice x0.kp x0.keep.length x0.kc, .int .i64 x1.what, .int .i64 x1.place, .int .i64 x1.n, .int .u8 x1.byte, .slice x1.kp x1.keep.length x1.kc] d s F p2 c2 q2 d2) ∧ Hid (Fit s k)) (fun _ i _ => (l.length - intOf i).toNat)
    case atStart => exact ⟨0, s0, F0, none, 0, none, 0, Nat.zero_le _, rfl, HLS0, HF0⟩
    case round =>
      obtain ⟨k, s, F, p2, c2, q2, d2, hk, rfl, HLS, HFT⟩ := hrel
      by_cases hlt : k < l.length
      · obtain ⟨x, hx⟩ : ∃ x, l[k]? = some x := ⟨_, List.getElem?_eq_getElem hlt⟩
        have hxm : x ∈ l := List.mem_of_getElem? hx
        obtain ⟨Bl, off, rfl, hact⟩ := HL2.out k x hx
        have hbr := HLS.out.below
        have hAX := HA.out x (.inl hxm)
        have hoF : ∀ j, F j → w.heap.size ≤ j := fun j hj => Nat.le_of_lt (HLS.out.own j hj).1
        have hdr := (Below.refl wr.heap.size wr).drew
        have HACT := Lib.hid (act_any diskOk (HLS.out.pair.below hdr) (n := k) (by omega) HFT.out (hAX.into (HK0.out x hxm) hoF (hbr.trans (hdr.mono hbr.size))))
        simp only [refV, actV] at HACT
        have HLT := Lib.hid HLS.out.lt
        have HR9 : Hid (wr.drew.heap[A9]? = some (.cells (refC s p2 c2 q2 d2) 35 (0, 0))) := Lib.hid ((hdr.block _ HLT.out).trans HLS.out.row)
        have hactw := HACTS.out k x hx
        have KL : Hid (∀ w', Apart (fun k => F k ∨ k = A9) wr w' → w'.cell? ⟨Bl, off + k * 5, none⟩ = some (.int .i64 x.what) ∧ w'.cell? ⟨Bl, off + k * 5 + 1, none⟩ = some (.int .i64 x.place) ∧ w'.cell? ⟨Bl, off + k * 5 + 2, none⟩ = some (.int .i64 x.n) ∧ w'.cell? ⟨Bl, off + k * 5 + 3, none⟩ = some (.int .u8 x.byte) ∧ w'.cell? ⟨Bl, off + k * 5 + 4, none⟩ = some (.slice x.kp x.keep.length x.kc)) := Lib.hid fun w' h => by
          obtain ⟨B', off', e', ha⟩ := hactw
          injection e' with e'
          injection e' with e1 e2
          subst e1 e2
          have hlw : Bl < w.heap.size := lt_of_cell_some ha.x0
          have e := (h.block Bl (Nat.lt_of_lt_of_le hlw hbr.size) (fun f => f.elim (fun f => by have := (HLS.out.own _ f).1; omega) (fun f => by have := HLS.out.a9; omega))).trans (hbr.block Bl hlw)
          exact ⟨(World.cell?_of_block (a := ⟨Bl, _, none⟩) e).trans ha.x0, (World.cell?_of_block (a := ⟨Bl, _, none⟩) e).trans ha.x1, (World.cell?_of_block (a := ⟨Bl, _, none⟩) e).trans ha.x2, (World.cell?_of_block (a := ⟨Bl, _, none⟩) e).trans ha.x3, (World.cell?_of_block (a := ⟨Bl, _, none⟩) e).trans ha.x4⟩
        have HFN := Lib.hid (actS_fit HFT.out x hAX.n.2)
        clear hact hbr hAX hoF hdr hactw hx hxm
        go_upto_region 8 with fail
        refine wp_region_held_drew (S := fun w' => Apart (fun k => F k ∨ k = A9) wr w') (by kernel_rfl) (Below.apart ((Below.refl _ _).drew) _) (fun H0 => ?_)
        refine wpAnyH_take (i := 0) (oi := { dst := some 51, op := Go.Op.move (Go.Operand.tmp 7), type := 29, pos := "law.go:152", after := #[], guard := none }) (v := ?_) rfl (by kernel_rfl) (by kernel_rfl) (by kernel_rfl) (fun _ _ _ h => h) (Or.inl ⟨by rfl, ?_⟩) H0 ?_
        rotate_left
        focus (intro w' hSw; (try dsimp only at hSw); go_simp; (try with_reducible rfl))
        simp only [Act.put, List.setIfInBounds_toArray, List.set_cons_zero, List.set_cons_succ]
        refine wpAnyH_take (i := 2) (oi := { dst := some 53, op := Go.Op.move (Go.Operand.tmp 1), type := 22, pos := "law.go:152", after := #[], guard := none }) (v := ?_) rfl (by kernel_rfl) (by kernel_rfl) (by kernel_rfl) (fun _ _ _ h => h) (Or.inl ⟨by rfl, ?_⟩) H0 ?_
        rotate_left
        focus (intro w' hSw; (try dsimp only at hSw); go_simp; (try with_reducible rfl))
        simp only [Act.put, List.setIfInBounds_toArray, List.set_cons_zero, List.set_cons_succ]
        refine wpAnyH_take (i := 3) (oi := { dst := some 54, op := Go.Op.move (Go.Operand.tmp 10), type := 3, pos := "law.go:152", after := #[], guard := none }) (v := ?_) rfl (by kernel_rfl) (by kernel_rfl) (by kernel_rfl) (fun _ _ _ h => h) (Or.inl ⟨by rfl, ?_⟩) H0 ?_
        rotate_left
        focus (intro w' hSw; (try dsimp only at hSw); go_simp; (try with_reducible rfl))
        simp only [Act.put, List.setIfInBounds_toArray, List.set_cons_zero, List.set_cons_succ]
        refine wpAnyH_take (i := 4) (oi := { dst := some 55, op := Go.Op.indexAddr 22 (Go.Operand.tmp 53) (Go.Operand.tmp 54), type := 0, pos := "law.go:152", after := #[{ on := 2, ground := Go.Ground.data }, { on := 3, ground := Go.Ground.data }], guard := none }) (v := ?_) rfl (by kernel_rfl) (by kernel_rfl) (by kernel_rfl) (fun _ _ _ h => h) (Or.inl ⟨by rfl, ?_⟩) H0 ?_
        rotate_left
        focus (intro w' hSw; (try dsimp only at hSw); go_simp; (try with_reducible rfl))
        simp only [Act.put, List.setIfInBounds_toArray, List.set_cons_zero, List.set_cons_succ]
        refine wpAnyH_take (i := 5) (oi := { dst := some 56, op := Go.Op.load 25 (Go.Operand.tmp 55), type := 25, pos := "law.go:152", after := #[{ on := 4, ground := Go.Ground.data }], guard := none }) (v := ?_) rfl (by kernel_rfl) (by kernel_rfl) (by kernel_rfl) (fun _ _ _ h => h) (Or.inl ⟨by rfl, ?_⟩) H0 ?_
        rotate_left
        focus (intro w' hSw; (try dsimp only at hSw); obtain ⟨a0, a1, a2, a3, a4⟩ := KL.out _ hSw; go_simp; (try with_reducible rfl))
        simp only [Act.put, List.setIfInBounds_toArray, List.set_cons_zero, List.set_cons_succ]
        refine wpAnyH_ready (rs := [1]) (by kernel_rfl) (by simp) ?_
        refine AllReadyH.cons (o := { dst := some 52, op := Go.Op.load 35 (Go.Operand.tmp 9), type := 35, pos := "law.go:152", after := #[], guard := none }) rfl (fun K hK => ?_) ?_
        rotate_left
        exact AllReadyH.nil
        have hr9 := HR9.out
        have c0 := row_at (i := 0) hr9 rfl; have c1 := row_at (i := 1) hr9 rfl; have c2 := row_at (i := 2) hr9 rfl; have c3 := row_at (i := 3) hr9 rfl
        go_simp
        refine hK.out _ _ H0 (fun H1 => ?_)
        clear hK K c0 c1 c2 c3 hr9 H1
        try simp only [Act.put, List.setIfInBounds_toArray, List.set_cons_zero, List.set_cons_succ]
        refine wpAnyH_ready (rs := [6]) (by kernel_rfl) (by simp) ?_
        refine AllReadyH.cons (o := { dst := some 57, op := Go.Op.call { callee := Go.Callee.value (Go.Operand.func 9), args := #[Go.Operand.tmp 51, Go.Operand.tmp 52, Go.Operand.tmp 56], argTypes := #[29, 35, 25] }, type := 37, pos := "law.go:152", after := #[{ on := 0, ground := Go.Ground.data }, { on := 1, ground := Go.Ground.data }, { on := 5, ground := Go.Ground.data }], guard := none }) rfl (fun K hK => ?_) ?_
        rotate_left
        exact AllReadyH.nil
        go_simp
        (go_at_call 9; (with_reducible refine HACT.out.mono ?_); rintro e wb ⟨d', F', p', c', q', dd', rfl, hP', hF', hfr, hap⟩; have HG := Lib.hid (And.intro hP' (And.intro hF' hfr)); clear hP' hF' hfr)
        try go_wp2_with fail
        refine hK.out _ _ (H0.thn (hap.wide (fun j h => .inl h))) (fun H2 => ?_)
        clear hK K
        try simp only [Act.put, List.setIfInBounds_toArray, List.set_cons_zero, List.set_cons_succ]
        refine wpAnyH_take (i := 7) (oi := { dst := some 50, op := Go.Op.move (Go.Operand.tmp 57), type := 37, pos := "law.go:152", after := #[{ on := 6, ground := Go.Ground.data }], guard := none }) (v := ?_) rfl (by kernel_rfl) (by kernel_rfl) (by kernel_rfl) (fun _ _ _ h => h) (Or.inl ⟨by rfl, ?_⟩) H2 ?_
        rotate_left
        focus (intro w' hSw; (try dsimp only at hSw); go_simp; (try with_reducible rfl))
        simp only [Act.put, List.setIfInBounds_toArray, List.set_cons_zero, List.set_cons_succ]
        refine wpAnyH_take (i := 8) (oi := { dst := some 58, op := Go.Op.extract (Go.Operand.tmp 50) 0, type := 29, pos := "law.go:152", after := #[{ on := 7, ground := Go.Ground.data }], guard := none }) (v := ?_) rfl (by kernel_rfl) (by kernel_rfl) (by kernel_rfl) (fun _ _ _ h => h) (Or.inl ⟨by rfl, ?_⟩) H2 ?_
        rotate_left
        focus (intro w' hSw; (try dsimp only at hSw); go_simp; (try with_reducible rfl))
        simp only [Act.put, List.setIfInBounds_toArray, List.set_cons_zero, List.set_cons_succ]
        refine wpAnyH_take (i := 9) (oi := { dst := some 59, op := Go.Op.extract (Go.Operand.tmp 50) 1, type := 35, pos := "law.go:152", after := #[{ on := 7, ground := Go.Ground.data }, { on := 11, ground := Go.Ground.gcOnly Go.Departure.lateStores }], guard := none }) (v := ?_) rfl (by kernel_rfl) (by kernel_rfl) (by kernel_rfl) (fun _ _ _ h => h) (Or.inl ⟨by rfl, ?_⟩) H2 ?_
        rotate_left
        focus (intro w' hSw; (try dsimp only at hSw); go_simp; (try with_reducible rfl))
        simp only [Act.put, List.setIfInBounds_toArray, List.set_cons_zero, List.set_cons_succ]
        refine wpAnyH_take (i := 10) (oi := { dst := some 60, op := Go.Op.extract (Go.Operand.tmp 50) 2, type := 4, pos := "law.go:152", after := #[{ on := 7, ground := Go.Ground.data }, { on := 12, ground := Go.Ground.gcOnly Go.Departure.lateStores }], guard := none }) (v := ?_) rfl (by kernel_rfl) (by kernel_rfl) (by kernel_rfl) (fun _ _ _ h => h) (Or.inl ⟨by rfl, ?_⟩) H2 ?_
        rotate_left
        focus (intro w' hSw; (try dsimp only at hSw); go_simp; (try with_reducible rfl))
        simp only [Act.put, List.setIfInBounds_toArray, List.set_cons_zero, List.set_cons_succ]
        refine wpAnyH_take (i := 11) (oi := { dst := some 7, op := Go.Op.assign (Go.Operand.tmp 58), type := 29, pos := "law.go:152", after := #[{ on := 8, ground := Go.Ground.data }, { on := 6, ground := Go.Ground.chain }, { on := 0, ground := Go.Ground.phase }, { on := 1, ground := Go.Ground.phase }, { on := 2, ground := Go.Ground.phase }, { on := 3, ground := Go.Ground.phase }, { on := 4, ground := Go.Ground.phase }, { on := 5, ground := Go.Ground.phase }, { on := 6, ground := Go.Ground.phase }, { on := 7, ground := Go.Ground.phase }, { on := 8, ground := Go.Ground.phase }, { on := 9, ground := Go.Ground.textOnly Go.Departure.lateStores }, { on := 10, ground := Go.Ground.textOnly Go.Departure.lateStores }], guard := none }) (v := ?_) rfl (by kernel_rfl) (by kernel_rfl) (by kernel_rfl) (fun _ _ _ h => h) (Or.inl ⟨by rfl, ?_⟩) H2 ?_
        rotate_left
        focus (intro w' hSw; (try dsimp only at hSw); go_simp; (try with_reducible rfl))
        simp only [Act.put, List.setIfInBounds_toArray, List.set_cons_zero, List.set_cons_succ]
        refine wpAnyH_ready (rs := [12]) (by kernel_rfl) (by simp) ?_
        refine AllReadyH.cons (o := { dst := none, op := Go.Op.store 35 (Go.Operand.tmp 9) (Go.Operand.tmp 59), type := 0, pos := "law.go:152", after := #[{ on := 9, ground := Go.Ground.data }, { on := 11, ground := Go.Ground.chain }, { on := 0, ground := Go.Ground.phase }, { on := 1, ground := Go.Ground.phase }, { on := 2, ground := Go.Ground.phase }, { on := 3, ground := Go.Ground.phase }, { on := 4, ground := Go.Ground.phase }, { on := 5, ground := Go.Ground.phase }, { on := 6, ground := Go.Ground.phase }, { on := 7, ground := Go.Ground.phase }, { on := 8, ground := Go.Ground.phase }, { on := 9, ground := Go.Ground.phase }, { on := 10, ground := Go.Ground.textOnly Go.Departure.lateStores }, { on := 11, ground := Go.Ground.phase }], guard := none }) rfl (fun K hK => ?_) ?_
        rotate_left
        exact AllReadyH.nil
        have r9b : wb.heap[A9]? = some (.cells (refC s p2 c2 q2 d2) 35 (0, 0)) := (hap.block _ (by have := HLT.out; have := (Below.refl wr.heap.size wr).drew.size; omega) (fun f => (HLS.out.own _ f).2 rfl)).trans HR9.out
        refine step_store_row rfl 35 (.tmp 9) (.tmp 59) rfl A9 (refC (actS s x) p' c' q' dd') rfl rfl 35 (refC s p2 c2 q2 d2) r9b rfl rfl (by simp [Value.oneCell']) ?_
        have hst := Lib.hid (HLS.out.step HG.out.1 HG.out.2.1 HG.out.2.2 hap)
        have hS2 : Apart (fun k => F k ∨ k = A9) wr (wb.setRow A9 (refC (actS s x) p' c' q' dd')) := H2.thn ⟨rfl, rfl, rfl, by simp, fun k _ hn => setRow_other wb _ k _ (fun e => hn (.inr e))⟩
        obtain ⟨wE, hwE⟩ : ∃ wE, wb.setRow A9 (refC (actS s x) p' c' q' dd') = wE := ⟨_, rfl⟩
        rw [hwE] at hst hS2 ⊢
        refine hK.out _ _ hS2 (fun G9 => ?_)
        clear hK K hwE
        try simp only [Act.put, List.setIfInBounds_toArray, List.set_cons_zero, List.set_cons_succ]
        refine wpAnyH_done (by kernel_rfl) ?_ _
        have HLE := hst
        clear hap H2 G9 hS2 hst
        go_wp2_with fail
        go_roundw
        case rel => exact ⟨k + 1, actS s x, F', p', c', q', dd', by omega, by go_num, HLE, HFN⟩
        case measure => simp [intOf]; omega
      · obtain rfl : k = l.length := by omega
        have HFW := Lib.hid HFT.out.whole
        have HFF := Lib.hid (HFT.out.few (by omega))
        have HP := Lib.hid HLS.out.pair
        have HLOW := Lib.hid (diskOk.low _ _ _ _ HLS.out.pair.rep)
        have HBR := Lib.hid HLS.out.below
        have HA9 := Lib.hid HLS.out.a9
        have HAL := Lib.hid HLS.out.lt
        have HOWN := Lib.hid HLS.out.own
        have HR9 := Lib.hid HLS.out.row
        have HX5 := Lib.hid HLS.out.x5
        clear HLS hk hlt
        go_upto_region 10 with (go_at_call 10; (with_reducible refine (diskOk.copy _ _ _ _ HP.out.rep HFW.out HFF.out).mono ?_); rintro e w6 ⟨dc, F2, rfl, hR2, hF2, hb6⟩; have HC := Lib.hid (And.intro hR2 (And.intro hF2 hb6)); clear hR2 hF2 hb6)
        have hb6 := HC.out.2.2
        have HB6 := Lib.hid (HBR.out.trans (hb6.mono HBR.out.size))
        have hr9 := (hb6.block _ HAL.out).trans HR9.out
        have hx5 := (hb6.block _ (by have := HA9.out; have := HAL.out; omega)).trans HX5.out
        have HR96 := Lib.hid hr9
        have HX56 := Lib.hid hx5
        have HACT1 := Lib.hid (act_any diskOk (HP.out.below hb6) (n := l.length) (by omega) HFT.out ((HA.out x0 (.inr (.inl rfl))).into HK12.out.1 (fun j hj => Nat.le_of_lt (HOWN.out j hj).1) HB6.out))
        simp only [refV, actV] at HACT1
        have c0 := row_at (i := 0) hr9 rfl; have c1 := row_at (i := 1) hr9 rfl; have c2 := row_at (i := 2) hr9 rfl; have c3 := row_at (i := 3) hr9 rfl
        have k0 := row_at (i := 0) hx5 rfl; have k1 := row_at (i := 1) hx5 rfl; have k2 := row_at (i := 2) hx5 rfl; have k3 := row_at (i := 3) hx5 rfl; have k4 := row_at (i := 4) hx5 rfl; have k5 := row_at (i := 5) hx5 rfl; have k6 := row_at (i := 6) hx5 rfl; have k7 := row_at (i := 7) hx5 rfl; have k8 := row_at (i := 8) hx5 rfl; have k9 := row_at (i := 9) hx5 rfl
        clear hr9 hx5 hb6
        go_upto_region 11 with (go_at_call 9; (with_reducible refine HACT1.out.mono ?_); rintro e w7 ⟨d1, F1, p1, c1x, q1, e1, rfl, hP1, hF1, hfr1, hap1⟩; have HA1 := Lib.hid (And.intro hP1 (And.intro hF1 (And.intro hfr1 hap1))); clear hP1 hF1 hfr1 hap1; simp only [refV])
        clear c0 c1 c2 c3 k0 k1 k2 k3 k4 k5 k6 k7 k8 k9
        obtain ⟨s1, hs1⟩ : ∃ s1, actS s x0 = s1 := ⟨_, rfl⟩
        have HF1 := Lib.hid (actS_fit HFT.out x0 (HA.out x0 (.inr (.inl rfl))).n.2)
        rw [hs1] at HF1 HA1
        try rw [hs1]
        clear hs1 HACT1
        obtain ⟨w8, hw8⟩ : ∃ w8, w7.alloc (.cells (refC s1 p1 c1x q1 e1) 35) = w8 := ⟨_, rfl⟩
        have b78 : Below w7.heap.size w7 w8 := by rw [← hw8]; exact (Below.refl _ _).alloc (Nat.le_refl _) _
        have HR12 : Hid (w8.heap[w7.heap.size]? = some (.cells (refC s1 p1 c1x q1 e1) 35 (0, 0))) := Lib.hid (by rw [← hw8]; exact World.alloc_heap_new w7 _)
        have S8 : Hid (w8.heap.size = w7.heap.size + 1) := Lib.hid (by rw [← hw8]; simp)
        try rw [hw8]
        clear hw8
        have HB78 := Lib.hid b78
        have S67 := Lib.hid HA1.out.2.2.2.size
        have HF6 : Hid (∀ k, k < w6.heap.size → ¬ F k → w8.heap[k]? = w6.heap[k]?) := Lib.hid fun k h1 h2 => (b78.block k (by have := S67.out; omega)).trans (HA1.out.2.2.2.block k h1 h2)
        have HB8 : Hid (Below w.heap.size w w8) := Lib.hid ((HA1.out.2.2.2.below HB6.out (fun k hk => Nat.le_of_lt (HOWN.out k hk).1)).trans (b78.mono (Nat.le_trans HB6.out.size S67.out)))
        have S06 : Hid (wr.heap.size ≤ w6.heap.size) := Lib.hid HC.out.2.2.size
        have hr9 := (HF6.out _ (by have := HAL.out; have := S06.out; omega) (fun f => (HOWN.out _ f).2 rfl)).trans HR96.out
        have hx5 := (HF6.out _ (by have := HA9.out; have := HAL.out; have := S06.out; omega) (fun f => by have := (HOWN.out _ f).1; omega)).trans HX56.out
        have hP2 : PairOk RepD w8 dc s F2 p2 c2 q2 d2 := by
          have low2 := diskOk.low _ _ _ _ HC.out.1
          have hs := S06.out
          have hs2 := S67.out
          have hs3 := S8.out
          refine ⟨diskOk.keep _ _ _ _ _ HC.out.1 (by omega) (fun k hk => HF6.out k (low2 k hk) (fun f => by have h1 := HLOW.out k f; have h2 := HC.out.2.1 k hk; omega)), HP.out.ref.asIs (fun B off e => ?_), fun B off e => ?_⟩
          · have h1 := HP.out.pq B off e
            exact (HF6.out B (by omega) h1.1).trans (HC.out.2.2.block B h1.2)
          · have h1 := HP.out.pq B off e
            exact ⟨fun f => by have := HC.out.2.1 B f; omega, by omega⟩
        have HACT2 := Lib.hid (act_any diskOk hP2 (n := l.length) (by omega) HFT.out ((HA.out x1 (.inr (.inr rfl))).into HK12.out.2 (fun j hj => by have h1 := HC.out.2.1 j hj; have h2 := HBR.out.size; omega) HB8.out))
        simp only [refV, actV] at HACT2
        have c0 := row_at (i := 0) hr9 rfl; have c1 := row_at (i := 1) hr9 rfl; have c2 := row_at (i := 2) hr9 rfl; have c3 := row_at (i := 3) hr9 rfl
        have k0 := row_at (i := 0) hx5 rfl; have k1 := row_at (i := 1) hx5 rfl; have k2 := row_at (i := 2) hx5 rfl; have k3 := row_at (i := 3) hx5 rfl; have k4 := row_at (i := 4) hx5 rfl; have k5 := row_at (i := 5) hx5 rfl; have k6 := row_at (i := 6) hx5 rfl; have k7 := row_at (i := 7) hx5 rfl; have k8 := row_at (i := 8) hx5 rfl; have k9 := row_at (i := 9) hx5 rfl
        clear hr9 hx5 b78 hP2
        go_upto_region 12 with (go_at_call 9; (with_reducible refine HACT2.out.mono ?_); rintro e w9 ⟨d3, F3, p3, c3x, q3, e3, rfl, hP3, hF3, hfr3, hap3⟩; have HA3 := Lib.hid (And.intro hP3 (And.intro hF3 (And.intro hfr3 hap3))); clear hP3 hF3 hfr3 hap3; simp only [refV])
        clear c0 c1 c2 c3 k0 k1 k2 k3 k4 k5 k6 k7 k8 k9
        obtain ⟨s3, hs3⟩ : ∃ s3, actS s x1 = s3 := ⟨_, rfl⟩
        have HF3 := Lib.hid (actS_fit HFT.out x1 (HA.out x1 (.inr (.inr rfl))).n.2)
        rw [hs3] at HF3 HA3
        try rw [hs3]
        clear hs3 HACT2
        obtain ⟨wx, hwx⟩ : ∃ wx, w9.alloc (.cells (refC s3 p3 c3x q3 e3) 35) = wx := ⟨_, rfl⟩
        have b9x : Below w9.heap.size w9 wx := by rw [← hwx]; exact (Below.refl _ _).alloc (Nat.le_refl _) _
        have HR14 : Hid (wx.heap[w9.heap.size]? = some (.cells (refC s3 p3 c3x q3 e3) 35 (0, 0))) := Lib.hid (by rw [← hwx]; exact World.alloc_heap_new w9 _)
        try rw [hwx]
        clear hwx
        have HB9X := Lib.hid b9x
        have S89 := Lib.hid HA3.out.2.2.2.size
        have low2 := diskOk.low _ _ _ _ HC.out.1
        have HF8 : Hid (∀ k, k < w8.heap.size → ¬ F2 k → wx.heap[k]? = w8.heap[k]?) := Lib.hid fun k h1 h2 => (b9x.block k (by have := S89.out; omega)).trans (HA3.out.2.2.2.block k h1 h2)
        have HBX : Hid (Below w.heap.size w wx) := Lib.hid ((HA3.out.2.2.2.below HB8.out (fun k hk => by have h1 := HC.out.2.1 k hk; have h2 := HBR.out.size; omega)).trans (b9x.mono (Nat.le_trans HB8.out.size S89.out)))
        have hr12 := (HF8.out _ (by have := S8.out; omega) (fun f => by have := low2 _ f; have := S67.out; omega)).trans HR12.out
        have hP1 : PairOk RepD wx d1 s1 F1 p1 c1x q1 e1 := by
          have low1 := diskOk.low _ _ _ _ HA1.out.1.rep
          have hs := S06.out
          have hs2 := S67.out
          have hs3 := S8.out
          have hs4 := S89.out
          have hs5 := b9x.size
          have hno : ∀ k, F1 k → ¬ F2 k := fun k hk f => by
            have h1 := low2 k f
            have h2 := HC.out.2.1 k f
            rcases HA1.out.2.1 k hk with h | h
            · have := HLOW.out k h; omega
            · omega
          have hbl : ∀ B off, p1 = some ⟨B, off, none⟩ ∨ q1 = some ⟨B, off, none⟩ → ¬ F2 B := fun B off e f => by
            have h1 := low2 B f
            have h2 := HC.out.2.1 B f
            rcases HA1.out.2.2.1 B off e with h | h
            · have := (HP.out.pq B off h).2; omega
            · omega
          refine ⟨diskOk.keep _ _ _ _ _ HA1.out.1.rep (by omega) (fun k hk => (HF8.out k (by have := low1 k hk; omega) (hno k hk)).trans (HB78.out.block k (low1 k hk))), HA1.out.1.ref.asIs (fun B off e => ?_), fun B off e => ⟨(HA1.out.1.pq B off e).1, by have := (HA1.out.1.pq B off e).2; omega⟩⟩
          have h1 := (HA1.out.1.pq B off e).2
          exact (HF8.out B (by omega) (hbl B off e)).trans (HB78.out.block B h1)
        have HP1 := Lib.hid hP1
        have HP3 := Lib.hid (HA3.out.1.below b9x)
        have HR12X := Lib.hid hr12
        have SM := Lib.hid (refSame_any s1 s3 p1 c1x q1 e1 p3 c3x q3 e3 wx (HF1.out.few (by omega)) (HF3.out.few (by omega)) (Lib.hid HP1.out.ref) (Lib.hid HP3.out.ref))
        simp only [refV] at SM
        have hr14 := HR14.out
        have c0 := row_at (i := 0) hr12 rfl; have c1 := row_at (i := 1) hr12 rfl; have c2 := row_at (i := 2) hr12 rfl; have c3 := row_at (i := 3) hr12 rfl
        have e0 := row_at (i := 0) hr14 rfl; have e1 := row_at (i := 1) hr14 rfl; have e2 := row_at (i := 2) hr14 rfl; have e3 := row_at (i := 3) hr14 rfl
        clear hr12 hr14 b9x hP1 low2
        go_upto_region 13 with (go_at_call 11; (with_reducible refine SM.out.mono ?_); rintro e w11 ⟨rfl, hb11⟩; have HB11 := Lib.hid hb11; clear hb11)
        clear c0 c1 c2 c3 e0 e1 e2 e3
        have HBE := Lib.hid (HBX.out.trans (HB11.out.mono HBX.out.size))
        have K12 : Hid (∀ w', Below w11.heap.size w11 w' → w'.heap[w7.heap.size]? = some (.cells (refC s1 p1 c1x q1 e1) 35 (0, 0))) := Lib.hid fun w' h => ((below_any HB11.out h).block _ (Array.getElem?_eq_some_iff.1 HR12X.out).1).trans HR12X.out
        have K14 : Hid (∀ w', Below w11.heap.size w11 w' → w'.heap[w9.heap.size]? = some (.cells (refC s3 p3 c3x q3 e3) 35 (0, 0))) := Lib.hid fun w' h => ((below_any HB11.out h).block _ (Array.getElem?_eq_some_iff.1 HR14.out).1).trans HR14.out
        obtain ⟨G1, G2, G3, g4, rfl, HD1, -⟩ := HP1.out.rep
        obtain ⟨J1, J2, J3, j4, rfl, HD3, -⟩ := HP3.out.rep
        have HD1 := Lib.hid (HD1.below HB11.out)
        have HD3 := Lib.hid (HD3.below HB11.out)
        have RR1 := Lib.hid (HP1.out.ref.below HB11.out)
        have RR3 := Lib.hid (HP3.out.ref.below HB11.out)
        have IS1 := Lib.hid fun (w' : World) (h : Below w11.heap.size w11 w') => is_any (HD1.out.below h) HF1.out.whole (HF1.out.few (by omega)) p1 c1x q1 e1 (Lib.hid (RR1.out.below h)) 99
        have IS2 := Lib.hid fun (w' : World) (h : Below w11.heap.size w11 w') => is_any (HD3.out.below h) HF3.out.whole (HF3.out.few (by omega)) p3 c3x q3 e3 (Lib.hid (RR3.out.below h)) 99
        have SM1 := Lib.hid fun (w' : World) (h : Below w11.heap.size w11 w') => dsameB_any (HD1.out.below h) (HD3.out.below h) HF1.out.whole HF3.out.whole (HF1.out.few (by omega)) (HF3.out.few (by omega))
        have SM2 := Lib.hid fun (w' : World) (h : Below w11.heap.size w11 w') => dsameB_any (HD3.out.below h) (HD1.out.below h) HF3.out.whole HF1.out.whole (HF3.out.few (by omega)) (HF1.out.few (by omega))
        rw [sameB_comm s3 s1] at SM2
        simp only [refV] at IS1 IS2
        obtain ⟨sb, hsb⟩ : ∃ b, sameB s1 s3 = b := ⟨_, rfl⟩
        rw [hsb] at SM1 SM2
        try rw [hsb]
        clear hsb
        have hee : (sb == sb) = true := by simp
        have hr12 := K12.out _ (Below.refl _ _)
        have c0 := row_at (i := 0) hr12 rfl; have c1 := row_at (i := 1) hr12 rfl; have c2 := row_at (i := 2) hr12 rfl; have c3 := row_at (i := 3) hr12 rfl
        go_wp2_with (first
          | (go_at_call 12; (with_reducible refine (NM.out _ _).mono ?_); rintro e wn ⟨rfl, rfl⟩)
          | (go_at_call 13; (with_reducible refine (IS1.out _ (Below.refl _ _)).mono ?_); rintro e wq1 ⟨rfl, hb1⟩; have G1 := Lib.hid hb1; have hr14 := K14.out _ hb1; have e0 := row_at (i := 0) hr14 rfl; have e1 := row_at (i := 1) hr14 rfl; have e2 := row_at (i := 2) hr14 rfl; have e3 := row_at (i := 3) hr14 rfl; clear hb1)
          | (go_at_call 13; (with_reducible refine (IS2.out _ G1.out).mono ?_); rintro e wq2 ⟨rfl, hb2⟩; have G2 := Lib.hid (below_any G1.out hb2); clear hb2)
          | (go_at_call 14; (with_reducible refine (SM1.out _ G2.out).mono ?_); rintro e wq3 ⟨rfl, hb3⟩; have G3 := Lib.hid (below_any G2.out hb3); clear hb3)
          | (go_at_call 14; (with_reducible refine (SM2.out _ G3.out).mono ?_); rintro e wq4 ⟨rfl, hb4⟩; have G4 := Lib.hid (below_any G3.out hb4); clear hb4)
          | (go_at_call 6; (with_reducible refine (works_any diskOk _).mono ?_); rintro e wq5 ⟨rfl, hb5⟩; have G5 := Lib.hid (below_any G4.out hb5); clear hb5))
        go_ret
        exact ⟨rfl, HBE.out.trans (G5.out.mono HBE.out.size)⟩
end Go.Proofs.Ythbnochlpnikaaa
namespace Go.Proofs.Ythbnochlpnikaaa
open Go.ChangeShapes Go.WideShapes Go.ChangeAt Go.RowKit Go.Joins

theorem own : ownKnob Try.prog.godebug = none := by kernel_rfl

/-- Arguments of whatever shape read behind the call as before, where below the call's own blocks nothing has turned. -/
theorem trodAll_stays {H : Type} {enc : TypeId × Value → H} {P : Program} (hl : laidOutB P = true) {W W' : World} (hb : Below W.heap.size W W') :
    ∀ (ts : List TypeId), (∀ t ∈ ts, P.readableRec t = true ∧ t < P.types.size) → ∀ (vs : List Value) (ds : List (DataW H)) (ps : List MemPlace), DataW.TrodAll enc P W 0 (fun _ => true) true ts vs ds ps → (∀ x ∈ ps, x.block < W.heap.size) →
      DataW.TrodAll enc P W' 0 (fun b => decide (b < W.heap.size)) true ts vs ds ps
  | [], _, vs, ds, ps, h, _ => by
    obtain ⟨rfl, rfl, rfl⟩ := trodAll_nil h
    exact trodAll_mk0
  | t :: ts, ht, vs, ds, ps, h, hp => by
    obtain ⟨v, vs', d, ds', p, q, rfl, rfl, rfl, h0, h1⟩ := trodAll_cons h
    obtain ⟨r1, r2⟩ := ht t (by simp)
    exact trodAll_cons_mk (Below.trod hl r1 r2 h0 hb (fun x hx => hp x (by simp [hx]))) (trodAll_stays hl hb ts (fun u hu => ht u (by simp [hu])) vs' ds' q h1 (fun x hx => hp x (by simp [hx])))

/-- A law that answers true and leaves what was there as it was meets its row. -/
theorem law_true {H : Type} {enc : TypeId × Value → H} {f : Func} {s : ChangeSpec} {W W' : World} {args : Array Value} {ds gs : List (DataW H)} {before : List MemPlace}
    (hW : DataW.Whole enc Try.prog f.params.toList s.vars false W args.toList ds gs before) (hv : s.vars = []) (hfn : (s.fn H (ds ++ gs)).results = [.lit (.bool true)] ∧ (s.fn H (ds ++ gs)).args = ds ∧ (s.fn H (ds ++ gs)).vars = [])
    (hr : f.resultTypes = #[4]) (hread : (f.params.toList.all fun t => Try.prog.readableRec t && decide (t < Try.prog.types.size)) = true) (hb : Below W.heap.size W W') :
    s.post enc Try.prog f false true false false W args (.bool true) W' := by
  have hW' := hW
  obtain ⟨p, q, hA, hV, hpq, _, _⟩ := hW
  have hlt : ∀ x ∈ before, x.block < W.heap.size := fun x hx => hW'.lt x hx
  refine ⟨ds, gs, before, [], p, [], hW', ?_, ?_, ?_, hb.frame _, fun h => by cases h⟩
  · rw [hfn.1, hr]
    exact trodAll_mk1 (shut_bool Try.underlying4 _)
  · rw [hfn.2.1]
    exact trodAll_stays (by kernel_rfl) hb _ (fun t ht => by simpa using List.all_eq_true.1 hread t ht) _ _ _ hA (fun x hx => hlt x (by rw [hpq]; simp [hx]))
  · rw [hfn.2.2, hv]
    rfl
noncomputable def laidWorld (os : Os) : World := World.holding Try.prog os ⟨#[], #[], []⟩
theorem laid_met (os : Os) (args : Array Value) : laidMet Try.prog ([] : List (String × DataW Unit)) ((laidWorld os).forCall (fun _ _ => 0) ⟨#[], args, []⟩).memory :=
  laidMet_of_run' 8 (by kernel_rfl) (by kernel_rfl)
open Go.Joins

theorem okWide_array {P : Program} {w : World} {r : Reach} {base n : Nat} {t e : TypeId} {v : Value} (ht : P.underlying t = some (.array n e)) (h : Value.okWide P w r base t v) : ∃ cs, v = .agg cs ∧ cs.size = P.cellsOf t := by
  simp only [Value.okWide, ht] at h
  obtain ⟨cs, h1, h2, _⟩ := h
  exact ⟨cs, h1, h2⟩
theorem wf_u8 {n : Int} (h : (Lit.int .u8 n).wf = true) : 0 ≤ n ∧ n < 256 := by
  simp [Lit.wf] at h
  have hm : IntKind.u8.min = 0 := rfl
  have hM : IntKind.u8.max = 255 := rfl
  omega
open Go.RowKit
set_option maxRecDepth 100000 in
/-- A slice of truths that is handed in. -/
theorem open_bools {H : Type} {enc : TypeId × Value → H} {w : World} {fuel : Nat} {a0 : Option Addr} {len cap : Nat} {x : DataW H × List MemPlace}
    (hf : DataW.trod enc Try.prog w 0 (fun _ => true) true fuel 23 [.slice a0 len cap] = some x) :
    len ≤ cap ∧ cap ≤ maxLen ∧ (a0 = none → cap = 0) ∧ ∃ l : List Bool, l.length = len ∧ BoolsAt w a0 l := by
  rcases Deep.open_slice1 Try.underlying23 (by kernel_rfl) hf with ⟨hcs, -⟩ | ⟨a, len', cap', m, n, V, D, Pl, hcs, -, hl, hm, hmm, -, hi⟩
  · simp only [List.cons.injEq, Value.slice.injEq, and_true] at hcs
    obtain ⟨rfl, rfl, rfl⟩ := hcs
    exact ⟨Nat.le_refl _, Nat.zero_le _, fun _ => rfl, [], rfl, fun i b hb => by cases hb⟩
  · simp only [List.cons.injEq, Value.slice.injEq, and_true] at hcs
    obtain ⟨rfl, rfl, rfl⟩ := hcs
    have hone : ∀ i, i < len → ∃ b : Bool, w.cell? (a.add i) = some (.bool b) := by
      intro i hil
      obtain ⟨hc, ht⟩ := hi i (by rw [hmm]; simp; omega)
      obtain ⟨b, hb, -⟩ := DataW.trod_bool Try.underlying4 ht
      simp at hb
      exact ⟨b, by rw [hc, hb]⟩
    have hch : ∃ f : Nat → Bool, ∀ i, i < len → w.cell? (a.add i) = some (.bool (f i)) :=
      ⟨fun i => if h : i < len then (hone i h).choose else false, fun i h => by simp only [dif_pos h]; exact (hone i h).choose_spec⟩
    obtain ⟨f, hf'⟩ := hch
    refine ⟨hl, hm, (fun e => by cases e), (List.range len).map f, by simp, fun i b hb => ?_⟩
    have hil : i < len := by
      have := (List.getElem?_eq_some_iff.1 hb).1
      simpa using this
    have hc := hf' i hil
    obtain ⟨B, off, spot⟩ := a
    have hspot : spot = none := by
      have h0 := hf' 0 (by omega)
      simpa [Addr.add] using World.cell?_spot h0
    subst hspot
    rw [addr_plain] at hc
    refine ⟨B, off, rfl, ?_⟩
    rw [List.getElem?_map, List.getElem?_range hil] at hb
    simp only [Option.map_some, Option.some.injEq] at hb
    rw [hc, hb]
theorem wf_i64 {k : Int} (h : (Lit.int .i64 k).wf = true) : -9223372036854775808 ≤ k ∧ k ≤ 9223372036854775807 := by
  simp only [Lit.wf, IntKind.min, IntKind.max, IntKind.signed, IntKind.bits, Bool.and_eq_true, decide_eq_true_eq, if_true] at h
  omega
set_option maxRecDepth 100000 in
/-- An act that is handed in. -/
theorem open_act {H : Type} {enc : TypeId × Value → H} {w : World} {fuel : Nat} {cs : List Value} {x : DataW H × List MemPlace} (hl : cs.length = 5) (ht : DataW.trod enc Try.prog w 0 (fun _ => true) true fuel 25 cs = some x) :
    ∃ y : ActS, cs = [.int .i64 y.what, .int .i64 y.place, .int .i64 y.n, .int .u8 y.byte, .slice y.kp y.keep.length y.kc] ∧ ActArg w y := by
  obtain ⟨ys, n', _, _, _, hyl, hfl⟩ := DataW.trod_struct Try.underlying25 ht
  match cs, hl, ys, hyl with
  | [c0, c1, c2, c3, c4], _, [y0, y1, y2, y3, y4], _ =>
    have q3 : Try.prog.cellsOf 3 = 1 := by kernel_rfl
    have q5 : Try.prog.cellsOf 5 = 1 := by kernel_rfl
    have q23 : Try.prog.cellsOf 23 = 1 := by kernel_rfl
    have e0 : DataW.trod enc Try.prog w 0 (fun _ => true) true n' 3 (List.take (Try.prog.cellsOf 3) [c0, c1, c2, c3, c4]) = some y0 := hfl 0 _ rfl
    have e1 : DataW.trod enc Try.prog w 0 (fun _ => true) true n' 3 (List.take (Try.prog.cellsOf 3) [c1, c2, c3, c4]) = some y1 := hfl 1 _ rfl
    have e2 : DataW.trod enc Try.prog w 0 (fun _ => true) true n' 3 (List.take (Try.prog.cellsOf 3) [c2, c3, c4]) = some y2 := hfl 2 _ rfl
    have e3 : DataW.trod enc Try.prog w 0 (fun _ => true) true n' 5 (List.take (Try.prog.cellsOf 5) [c3, c4]) = some y3 := hfl 3 _ rfl
    have e4 : DataW.trod enc Try.prog w 0 (fun _ => true) true n' 23 (List.take (Try.prog.cellsOf 23) [c4]) = some y4 := hfl 4 _ rfl
    rw [q3] at e0 e1 e2
    rw [q5] at e3
    rw [q23] at e4
    obtain ⟨z0, g0, -, w0⟩ := DataW.trod_int Try.underlying3 e0
    obtain ⟨z1, g1, -, w1⟩ := DataW.trod_int Try.underlying3 e1
    obtain ⟨z2, g2, -, w2⟩ := DataW.trod_int Try.underlying3 e2
    obtain ⟨z3, g3, -, w3⟩ := DataW.trod_int Try.underlying5 e3
    have k0 : c0 = .int .i64 z0 := by simpa using g0
    have k1 : c1 = .int .i64 z1 := by simpa using g1
    have k2 : c2 = .int .i64 z2 := by simpa using g2
    have k3 : c3 = .int .u8 z3 := by simpa using g3
    have sl : ∃ a l k, c4 = .slice a l k := by
      rcases Deep.open_slice Try.underlying23 e4 with ⟨hcs, -⟩ | ⟨a, len', cap', m, n, D, Pl, hcs, -⟩
      · simp at hcs; exact ⟨_, _, _, hcs⟩
      · simp at hcs; exact ⟨_, _, _, hcs⟩
    obtain ⟨a4, l4, k4, rfl⟩ := sl
    obtain ⟨h1, h2, h3, keep, rfl, h4⟩ := open_bools (show DataW.trod enc Try.prog w 0 (fun _ => true) true n' 23 [.slice a4 l4 k4] = some y4 by simpa using e4)
    obtain ⟨b0, b1⟩ := wf_u8 w3
    obtain ⟨z3, rfl⟩ := Int.eq_ofNat_of_zero_le b0
    exact ⟨⟨z0, z1, z2, z3, keep, a4, k4⟩, by rw [k0, k1, k2, k3], by simp only; omega, wf_i64 w2, h4, h3, h1, by unfold maxLen at h2; simp only; omega⟩
set_option maxRecDepth 100000 in
/-- A slice of acts that is handed in. -/
theorem open_acts {H : Type} {enc : TypeId × Value → H} {w : World} {fuel : Nat} {a0 : Option Addr} {len cap : Nat} {x : DataW H × List MemPlace}
    (hf : DataW.trod enc Try.prog w 0 (fun _ => true) true fuel 22 [.slice a0 len cap] = some x) :
    (a0 = none → cap = 0) ∧ (len = 0 ∨ ∃ el sp, x.1 = .slice el sp ∧ el.length = len) ∧ ∃ l : List ActS, l.length = len ∧ ActsAt w a0 l ∧ ∀ y ∈ l, ActArg w y := by
  rcases Deep.open_slice Try.underlying22 hf with ⟨hcs, -⟩ | ⟨a, len', cap', m, n, D, Pl, hcs, -, hl, hm, hmm, hx, hi⟩
  · simp only [List.cons.injEq, Value.slice.injEq, and_true] at hcs
    obtain ⟨rfl, rfl, rfl⟩ := hcs
    exact ⟨fun _ => rfl, .inl rfl, [], rfl, (fun i x hx => by cases hx), (fun y hy => by cases hy)⟩
  · simp only [List.cons.injEq, Value.slice.injEq, and_true] at hcs
    obtain ⟨rfl, rfl, rfl⟩ := hcs
    refine ⟨(fun e => by cases e), .inr ⟨_, _, by rw [hx], by simp⟩, ?_⟩
    have hone : ∀ i, i < len → ∃ y : ActS, (∀ j v, ([.int .i64 y.what, .int .i64 y.place, .int .i64 y.n, .int .u8 y.byte, .slice y.kp y.keep.length y.kc] : List Value)[j]? = some v → w.cell? (a.add (i * 5 + j)) = some v) ∧ ActArg w y := by
      intro i hil
      obtain ⟨cs', hc, ht⟩ := hi i (by rw [hmm]; simp; omega)
      rw [show Try.prog.cellsOf 25 = 5 by kernel_rfl] at hc
      obtain ⟨_, hcl, hat⟩ := World.cells?_some hc
      obtain ⟨y, hy, hay⟩ := open_act hcl ht
      refine ⟨y, fun j v hv => ?_, hay⟩
      rw [← hy] at hv
      have hj : j < cs'.length := (List.getElem?_eq_some_iff.1 hv).1
      have := hat j (by omega)
      rw [Addr.add_add] at this
      rw [this, ← hv]
      try simp [hj]
    have hch : ∃ f : Nat → ActS, ∀ i, i < len → (∀ j v, ([.int .i64 (f i).what, .int .i64 (f i).place, .int .i64 (f i).n, .int .u8 (f i).byte, .slice (f i).kp (f i).keep.length (f i).kc] : List Value)[j]? = some v → w.cell? (a.add (i * 5 + j)) = some v) ∧ ActArg w (f i) :=
      ⟨fun i => if h : i < len then (hone i h).choose else ⟨0, 0, 0, 0, [], none, 0⟩, fun i h => by simp only [dif_pos h]; exact (hone i h).choose_spec⟩
    obtain ⟨f, hf'⟩ := hch
    refine ⟨(List.range len).map f, by simp, fun i y hy => ?_, fun y hy => ?_⟩
    · have hil : i < len := by
        have := (List.getElem?_eq_some_iff.1 hy).1
        simpa using this
      obtain ⟨h1, -⟩ := hf' i hil
      obtain ⟨B, off, spot⟩ := a
      have hspot : spot = none := by
        have h0 := (hf' 0 (by omega)).1 0 _ rfl
        simpa [Addr.add] using World.cell?_spot h0
      subst hspot
      rw [List.getElem?_map, List.getElem?_range hil] at hy
      simp only [Option.map_some, Option.some.injEq] at hy
      subst hy
      have g0 := h1 0 _ rfl
      have g1 := h1 1 _ rfl
      have g2 := h1 2 _ rfl
      have g3 := h1 3 _ rfl
      have g4 := h1 4 _ rfl
      rw [addr_plain] at g0 g1 g2 g3 g4
      exact ⟨B, off, rfl, ⟨g0, g1, g2, g3, g4⟩⟩
    · obtain ⟨i, hi', rfl⟩ := List.mem_map.1 hy
      exact (hf' i (by simpa using hi')).2
theorem array10 {cs : Array Value} (h : cs.size = 10) : ∃ c0 c1 c2 c3 c4 c5 c6 c7 c8 c9, cs = #[c0, c1, c2, c3, c4, c5, c6, c7, c8, c9] := by
  obtain ⟨l⟩ := cs
  simp only [List.size_toArray] at h
  match l, h with
  | [c0, c1, c2, c3, c4, c5, c6, c7, c8, c9], _ => exact ⟨c0, c1, c2, c3, c4, c5, c6, c7, c8, c9, rfl⟩
set_option maxRecDepth 100000 in
/-- Two acts that are handed in. -/
theorem open_two_acts {H : Type} {enc : TypeId × Value → H} {w : World} {b0 : Nat} {r : Reach} {v : Value} {d : DataW H} {p : List MemPlace} (hv : Value.okWide Try.prog w r b0 26 v) (h : DataW.Trod enc Try.prog w 0 (fun _ => true) true 26 v d p) :
    ∃ x0 x1 : ActS, v = .agg #[.int .i64 x0.what, .int .i64 x0.place, .int .i64 x0.n, .int .u8 x0.byte, .slice x0.kp x0.keep.length x0.kc, .int .i64 x1.what, .int .i64 x1.place, .int .i64 x1.n, .int .u8 x1.byte, .slice x1.kp x1.keep.length x1.kc] ∧ ActArg w x0 ∧ ActArg w x1 := by
  have hc2 : Try.prog.cellsOf 26 = 10 := by kernel_rfl
  obtain ⟨cs, rfl, hsz⟩ := okWide_array Try.underlying26 hv
  obtain ⟨c0, c1, c2, c3, c4, c5, c6, c7, c8, c9, rfl⟩ := array10 (hsz.trans hc2)
  obtain ⟨fuel, hf⟩ := h
  obtain ⟨xs, m, _, hx, _, hn, hi⟩ := DataW.trod_array Try.underlying26 hf
  have hc : Try.prog.cellsOf 25 = 5 := by kernel_rfl
  match xs, hn with
  | [x0, x1], _ =>
    have e0 : DataW.trod enc Try.prog w 0 (fun _ => true) true m 25 [c0, c1, c2, c3, c4] = some x0 := by simpa [hc, Value.cells] using hi 0 (by decide)
    have e1 : DataW.trod enc Try.prog w 0 (fun _ => true) true m 25 [c5, c6, c7, c8, c9] = some x1 := by simpa [hc, Value.cells] using hi 1 (by decide)
    obtain ⟨y0, h0, a0⟩ := open_act rfl e0
    obtain ⟨y1, h1, a1⟩ := open_act rfl e1
    simp only [List.cons.injEq, and_true] at h0 h1
    obtain ⟨rfl, rfl, rfl, rfl, rfl⟩ := h0
    obtain ⟨rfl, rfl, rfl, rfl, rfl⟩ := h1
    exact ⟨y0, y1, rfl, a0, a1⟩
end Go.Proofs.Ythbnochlpnikaaa
namespace Go.Proofs.Ythbnochlpnikaaa.Copies
open Go.ChangeShapes Go.WideShapes Go.ChangeAt Go.RowKit Go.Joins
open Go.ChangeMaps (open_string shut_string)

set_option maxRecDepth 100000 in
theorem contract (H : Type) (enc : TypeId × Value → H) (W : World) (base : Nat) (args : Array Value) (ds gs : List (DataW H)) (before : List MemPlace)
    (hval : ∀ (j : Nat) t v, Try.f3.params[j]? = some t → args[j]? = some v → Value.okWide Try.prog W .any base t v)
    (hW : DataW.Whole enc Try.prog Try.f3.params.toList Rows.diskCopiesSpec.vars false W args.toList ds gs before)
    (hsz : (DataW.weightsEach Try.prog (Try.f3.params.toList ++ (OpenSpec.ofChange Rows.diskCopiesSpec).bare.plain.varTypes Try.prog) (ds ++ gs)).all (· ≤ reachBytes) = true) :
    Calls Try.prog 3 args W fun e W' => ∃ v, e = .returned v ∧ Rows.diskCopiesSpec.post enc Try.prog Try.f3 false true false false W args v W' := by
  have hW' := hW
  obtain ⟨p, q, hA0, hV, rfl, hfz, hnd⟩ := hW
  have hA : DataW.TrodAll enc Try.prog W 0 (fun _ => true) true Try.f3.params.toList args.toList ds p := hA0
  rw [Try.params3] at hA hval hsz
  obtain ⟨v0, vs0, d0, ds0, p0, q0, hargs, rfl, rfl, h0, r0⟩ := trodAll_cons hA
  obtain ⟨v1, vs1, d1, ds1, p1, q1, rfl, rfl, rfl, h1, r1⟩ := trodAll_cons r0
  obtain ⟨v2, vs2, d2, ds2, p2, q2, rfl, rfl, rfl, h2, r2⟩ := trodAll_cons r1
  obtain ⟨rfl, rfl, rfl⟩ := trodAll_nil r2
  obtain rfl : args = #[v0, v1, v2] := by cases args; simp_all
  obtain ⟨rfl, rfl⟩ := trodVars_none hV
  obtain ⟨n, rfl, rfl, rfl, wb⟩ := open_int Try.underlying3 (hval 0 3 v0 rfl rfl) h0
  obtain ⟨a0, len, cap, rfl⟩ := okWide_slice Try.underlying22 (hval 1 22 v1 rfl rfl)
  obtain ⟨fuel1, hf1⟩ := h1
  obtain ⟨hnil, hel, l, rfl, hL, hAl⟩ := open_acts hf1
  obtain ⟨x0, x1, rfl, hx0, hx1⟩ := open_two_acts (hval 2 26 v2 rfl rfl) h2
  have hlen : (l.length + 2) * 56 ≤ 140737488355328 := by
    rcases hel with h | ⟨el, sp, h3, h4⟩
    · rw [h]; decide
    · have hb := sized_slice hsz (j := 1) (t := 22) (e := 25) rfl (by rw [← h3]; rfl) Try.underlying22
      rw [show Try.prog.bytesOf 25 = 56 by kernel_rfl] at hb
      unfold reachBytes at hb
      omega
  have fin := copies_any n l a0 cap x0 x1 W hlen hnil hL (fun x hx => by
    rcases hx with h | rfl | rfl
    · exact hAl x h
    · exact hx0
    · exact hx1)
  refine fin.mono fun e W' ⟨he, hb⟩ => ⟨_, he, law_true hW' rfl ⟨rfl, rfl, rfl⟩ (by kernel_rfl) (by kernel_rfl) hb⟩

theorem reads (os : Os) {H : Type} (enc : TypeId × Value → H) : ∃ places, DataW.whole enc Try.prog ((laidWorld os).forCall (fun _ _ => 0) ⟨#[], #[.int .i64 0, .slice none 0 0, .agg #[.int .i64 0, .int .i64 0, .int .i64 0, .int .u8 0, .slice none 0 0, .int .i64 0, .int .i64 0, .int .i64 0, .int .u8 0, .slice none 0 0]], []⟩).memory Try.f3.params.toList Rows.diskCopiesSpec.vars false (#[.int .i64 0, .slice none 0 0, .agg #[.int .i64 0, .int .i64 0, .int .i64 0, .int .u8 0, .slice none 0 0, .int .i64 0, .int .i64 0, .int .i64 0, .int .u8 0, .slice none 0 0]] : Array Value).toList 9 = some ([.lit (.int .i64 0), .nil, .agg [.agg [.lit (.int .i64 0), .lit (.int .i64 0), .lit (.int .i64 0), .lit (.int .u8 0), .nil], .agg [.lit (.int .i64 0), .lit (.int .i64 0), .lit (.int .i64 0), .lit (.int .u8 0), .nil]]], [], places) :=
  ⟨[], by kernel_rfl⟩

set_option maxRecDepth 100000 in
theorem lifted (os : Os) (started : os.Started) (H : Type) (enc : TypeId × Value → H) (F : Stop.Interp) :
    ReturnsInHanded {} Try.checked os 3 .any ((OpenSpec.ofChange Rows.diskCopiesSpec).preRow enc Try.prog Try.f3 Rows.diskCopiesRow.domain false Rows.diskCopiesRow.laid) (((OpenSpec.ofChange Rows.diskCopiesSpec).at F).post enc Try.prog Try.f3 false true false false) := by
  obtain ⟨places, hx⟩ := reads os enc
  refine returnsInHanded_of_row (C := Try.checked) (s := OpenSpec.ofChange Rows.diskCopiesSpec) own started (by kernel_rfl) Try.func3
    (witness_row_at (enc := enc) (C := Try.checked) false (laidWorld os) #[.int .i64 0, .slice none 0 0, .agg #[.int .i64 0, .int .i64 0, .int .i64 0, .int .u8 0, .slice none 0 0, .int .i64 0, .int .i64 0, .int .i64 0, .int .u8 0, .slice none 0 0]] rfl (by kernel_rfl) (by kernel_rfl) (by kernel_rfl)
      (OpenSpec.preRow_of_cond 9 hx (by kernel_rfl) (fun k hk => by cases hk) (by kernel_rfl) (laid_met os _))) ?_
  intro W base args ds gs before hval hW _ _ hsz hL hsh _
  exact contract H enc W base args ds gs before hval hW hsz

theorem said : Rows.DiskCopiesSaid :=
  OpenClaim.holds_of_cond 3 Try.f3 rfl rfl rfl rfl rfl rfl rfl ⟨rfl, rfl, rfl, rfl, rfl⟩ rfl rfl rfl rfl rfl (by kernel_rfl) Try.func3 (by kernel_rfl)
    (of_decide_eq_true (by kernel_rfl)) (by unfold Func.isWrapper; first | (rw [if_pos (by decide +kernel)]; kernel_rfl) | (rw [if_neg (by decide +kernel)]; exact ⟨rfl, rfl⟩))
    (fun os started H enc _ F => by rw [OpenClaim.pre_eq_preRow]; exact lifted os started H enc F)
end Go.Proofs.Ythbnochlpnikaaa.Copies
namespace Go.Proofs.Ythbnochlpnikaaa
theorem diskCopies_holds : Rows.DiskCopiesSaid := Copies.said
end Go.Proofs.Ythbnochlpnikaaa
