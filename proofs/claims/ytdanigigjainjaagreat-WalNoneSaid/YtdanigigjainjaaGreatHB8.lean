/- Parts: W30 W31 W32 W33 W28 W34 W35 W38 W39 W40 W36. -/
import Derived.Test.YtdanigigjainjaaGreatHB7
import Derived.Maps.OwnSet
import Derived.Deep.CutRange
namespace Go.Proofs.YtdanigigjainjaaGreat
open Go.RowKit Go.Shelf
attribute [local go_sem] Oper.semAt_some

/-- Each value reads as itself. -/
def idR (v : Value) : Option (DataW Value × List MemPlace) := some (.held v, [])
def upV (g : Nat → Option Value) (k : Nat) (v : Value) : Nat → Option Value := fun j => if j = k then some v else g j
/-- A map from numbers to whatever values, of at most so many entries. -/
def MapV (w : World) (b : Nat) (g : Nat → Option Value) (n : Nat) : Prop := ∃ D : DataW Value, w.ownsMap Tryz.prog 3 idR b n D ∧ (∀ k, k < 40000 → Maps.has D (Dk.kL k) = (g k).isSome ∧ ∀ v, g k = some v → ∀ z, D.atKey (Dk.kL k) z = .held v) ∧ ∀ x, Maps.has D x = true → ∃ k, k < 40000 ∧ x = Dk.kL k
theorem MapV.heap {w : World} {b n : Nat} {g : Nat → Option Value} (h : MapV w b g n) : ∃ es c, w.heap[b]? = some (.map es c) := by
  obtain ⟨D, ⟨es, c, hb, -⟩, -⟩ := h
  exact ⟨es, c, hb⟩
theorem MapV.of_block {w w' : World} {b n : Nat} {g : Nat → Option Value} (h : MapV w b g n) (e : w'.heap[b]? = w.heap[b]?) : MapV w' b g n := by
  obtain ⟨D, ⟨es, clock, hb, r⟩, hd⟩ := h
  exact ⟨D, ⟨es, clock, e.trans hb, r⟩, hd⟩
theorem MapV.lt {w : World} {b n : Nat} {g : Nat → Option Value} (h : MapV w b g n) : b < w.heap.size := by
  obtain ⟨es, c, h⟩ := h.heap
  exact (Array.getElem?_eq_some_iff.1 h).1
theorem MapV.below {w w' : World} {b n : Nat} {g : Nat → Option Value} (h : MapV w b g n) (hb : Below w.heap.size w w') : MapV w' b g n := h.of_block (hb.block b h.lt)
theorem MapV.new {w : World} {b : Nat} (h : w.heap[b]? = some (.map #[] 0)) : MapV w b (fun _ => none) 0 := by
  have h0 := World.ownsMap_made (⟨w.heap.extract 0 b, w.tape, w.drawn, w.os, w.output⟩ : World) Tryz.prog 3 idR
  obtain ⟨es, clock, hb, r⟩ := h0
  have hlt := (Array.getElem?_eq_some_iff.1 h).1
  have he : es = #[] ∧ clock = 0 := by
    have := heap_alloc_new (⟨w.heap.extract 0 b, w.tape, w.drawn, w.os, w.output⟩ : World) (.map #[] 0)
    simp only at this hb
    rw [this] at hb
    injection hb with hb
    injection hb with h1 h2
    exact ⟨h1.symm, h2.symm⟩
  obtain ⟨rfl, rfl⟩ := he
  exact ⟨.map [], ⟨#[], 0, h, r⟩, fun k _ => ⟨by simp [Maps.has], fun v hv => by cases hv⟩, fun x hx => by simp [Maps.has] at hx⟩
theorem MapV.cell {w : World} {b n : Nat} {g : Nat → Option Value} (h : MapV w b g n) {a : Addr} {v : Value} (hc : w.cell? a = some v) : a.block ≠ b := by
  obtain ⟨es, c, hb⟩ := h.heap
  rintro rfl
  unfold World.cell? at hc
  rw [hb] at hc
  cases hc
set_option maxRecDepth 100000 in
theorem MapV.put {w : World} {b n : Nat} {g : Nat → Option Value} (h : MapV w b g n) (hn : n ≤ 100000) {k : Nat} (hk : k < 40000) (v : Value) :
    ∃ w', (Instr.mapUpdate 42 (.map (some b)) (.int .i64 (k : Int)) v).run Tryz.prog w = .ok () w' ∧ MapV w' b (upV g k v) (n + 1) ∧ w.mapTurned w' b := by
  obtain ⟨D, h1, h2, h2o⟩ := h
  obtain ⟨w', hrun, h3, h4⟩ := h1.store Dk.law3 Tryz.underlying42 (by unfold maxLen; omega) (Dk.key3 hk) (d := .held v) (ps := []) rfl
  have hm := h1.isMap
  refine ⟨w', hrun, ⟨_, h3, fun j hj => ?_, fun x hx => ?_⟩, h4⟩
  rotate_left
  · by_cases e : x = Dk.kL k
    · exact ⟨k, hk, e⟩
    · rw [Maps.has_put_other e] at hx
      exact h2o x hx
  unfold upV
  by_cases e : j = k
  · subst e
    rw [Maps.has_put_same hm (Dk.kL_key _), if_pos rfl]
    refine ⟨rfl, fun u hu z => ?_⟩
    injection hu with hu
    subst hu
    exact Maps.atKey_put_same hm (Dk.kL_key _) _ _
  · rw [Maps.has_put_other (fun x => e (Dk.kL_inj x)), if_neg e]
    refine ⟨(h2 j hj).1, fun u hu z => ?_⟩
    rw [Maps.atKey_put_other (fun x => e (Dk.kL_inj x))]
    exact (h2 j hj).2 u hu z
set_option maxRecDepth 100000 in
theorem step_mapput {ops : Array Oper} {o : Oper} {a : Act} {w : World} {K : Act → World → Prop} {Q : Exit → Act → World → Prop} {E : Prop} (hgd : o.guard = none) (x y z : Operand) (ho : o.op = .mapUpdate 42 x y z)
    {b n key : Nat} {g : Nat → Option Value} {v : Value} (hm : MapV w b g n ∧ n ≤ 100000) (hk : key < 40000) (hx : a.eval x = .map (some b)) (hy : a.eval y = .int .i64 (key : Int)) (hz : a.eval z = v)
    (h : ∀ w', MapV w' b (upV g key v) (n + 1) → w.mapTurned w' b → K (a.put o.dst undef) w') : if Region.wanted o (yielded ops a.tmps) = true then Oper.wp Tryz.prog o a w K Q else E := by
  have hw : Region.wanted o (yielded ops a.tmps) = true := by simp [Region.wanted, hgd]
  rw [if_pos hw]
  obtain ⟨w', hrun, r1, r2⟩ := hm.1.put hm.2 hk v
  unfold Oper.wp
  simp [execOp, ho, hx, hy, hz, hrun, Result.andThen]
  exact h w' r1 r2
theorem apart_trans {F : Foot} {w w1 w2 : World} (h : Dk.Apart F w w1) (k : Dk.Apart F w1 w2) : Dk.Apart F w w2 :=
  ⟨k.os.trans h.os, k.tape.trans h.tape, k.output.trans h.output, Nat.le_trans h.size k.size, fun i hi hn => (k.block i (Nat.lt_of_lt_of_le hi h.size) hn).trans (h.block i hi hn)⟩
set_option maxRecDepth 100000 in
/-- The end of a log's frames is stored. -/
theorem step_store_end {ops : Array Oper} {o : Oper} {a : Act} {w : World} {K : Act → World → Prop} {Q : Exit → Act → World → Prop} {E' : Prop} (hgd : o.guard = none) (x y : Operand) (ho : o.op = .store 41 x y)
    {B E k : Nat} {i : Int} {l : LogV} (hx : a.eval x = .pointer (some ⟨B, 4, none⟩)) (hy : a.eval y = .agg #[.int .u64 E, .int .i64 i, .int .u32 k]) (hL : LogAt w B l)
    (h : ∀ w3, LogAt w3 B ⟨l.d, l.f, l.pg, l.sr, E, i, k, l.n, l.m⟩ → Dk.Apart (fun b => b = B) w w3 → K (a.put o.dst undef) w3) : if Region.wanted o (yielded ops a.tmps) = true then Oper.wp Tryz.prog o a w K Q else E' := by
  refine step_store_at hgd 41 x y ho B 4 _ hx hy 46 _ hL (by kernel_rfl) (by simp) (by simp [Value.oneCell']) ?_
  exact h _ (setRow_heap w _ _ _ _ _ hL) (apart_setRow (apart_one w B) _)
/-- A frame in memory. -/
structure FV where
  E : Nat
  i : Nat
  p : Nat
  cm : Bool
  n : Nat
  k : Nat
  q : Option Addr
  c : Nat
  bs : List Nat
abbrev FV.cs (x : FV) : Array Value := #[.int .u64 x.E, .int .i64 x.i, .int .i64 x.p, .bool x.cm, .int .i64 x.n, .int .u32 x.k, .slice x.q 512 x.c]
def takeG (g : Nat → Option Value) (X : List FV) : Nat → Option Value := X.foldl (fun g x => upV g x.p (.slice x.q 512 x.c)) g
theorem takeG_next (g : Nat → Option Value) (X : List FV) (k : Nat) (y : FV) (h : X[k]? = some y) : takeG g (X.take (k + 1)) = upV (takeG g (X.take k)) y.p (.slice y.q 512 y.c) := by
  unfold takeG
  rw [List.take_add_one, h, Option.toList_some, List.foldl_append]
  rfl
def FV.sum (y : FV) : Nat := (~~~ sumN (frameB y.E y.i y.p y.cm y.n y.k ++ y.bs)).toNat
set_option maxRecDepth 100000 in
set_option maxHeartbeats 8000000 in
theorem take_any (B mb : Nat) (x : LogV) (g : Nat → Option Value) (N : Nat) (X : List FV) (q : Option Addr) (cap : Nat) (y0 : FV) (w : World) (hL : LogAt w B x) (hxm : x.m = some mb) (hM : MapV w mb g N) (hN : N + X.length ≤ 90000) (hq : RowsAt w q (X.map FV.cs)) (hp : ∀ y ∈ X, y.p < 40000) (hlast : X.getLast? = some y0)
    (hcall : ∀ w', Dk.Apart (fun k => k = mb) w w' → Calls Tryz.prog 99 #[.agg y0.cs] w' fun r w2 => r = .returned (.agg #[.int .u64 y0.E, .int .i64 ((y0.i : Int) + 1), .int .u32 (y0.sum : Nat)]) ∧ Below w'.heap.size w' w2) :
    Calls Tryz.prog 80 #[.pointer (some ⟨B, 4, none⟩), .slice q X.length cap] w fun r w' => r = .returned (.tuple #[]) ∧ LogAt w' B ⟨x.d, x.f, x.pg, x.sr, y0.E, (y0.i : Int) + 1, y0.sum, y0.n, x.m⟩ ∧ MapV w' mb (takeG g X) (N + X.length) ∧ Dk.Apart (fun k => k = B ∨ k = mb) w w' := by
  obtain ⟨len, hlen⟩ : ∃ len, len = X.length := ⟨_, rfl⟩
  have hBm : B ≠ mb := by
    obtain ⟨es, c, hb⟩ := hM.heap
    rintro rfl
    unfold LogAt at hL
    rw [hL] at hb
    cases hb
  have hpos : 0 < len := by
    cases X with
    | nil => cases hlast
    | cons a t => rw [hlen]; simp
  have HROW : Hid (∀ (k : Nat) (y : FV), X[k]? = some y → ∃ Br off, q = some ⟨Br, off, none⟩ ∧ ∀ W, Dk.Apart (fun k => k = mb) w W → ∀ r v, y.cs[r]? = some v → W.cell? ⟨Br, off + k * 7 + r, none⟩ = some v) := Lib.hid fun k y hy => by
    obtain ⟨Br, off, e, hc⟩ := hq k y.cs (by rw [List.getElem?_map, hy]; rfl)
    refine ⟨Br, off, e, fun W ha r v hv => ?_⟩
    have h1 := hc r v hv
    rw [show off + 7 * k = off + k * 7 by omega] at h1
    exact (World.cell?_of_block (ha.block _ (lt_of_cell_some h1) (hM.cell h1))).trans h1
  have HLOG : Hid (∀ W, Dk.Apart (fun k => k = mb) w W → LogAt W B x) := Lib.hid fun W ha => (ha.block B (Array.getElem?_eq_some_iff.1 hL).1 hBm).trans hL
  have HP := Lib.hid hp
  have HLEN := Lib.hid hlen
  have HN := Lib.hid hN
  have HCALL := Lib.hid hcall
  have HLAST := Lib.hid hlast
  have HMB := Lib.hid hxm
  have HM0 := Lib.hid hM
  have HBM := Lib.hid hBm
  have HPOS := Lib.hid hpos
  rw [← hlen]
  clear hL hM hN hq hp hcall hlast hlen hBm hxm hpos
  go_enter Tryz.func80, Tryz.ntmps80
  go_wp2
  go_loopw [9] (fun i W => ∃ k : Nat, k ≤ len ∧ i = .int .i64 (k : Int) ∧ Hid (Dk.Apart (fun k => k = mb) w W) ∧ Hid (MapV W mb (takeG g (X.take k)) (N + k))) (fun i _ => (len - intOf i).toNat)
  case atStart => exact ⟨0, Nat.zero_le _, rfl, Lib.hid (apart_one w mb), Lib.hid HM0.out⟩
  case round =>
    obtain ⟨k, hk, rfl, HA, HM⟩ := hrel
    by_cases hlt : k < len
    · have hltI : (k : Int) < (len : Int) := by omega
      obtain ⟨y, hy⟩ : ∃ y, X[k]? = some y := ⟨_, List.getElem?_eq_getElem (by rw [← HLEN.out]; exact hlt)⟩
      obtain ⟨Br, off, rfl, hrow⟩ := HROW.out k y hy
      have hcc := hrow wr HA.out
      have c0 := hcc 0 _ rfl
      have c1 := hcc 1 _ rfl
      have c2 := hcc 2 _ rfl
      have c3 := hcc 3 _ rfl
      have c4 := hcc 4 _ rfl
      have c5 := hcc 5 _ rfl
      have c6 := hcc 6 _ rfl
      rw [Nat.add_zero] at c0
      have HY := Lib.hid hy
      have HPY : Hid (y.p < 40000) := Lib.hid (HP.out y (List.mem_of_getElem? hy))
      clear hcc hrow hy
      go_upto_region 3 with fail
      obtain ⟨w1, hw1⟩ : ∃ w1, w1 = wr.alloc (.cells #[.int .u64 y.E, .int .i64 y.i, .int .i64 y.p, .bool y.cm, .int .i64 y.n, .int .u32 y.k, .slice y.q 512 y.c] 156) := ⟨_, rfl⟩
      rw [← hw1]
      have hb1 : Below wr.heap.size wr w1 := by subst hw1; exact (Below.refl _ _).alloc (Nat.le_refl _) _
      have hbox : w1.heap[wr.heap.size]? = some (.cells #[.int .u64 y.E, .int .i64 y.i, .int .i64 y.p, .bool y.cm, .int .i64 y.n, .int .u32 y.k, .slice y.q 512 y.c] 156 (0, 0)) := by subst hw1; exact heap_alloc_new _ _
      have hm1 := HM.out.below hb1
      have HM1 : Hid (MapV w1.drew mb (takeG g (X.take k)) (N + k) ∧ N + k ≤ 100000) := Lib.hid ⟨hm1.below ((Below.refl _ _).drew), by have := HN.out; have := HLEN.out; omega⟩
      have hlg := logAt_below (HLOG.out wr HA.out) hb1
      have hmb := hm1.lt
      have hne : wr.heap.size ≠ mb := by have := HM.out.lt; omega
      have HC : Hid (∀ w', Dk.Apart (fun k => k = mb) w1 w' → w'.cell? ⟨B, 8, none⟩ = some (.map (some mb)) ∧ w'.cell? ⟨wr.heap.size, 2, none⟩ = some (.int .i64 y.p) ∧ w'.cell? ⟨wr.heap.size, 6, none⟩ = some (.slice y.q 512 y.c)) := Lib.hid fun w' ha => by
        have e1 := (ha.block B (Array.getElem?_eq_some_iff.1 hlg).1 HBM.out).trans hlg
        have e2 := (ha.block _ (Array.getElem?_eq_some_iff.1 hbox).1 hne).trans hbox
        exact ⟨by rw [cell_of_row _ _ 8 _ _ _ e1, ← HMB.out]; rfl, by rw [cell_of_row _ _ 2 _ _ _ e2]; rfl, by rw [cell_of_row _ _ 6 _ _ _ e2]; rfl⟩
      have HA1 := Lib.hid (apart_trans HA.out (Dk.Below.apart hb1 _))
      clear c0 c1 c2 c3 c4 c5 c6 hw1 hb1 hbox hm1 hlg hmb hne
      refine wp_region_held_drew (S := fun w' => Dk.Apart (fun k => k = mb) w1 w') (by kernel_rfl) (Dk.Below.apart ((Below.refl _ _).drew) _) (fun H0 => ?_)
      refine wpAnyH_take (i := 0) (oi := { dst := some 13, op := Go.Op.move (Go.Operand.tmp 0), type := 161, pos := "counted.go:55", after := #[], guard := none }) (v := ?_) rfl (by kernel_rfl) (by kernel_rfl) (by kernel_rfl) (fun _ _ _ h => h) (Or.inl ⟨by rfl, ?_⟩) H0 ?_
      rotate_left
      focus (intro w' hSw; (try dsimp only at hSw); go_simp; (try with_reducible rfl))
      simp only [Act.put, List.setIfInBounds_toArray, List.set_cons_zero, List.set_cons_succ]
      refine wpAnyH_take (i := 1) (oi := { dst := some 14, op := Go.Op.nilCheck (Go.Operand.tmp 13), type := 0, pos := "counted.go:55", after := #[{ on := 0, ground := Go.Ground.data }], guard := none }) (v := ?_) rfl (by kernel_rfl) (by kernel_rfl) (by kernel_rfl) (fun _ _ _ h => h) (Or.inl ⟨by rfl, ?_⟩) H0 ?_
      rotate_left
      focus (intro w' hSw; (try dsimp only at hSw); go_simp; (try with_reducible rfl))
      simp only [Act.put, List.setIfInBounds_toArray, List.set_cons_zero, List.set_cons_succ]
      refine wpAnyH_take (i := 2) (oi := { dst := some 15, op := Go.Op.fieldAddr 44 (Go.Operand.tmp 14) 2, type := 0, pos := "counted.go:55", after := #[{ on := 1, ground := Go.Ground.data }], guard := none }) (v := ?_) rfl (by kernel_rfl) (by kernel_rfl) (by kernel_rfl) (fun _ _ _ h => h) (Or.inl ⟨by rfl, ?_⟩) H0 ?_
      rotate_left
      focus (intro w' hSw; (try dsimp only at hSw); go_simp; (try with_reducible rfl))
      simp only [Act.put, List.setIfInBounds_toArray, List.set_cons_zero, List.set_cons_succ]
      refine wpAnyH_take (i := 3) (oi := { dst := some 16, op := Go.Op.load 42 (Go.Operand.tmp 15), type := 42, pos := "counted.go:55", after := #[{ on := 2, ground := Go.Ground.data }], guard := none }) (v := ?_) rfl (by kernel_rfl) (by kernel_rfl) (by kernel_rfl) (fun _ _ _ h => h) (Or.inl ⟨by rfl, ?_⟩) H0 ?_
      rotate_left
      focus (intro w' hSw; (try dsimp only at hSw); obtain ⟨s0, s1, s2⟩ := HC.out _ hSw; go_simp; (try with_reducible rfl))
      simp only [Act.put, List.setIfInBounds_toArray, List.set_cons_zero, List.set_cons_succ]
      refine wpAnyH_take (i := 4) (oi := { dst := some 17, op := Go.Op.fieldAddr 156 (Go.Operand.tmp 5) 2, type := 0, pos := "counted.go:55", after := #[], guard := none }) (v := ?_) rfl (by kernel_rfl) (by kernel_rfl) (by kernel_rfl) (fun _ _ _ h => h) (Or.inl ⟨by rfl, ?_⟩) H0 ?_
      rotate_left
      focus (intro w' hSw; (try dsimp only at hSw); go_simp; (try with_reducible rfl))
      simp only [Act.put, List.setIfInBounds_toArray, List.set_cons_zero, List.set_cons_succ]
      refine wpAnyH_take (i := 5) (oi := { dst := some 18, op := Go.Op.load 3 (Go.Operand.tmp 17), type := 3, pos := "counted.go:55", after := #[{ on := 4, ground := Go.Ground.data }], guard := none }) (v := ?_) rfl (by kernel_rfl) (by kernel_rfl) (by kernel_rfl) (fun _ _ _ h => h) (Or.inl ⟨by rfl, ?_⟩) H0 ?_
      rotate_left
      focus (intro w' hSw; (try dsimp only at hSw); obtain ⟨s0, s1, s2⟩ := HC.out _ hSw; go_simp; (try with_reducible rfl))
      simp only [Act.put, List.setIfInBounds_toArray, List.set_cons_zero, List.set_cons_succ]
      refine wpAnyH_take (i := 6) (oi := { dst := some 19, op := Go.Op.fieldAddr 156 (Go.Operand.tmp 5) 6, type := 0, pos := "counted.go:55", after := #[], guard := none }) (v := ?_) rfl (by kernel_rfl) (by kernel_rfl) (by kernel_rfl) (fun _ _ _ h => h) (Or.inl ⟨by rfl, ?_⟩) H0 ?_
      rotate_left
      focus (intro w' hSw; (try dsimp only at hSw); go_simp; (try with_reducible rfl))
      simp only [Act.put, List.setIfInBounds_toArray, List.set_cons_zero, List.set_cons_succ]
      refine wpAnyH_take (i := 7) (oi := { dst := some 20, op := Go.Op.load 49 (Go.Operand.tmp 19), type := 49, pos := "counted.go:55", after := #[{ on := 6, ground := Go.Ground.data }], guard := none }) (v := ?_) rfl (by kernel_rfl) (by kernel_rfl) (by kernel_rfl) (fun _ _ _ h => h) (Or.inl ⟨by rfl, ?_⟩) H0 ?_
      rotate_left
      focus (intro w' hSw; (try dsimp only at hSw); obtain ⟨s0, s1, s2⟩ := HC.out _ hSw; go_simp; (try with_reducible rfl))
      simp only [Act.put, List.setIfInBounds_toArray, List.set_cons_zero, List.set_cons_succ]
      refine wpAnyH_ready (rs := [8]) (by kernel_rfl) (by simp) ?_
      refine AllReadyH.cons (o := { dst := none, op := Go.Op.mapUpdate 42 (Go.Operand.tmp 16) (Go.Operand.tmp 18) (Go.Operand.tmp 20), type := 0, pos := "counted.go:55", after := #[{ on := 3, ground := Go.Ground.data }, { on := 5, ground := Go.Ground.data }, { on := 7, ground := Go.Ground.data }, { on := 0, ground := Go.Ground.phase }, { on := 1, ground := Go.Ground.phase }, { on := 2, ground := Go.Ground.phase }, { on := 3, ground := Go.Ground.phase }, { on := 4, ground := Go.Ground.phase }, { on := 5, ground := Go.Ground.phase }, { on := 6, ground := Go.Ground.phase }, { on := 7, ground := Go.Ground.phase }], guard := none }) rfl (fun K hK => ?_) ?_
      rotate_left
      exact AllReadyH.nil
      refine step_mapput rfl (.tmp 16) (.tmp 18) (.tmp 20) rfl HM1.out (key := (y.p)) (v := .slice y.q 512 y.c) HPY.out rfl rfl rfl (fun w2 hm2 ht2 => ?_)
      have HT := Lib.hid (Dk.apart_turned ht2)
      have HM2 := Lib.hid hm2
      clear hm2 ht2
      refine hK.out _ _ (apart_trans (Dk.Below.apart ((Below.refl _ _).drew) _) HT.out) (fun _ => ?_)
      clear hK K
      try simp only [Act.put, List.setIfInBounds_toArray, List.set_cons_zero, List.set_cons_succ]
      refine wpAnyH_done (by kernel_rfl) ?_ _
      have hwk : wrap64 ((k : Int) + 1) = (k : Int) + 1 := by have := HN.out; have := HLEN.out; unfold wrap64; omega
      have hm3 := HM2.out
      rw [← takeG_next g X k y HY.out] at hm3
      have HM3 := Lib.hid hm3
      clear hm3
      go_wp2
      go_roundw
      case rel => exact ⟨k + 1, hlt, by first | rfl | go_num, Lib.hid (apart_trans HA1.out (apart_trans (Dk.Below.apart ((Below.refl _ _).drew) _) HT.out)), HM3⟩
      case measure => first | exact meas_down len k hlt | (rw [hwk]; exact meas_down len k hlt)
    · obtain rfl : k = len := by omega
      have hk1 : X[k - 1]? = some y0 := by
        have := HLAST.out
        rw [List.getLast?_eq_getElem?, ← HLEN.out] at this
        exact this
      have hpos := HPOS.out
      obtain ⟨Br, off, rfl, hrow⟩ := HROW.out (k - 1) y0 hk1
      have hcc := hrow wr HA.out
      obtain ⟨m, hm⟩ : ∃ m, k = m + 1 := ⟨k - 1, by omega⟩
      subst hm
      rw [Nat.add_sub_cancel] at hcc
      have c0 := hcc 0 _ rfl
      have c1 := hcc 1 _ rfl
      have c2 := hcc 2 _ rfl
      have c3 := hcc 3 _ rfl
      have c4 := hcc 4 _ rfl
      have c5 := hcc 5 _ rfl
      have c6 := hcc 6 _ rfl
      rw [Nat.add_zero] at c0
      have hwm : (((m + 1 : Nat) : Int) - 1) = (m : Int) := by omega
      have hm9 : (m : Int) ≤ 90000 := by have := HN.out; have := HLEN.out; omega
      clear hcc hrow hk1 hpos
      go_upto_region 6 with fail
      obtain ⟨w1, hw1⟩ : ∃ w1, w1 = wr.alloc (.cells #[.int .u64 y0.E, .int .i64 y0.i, .int .i64 y0.p, .bool y0.cm, .int .i64 y0.n, .int .u32 y0.k, .slice y0.q 512 y0.c] 156) := ⟨_, rfl⟩
      rw [← hw1]
      have hb1 : Below wr.heap.size wr w1 := by subst hw1; exact (Below.refl _ _).alloc (Nat.le_refl _) _
      have hbox : w1.heap[wr.heap.size]? = some (.cells #[.int .u64 y0.E, .int .i64 y0.i, .int .i64 y0.p, .bool y0.cm, .int .i64 y0.n, .int .u32 y0.k, .slice y0.q 512 y0.c] 156 (0, 0)) := by subst hw1; exact heap_alloc_new _ _
      have hlg0 := HLOG.out wr HA.out
      have hlg := logAt_below hlg0 hb1
      have hne : wr.heap.size ≠ B := by have := (Array.getElem?_eq_some_iff.1 hlg0).1; omega
      have HLG := Lib.hid hlg
      have HB1 := Lib.hid hb1
      have HC : Hid (∀ w', Dk.Apart (fun k => k = B) w1 w' → w'.cell? ⟨wr.heap.size, 0, none⟩ = some (.int .u64 y0.E) ∧ w'.cell? ⟨wr.heap.size, 1, none⟩ = some (.int .i64 y0.i) ∧ w'.cell? ⟨wr.heap.size, 2, none⟩ = some (.int .i64 y0.p) ∧ w'.cell? ⟨wr.heap.size, 3, none⟩ = some (.bool y0.cm) ∧ w'.cell? ⟨wr.heap.size, 4, none⟩ = some (.int .i64 y0.n) ∧ w'.cell? ⟨wr.heap.size, 5, none⟩ = some (.int .u32 y0.k) ∧ w'.cell? ⟨wr.heap.size, 6, none⟩ = some (.slice y0.q 512 y0.c)) := Lib.hid fun w' ha => by
        have e2 := (ha.block _ (Array.getElem?_eq_some_iff.1 hbox).1 hne).trans hbox
        have e : ∀ j v, (#[.int .u64 y0.E, .int .i64 y0.i, .int .i64 y0.p, .bool y0.cm, .int .i64 y0.n, .int .u32 y0.k, .slice y0.q 512 y0.c] : Array Value)[j]? = some v → w'.cell? ⟨wr.heap.size, j, none⟩ = some v := fun j v h => (cell_of_row _ _ j _ _ _ e2).trans h
        exact ⟨e 0 _ rfl, e 1 _ rfl, e 2 _ rfl, e 3 _ rfl, e 4 _ rfl, e 5 _ rfl, e 6 _ rfl⟩
      have CE : Hid (∀ w', Below wr.heap.size wr w' → Calls Tryz.prog 99 #[.agg #[.int .u64 y0.E, .int .i64 y0.i, .int .i64 y0.p, .bool y0.cm, .int .i64 y0.n, .int .u32 y0.k, .slice y0.q 512 y0.c]] w' fun r w2 => r = .returned (.agg #[.int .u64 y0.E, .int .i64 ((y0.i : Int) + 1), .int .u32 (y0.sum : Nat)]) ∧ Below w'.heap.size w' w2) := Lib.hid fun w' hb => HCALL.out w' (apart_trans HA.out (Dk.Below.apart hb _))
      have HM9 : Hid (MapV wr mb (takeG g X) (N + (m + 1))) := Lib.hid (by
        have := HM.out
        rw [HLEN.out, List.take_of_length_le (Nat.le_refl _), ← HLEN.out] at this
        exact this)
      obtain ⟨sm, hsm⟩ : ∃ sm, sm = y0.sum := ⟨_, rfl⟩
      rw [← hsm] at CE
      have HSM := Lib.hid hsm
      clear hsm
      clear c0 c1 c2 c3 c4 c5 c6 hw1 hb1 hbox hlg hlg0 hne
      refine wp_region_held_drew (S := fun w' => Dk.Apart (fun k => k = B) w1 w') (by kernel_rfl) (Dk.Below.apart ((Below.refl _ _).drew) _) (fun H0 => ?_)
      refine wpAnyH_take (i := 0) (oi := { dst := some 28, op := Go.Op.move (Go.Operand.tmp 0), type := 161, pos := "counted.go:58", after := #[], guard := none }) (v := ?_) rfl (by kernel_rfl) (by kernel_rfl) (by kernel_rfl) (fun _ _ _ h => h) (Or.inl ⟨by rfl, ?_⟩) H0 ?_
      rotate_left
      focus (intro w' hSw; (try dsimp only at hSw); go_simp; (try with_reducible rfl))
      simp only [Act.put, List.setIfInBounds_toArray, List.set_cons_zero, List.set_cons_succ]
      refine wpAnyH_take (i := 1) (oi := { dst := some 29, op := Go.Op.move (Go.Operand.tmp 0), type := 161, pos := "counted.go:58", after := #[{ on := 8, ground := Go.Ground.gcOnly Go.Departure.lateStores }], guard := none }) (v := ?_) rfl (by kernel_rfl) (by kernel_rfl) (by kernel_rfl) (fun _ _ _ h => h) (Or.inl ⟨by rfl, ?_⟩) H0 ?_
      rotate_left
      focus (intro w' hSw; (try dsimp only at hSw); go_simp; (try with_reducible rfl))
      simp only [Act.put, List.setIfInBounds_toArray, List.set_cons_zero, List.set_cons_succ]
      refine wpAnyH_take (i := 2) (oi := { dst := some 30, op := Go.Op.load 156 (Go.Operand.tmp 6), type := 156, pos := "counted.go:58", after := #[], guard := none }) (v := ?_) rfl (by kernel_rfl) (by kernel_rfl) (by kernel_rfl) (fun _ _ _ h => h) (Or.inl ⟨by rfl, ?_⟩) H0 ?_
      rotate_left
      focus (intro w' hSw; (try dsimp only at hSw); obtain ⟨s0, s1, s2, s3, s4, s5, s6⟩ := HC.out _ hSw; go_simp; (try with_reducible rfl))
      simp only [Act.put, List.setIfInBounds_toArray, List.set_cons_zero, List.set_cons_succ]
      refine wpAnyH_take (i := 4) (oi := { dst := some 32, op := Go.Op.fieldAddr 156 (Go.Operand.tmp 6) 4, type := 0, pos := "counted.go:58", after := #[{ on := 8, ground := Go.Ground.gcOnly Go.Departure.lateStores }], guard := none }) (v := ?_) rfl (by kernel_rfl) (by kernel_rfl) (by kernel_rfl) (fun _ _ _ h => h) (Or.inl ⟨by rfl, ?_⟩) H0 ?_
      rotate_left
      focus (intro w' hSw; (try dsimp only at hSw); go_simp; (try with_reducible rfl))
      simp only [Act.put, List.setIfInBounds_toArray, List.set_cons_zero, List.set_cons_succ]
      refine wpAnyH_take (i := 5) (oi := { dst := some 33, op := Go.Op.load 3 (Go.Operand.tmp 32), type := 3, pos := "counted.go:58", after := #[{ on := 4, ground := Go.Ground.data }, { on := 8, ground := Go.Ground.gcOnly Go.Departure.lateStores }], guard := none }) (v := ?_) rfl (by kernel_rfl) (by kernel_rfl) (by kernel_rfl) (fun _ _ _ h => h) (Or.inl ⟨by rfl, ?_⟩) H0 ?_
      rotate_left
      focus (intro w' hSw; (try dsimp only at hSw); obtain ⟨s0, s1, s2, s3, s4, s5, s6⟩ := HC.out _ hSw; go_simp; (try with_reducible rfl))
      simp only [Act.put, List.setIfInBounds_toArray, List.set_cons_zero, List.set_cons_succ]
      refine wpAnyH_ready (rs := [3]) (by kernel_rfl) (by simp) ?_
      refine AllReadyH.cons (o := { dst := some 31, op := Go.Op.call { callee := Go.Callee.value (Go.Operand.func 99), args := #[Go.Operand.tmp 30], argTypes := #[156] }, type := 41, pos := "counted.go:58", after := #[{ on := 2, ground := Go.Ground.data }], guard := none }) rfl (fun K hK => ?_) ?_
      rotate_left
      exact AllReadyH.nil
      try go_simp
      refine (CE.out _ (kbT HB1.out ((Below.refl _ _).drew))).mono ?_; rintro e w2 ⟨rfl, hb⟩; have HE2 := Lib.hid (kbD hb); clear hb
      try go_wp2_with fail
      refine hK.out _ _ (Dk.Below.apart HE2.out _) (fun H1 => ?_)
      clear hK K
      try simp only [Act.put, List.setIfInBounds_toArray, List.set_cons_zero, List.set_cons_succ]
      refine wpAnyH_take (i := 6) (oi := { dst := some 34, op := Go.Op.nilCheck (Go.Operand.tmp 28), type := 0, pos := "counted.go:58", after := #[{ on := 0, ground := Go.Ground.data }, { on := 0, ground := Go.Ground.phase }, { on := 1, ground := Go.Ground.textOnly Go.Departure.lateStores }, { on := 2, ground := Go.Ground.phase }, { on := 3, ground := Go.Ground.phase }, { on := 4, ground := Go.Ground.textOnly Go.Departure.lateStores }, { on := 5, ground := Go.Ground.textOnly Go.Departure.lateStores }], guard := none }) (v := ?_) rfl (by kernel_rfl) (by kernel_rfl) (by kernel_rfl) (fun _ _ _ h => h) (Or.inl ⟨by rfl, ?_⟩) H1 ?_
      rotate_left
      focus (intro w' hSw; (try dsimp only at hSw); go_simp; (try with_reducible rfl))
      simp only [Act.put, List.setIfInBounds_toArray, List.set_cons_zero, List.set_cons_succ]
      refine wpAnyH_take (i := 7) (oi := { dst := some 35, op := Go.Op.fieldAddr 44 (Go.Operand.tmp 34) 0, type := 0, pos := "counted.go:58", after := #[{ on := 6, ground := Go.Ground.data }, { on := 0, ground := Go.Ground.phase }, { on := 1, ground := Go.Ground.textOnly Go.Departure.lateStores }, { on := 2, ground := Go.Ground.phase }, { on := 3, ground := Go.Ground.phase }, { on := 4, ground := Go.Ground.textOnly Go.Departure.lateStores }, { on := 5, ground := Go.Ground.textOnly Go.Departure.lateStores }], guard := none }) (v := ?_) rfl (by kernel_rfl) (by kernel_rfl) (by kernel_rfl) (fun _ _ _ h => h) (Or.inl ⟨by rfl, ?_⟩) H1 ?_
      rotate_left
      focus (intro w' hSw; (try dsimp only at hSw); go_simp; (try with_reducible rfl))
      simp only [Act.put, List.setIfInBounds_toArray, List.set_cons_zero, List.set_cons_succ]
      have hr2 := logAt_below HLG.out HE2.out
      refine wpAnyH_ready (rs := [8]) (by kernel_rfl) (by simp) ?_
      refine AllReadyH.cons (o := { dst := none, op := Go.Op.store 41 (Go.Operand.tmp 35) (Go.Operand.tmp 31), type := 0, pos := "counted.go:58", after := #[{ on := 7, ground := Go.Ground.data }, { on := 3, ground := Go.Ground.data }, { on := 3, ground := Go.Ground.chain }, { on := 0, ground := Go.Ground.phase }, { on := 1, ground := Go.Ground.textOnly Go.Departure.lateStores }, { on := 2, ground := Go.Ground.phase }, { on := 3, ground := Go.Ground.phase }, { on := 4, ground := Go.Ground.textOnly Go.Departure.lateStores }, { on := 5, ground := Go.Ground.textOnly Go.Departure.lateStores }], guard := none }) rfl (fun K hK => ?_) ?_
      rotate_left
      exact AllReadyH.nil
      refine step_store_end rfl (.tmp 35) (.tmp 31) rfl rfl rfl hr2 (fun w3 hr4 ha3' => ?_)
      have ha3 := apart_trans (Dk.Below.apart HE2.out _) ha3'
      have HA3 := Lib.hid ha3
      have HL4 := Lib.hid hr4
      refine hK.out _ _ ha3 (fun H2 => ?_)
      clear hK K hr4 ha3 ha3' hr2
      try simp only [Act.put, List.setIfInBounds_toArray, List.set_cons_zero, List.set_cons_succ]
      refine wpAnyH_take (i := 9) (oi := { dst := some 36, op := Go.Op.nilCheck (Go.Operand.tmp 29), type := 0, pos := "counted.go:58", after := #[{ on := 1, ground := Go.Ground.data }, { on := 0, ground := Go.Ground.phase }, { on := 1, ground := Go.Ground.phase }, { on := 2, ground := Go.Ground.phase }, { on := 3, ground := Go.Ground.phase }, { on := 4, ground := Go.Ground.phase }, { on := 5, ground := Go.Ground.phase }, { on := 6, ground := Go.Ground.phase }, { on := 7, ground := Go.Ground.phase }, { on := 8, ground := Go.Ground.phase }], guard := none }) (v := ?_) rfl (by kernel_rfl) (by kernel_rfl) (by kernel_rfl) (fun _ _ _ h => h) (Or.inl ⟨by rfl, ?_⟩) H2 ?_
      rotate_left
      focus (intro w' hSw; (try dsimp only at hSw); go_simp; (try with_reducible rfl))
      simp only [Act.put, List.setIfInBounds_toArray, List.set_cons_zero, List.set_cons_succ]
      refine wpAnyH_take (i := 10) (oi := { dst := some 37, op := Go.Op.fieldAddr 44 (Go.Operand.tmp 36) 1, type := 0, pos := "counted.go:58", after := #[{ on := 9, ground := Go.Ground.data }, { on := 0, ground := Go.Ground.phase }, { on := 1, ground := Go.Ground.phase }, { on := 2, ground := Go.Ground.phase }, { on := 3, ground := Go.Ground.phase }, { on := 4, ground := Go.Ground.phase }, { on := 5, ground := Go.Ground.phase }, { on := 6, ground := Go.Ground.phase }, { on := 7, ground := Go.Ground.phase }, { on := 8, ground := Go.Ground.phase }], guard := none }) (v := ?_) rfl (by kernel_rfl) (by kernel_rfl) (by kernel_rfl) (fun _ _ _ h => h) (Or.inl ⟨by rfl, ?_⟩) H2 ?_
      rotate_left
      focus (intro w' hSw; (try dsimp only at hSw); go_simp; (try with_reducible rfl))
      simp only [Act.put, List.setIfInBounds_toArray, List.set_cons_zero, List.set_cons_succ]
      refine wpAnyH_ready (rs := [11]) (by kernel_rfl) (by simp) ?_
      refine AllReadyH.cons (o := { dst := none, op := Go.Op.store 3 (Go.Operand.tmp 37) (Go.Operand.tmp 33), type := 0, pos := "counted.go:58", after := #[{ on := 10, ground := Go.Ground.data }, { on := 5, ground := Go.Ground.data }, { on := 8, ground := Go.Ground.chain }, { on := 0, ground := Go.Ground.phase }, { on := 1, ground := Go.Ground.phase }, { on := 2, ground := Go.Ground.phase }, { on := 3, ground := Go.Ground.phase }, { on := 4, ground := Go.Ground.phase }, { on := 5, ground := Go.Ground.phase }, { on := 6, ground := Go.Ground.phase }, { on := 7, ground := Go.Ground.phase }, { on := 8, ground := Go.Ground.phase }], guard := none }) rfl (fun K hK => ?_) ?_
      rotate_left
      exact AllReadyH.nil
      have q7 := logAt_cells HL4.out 7 _ rfl
      have z7 := logAt_fz HL4.out 7
      try go_simp
      refine hK.out _ _ (apart_set HA3.out _ _) (fun _ => ?_)
      clear hK K
      try simp only [Act.put, List.setIfInBounds_toArray, List.set_cons_zero, List.set_cons_succ]
      refine wpAnyH_done (by kernel_rfl) ?_ _
      go_wp2
      go_end0
      rw [← HSM.out]
      refine ⟨rfl, row_set HL4.out _, (HM9.out.below HB1.out).of_block ?_, ?_⟩
      · have h1 := (apart_set HA3.out 7 (.int .i64 y0.n)).block mb (Nat.lt_of_lt_of_le HM9.out.lt HB1.out.size) (fun e => HBM.out e.symm)
        exact h1
      · have h1 := apart_set HA3.out 7 (.int .i64 y0.n)
        have h2 := Dk.Below.apart HB1.out (fun k => k = B ∨ k = mb)
        have h3 : Dk.Apart (fun k => k = B ∨ k = mb) w wr := ⟨HA.out.os, HA.out.tape, HA.out.output, HA.out.size, fun k hk hn => HA.out.block k hk (fun e => hn (.inr e))⟩
        exact apart_trans h3 (apart_trans h2 ⟨h1.os, h1.tape, h1.output, h1.size, fun k hk hn => h1.block k hk (fun e => hn (.inl e))⟩)
end Go.Proofs.YtdanigigjainjaaGreat
namespace Go.Proofs.YtdanigigjainjaaGreat
open Go.RowKit Go.Shelf
attribute [local go_sem] Oper.semAt_some

theorem rep_stopped {w : World} {d : Value} {s : Dk.DS} {F : Foot} (h : Dk.RepD w d s F) (hm : 1 ≤ s.many) : Calls Tryz.prog 96 #[d] w fun r w' => r = .returned (.bool (decide (s.left = 0))) ∧ w = w' := by
  obtain ⟨B, b1, b2, v, rfl, h, -⟩ := h
  exact Dk.dstopped_any h hm
set_option maxRecDepth 100000 in
set_option maxHeartbeats 4000000 in
theorem look_zero (s : Dk.DS) (B : Nat) (x : LogV) (F : Foot) (w : World) (hL : LogAt w B x) (hR : Dk.RepD w (.pointer x.d) s F) (hm : 1 ≤ s.many) (hi : x.i = 0) :
    Calls Tryz.prog 73 #[.pointer (some ⟨B, 0, none⟩), .int .i64 0] w fun r w' => r = .returned (.int .i64 (if s.left = 0 then 140 else 0)) ∧ Below w.heap.size w w' := by
  have CS := Lib.hid (rep_stopped hR hm)
  have hc := logAt_cells hL
  obtain ⟨d, f, pg, sr, E0, i, k, n0, m⟩ := x
  simp only at hi
  subst hi
  have c0 := hc 0 _ rfl
  have c4 := hc 4 _ rfl
  have c5 := hc 5 _ rfl
  have c6 := hc 6 _ rfl
  clear hc hL hR hm
  by_cases h0 : s.left = 0
  · simp only [h0, decide_true, if_true] at CS ⊢
    go_enter Tryz.func73, Tryz.ntmps73
    go_wp2_with (first
      | (go_at_call 96; refine CS.out.mono ?_; rintro e w1 ⟨rfl, rfl⟩)
      | fail)
    go_ret
    exact ⟨rfl, Below.refl _ _⟩
  · simp only [h0, decide_false, if_false] at CS ⊢
    go_enter Tryz.func73, Tryz.ntmps73
    go_wp2_with (first
      | (go_at_call 96; refine CS.out.mono ?_; rintro e w1 ⟨rfl, rfl⟩)
      | fail)
    refine wp_loop_rounds 1 ?_
    rw [rounds_succ]
    go_wp2
    go_ret
    exact ⟨rfl, (Below.refl _ _).alloc (Nat.le_refl _) _⟩
end Go.Proofs.YtdanigigjainjaaGreat
namespace Go.Proofs.YtdanigigjainjaaGreat
open Go.RowKit Go.Shelf
attribute [local go_sem] Oper.semAt_some

theorem begin_apart {F : Foot} {B : Nat} {w w1 w2 w3 : World} (h1 : Dk.Apart F w w1) (h2 : Below w1.heap.size w1 w2) (h3 : Dk.Apart (fun k => k = B) w2 w3) : Dk.Apart (fun k => F k ∨ k = B) w w3 :=
  ⟨h3.os.trans (h2.os.trans h1.os), h3.tape.trans (h2.tape.trans h1.tape), h3.output.trans (h2.output.trans h1.output), Nat.le_trans h1.size (Nat.le_trans h2.size h3.size), fun k hk hn => by
    have k1 := Nat.lt_of_lt_of_le hk h1.size
    exact (h3.block k (Nat.lt_of_lt_of_le k1 h2.size) (fun e => hn (.inr e))).trans ((h2.block k k1).trans (h1.block k hk (fun e => hn (.inl e))))⟩
set_option maxRecDepth 100000 in
set_option maxHeartbeats 6000000 in
/-- A head is found, or written. -/
theorem begin_yes (s' : Dk.DS) (B : Nat) (x : LogV) (S E : Nat) (n c : Int) (F : Foot) (R : Int → World → Prop) (w : World) (hL : LogAt w B x) (hBF : ¬ F B)
    (hh : Calls Tryz.prog 71 #[.agg #[.pointer x.d, .int .i64 x.f, .int .i64 x.pg]] w fun r w1 => r = .returned (.tuple #[hd4 S E n c, .int .i64 0]) ∧ Dk.Goes Dk.RepD (.pointer x.d) s' F w w1)
    (hlook : ∀ (w2 : World) (mb : Nat) (F2 : Foot), LogAt w2 B ⟨x.d, x.f, x.pg, S, E, 0, 0, n, some mb⟩ → MapV w2 mb (fun _ => none) 0 → Dk.RepD w2 (.pointer x.d) s' F2 → (∀ k, F2 k → F k ∨ w.heap.size ≤ k) → ¬ F2 B → ¬ F2 mb → w.heap.size ≤ mb → Dk.Apart (fun k => F k ∨ k = B) w w2 →
      Calls Tryz.prog 73 #[.pointer (some ⟨B, 0, none⟩), .int .i64 c] w2 fun r w3 => ∃ e, r = .returned (.int .i64 e) ∧ R e w3) :
    Calls Tryz.prog 41 #[.pointer (some ⟨B, 0, none⟩)] w fun r w' => ∃ e, r = .returned (.int .i64 e) ∧ R e w' := by
  have hc := logAt_cells hL
  have hBl : B < w.heap.size := (Array.getElem?_eq_some_iff.1 hL).1
  obtain ⟨d, f, pg, sr, E0, i, k, n0, m⟩ := x
  have c0 := hc 0 _ rfl
  have c1 := hc 1 _ rfl
  have c2 := hc 2 _ rfl
  have CH := Lib.hid hh
  have HLK := Lib.hid hlook
  have HL := Lib.hid hL
  have HBF := Lib.hid hBF
  have HBL := Lib.hid hBl
  unfold hd4 at CH
  clear hc hL hh hlook hBF hBl
  go_enter Tryz.func41, Tryz.ntmps41
  go_upto_region 3 with (first
    | (go_at_call 71; refine CH.out.mono ?_; rintro e w1 ⟨rfl, hg⟩; have HG := Lib.hid hg; clear hg c0 c1 c2)
    | fail)
  obtain ⟨w2, hw2⟩ : ∃ w2, w2 = w1.alloc (.cells #[.int .u64 S, .int .u64 E, .int .i64 n, .int .i64 c] 127) := ⟨_, rfl⟩
  rw [← hw2]
  obtain ⟨F', hR', hF', ha'⟩ := HG.out
  have hb2 : Below w1.heap.size w1 w2 := by subst hw2; exact (Below.refl _ _).alloc (Nat.le_refl _) _
  have hbox : w2.heap[w1.heap.size]? = some (.cells #[.int .u64 S, .int .u64 E, .int .i64 n, .int .i64 c] 127 (0, 0)) := by subst hw2; exact heap_alloc_new _ _
  have hl1 : LogAt w1 B ⟨d, f, pg, sr, E0, i, k, n0, m⟩ := (ha'.block B HBL.out HBF.out).trans HL.out
  have hl2 := logAt_below hl1 hb2
  have CT := Lib.hid (turn_any B _ S E n c w2 hl2)
  unfold hd4 at CT
  have q0 := (cell_of_row w2 _ 0 _ _ _ hbox).trans rfl
  have q1 := (cell_of_row w2 _ 1 _ _ _ hbox).trans rfl
  have q2 := (cell_of_row w2 _ 2 _ _ _ hbox).trans rfl
  have q3 := (cell_of_row w2 _ 3 _ _ _ hbox).trans rfl
  have HBX := Lib.hid hbox
  have HB2 := Lib.hid hb2
  have HSB : Hid (B < w1.heap.size) := Lib.hid (Array.getElem?_eq_some_iff.1 hl1).1
  clear hw2 hbox hl1 hl2 hb2 hR' hF' ha'
  go_wp2_with (first
    | (go_at_call 72; refine CT.out.mono ?_; rintro e w3 ⟨rfl, hl3, hm3, ha3⟩; have HL3 := Lib.hid hl3; have HM3 := Lib.hid hm3; have HA3 := Lib.hid ha3; have hbx3 := (ha3.block _ (Array.getElem?_eq_some_iff.1 HBX.out).1 (by have := HSB.out; omega)).trans HBX.out; have r3 : w3.cell? ⟨w1.heap.size, 3, none⟩ = some (.int .i64 c) := (cell_of_row w3 _ 3 _ _ _ hbx3).trans rfl; clear hl3 hm3 ha3 hbx3 q0 q1 q2 q3)
    | (go_at_call 73; obtain ⟨F', hR', hF', ha'⟩ := HG.out; have hlo := Dk.diskOk.low _ _ _ _ hR'; have hnB : ¬ F' B := fun h => (hF' B h).elim HBF.out (fun h => by have := HBL.out; omega); have hsz2 := HB2.out.size; have hsz1 := ha'.size; refine (HLK.out w3 (w2.heap.size + 1) F' HL3.out (MapV.new HM3.out) (Dk.diskOk.keep _ _ _ _ _ hR' (Nat.le_trans hsz2 HA3.out.size) (fun k hk => (HA3.out.block k (Nat.lt_of_lt_of_le (hlo k hk) hsz2) (fun e => hnB (e ▸ hk))).trans (HB2.out.block k (hlo k hk)))) hF' hnB (fun h => by have := hlo _ h; omega) (by omega) (begin_apart ha' HB2.out HA3.out)).mono ?_; rintro e w4 ⟨e1, rfl, hr⟩; have HRR := Lib.hid hr; clear hr hR' hF' ha' hlo hnB hsz1 hsz2)
    | fail)
  go_ret
  exact ⟨_, rfl, HRR.out⟩
end Go.Proofs.YtdanigigjainjaaGreat
namespace Go.Proofs.YtdanigigjainjaaGreat
open Go.RowKit Go.Shelf
attribute [local go_sem] Oper.semAt_some
set_option maxRecDepth 100000 in
set_option maxHeartbeats 8000000 in
theorem open_any (d : Option Addr) (f pg : Int) (R : Int → World → Prop) (w : World)
    (hfirst : ∀ W g c, Below w.heap.size w W → LogAt W (w.heap.size + 1) ⟨d, f, pg, 0, 0, 0, 0, 0, none⟩ → W.heap[g]? = some (.cells #[.func (.func 39) #[.agg #[.pointer d, .int .i64 f, .int .i64 pg]] #[], .func (.func 40) #[.agg #[.pointer d, .int .i64 f, .int .i64 pg]] #[], .func (.func 41) #[.pointer (some ⟨w.heap.size + 1, 0, none⟩)] #[]] 56 (0, 0)) →
      Calls Tryz.prog 38 #[.slice (some ⟨g, 0, none⟩) 3 c] W fun r W' => ∃ e, r = .returned (.int .i64 e) ∧ R e W')
    (hRc : ∀ e W, R e W → W.cell? ⟨w.heap.size + 1, 0, none⟩ = some (.pointer d) ∧ W.cell? ⟨w.heap.size + 1, 1, none⟩ = some (.int .i64 f) ∧ W.cell? ⟨w.heap.size + 1, 2, none⟩ = some (.int .i64 pg)) :
    Calls Tryz.prog 10 #[.pointer d, .agg #[.int .i64 f, .int .i64 pg]] w fun r w' => ∃ e, R e w' ∧ r = .returned (.tuple #[.pointer (if e = 0 then some ⟨w.heap.size + 1, 0, none⟩ else none), .int .i64 e]) := by
  have hmf : ∀ (fn : Fn) (first cap : Array Value) (w : World), (Instr.makeFunc fn first cap).run Tryz.prog w = .ok (.func fn first cap) w := fun _ _ _ _ => rfl
  have HF := Lib.hid hfirst
  have HRc := Lib.hid hRc
  clear hfirst hRc
  go_enter Tryz.func10, Tryz.ntmps10
  go_upto_region 2 with fail
  obtain ⟨w0, hw0⟩ : ∃ w0, w0 = (w.alloc (.cells #[.int .i64 f, .int .i64 pg] 23)).alloc (.cells #[.pointer d, .int .i64 f, .int .i64 pg, .int .u64 0, .int .u64 0, .int .i64 0, .int .u32 0, .int .i64 0, .map none] 46) := ⟨_, rfl⟩
  rw [← hw0]
  have hb0 : Below w.heap.size w w0 := by subst hw0; exact ((Below.refl _ _).alloc (Nat.le_refl _) _).alloc (by simp) _
  have hl0 : LogAt w0 (w.heap.size + 1) ⟨d, f, pg, 0, 0, 0, 0, 0, none⟩ := by subst hw0; exact heap2 w _ _
  have hc := logAt_cells hl0
  have c0 := hc 0 _ rfl
  have c1 := hc 1 _ rfl
  have c2 := hc 2 _ rfl
  have HL0 := Lib.hid hl0
  have HB0 := Lib.hid hb0
  clear hw0 hb0 hl0 hc
  refine wp_region_held_drew (S := fun w' => w'.cell? ⟨w.heap.size + 1, 0, none⟩ = some (.pointer d) ∧ w'.cell? ⟨w.heap.size + 1, 1, none⟩ = some (.int .i64 f) ∧ w'.cell? ⟨w.heap.size + 1, 2, none⟩ = some (.int .i64 pg)) (by kernel_rfl) ⟨c0, c1, c2⟩ (fun H0 => ?_)
  refine wpAnyH_take (i := 0) (oi := { dst := some 13, op := Go.Op.move (Go.Operand.tmp 6), type := 30, pos := "wal.go:23", after := #[], guard := none }) (v := ?_) rfl (by kernel_rfl) (by kernel_rfl) (by kernel_rfl) (fun _ _ _ h => h) (Or.inl ⟨by rfl, ?_⟩) H0 ?_
  rotate_left
  focus (intro w' hSw; (try dsimp only at hSw); go_simp; (try with_reducible rfl))
  simp only [Act.put, List.setIfInBounds_toArray, List.set_cons_zero, List.set_cons_succ]
  refine wpAnyH_take (i := 1) (oi := { dst := some 14, op := Go.Op.nilCheck (Go.Operand.tmp 13), type := 0, pos := "wal.go:23", after := #[{ on := 0, ground := Go.Ground.data }], guard := none }) (v := ?_) rfl (by kernel_rfl) (by kernel_rfl) (by kernel_rfl) (fun _ _ _ h => h) (Or.inl ⟨by rfl, ?_⟩) H0 ?_
  rotate_left
  focus (intro w' hSw; (try dsimp only at hSw); go_simp; (try with_reducible rfl))
  simp only [Act.put, List.setIfInBounds_toArray, List.set_cons_zero, List.set_cons_succ]
  refine wpAnyH_take (i := 2) (oi := { dst := some 15, op := Go.Op.fieldAddr 46 (Go.Operand.tmp 14) 0, type := 0, pos := "wal.go:23", after := #[{ on := 1, ground := Go.Ground.data }], guard := none }) (v := ?_) rfl (by kernel_rfl) (by kernel_rfl) (by kernel_rfl) (fun _ _ _ h => h) (Or.inl ⟨by rfl, ?_⟩) H0 ?_
  rotate_left
  focus (intro w' hSw; (try dsimp only at hSw); go_simp; (try with_reducible rfl))
  simp only [Act.put, List.setIfInBounds_toArray, List.set_cons_zero, List.set_cons_succ]
  refine wpAnyH_take (i := 3) (oi := { dst := some 16, op := Go.Op.load 37 (Go.Operand.tmp 15), type := 37, pos := "wal.go:23", after := #[{ on := 2, ground := Go.Ground.data }], guard := none }) (v := ?_) rfl (by kernel_rfl) (by kernel_rfl) (by kernel_rfl) (fun _ _ _ h => h) (Or.inl ⟨by rfl, ?_⟩) H0 ?_
  rotate_left
  focus (intro w' hSw; (try dsimp only at hSw); obtain ⟨s0, s1, s2⟩ := hSw; go_simp; (try with_reducible rfl))
  simp only [Act.put, List.setIfInBounds_toArray, List.set_cons_zero, List.set_cons_succ]
  refine wpAnyH_take (i := 5) (oi := { dst := some 18, op := Go.Op.move (Go.Operand.tmp 6), type := 30, pos := "wal.go:23", after := #[], guard := none }) (v := ?_) rfl (by kernel_rfl) (by kernel_rfl) (by kernel_rfl) (fun _ _ _ h => h) (Or.inl ⟨by rfl, ?_⟩) H0 ?_
  rotate_left
  focus (intro w' hSw; (try dsimp only at hSw); go_simp; (try with_reducible rfl))
  simp only [Act.put, List.setIfInBounds_toArray, List.set_cons_zero, List.set_cons_succ]
  refine wpAnyH_take (i := 6) (oi := { dst := some 19, op := Go.Op.nilCheck (Go.Operand.tmp 18), type := 0, pos := "wal.go:23", after := #[{ on := 5, ground := Go.Ground.data }], guard := none }) (v := ?_) rfl (by kernel_rfl) (by kernel_rfl) (by kernel_rfl) (fun _ _ _ h => h) (Or.inl ⟨by rfl, ?_⟩) H0 ?_
  rotate_left
  focus (intro w' hSw; (try dsimp only at hSw); go_simp; (try with_reducible rfl))
  simp only [Act.put, List.setIfInBounds_toArray, List.set_cons_zero, List.set_cons_succ]
  refine wpAnyH_take (i := 7) (oi := { dst := some 20, op := Go.Op.fieldAddr 46 (Go.Operand.tmp 19) 0, type := 0, pos := "wal.go:23", after := #[{ on := 6, ground := Go.Ground.data }], guard := none }) (v := ?_) rfl (by kernel_rfl) (by kernel_rfl) (by kernel_rfl) (fun _ _ _ h => h) (Or.inl ⟨by rfl, ?_⟩) H0 ?_
  rotate_left
  focus (intro w' hSw; (try dsimp only at hSw); go_simp; (try with_reducible rfl))
  simp only [Act.put, List.setIfInBounds_toArray, List.set_cons_zero, List.set_cons_succ]
  refine wpAnyH_take (i := 8) (oi := { dst := some 21, op := Go.Op.load 37 (Go.Operand.tmp 20), type := 37, pos := "wal.go:23", after := #[{ on := 7, ground := Go.Ground.data }], guard := none }) (v := ?_) rfl (by kernel_rfl) (by kernel_rfl) (by kernel_rfl) (fun _ _ _ h => h) (Or.inl ⟨by rfl, ?_⟩) H0 ?_
  rotate_left
  focus (intro w' hSw; (try dsimp only at hSw); obtain ⟨s0, s1, s2⟩ := hSw; go_simp; (try with_reducible rfl))
  simp only [Act.put, List.setIfInBounds_toArray, List.set_cons_zero, List.set_cons_succ]
  refine wpAnyH_take (i := 10) (oi := { dst := some 23, op := Go.Op.move (Go.Operand.tmp 6), type := 30, pos := "wal.go:23", after := #[], guard := none }) (v := ?_) rfl (by kernel_rfl) (by kernel_rfl) (by kernel_rfl) (fun _ _ _ h => h) (Or.inl ⟨by rfl, ?_⟩) H0 ?_
  rotate_left
  focus (intro w' hSw; (try dsimp only at hSw); go_simp; (try with_reducible rfl))
  simp only [Act.put, List.setIfInBounds_toArray, List.set_cons_zero, List.set_cons_succ]
  refine wpAnyH_take (i := 4) (oi := { dst := some 17, op := Go.Op.makeFunc (Go.Fn.func 39) #[Go.Operand.tmp 16] #[], type := 56, pos := "wal.go:23", after := #[{ on := 3, ground := Go.Ground.data }], guard := none }) (v := ?_) rfl (by kernel_rfl) (by kernel_rfl) (by kernel_rfl) (fun _ _ _ h => h) (Or.inl ⟨by rfl, ?_⟩) H0 ?_
  rotate_left
  focus (intro w' hSw; (try dsimp only at hSw); go_simp; (try with_reducible rfl))
  simp only [Act.put, List.setIfInBounds_toArray, List.set_cons_zero, List.set_cons_succ]
  refine wpAnyH_take (i := 9) (oi := { dst := some 22, op := Go.Op.makeFunc (Go.Fn.func 40) #[Go.Operand.tmp 21] #[], type := 56, pos := "wal.go:23", after := #[{ on := 8, ground := Go.Ground.data }], guard := none }) (v := ?_) rfl (by kernel_rfl) (by kernel_rfl) (by kernel_rfl) (fun _ _ _ h => h) (Or.inl ⟨by rfl, ?_⟩) H0 ?_
  rotate_left
  focus (intro w' hSw; (try dsimp only at hSw); go_simp; (try with_reducible rfl))
  simp only [Act.put, List.setIfInBounds_toArray, List.set_cons_zero, List.set_cons_succ]
  refine wpAnyH_take (i := 11) (oi := { dst := some 24, op := Go.Op.makeFunc (Go.Fn.func 41) #[Go.Operand.tmp 23] #[], type := 56, pos := "wal.go:23", after := #[{ on := 10, ground := Go.Ground.data }], guard := none }) (v := ?_) rfl (by kernel_rfl) (by kernel_rfl) (by kernel_rfl) (fun _ _ _ h => h) (Or.inl ⟨by rfl, ?_⟩) H0 ?_
  rotate_left
  focus (intro w' hSw; (try dsimp only at hSw); go_simp; (try with_reducible rfl))
  simp only [Act.put, List.setIfInBounds_toArray, List.set_cons_zero, List.set_cons_succ]
  refine wpAnyH_ready (rs := [12]) (by kernel_rfl) (by simp) ?_
  refine AllReadyH.cons (o := { dst := some 25, op := Go.Op.buildSlice 123 3 #[(0, Go.Operand.tmp 17), (1, Go.Operand.tmp 22), (2, Go.Operand.tmp 24)], type := 123, pos := "wal.go:23", after := #[{ on := 4, ground := Go.Ground.data }, { on := 9, ground := Go.Ground.data }, { on := 11, ground := Go.Ground.data }], guard := none }) rfl (fun K hK => ?_) ?_
  rotate_left
  exact AllReadyH.nil
  try go_simp
  obtain ⟨w1, hw1⟩ : ∃ w1, w1 = (w0.alloc (.cells #[.func (.func 39) #[.agg #[.pointer d, .int .i64 f, .int .i64 pg]] #[], .func (.func 40) #[.agg #[.pointer d, .int .i64 f, .int .i64 pg]] #[], .func (.func 41) #[.pointer (some ⟨w.heap.size + 1, 0, none⟩)] #[]] 56)).drew := ⟨_, rfl⟩
  have hb1 : Below w0.heap.size w0 w1 := by subst hw1; exact ((Below.refl _ _).alloc (Nat.le_refl _) _).drew
  have hg1 : w1.heap[w0.heap.size]? = some (.cells #[.func (.func 39) #[.agg #[.pointer d, .int .i64 f, .int .i64 pg]] #[], .func (.func 40) #[.agg #[.pointer d, .int .i64 f, .int .i64 pg]] #[], .func (.func 41) #[.pointer (some ⟨w.heap.size + 1, 0, none⟩)] #[]] 56 (0, 0)) := by subst hw1; exact heap_alloc_new w0 _
  have hl1 := logAt_below HL0.out hb1
  have CF := Lib.hid (HF.out w1 w0.heap.size 3 (kbT HB0.out hb1) hl1 hg1)
  have hc1 := logAt_cells hl1
  rw [← hw1]
  refine hK.out _ _ ⟨hc1 0 _ rfl, hc1 1 _ rfl, hc1 2 _ rfl⟩ (fun H1 => ?_)
  clear hK K hc1 hl1 hg1 hb1 hw1
  try simp only [Act.put, List.setIfInBounds_toArray, List.set_cons_zero, List.set_cons_succ]
  refine wpAnyH_ready (rs := [13]) (by kernel_rfl) (by simp) ?_
  refine AllReadyH.cons (o := { dst := some 26, op := Go.Op.call { callee := Go.Callee.value (Go.Operand.func 38), args := #[Go.Operand.tmp 25], argTypes := #[123] }, type := 25, pos := "wal.go:23", after := #[{ on := 12, ground := Go.Ground.data }], guard := none }) rfl (fun K hK => ?_) ?_
  rotate_left
  exact AllReadyH.nil
  try go_simp
  refine CF.out.mono ?_; rintro e w2 ⟨e1, rfl, hr⟩; have HR := Lib.hid hr; have HRC := Lib.hid (HRc.out _ _ hr); clear hr
  try go_wp2_with fail
  refine hK.out _ _ HRC.out (fun H2 => ?_)
  clear hK K
  try simp only [Act.put, List.setIfInBounds_toArray, List.set_cons_zero, List.set_cons_succ]
  refine wpAnyH_take (i := 14) (oi := { dst := some 7, op := Go.Op.assign (Go.Operand.tmp 26), type := 25, pos := "wal.go:23", after := #[{ on := 13, ground := Go.Ground.data }, { on := 13, ground := Go.Ground.chain }, { on := 0, ground := Go.Ground.phase }, { on := 1, ground := Go.Ground.phase }, { on := 2, ground := Go.Ground.phase }, { on := 3, ground := Go.Ground.phase }, { on := 4, ground := Go.Ground.phase }, { on := 5, ground := Go.Ground.phase }, { on := 6, ground := Go.Ground.phase }, { on := 7, ground := Go.Ground.phase }, { on := 8, ground := Go.Ground.phase }, { on := 9, ground := Go.Ground.phase }, { on := 10, ground := Go.Ground.phase }, { on := 11, ground := Go.Ground.phase }, { on := 12, ground := Go.Ground.phase }, { on := 13, ground := Go.Ground.phase }], guard := none }) (v := ?_) rfl (by kernel_rfl) (by kernel_rfl) (by kernel_rfl) (fun _ _ _ h => h) (Or.inl ⟨by rfl, ?_⟩) H2 ?_
  rotate_left
  focus (intro w' hSw; (try dsimp only at hSw); go_simp; (try with_reducible rfl))
  simp only [Act.put, List.setIfInBounds_toArray, List.set_cons_zero, List.set_cons_succ]
  refine wpAnyH_done (by kernel_rfl) ?_ _
  by_cases he : e1 = 0
  · subst he
    go_wp2
    go_ret2
    exact ⟨0, HR.out, rfl⟩
  · have hne : (e1 == 0) = false := by simpa using he
    go_wp2
    go_ret2
    exact ⟨e1, HR.out, by simp [he]⟩
end Go.Proofs.YtdanigigjainjaaGreat
namespace Go.Proofs.YtdanigigjainjaaGreat
open Go.RowKit Go.Shelf

theorem FR.Ok.frame {pg : Nat} {x : FR} (h : x.Ok pg) (hp : pg ≤ 2000) {i : Nat} (hi : i ≤ 2000) : frameOk i x.p x.cm x.n 512 = true := by
  have h1 := h.p
  have h2 := h.n
  simp only [frameOk, mostOf, Bool.and_eq_true, decide_eq_true_eq]
  cases hc : x.cm
  · rw [hc] at h2
    simp at h2
    simp only [Bool.false_eq_true, if_false]
    refine ⟨⟨⟨⟨⟨⟨?_, ?_⟩, ?_⟩, ?_⟩, ?_⟩, ?_⟩, ?_⟩ <;> first | omega | trivial | exact decide_eq_true (by omega)
  · rw [hc] at h2
    simp only [if_true] at h2 ⊢
    refine ⟨⟨⟨⟨⟨⟨?_, ?_⟩, ?_⟩, ?_⟩, ?_⟩, ?_⟩, ?_⟩ <;> first | omega | trivial | exact decide_eq_true (by omega)
end Go.Proofs.YtdanigigjainjaaGreat
namespace Go.Proofs.YtdanigigjainjaaGreat
open Go.RowKit Go.Shelf
attribute [local go_sem] Oper.semAt_some

/-- What a map of pages tells, in blocks X. -/
def PagesIn (w : World) (g : Nat → Option Value) (pages : Nat → Option (List Nat)) (X : Foot) : Prop := ∀ p, p < 40000 → (pages p = none → g p = none) ∧ ∀ bs, pages p = some bs → ∃ q c, g p = some (.slice q 512 c) ∧ BytesAt w q bs ∧ (q = none → c = 0) ∧ ∀ B off, q = some ⟨B, off, none⟩ → X B
/-- A log in memory, over its disk, in the blocks F. -/
structure LogRep (w : World) (B Bd : Nat) (s : Dk.DS) (f pg S E hn : Nat) (l : List FR) (F : Foot) (N : Nat) (mb : Nat) (Fd X : Foot) (g : Nat → Option Value) : Prop where
  log : LogAt w B ⟨some ⟨Bd, 0, none⟩, f, pg, S, E, l.length, lk E l l.length, sizeF hn l, some mb⟩
  rep : Dk.RepD w (.pointer (some ⟨Bd, 0, none⟩)) s Fd
  map : MapV w mb g N
  pages : PagesIn w g (pageF l) X
  foot : ∀ k, F k ↔ (k = B ∨ k = mb ∨ Fd k ∨ X k)
  nB : ¬ Fd B ∧ ¬ X B
  nm : ¬ Fd mb ∧ ¬ X mb
  nX : ∀ k, X k → ¬ Fd k ∧ k < w.heap.size
def LogR (w : World) (B Bd : Nat) (s : Dk.DS) (f pg S E hn : Nat) (l : List FR) (F : Foot) (N : Nat) : Prop := ∃ mb Fd X g, LogRep w B Bd s f pg S E hn l F N mb Fd X g
theorem LogR.low {w : World} {B Bd : Nat} {s : Dk.DS} {f pg S E hn : Nat} {l : List FR} {F : Foot} {N : Nat} (h : LogR w B Bd s f pg S E hn l F N) : ∀ k, F k → k < w.heap.size := fun k hk => by
  obtain ⟨mb, Fd, X, g, r⟩ := h
  rcases (r.foot k).1 hk with rfl | rfl | h | h
  · exact (Array.getElem?_eq_some_iff.1 r.log).1
  · exact r.map.lt
  · exact Dk.diskOk.low _ _ _ _ r.rep k h
  · exact (r.nX k h).2
theorem bytesAt_foot {w w' : World} {q : Option Addr} {l : List Nat} {X : Foot} (h : BytesAt w q l) (hX : ∀ B off, q = some ⟨B, off, none⟩ → X B) (hk : ∀ k, X k → w'.heap[k]? = w.heap[k]?) : BytesAt w' q l := fun i hi => by
  obtain ⟨B, off, e, hc⟩ := h i hi
  exact ⟨B, off, e, (World.cell?_of_block (hk B (hX B off e))).trans hc⟩
theorem LogR.keep {w w' : World} {B Bd : Nat} {s : Dk.DS} {f pg S E hn : Nat} {l : List FR} {F : Foot} {N : Nat} (h : LogR w B Bd s f pg S E hn l F N) (hs : w.heap.size ≤ w'.heap.size) (hk : ∀ k, F k → w'.heap[k]? = w.heap[k]?) : LogR w' B Bd s f pg S E hn l F N := by
  obtain ⟨mb, Fd, X, g, r⟩ := h
  refine ⟨mb, Fd, X, g, (hk B ((r.foot B).2 (.inl rfl))).trans r.log, Dk.diskOk.keep _ _ _ _ _ r.rep hs (fun k h => hk k ((r.foot k).2 (.inr (.inr (.inl h))))), r.map.of_block (hk mb ((r.foot mb).2 (.inr (.inl rfl)))), fun p hp => ⟨(r.pages p hp).1, fun bs hb => ?_⟩, r.foot, r.nB, r.nm, fun k h => ⟨(r.nX k h).1, Nat.lt_of_lt_of_le (r.nX k h).2 hs⟩⟩
  obtain ⟨q, c, h1, h2, h3, h4⟩ := (r.pages p hp).2 bs hb
  exact ⟨q, c, h1, bytesAt_foot h2 h4 (fun k h => hk k ((r.foot k).2 (.inr (.inr (.inr h))))), h3, h4⟩
/-- A disk that is formatted. -/
theorem fresh_run {n f pg : Nat} (hp : 1 ≤ f ∧ f ≤ 2000 ∧ 1 ≤ pg ∧ pg ≤ 2000) (hn : n = 2 + 9 * f + 8 * pg) : ∃ s', runOps (Dk.newS n) fmtOps = (s', 0) ∧ s'.left = -1 ∧ Clean s' f pg 1 1 0 [] ∧ s'.sync.length ≤ 1 := by
  have hok : ∀ o ∈ fmtOps, OkOp (Dk.newS n).many o := fun o ho => by
    rcases List.mem_cons.1 ho with rfl | ho
    · exact headOp_ok (s := Dk.newS n) (f := f) (pg := pg) hn _ _ _ _
    · obtain rfl := List.mem_singleton.1 ho
      trivial
  obtain ⟨h1, h2⟩ := run_cases hok
  have hw := runOps_whole (Dk.Whole.new (n := n) (by omega)) fmtOps
  rcases h2 with ⟨h0, h2, h3⟩ | ⟨-, h4, -⟩
  · have h5 := congrArg Prod.fst h2
    have h6 := congrArg Prod.snd h2
    have h7 := h3 (show (-1 : Int) < 0 by decide)
    generalize runOps (Dk.newS n) fmtOps = R at *
    obtain ⟨s', e⟩ := R
    simp only [fmtOps, headOp, effOps, Dk.newS, List.nil_append] at h0 h5 h6 h7 h1 hw
    subst h0
    refine ⟨s', rfl, h7, ⟨⟨hw, h1.trans hn, hp, h6, by decide, Nat.zero_le _, ?_, fun i hi => absurd hi (Nat.not_lt_zero i), fun x hx => (by cases hx), fun x hx => (by cases hx), Nat.zero_le _⟩, .inl ?_⟩, by rw [h5]; simp⟩
    · rw [h5]; rfl
    · rw [h5]; rfl
  · exact absurd h4 (show ¬ (0 : Int) ≤ -1 by decide)
theorem blank_none : bestE (hdF 0 (List.replicate 64 0)) (hdF 1 (List.replicate 64 0)) = ⟨0, 0, 0, 0, false⟩ := by
  unfold hdF
  rw [if_neg (by rw [zeros_no]; simp), if_neg (by rw [zeros_no]; simp)]
  rfl
end Go.Proofs.YtdanigigjainjaaGreat
namespace Go.Proofs.YtdanigigjainjaaGreat
open Go.RowKit Go.Shelf
attribute [local go_sem] Oper.semAt_some

/-- first, of what Open does, where the plan fits. -/
theorem first_open (d : Option Addr) (f pg : Int) (R : Int → World → Prop) (B : Nat) (w W : World) (g c : Nat) (hb : Below w.heap.size w W) (hg : W.heap[g]? = some (.cells #[.func (.func 39) #[.agg #[.pointer d, .int .i64 f, .int .i64 pg]] #[], .func (.func 40) #[.agg #[.pointer d, .int .i64 f, .int .i64 pg]] #[], .func (.func 41) #[.pointer (some ⟨B, 0, none⟩)] #[]] 56 (0, 0)))
    (habs : ∀ W', Below W.heap.size W W' → Calls Tryz.prog 39 #[.agg #[.pointer d, .int .i64 f, .int .i64 pg]] W' fun r W2 => r = .returned (.int .i64 0) ∧ Below W'.heap.size W' W2)
    (hunf : ∀ W', Below W.heap.size W W' → Calls Tryz.prog 40 #[.agg #[.pointer d, .int .i64 f, .int .i64 pg]] W' fun r W2 => r = .returned (.int .i64 0) ∧ Below W'.heap.size W' W2)
    (hbeg : ∀ W', Below W.heap.size W W' → Calls Tryz.prog 41 #[.pointer (some ⟨B, 0, none⟩)] W' fun r W2 => ∃ e, r = .returned (.int .i64 e) ∧ R e W2) :
    Calls Tryz.prog 38 #[.slice (some ⟨g, 0, none⟩) 3 c] W fun r W' => ∃ e, r = .returned (.int .i64 e) ∧ R e W' := by
  refine first_any [⟨39, #[.agg #[.pointer d, .int .i64 f, .int .i64 pg]], #[]⟩, ⟨40, #[.agg #[.pointer d, .int .i64 f, .int .i64 pg]], #[]⟩, ⟨41, #[.pointer (some ⟨B, 0, none⟩)], #[]⟩] (some ⟨g, 0, none⟩) c (fun i W' => (i < 3 → Below W.heap.size W W') ∧ (i = 3 → R 0 W')) R W (by simp) ?_ ?_ ?_ ?_ ⟨fun _ => Below.refl _ _, fun h => by omega⟩
  · intro x hx
    rcases List.mem_cons.1 hx with rfl | hx
    · exact enters_of Tryz.func39 (by kernel_rfl) rfl
    rcases List.mem_cons.1 hx with rfl | hx
    · exact enters_of Tryz.func40 (by kernel_rfl) rfl
    · obtain rfl := List.mem_singleton.1 hx
      exact enters_of Tryz.func41 (by kernel_rfl) rfl
  · rintro i W' ⟨h1, -⟩ hi
    refine ⟨g, 0, rfl, ?_⟩
    have hb2 := h1 hi
    have hg2 := (hb2.block g (Array.getElem?_eq_some_iff.1 hg).1).trans hg
    rw [Nat.zero_add, cell_of_row _ _ i _ _ _ hg2]
    rcases (show i = 0 ∨ i = 1 ∨ i = 2 by simp at hi; omega) with rfl | rfl | rfl <;> rfl
  · rintro i x W' hx ⟨h1, -⟩
    have hi := (List.getElem?_eq_some_iff.1 hx).1
    have hb2 := h1 hi
    rcases (show i = 0 ∨ i = 1 ∨ i = 2 by simp at hi; omega) with rfl | rfl | rfl
    · simp only [List.getElem?_cons_zero, Option.some.injEq] at hx
      subst hx
      refine (habs W' hb2).mono ?_
      rintro e W2 ⟨rfl, h⟩
      exact ⟨0, rfl, fun _ => ⟨fun _ => kbT hb2 h, fun h => by omega⟩, fun h => absurd rfl h⟩
    · simp only [List.getElem?_cons_succ, List.getElem?_cons_zero, Option.some.injEq] at hx
      subst hx
      refine (hunf W' hb2).mono ?_
      rintro e W2 ⟨rfl, h⟩
      exact ⟨0, rfl, fun _ => ⟨fun _ => kbT hb2 h, fun h => by omega⟩, fun h => absurd rfl h⟩
    · simp only [List.getElem?_cons_succ, List.getElem?_cons_zero, Option.some.injEq] at hx
      subst hx
      refine (hbeg W' hb2).mono ?_
      rintro r W2 ⟨e, rfl, h⟩
      exact ⟨e, rfl, fun he => ⟨fun h => by omega, fun _ => he ▸ h⟩, fun _ => h⟩
  · exact fun W' h => h.2 rfl
set_option maxRecDepth 100000 in
theorem open_fresh (Bd : Nat) (f pg n : Nat) (F : Foot) (w : World) (hR : Dk.RepD w (.pointer (some ⟨Bd, 0, none⟩)) (Dk.newS n) F) (hp : 1 ≤ f ∧ f ≤ 2000 ∧ 1 ≤ pg ∧ pg ≤ 2000) (hn : n = 2 + 9 * f + 8 * pg) :
    Calls Tryz.prog 10 #[.pointer (some ⟨Bd, 0, none⟩), .agg #[.int .i64 (f : Int), .int .i64 (pg : Int)]] w fun r w' => ∃ s' B F', Clean s' f pg 1 1 0 [] ∧ s'.left = -1 ∧ s'.sync.length ≤ 1 ∧ LogR w' B Bd s' f pg 1 1 0 [] F' 0 ∧ (∀ k, F' k → F k ∨ w.heap.size ≤ k) ∧ w.heap.size ≤ B ∧ Dk.Apart F w w' ∧ r = .returned (.tuple #[.pointer (some ⟨B, 0, none⟩), .int .i64 0]) := by
  obtain ⟨s', hrun, hleft, hcl, hsl⟩ := fresh_run hp hn
  have hFl := Dk.diskOk.low _ _ _ _ hR
  have hWn : Dk.Whole (Dk.newS n) := Dk.Whole.new (by omega)
  have hm1 : 1 ≤ (Dk.newS n).many := by show 1 ≤ n; omega
  have hm2 : 2 ≤ (Dk.newS n).many := by show 2 ≤ n; omega
  have hpl : planOk (f : Int) (pg : Int) = true := by unfold planOk; simp only [Bool.and_eq_true, decide_eq_true_eq]; omega
  refine (open_any (some ⟨Bd, 0, none⟩) f pg (fun e W => e = 0 ∧ ∃ F', LogR W (w.heap.size + 1) Bd s' f pg 1 1 0 [] F' 0 ∧ (∀ k, F' k → F k ∨ w.heap.size ≤ k) ∧ Dk.Apart F w W) w ?_ ?_).mono ?_
  · intro W g c hb hl hg
    refine first_open (some ⟨Bd, 0, none⟩) f pg _ (w.heap.size + 1) w W g c hb hg ?_ ?_ ?_
    · exact fun W' h => absent_any (Dk.newS n) _ f pg F W' (rep_below hR (kbT hb h)) hm1
    · intro W' h
      have := unfit_any (Dk.newS n) _ f pg F W' (rep_below hR (kbT hb h)) hm1
      have e : unfitE (f : Int) (pg : Int) (Dk.newS n).many = 0 := by
        unfold unfitE planE secsE
        rw [if_pos hpl, if_pos hpl, if_pos rfl, if_pos (by show 2 + 9 * (f : Int) + 8 * (pg : Int) = (n : Int); omega)]
      rw [e] at this
      exact this
    · intro W' h
      have hbW := kbT hb h
      have hRW := rep_below hR hbW
      have hBF : ¬ F (w.heap.size + 1) := fun h => by have := hFl _ h; omega
      refine (begin_yes s' (w.heap.size + 1) ⟨some ⟨Bd, 0, none⟩, f, pg, 0, 0, 0, 0, 0, none⟩ 1 1 0 0 F (fun e W => e = 0 ∧ ∃ F', LogR W (w.heap.size + 1) Bd s' f pg 1 1 0 [] F' 0 ∧ (∀ k, F' k → F k ∨ w.heap.size ≤ k) ∧ Dk.Apart F w W) W' (logAt_below hl h) hBF ?_ ?_)
      · refine (head_none (Dk.newS n) _ f pg F W' hRW hWn ⟨by simp [Dk.newS], by simp [Dk.newS]⟩ hm2 (by simp [Dk.newS]) (List.replicate 64 0) (List.replicate 64 0) (by simp) (by simp) zeros_byte zeros_byte rfl rfl (by simp [Dk.newS]) blank_none).mono ?_
        rintro e W1 ⟨rfl, hg1⟩
        rw [hrun] at hg1 ⊢
        exact ⟨rfl, hg1⟩
      · intro w2 mb F2 hl2 hm2' hR2 hF2 hnB hnm hmb ha2
        refine (look_zero s' (w.heap.size + 1) _ F2 w2 hl2 hR2 (by have := hcl.1.many; omega) rfl).mono ?_
        rintro e w3 ⟨rfl, hb3⟩
        rw [hleft, if_neg (by decide)]
        have hl3 := logAt_below hl2 hb3
        have hBm : w.heap.size + 1 < w2.heap.size := (Array.getElem?_eq_some_iff.1 hl2).1
        refine ⟨0, rfl, rfl, fun k => k = w.heap.size + 1 ∨ k = mb ∨ F2 k ∨ False, ⟨mb, F2, fun _ => False, fun _ => none, hl3, rep_below hR2 hb3, hm2'.below hb3, fun p _ => ⟨fun _ => rfl, fun bs h => by cases h⟩, fun k => Iff.rfl, ⟨hnB, id⟩, ⟨hnm, id⟩, fun k h => h.elim⟩, ?_, ?_⟩
        · rintro k (rfl | rfl | h | h)
          · right; omega
          · right; have := hbW.size; omega
          · exact (hF2 k h).imp id (fun h => by have := hbW.size; omega)
          · exact h.elim
        · exact ⟨hb3.os.trans (ha2.os.trans hbW.os), hb3.tape.trans (ha2.tape.trans hbW.tape), hb3.output.trans (ha2.output.trans hbW.output), Nat.le_trans hbW.size (Nat.le_trans ha2.size hb3.size), fun k hk hn => (hb3.block k (Nat.lt_of_lt_of_le hk (Nat.le_trans hbW.size ha2.size))).trans ((ha2.block k (Nat.lt_of_lt_of_le hk hbW.size) (fun h => h.elim hn (fun e => by omega))).trans (hbW.block k hk))⟩
  · rintro e W ⟨-, F', ⟨mb, Fd, X, g, r⟩, -⟩
    have hc := logAt_cells r.log
    exact ⟨hc 0 _ rfl, hc 1 _ rfl, hc 2 _ rfl⟩
  · rintro r W ⟨e, ⟨rfl, F', h1, h2, h3⟩, rfl⟩
    exact ⟨s', w.heap.size + 1, F', hcl, hleft, hsl, h1, h2, Nat.le_succ _, h3, rfl⟩
end Go.Proofs.YtdanigigjainjaaGreat
namespace Go.Proofs.YtdanigigjainjaaGreat
open Go.RowKit Go.Shelf
attribute [local go_sem] Oper.semAt_some

set_option maxRecDepth 100000 in
set_option maxHeartbeats 8000000 in
theorem renew_raw (B Bd : Nat) (s : Dk.DS) (f pg S E i k sz : Nat) (mb : Option Nat) (Fd : Foot) (w : World) (hL : LogAt w B ⟨some ⟨Bd, 0, none⟩, f, pg, S, E, i, k, sz, mb⟩) (hR : Dk.RepD w (.pointer (some ⟨Bd, 0, none⟩)) s Fd) (hW : Dk.Whole s) (hlen : s.sync.length + s.loose.length ≤ 18000) (hB : ¬ Fd B) (hS : S + 1 < 2 ^ 64) (hE : E + 1 < 2 ^ 64) (hsz : sz ≤ 2000) :
    Calls Tryz.prog 52 #[.pointer (some ⟨B, 0, none⟩)] w fun r w' => ∃ F', r = .returned (.int .i64 (runOps s [headOp (S + 1) (E + 1) sz 0, .sy]).2) ∧ Dk.RepD w' (.pointer (some ⟨Bd, 0, none⟩)) (runOps s [headOp (S + 1) (E + 1) sz 0, .sy]).1 F' ∧ (∀ k, F' k → Fd k ∨ w.heap.size ≤ k) ∧ ((runOps s [headOp (S + 1) (E + 1) sz 0, .sy]).2 ≠ 0 → Dk.Apart Fd w w') ∧
      ((runOps s [headOp (S + 1) (E + 1) sz 0, .sy]).2 = 0 → ∃ m2, w.heap.size ≤ m2 ∧ ¬ F' m2 ∧ LogAt w' B ⟨some ⟨Bd, 0, none⟩, f, pg, S + 1, E + 1, 0, 0, sz, some m2⟩ ∧ MapV w' m2 (fun _ => none) 0 ∧ Dk.Apart (fun k => Fd k ∨ k = B) w w') := by
  have hFl := Dk.diskOk.low _ _ _ _ hR
  have CW : Hid (∀ w', Below w.heap.size w w' → Calls Tryz.prog 79 #[.agg #[.pointer (some ⟨Bd, 0, none⟩), .int .i64 (f : Nat), .int .i64 (pg : Nat)], .agg #[.int .u64 (S + 1 : Nat), .int .u64 (E + 1 : Nat), .int .i64 (sz : Nat), .int .i64 0], .slice none 0 0] w' fun r w2 => r = .returned (.int .i64 (runOps s [headOp (S + 1) (E + 1) sz 0, .sy]).2) ∧ Dk.Goes Dk.RepD (.pointer (some ⟨Bd, 0, none⟩)) (runOps s [headOp (S + 1) (E + 1) sz 0, .sy]).1 Fd w' w2) := Lib.hid fun w' hb => write_none s _ f pg (S + 1) (E + 1) sz 0 Fd w' (rep_below hR hb) hW hS hE (by simp only [headOk, Bool.and_eq_true, decide_eq_true_eq]; omega) hlen
  generalize runOps s [headOp (S + 1) (E + 1) sz 0, .sy] = st at CW ⊢
  obtain ⟨st1, st2⟩ := st
  simp only at CW ⊢
  have HL := Lib.hid hL
  have HNB := Lib.hid (And.intro hB hFl)
  obtain ⟨S1, hS1⟩ : ∃ S1, S1 = S + 1 := ⟨_, rfl⟩
  obtain ⟨E1, hE1⟩ : ∃ E1, E1 = E + 1 := ⟨_, rfl⟩
  rw [← hS1, ← hE1] at CW ⊢
  have hc := logAt_cells hL
  have HC : Hid (∀ w', Below w.heap.size w w' → w'.cell? ⟨B, 0, none⟩ = some (.pointer (some ⟨Bd, 0, none⟩)) ∧ w'.cell? ⟨B, 1, none⟩ = some (.int .i64 (f : Nat)) ∧ w'.cell? ⟨B, 2, none⟩ = some (.int .i64 (pg : Nat)) ∧ w'.cell? ⟨B, 3, none⟩ = some (.int .u64 S) ∧ w'.cell? ⟨B, 4, none⟩ = some (.int .u64 E) ∧ w'.cell? ⟨B, 5, none⟩ = some (.int .i64 (i : Nat)) ∧ w'.cell? ⟨B, 6, none⟩ = some (.int .u32 k) ∧ w'.cell? ⟨B, 7, none⟩ = some (.int .i64 (sz : Nat))) := Lib.hid fun w' hb => by
    have h := logAt_cells (logAt_below hL hb)
    exact ⟨h 0 _ rfl, h 1 _ rfl, h 2 _ rfl, h 3 _ rfl, h 4 _ rfl, h 5 _ rfl, h 6 _ rfl, h 7 _ rfl⟩
  have hSw : IntKind.u64.wrap ((S : Int) + 1) = (S1 : Int) := by rw [wrap_u64 _ (by omega) (by omega), hS1]; rfl
  have hEw : IntKind.u64.wrap ((E : Int) + 1) = (E1 : Int) := by rw [wrap_u64 _ (by omega) (by omega), hE1]; rfl
  clear hc hL hR hW hlen hB hS hE hsz hFl hS1 hE1
  go_enter Tryz.func52, Tryz.ntmps52
  go_upto_region 1 with fail
  refine wp_region_held_drew (S := fun w' => Below w.heap.size w w') (by kernel_rfl) ((Below.refl _ _).drew) (fun H0 => ?_)
  refine wpAnyH_take (i := 0) (oi := { dst := some 5, op := Go.Op.move (Go.Operand.tmp 0), type := 30, pos := "wal.go:126", after := #[], guard := none }) (v := ?_) rfl (by kernel_rfl) (by kernel_rfl) (by kernel_rfl) (fun _ _ _ h => h) (Or.inl ⟨by rfl, ?_⟩) H0 ?_
  rotate_left
  focus (intro w' hSw; (try dsimp only at hSw); go_simp; (try with_reducible rfl))
  simp only [Act.put, List.setIfInBounds_toArray, List.set_cons_zero, List.set_cons_succ]
  refine wpAnyH_take (i := 1) (oi := { dst := some 6, op := Go.Op.nilCheck (Go.Operand.tmp 5), type := 0, pos := "wal.go:126", after := #[{ on := 0, ground := Go.Ground.data }], guard := none }) (v := ?_) rfl (by kernel_rfl) (by kernel_rfl) (by kernel_rfl) (fun _ _ _ h => h) (Or.inl ⟨by rfl, ?_⟩) H0 ?_
  rotate_left
  focus (intro w' hSw; (try dsimp only at hSw); go_simp; (try with_reducible rfl))
  simp only [Act.put, List.setIfInBounds_toArray, List.set_cons_zero, List.set_cons_succ]
  refine wpAnyH_take (i := 2) (oi := { dst := some 7, op := Go.Op.fieldAddr 46 (Go.Operand.tmp 6) 1, type := 0, pos := "wal.go:126", after := #[{ on := 1, ground := Go.Ground.data }], guard := none }) (v := ?_) rfl (by kernel_rfl) (by kernel_rfl) (by kernel_rfl) (fun _ _ _ h => h) (Or.inl ⟨by rfl, ?_⟩) H0 ?_
  rotate_left
  focus (intro w' hSw; (try dsimp only at hSw); go_simp; (try with_reducible rfl))
  simp only [Act.put, List.setIfInBounds_toArray, List.set_cons_zero, List.set_cons_succ]
  refine wpAnyH_take (i := 3) (oi := { dst := some 8, op := Go.Op.load 38 (Go.Operand.tmp 7), type := 38, pos := "wal.go:126", after := #[{ on := 2, ground := Go.Ground.data }], guard := none }) (v := ?_) rfl (by kernel_rfl) (by kernel_rfl) (by kernel_rfl) (fun _ _ _ h => h) (Or.inl ⟨by rfl, ?_⟩) H0 ?_
  rotate_left
  focus (intro w' hSw; (try dsimp only at hSw); obtain ⟨s0, s1, s2, s3, s4, s5, s6, s7⟩ := HC.out _ hSw; go_simp; (try with_reducible rfl))
  simp only [Act.put, List.setIfInBounds_toArray, List.set_cons_zero, List.set_cons_succ]
  refine wpAnyH_take (i := 4) (oi := { dst := some 9, op := Go.Op.binOp Go.BinOp.add 38 (Go.Operand.tmp 8) (Go.Operand.const (Go.Value.int Go.IntKind.u64 1)) 38, type := 38, pos := "wal.go:126", after := #[{ on := 3, ground := Go.Ground.data }], guard := none }) (v := ?_) rfl (by kernel_rfl) (by kernel_rfl) (by kernel_rfl) (fun _ _ _ h => h) (Or.inl ⟨by rfl, ?_⟩) H0 ?_
  rotate_left
  focus (intro w' hSw; (try dsimp only at hSw); go_simp; (try with_reducible rfl))
  simp only [Act.put, List.setIfInBounds_toArray, List.set_cons_zero, List.set_cons_succ]
  refine wpAnyH_take (i := 5) (oi := { dst := some 10, op := Go.Op.move (Go.Operand.tmp 0), type := 30, pos := "wal.go:126", after := #[], guard := none }) (v := ?_) rfl (by kernel_rfl) (by kernel_rfl) (by kernel_rfl) (fun _ _ _ h => h) (Or.inl ⟨by rfl, ?_⟩) H0 ?_
  rotate_left
  focus (intro w' hSw; (try dsimp only at hSw); go_simp; (try with_reducible rfl))
  simp only [Act.put, List.setIfInBounds_toArray, List.set_cons_zero, List.set_cons_succ]
  refine wpAnyH_take (i := 6) (oi := { dst := some 11, op := Go.Op.nilCheck (Go.Operand.tmp 10), type := 0, pos := "wal.go:126", after := #[{ on := 5, ground := Go.Ground.data }], guard := none }) (v := ?_) rfl (by kernel_rfl) (by kernel_rfl) (by kernel_rfl) (fun _ _ _ h => h) (Or.inl ⟨by rfl, ?_⟩) H0 ?_
  rotate_left
  focus (intro w' hSw; (try dsimp only at hSw); go_simp; (try with_reducible rfl))
  simp only [Act.put, List.setIfInBounds_toArray, List.set_cons_zero, List.set_cons_succ]
  refine wpAnyH_take (i := 7) (oi := { dst := some 12, op := Go.Op.fieldAddr 46 (Go.Operand.tmp 11) 2, type := 0, pos := "wal.go:126", after := #[{ on := 6, ground := Go.Ground.data }], guard := none }) (v := ?_) rfl (by kernel_rfl) (by kernel_rfl) (by kernel_rfl) (fun _ _ _ h => h) (Or.inl ⟨by rfl, ?_⟩) H0 ?_
  rotate_left
  focus (intro w' hSw; (try dsimp only at hSw); go_simp; (try with_reducible rfl))
  simp only [Act.put, List.setIfInBounds_toArray, List.set_cons_zero, List.set_cons_succ]
  refine wpAnyH_take (i := 8) (oi := { dst := some 13, op := Go.Op.fieldAddr 44 (Go.Operand.tmp 12) 0, type := 0, pos := "wal.go:126", after := #[{ on := 7, ground := Go.Ground.data }], guard := none }) (v := ?_) rfl (by kernel_rfl) (by kernel_rfl) (by kernel_rfl) (fun _ _ _ h => h) (Or.inl ⟨by rfl, ?_⟩) H0 ?_
  rotate_left
  focus (intro w' hSw; (try dsimp only at hSw); go_simp; (try with_reducible rfl))
  simp only [Act.put, List.setIfInBounds_toArray, List.set_cons_zero, List.set_cons_succ]
  refine wpAnyH_take (i := 9) (oi := { dst := some 14, op := Go.Op.fieldAddr 41 (Go.Operand.tmp 13) 0, type := 0, pos := "wal.go:126", after := #[{ on := 8, ground := Go.Ground.data }], guard := none }) (v := ?_) rfl (by kernel_rfl) (by kernel_rfl) (by kernel_rfl) (fun _ _ _ h => h) (Or.inl ⟨by rfl, ?_⟩) H0 ?_
  rotate_left
  focus (intro w' hSw; (try dsimp only at hSw); go_simp; (try with_reducible rfl))
  simp only [Act.put, List.setIfInBounds_toArray, List.set_cons_zero, List.set_cons_succ]
  refine wpAnyH_take (i := 10) (oi := { dst := some 15, op := Go.Op.load 38 (Go.Operand.tmp 14), type := 38, pos := "wal.go:126", after := #[{ on := 9, ground := Go.Ground.data }], guard := none }) (v := ?_) rfl (by kernel_rfl) (by kernel_rfl) (by kernel_rfl) (fun _ _ _ h => h) (Or.inl ⟨by rfl, ?_⟩) H0 ?_
  rotate_left
  focus (intro w' hSw; (try dsimp only at hSw); obtain ⟨s0, s1, s2, s3, s4, s5, s6, s7⟩ := HC.out _ hSw; go_simp; (try with_reducible rfl))
  simp only [Act.put, List.setIfInBounds_toArray, List.set_cons_zero, List.set_cons_succ]
  refine wpAnyH_take (i := 11) (oi := { dst := some 16, op := Go.Op.binOp Go.BinOp.add 38 (Go.Operand.tmp 15) (Go.Operand.const (Go.Value.int Go.IntKind.u64 1)) 38, type := 38, pos := "wal.go:126", after := #[{ on := 10, ground := Go.Ground.data }], guard := none }) (v := ?_) rfl (by kernel_rfl) (by kernel_rfl) (by kernel_rfl) (fun _ _ _ h => h) (Or.inl ⟨by rfl, ?_⟩) H0 ?_
  rotate_left
  focus (intro w' hSw; (try dsimp only at hSw); go_simp; (try with_reducible rfl))
  simp only [Act.put, List.setIfInBounds_toArray, List.set_cons_zero, List.set_cons_succ]
  refine wpAnyH_take (i := 12) (oi := { dst := some 17, op := Go.Op.move (Go.Operand.tmp 0), type := 30, pos := "wal.go:126", after := #[], guard := none }) (v := ?_) rfl (by kernel_rfl) (by kernel_rfl) (by kernel_rfl) (fun _ _ _ h => h) (Or.inl ⟨by rfl, ?_⟩) H0 ?_
  rotate_left
  focus (intro w' hSw; (try dsimp only at hSw); go_simp; (try with_reducible rfl))
  simp only [Act.put, List.setIfInBounds_toArray, List.set_cons_zero, List.set_cons_succ]
  refine wpAnyH_take (i := 13) (oi := { dst := some 18, op := Go.Op.nilCheck (Go.Operand.tmp 17), type := 0, pos := "wal.go:126", after := #[{ on := 12, ground := Go.Ground.data }], guard := none }) (v := ?_) rfl (by kernel_rfl) (by kernel_rfl) (by kernel_rfl) (fun _ _ _ h => h) (Or.inl ⟨by rfl, ?_⟩) H0 ?_
  rotate_left
  focus (intro w' hSw; (try dsimp only at hSw); go_simp; (try with_reducible rfl))
  simp only [Act.put, List.setIfInBounds_toArray, List.set_cons_zero, List.set_cons_succ]
  refine wpAnyH_take (i := 14) (oi := { dst := some 19, op := Go.Op.fieldAddr 46 (Go.Operand.tmp 18) 2, type := 0, pos := "wal.go:126", after := #[{ on := 13, ground := Go.Ground.data }], guard := none }) (v := ?_) rfl (by kernel_rfl) (by kernel_rfl) (by kernel_rfl) (fun _ _ _ h => h) (Or.inl ⟨by rfl, ?_⟩) H0 ?_
  rotate_left
  focus (intro w' hSw; (try dsimp only at hSw); go_simp; (try with_reducible rfl))
  simp only [Act.put, List.setIfInBounds_toArray, List.set_cons_zero, List.set_cons_succ]
  refine wpAnyH_take (i := 15) (oi := { dst := some 20, op := Go.Op.fieldAddr 44 (Go.Operand.tmp 19) 1, type := 0, pos := "wal.go:126", after := #[{ on := 14, ground := Go.Ground.data }], guard := none }) (v := ?_) rfl (by kernel_rfl) (by kernel_rfl) (by kernel_rfl) (fun _ _ _ h => h) (Or.inl ⟨by rfl, ?_⟩) H0 ?_
  rotate_left
  focus (intro w' hSw; (try dsimp only at hSw); go_simp; (try with_reducible rfl))
  simp only [Act.put, List.setIfInBounds_toArray, List.set_cons_zero, List.set_cons_succ]
  refine wpAnyH_take (i := 16) (oi := { dst := some 21, op := Go.Op.load 3 (Go.Operand.tmp 20), type := 3, pos := "wal.go:126", after := #[{ on := 15, ground := Go.Ground.data }], guard := none }) (v := ?_) rfl (by kernel_rfl) (by kernel_rfl) (by kernel_rfl) (fun _ _ _ h => h) (Or.inl ⟨by rfl, ?_⟩) H0 ?_
  rotate_left
  focus (intro w' hSw; (try dsimp only at hSw); obtain ⟨s0, s1, s2, s3, s4, s5, s6, s7⟩ := HC.out _ hSw; go_simp; (try with_reducible rfl))
  simp only [Act.put, List.setIfInBounds_toArray, List.set_cons_zero, List.set_cons_succ]
  refine wpAnyH_take (i := 17) (oi := { dst := some 22, op := Go.Op.build 127 #[(0, Go.Operand.tmp 9), (1, Go.Operand.tmp 16), (2, Go.Operand.tmp 21)], type := 127, pos := "wal.go:126", after := #[{ on := 4, ground := Go.Ground.data }, { on := 11, ground := Go.Ground.data }, { on := 16, ground := Go.Ground.data }], guard := none }) (v := ?_) rfl (by kernel_rfl) (by kernel_rfl) (by kernel_rfl) (fun _ _ _ h => h) (Or.inl ⟨by rfl, ?_⟩) H0 ?_
  rotate_left
  focus (intro w' hSw; (try dsimp only at hSw); go_simp; (try with_reducible rfl))
  simp only [Act.put, List.setIfInBounds_toArray, List.set_cons_zero, List.set_cons_succ]
  refine wpAnyH_ready (rs := [18]) (by kernel_rfl) (by simp) ?_
  refine AllReadyH.cons (o := { dst := some 3, op := Go.Op.alloc 127, type := 0, pos := "wal.go:126", after := #[], guard := none }) rfl (fun K hK => ?_) ?_
  rotate_left
  exact AllReadyH.nil
  try go_simp
  refine hK.out _ _ (((Below.refl w.heap.size w).alloc (Nat.le_refl _) _).drew) (fun H1 => ?_)
  clear hK K
  try simp only [Act.put, List.setIfInBounds_toArray, List.set_cons_zero, List.set_cons_succ]
  refine wpAnyH_ready (rs := [19]) (by kernel_rfl) (by simp) ?_
  refine AllReadyH.cons (o := { dst := none, op := Go.Op.store 127 (Go.Operand.tmp 3) (Go.Operand.tmp 22), type := 0, pos := "wal.go:126", after := #[{ on := 18, ground := Go.Ground.data }, { on := 17, ground := Go.Ground.data }, { on := 0, ground := Go.Ground.phase }, { on := 1, ground := Go.Ground.phase }, { on := 2, ground := Go.Ground.phase }, { on := 3, ground := Go.Ground.phase }, { on := 4, ground := Go.Ground.phase }, { on := 5, ground := Go.Ground.phase }, { on := 6, ground := Go.Ground.phase }, { on := 7, ground := Go.Ground.phase }, { on := 8, ground := Go.Ground.phase }, { on := 9, ground := Go.Ground.phase }, { on := 10, ground := Go.Ground.phase }, { on := 11, ground := Go.Ground.phase }, { on := 12, ground := Go.Ground.phase }, { on := 13, ground := Go.Ground.phase }, { on := 14, ground := Go.Ground.phase }, { on := 15, ground := Go.Ground.phase }, { on := 16, ground := Go.Ground.phase }, { on := 17, ground := Go.Ground.phase }, { on := 18, ground := Go.Ground.phase }], guard := none }) rfl (fun K hK => ?_) ?_
  rotate_left
  exact AllReadyH.nil
  try go_simp
  obtain ⟨w1, hw1⟩ : ∃ w1, w1 = (w.alloc (.cells #[.int .u64 (S1 : Nat), .int .u64 (E1 : Nat), .int .i64 (sz : Nat), .int .i64 0] 127)).drew := ⟨_, rfl⟩
  rw [← hw1]
  have hb1 : Below w.heap.size w w1 := by subst hw1; exact ((Below.refl _ _).alloc (Nat.le_refl _) _).drew
  have hx1 : w1.heap[w.heap.size]? = some (.cells #[.int .u64 (S1 : Nat), .int .u64 (E1 : Nat), .int .i64 (sz : Nat), .int .i64 0] 127 (0, 0)) := by subst hw1; exact heap_alloc_new w _
  have HB1 := Lib.hid hb1
  have HX1 := Lib.hid hx1
  refine hK.out _ _ hb1 (fun H2 => ?_)
  clear hK K hw1 hx1 hb1
  try simp only [Act.put, List.setIfInBounds_toArray, List.set_cons_zero, List.set_cons_succ]
  refine wpAnyH_done (by kernel_rfl) ?_ _
  go_upto_region 2 with fail
  have HC2 : Hid (∀ w', Dk.Apart Fd w1 w' → LogAt w' B ⟨some ⟨Bd, 0, none⟩, f, pg, S, E, i, k, sz, mb⟩ ∧ w'.heap[w.heap.size]? = some (.cells #[.int .u64 (S1 : Nat), .int .u64 (E1 : Nat), .int .i64 (sz : Nat), .int .i64 0] 127 (0, 0))) := Lib.hid fun w' ha => by
    have hl := logAt_below HL.out HB1.out
    exact ⟨(ha.block B (Array.getElem?_eq_some_iff.1 hl).1 HNB.out.1).trans hl, (ha.block _ (Array.getElem?_eq_some_iff.1 HX1.out).1 (fun h => by have := HNB.out.2 _ h; omega)).trans HX1.out⟩
  refine wp_region_held_drew (S := fun w' => Dk.Apart Fd w1 w') (by kernel_rfl) (Dk.Below.apart ((Below.refl _ _).drew) Fd) (fun H5 => ?_)
  refine wpAnyH_take (i := 0) (oi := { dst := some 23, op := Go.Op.move (Go.Operand.tmp 0), type := 30, pos := "wal.go:127", after := #[], guard := none }) (v := ?_) rfl (by kernel_rfl) (by kernel_rfl) (by kernel_rfl) (fun _ _ _ h => h) (Or.inl ⟨by rfl, ?_⟩) H5 ?_
  rotate_left
  focus (intro w' hSw; (try dsimp only at hSw); go_simp; (try with_reducible rfl))
  simp only [Act.put, List.setIfInBounds_toArray, List.set_cons_zero, List.set_cons_succ]
  refine wpAnyH_take (i := 1) (oi := { dst := some 24, op := Go.Op.nilCheck (Go.Operand.tmp 23), type := 0, pos := "wal.go:127", after := #[{ on := 0, ground := Go.Ground.data }], guard := none }) (v := ?_) rfl (by kernel_rfl) (by kernel_rfl) (by kernel_rfl) (fun _ _ _ h => h) (Or.inl ⟨by rfl, ?_⟩) H5 ?_
  rotate_left
  focus (intro w' hSw; (try dsimp only at hSw); go_simp; (try with_reducible rfl))
  simp only [Act.put, List.setIfInBounds_toArray, List.set_cons_zero, List.set_cons_succ]
  refine wpAnyH_take (i := 2) (oi := { dst := some 25, op := Go.Op.fieldAddr 46 (Go.Operand.tmp 24) 0, type := 0, pos := "wal.go:127", after := #[{ on := 1, ground := Go.Ground.data }], guard := none }) (v := ?_) rfl (by kernel_rfl) (by kernel_rfl) (by kernel_rfl) (fun _ _ _ h => h) (Or.inl ⟨by rfl, ?_⟩) H5 ?_
  rotate_left
  focus (intro w' hSw; (try dsimp only at hSw); go_simp; (try with_reducible rfl))
  simp only [Act.put, List.setIfInBounds_toArray, List.set_cons_zero, List.set_cons_succ]
  refine wpAnyH_take (i := 3) (oi := { dst := some 26, op := Go.Op.load 37 (Go.Operand.tmp 25), type := 37, pos := "wal.go:127", after := #[{ on := 2, ground := Go.Ground.data }], guard := none }) (v := ?_) rfl (by kernel_rfl) (by kernel_rfl) (by kernel_rfl) (fun _ _ _ h => h) (Or.inl ⟨by rfl, ?_⟩) H5 ?_
  rotate_left
  focus (intro w' hSw; (try dsimp only at hSw); obtain ⟨e1, e2⟩ := HC2.out _ hSw; have h := logAt_cells e1; have s0 := h 0 _ rfl; have s1 := h 1 _ rfl; have s2 := h 2 _ rfl; have t0 := (cell_of_row w' _ 0 _ _ _ e2).trans rfl; have t1 := (cell_of_row w' _ 1 _ _ _ e2).trans rfl; have t2 := (cell_of_row w' _ 2 _ _ _ e2).trans rfl; have t3 := (cell_of_row w' _ 3 _ _ _ e2).trans rfl; clear h e1 e2; go_simp; (try with_reducible rfl))
  simp only [Act.put, List.setIfInBounds_toArray, List.set_cons_zero, List.set_cons_succ]
  refine wpAnyH_take (i := 4) (oi := { dst := some 27, op := Go.Op.load 127 (Go.Operand.tmp 3), type := 127, pos := "wal.go:127", after := #[], guard := none }) (v := ?_) rfl (by kernel_rfl) (by kernel_rfl) (by kernel_rfl) (fun _ _ _ h => h) (Or.inl ⟨by rfl, ?_⟩) H5 ?_
  rotate_left
  focus (intro w' hSw; (try dsimp only at hSw); obtain ⟨e1, e2⟩ := HC2.out _ hSw; have h := logAt_cells e1; have s0 := h 0 _ rfl; have s1 := h 1 _ rfl; have s2 := h 2 _ rfl; have t0 := (cell_of_row w' _ 0 _ _ _ e2).trans rfl; have t1 := (cell_of_row w' _ 1 _ _ _ e2).trans rfl; have t2 := (cell_of_row w' _ 2 _ _ _ e2).trans rfl; have t3 := (cell_of_row w' _ 3 _ _ _ e2).trans rfl; clear h e1 e2; go_simp; (try with_reducible rfl))
  simp only [Act.put, List.setIfInBounds_toArray, List.set_cons_zero, List.set_cons_succ]
  refine wpAnyH_ready (rs := [5]) (by kernel_rfl) (by simp) ?_
  refine AllReadyH.cons (o := { dst := some 28, op := Go.Op.call { callee := Go.Callee.value (Go.Operand.func 79), args := #[Go.Operand.tmp 26, Go.Operand.tmp 27, Go.Operand.const (Go.Value.slice none 0 0)], argTypes := #[37, 127, 136] }, type := 25, pos := "wal.go:127", after := #[{ on := 3, ground := Go.Ground.data }, { on := 4, ground := Go.Ground.data }], guard := none }) rfl (fun K hK => ?_) ?_
  rotate_left
  exact AllReadyH.nil
  try go_simp
  refine (CW.out _ (kbT HB1.out ((Below.refl _ _).drew))).mono ?_; rintro e w2 ⟨rfl, hg⟩; have HG := Lib.hid (goes_behind (kbT HB1.out ((Below.refl _ _).drew)) hg); have HG1 := Lib.hid (goes_behind ((Below.refl w1.heap.size w1).drew) hg); clear hg
  try go_wp2_with fail
  refine hK.out _ _ (by obtain ⟨_, _, _, ha⟩ := HG1.out; exact ha) (fun H6 => ?_)
  clear hK K
  try simp only [Act.put, List.setIfInBounds_toArray, List.set_cons_zero, List.set_cons_succ]
  refine wpAnyH_take (i := 6) (oi := { dst := some 4, op := Go.Op.assign (Go.Operand.tmp 28), type := 25, pos := "wal.go:127", after := #[{ on := 5, ground := Go.Ground.data }, { on := 5, ground := Go.Ground.chain }, { on := 0, ground := Go.Ground.phase }, { on := 1, ground := Go.Ground.phase }, { on := 2, ground := Go.Ground.phase }, { on := 3, ground := Go.Ground.phase }, { on := 4, ground := Go.Ground.phase }, { on := 5, ground := Go.Ground.phase }], guard := none }) (v := ?_) rfl (by kernel_rfl) (by kernel_rfl) (by kernel_rfl) (fun _ _ _ h => h) (Or.inl ⟨by rfl, ?_⟩) H6 ?_
  rotate_left
  focus (intro w' hSw; (try dsimp only at hSw); go_simp; (try with_reducible rfl))
  simp only [Act.put, List.setIfInBounds_toArray, List.set_cons_zero, List.set_cons_succ]
  refine wpAnyH_done (by kernel_rfl) ?_ _
  by_cases he : st2 = 0
  · subst he
    obtain ⟨F', hR', hF', ha'⟩ := HG.out
    obtain ⟨hl2, hx2⟩ := HC2.out w2 (by obtain ⟨_, _, _, ha⟩ := HG1.out; exact ha)
    have b0 := (cell_of_row w2 _ 0 _ _ _ hx2).trans rfl
    have b1 := (cell_of_row w2 _ 1 _ _ _ hx2).trans rfl
    have b2 := (cell_of_row w2 _ 2 _ _ _ hx2).trans rfl
    have b3 := (cell_of_row w2 _ 3 _ _ _ hx2).trans rfl
    have CT := Lib.hid (turn_any B _ S1 E1 (sz : Nat) 0 w2 hl2)
    unfold hd4 at CT
    clear hl2 hx2 hR' hF' ha'
    go_wp2_with (first
      | (go_at_call 72; refine CT.out.mono ?_; rintro e w3 ⟨rfl, hl3, hm3, ha3⟩; have HT := Lib.hid (And.intro hl3 (And.intro hm3 ha3)); clear hl3 hm3 ha3)
      | fail)
    go_ret
    obtain ⟨hl3, hm3, ha3⟩ := HT.out
    obtain ⟨F', hR', hF', ha'⟩ := HG.out
    have hlo := Dk.diskOk.low _ _ _ _ hR'
    have hBl := (Array.getElem?_eq_some_iff.1 HL.out).1
    have hnB : ¬ F' B := fun h => (hF' B h).elim HNB.out.1 (fun h => by omega)
    refine ⟨rfl, F', Dk.diskOk.keep _ _ _ _ _ hR' ha3.size (fun k hk => ha3.block k (hlo k hk) (fun e => hnB (e ▸ hk))), hF', w2.heap.size + 1, by have := ha'.size; omega, fun h => by have := hlo _ h; omega, hl3, MapV.new hm3, ?_⟩
    exact begin_apart ha' (Below.refl _ _) ha3
  · have hne : (st2 == 0) = false := by simpa using he
    go_wp2
    go_ret
    obtain ⟨F', hR', hF', ha'⟩ := HG.out
    first | exact ⟨F', rfl, hR', hF', fun _ => ha', fun h => absurd h he⟩ | exact ⟨rfl, F', hR', hF', fun _ => ha', fun h => absurd h he⟩
end Go.Proofs.YtdanigigjainjaaGreat
namespace Go.Proofs.YtdanigigjainjaaGreat
open Go.RowKit Go.Shelf
attribute [local go_sem] Oper.semAt_some

/-- The disk of a log is changed. -/
theorem LogRep.disk {w w' : World} {B Bd : Nat} {s s' : Dk.DS} {f pg S E hn : Nat} {l : List FR} {F : Foot} {N mb : Nat} {Fd X F2 : Foot} {g : Nat → Option Value} (h : LogRep w B Bd s f pg S E hn l F N mb Fd X g) (hR : Dk.RepD w' (.pointer (some ⟨Bd, 0, none⟩)) s' F2) (h2 : ∀ k, F2 k → Fd k ∨ w.heap.size ≤ k) (ha : Dk.Apart Fd w w') :
    LogRep w' B Bd s' f pg S E hn l (fun k => k = B ∨ k = mb ∨ F2 k ∨ X k) N mb F2 X g := by
  have hB := (Array.getElem?_eq_some_iff.1 h.log).1
  have hm := h.map.lt
  refine ⟨(ha.block B hB h.nB.1).trans h.log, hR, h.map.of_block (ha.block mb hm h.nm.1), fun p hp => ⟨(h.pages p hp).1, fun bs hb => ?_⟩, fun k => Iff.rfl, ⟨fun x => (h2 B x).elim h.nB.1 (fun x => by omega), h.nB.2⟩, ⟨fun x => (h2 mb x).elim h.nm.1 (fun x => by omega), h.nm.2⟩, fun k hk => ⟨fun x => (h2 k x).elim (h.nX k hk).1 (fun x => by have := (h.nX k hk).2; omega), Nat.lt_of_lt_of_le (h.nX k hk).2 ha.size⟩⟩
  obtain ⟨q, c, h1, h3, h4, h5⟩ := (h.pages p hp).2 bs hb
  exact ⟨q, c, h1, bytesAt_foot h3 h5 (fun k hk => ha.block k (h.nX k hk).2 (h.nX k hk).1), h4, h5⟩
/-- What a log is behind a reset. -/
def ResetTo (w w' : World) (B Bd : Nat) (s : Dk.DS) (f pg S E hn : Nat) (l : List FR) (F : Foot) (N : Nat) (e : Int) : Prop := e = (runOps s (resOps S E hn l)).2 ∧ ∃ F', (∀ k, F' k → F k ∨ w.heap.size ≤ k) ∧ Dk.Apart F w w' ∧ (e ≠ 0 → LogR w' B Bd (runOps s (resOps S E hn l)).1 f pg S E hn l F' N) ∧ (e = 0 → LogR w' B Bd (runOps s (resOps S E hn l)).1 f pg (S + 1) (E + 1) (sizeF hn l) [] F' 0)
theorem renew_any (B Bd : Nat) (s : Dk.DS) (f pg S E hn : Nat) (l : List FR) (F : Foot) (N : Nat) (w : World) (h : LogR w B Bd s f pg S E hn l F N) (hW : Dk.Whole s) (hlen : s.sync.length + s.loose.length ≤ 18000) (hS : S + 1 < 2 ^ 64) (hE : E + 1 < 2 ^ 64) (hsz : sizeF hn l ≤ 2000) :
    Calls Tryz.prog 52 #[.pointer (some ⟨B, 0, none⟩)] w fun r w' => ∃ e, r = .returned (.int .i64 e) ∧ ResetTo w w' B Bd s f pg S E hn l F N e := by
  obtain ⟨mb, Fd, X, g, r⟩ := h
  have hFd : ∀ k, Fd k → F k := fun k hk => (r.foot k).2 (.inr (.inr (.inl hk)))
  refine (renew_raw B Bd s f pg S E l.length (lk E l l.length) (sizeF hn l) (some mb) Fd w r.log r.rep hW hlen r.nB.1 hS hE hsz).mono ?_
  rintro e w' ⟨F', rfl, hR', hF', h1, h2⟩
  have e0 : [headOp (S + 1) (E + 1) (sizeF hn l) 0, .sy] = resOps S E hn l := by unfold resOps; rfl
  rw [e0] at hR' h1 h2 ⊢
  unfold ResetTo
  generalize runOps s (resOps S E hn l) = st at *
  refine ⟨st.2, rfl, rfl, ?_⟩
  by_cases he : st.2 = 0
  · obtain ⟨m2, g1, g2, g3, g4, g5⟩ := h2 he
    have hB := (Array.getElem?_eq_some_iff.1 r.log).1
    refine ⟨fun k => k = B ∨ k = m2 ∨ F' k ∨ False, ?_, ⟨g5.os, g5.tape, g5.output, g5.size, fun k hk hn => g5.block k hk (fun h => h.elim (fun h => hn (hFd k h)) (fun h => hn ((r.foot k).2 (.inl h))))⟩, fun h => absurd he h, fun _ => ⟨m2, F', fun _ => False, fun _ => none, g3, hR', g4, fun p _ => ⟨fun _ => rfl, fun bs h => by cases h⟩, fun k => Iff.rfl, ⟨fun x => (hF' B x).elim r.nB.1 (fun x => by omega), id⟩, ⟨g2, id⟩, fun k h => h.elim⟩⟩
    rintro k (rfl | rfl | h | h)
    · exact .inl ((r.foot k).2 (.inl rfl))
    · exact .inr g1
    · exact (hF' k h).imp (hFd k) id
    · exact h.elim
  · have ha := h1 he
    refine ⟨_, ?_, ⟨ha.os, ha.tape, ha.output, ha.size, fun k hk hn => ha.block k hk (fun h => hn (hFd k h))⟩, fun _ => ⟨mb, F', X, g, r.disk hR' hF' ha⟩, fun h => absurd h he⟩
    rintro k (rfl | rfl | h | h)
    · exact .inl ((r.foot k).2 (.inl rfl))
    · exact .inl ((r.foot k).2 (.inr (.inl rfl)))
    · exact (hF' k h).imp (hFd k) id
    · exact .inl ((r.foot k).2 (.inr (.inr (.inr h))))
set_option maxRecDepth 100000 in
set_option maxHeartbeats 4000000 in
theorem reset_any (B Bd : Nat) (s : Dk.DS) (f pg S E hn : Nat) (l : List FR) (F : Foot) (N : Nat) (w : World) (h : LogR w B Bd s f pg S E hn l F N) (hm : 1 ≤ s.many) (hW : Dk.Whole s) (hlen : s.sync.length + s.loose.length ≤ 18000) (hS : S + 1 < 2 ^ 64) (hE : E + 1 < 2 ^ 64) (hsz : sizeF hn l ≤ 2000) :
    Calls Tryz.prog 18 #[.pointer (some ⟨B, 0, none⟩)] w fun r w' => ∃ e, r = .returned (.int .i64 e) ∧ ResetTo w w' B Bd s f pg S E hn l F N e := by
  have hmf : ∀ (fn : Fn) (first cap : Array Value) (w : World), (Instr.makeFunc fn first cap).run Tryz.prog w = .ok (.func fn first cap) w := fun _ _ _ _ => rfl
  obtain ⟨wz, hwz⟩ : ∃ wz, wz = w.alloc (.cells #[.func (.func 48) #[.pointer (some ⟨B, 0, none⟩)] #[], .func (.func 52) #[.pointer (some ⟨B, 0, none⟩)] #[]] 56) := ⟨_, rfl⟩
  have hb : Below w.heap.size w wz := by subst hwz; exact (Below.refl _ _).alloc (Nat.le_refl _) _
  have hrow : wz.heap[w.heap.size]? = some (.cells #[.func (.func 48) #[.pointer (some ⟨B, 0, none⟩)] #[], .func (.func 52) #[.pointer (some ⟨B, 0, none⟩)] #[]] 56 (0, 0)) := by subst hwz; exact heap_alloc_new w _
  have hkeep : ∀ W, Below w.heap.size w W → LogR W B Bd s f pg S E hn l F N := fun W hb => h.keep hb.size (fun k hk => hb.block k (h.low k hk))
  have CF := Lib.hid (first_any [⟨48, #[.pointer (some ⟨B, 0, none⟩)], #[]⟩, ⟨52, #[.pointer (some ⟨B, 0, none⟩)], #[]⟩] (some ⟨w.heap.size, 0, none⟩) 2 (fun i W => (i < 2 → Below w.heap.size w W ∧ Below wz.heap.size wz W) ∧ (i = 2 → ResetTo w W B Bd s f pg S E hn l F N 0)) (fun e W => ResetTo w W B Bd s f pg S E hn l F N e) wz (by simp)
    (fun x hx => by
      rcases List.mem_cons.1 hx with rfl | hx
      · exact enters_of Tryz.func48 (by kernel_rfl) rfl
      · obtain rfl := List.mem_singleton.1 hx
        exact enters_of Tryz.func52 (by kernel_rfl) rfl)
    (fun i W h1 hi => ⟨w.heap.size, 0, rfl, by
      have hg2 := ((h1.1 hi).2.block _ (Array.getElem?_eq_some_iff.1 hrow).1).trans hrow
      rw [Nat.zero_add, cell_of_row _ _ i _ _ _ hg2]
      rcases (show i = 0 ∨ i = 1 by simp at hi; omega) with rfl | rfl <;> rfl⟩)
    (fun i x W hx h1 => by
      have hi := (List.getElem?_eq_some_iff.1 hx).1
      obtain ⟨hbW, hbZ⟩ := h1.1 hi
      rcases (show i = 0 ∨ i = 1 by simp at hi; omega) with rfl | rfl
      · simp only [List.getElem?_cons_zero, Option.some.injEq] at hx
        subst hx
        obtain ⟨mb, Fd, X, g, r⟩ := hkeep W hbW
        refine (missing_no (.pointer (some ⟨B, 0, none⟩)) _ W (whole_of B _ W r.log) s Fd r.rep hm).mono ?_
        rintro e W2 ⟨rfl, h⟩
        exact ⟨0, rfl, fun _ => ⟨fun _ => ⟨kbT hbW h, kbT hbZ h⟩, fun h => by omega⟩, fun h => absurd rfl h⟩
      · simp only [List.getElem?_cons_succ, List.getElem?_cons_zero, Option.some.injEq] at hx
        subst hx
        refine (renew_any B Bd s f pg S E hn l F N W (hkeep W hbW) hW hlen hS hE hsz).mono ?_
        rintro r W2 ⟨e, rfl, e1, F', h3, h4, h5⟩
        have key : ResetTo w W2 B Bd s f pg S E hn l F N e := ⟨e1, F', fun k hk => (h3 k hk).imp id (fun x => Nat.le_trans hbW.size x), apart_trans (Dk.Below.apart hbW F) h4, h5⟩
        exact ⟨e, rfl, fun he => ⟨fun h => by omega, fun _ => he ▸ key⟩, fun _ => key⟩)
    (fun W h => h.2 rfl) ⟨fun _ => ⟨hb, Below.refl _ _⟩, fun h => by omega⟩)
  clear h hkeep hrow hb
  go_enter Tryz.func18, Tryz.ntmps18
  go_wp2_with (first
    | (go_at_call 38; rw [← hwz]; refine CF.out.mono ?_; rintro r w1 ⟨e, rfl, hr⟩; have HR := Lib.hid hr; clear hr)
    | fail)
  go_ret
  exact ⟨e, rfl, HR.out⟩
end Go.Proofs.YtdanigigjainjaaGreat
namespace Go.Proofs.YtdanigigjainjaaGreat
open Go.RowKit Go.Shelf
attribute [local go_sem] Oper.semAt_some

theorem rowB_grow {w w1 w2 : World} {l : List Nat} {t : Value} (hb : Below w.heap.size w w1) (h : RowB w1 l t w2) : RowB w l t w2 := by
  refine ⟨⟨h.1.1, ?_⟩, kbT hb h.2⟩
  rcases h.1.2 with h1 | ⟨g, cap, cur, e, h2, h3⟩
  · exact .inl h1
  · exact .inr ⟨g, cap, cur, e, Nat.le_trans hb.size h2, h3⟩
theorem zero_bytes (w : World) : (zeroValue 49).run Tryz.prog w = .ok (.slice none 0 0) w := by kernel_rfl
set_option maxRecDepth 100000 in
/-- A map is asked. -/
theorem MapV.look {w : World} {b n k : Nat} {g : Nat → Option Value} (h : MapV w b g n) (hk : k < 40000) : (Instr.lookup 42 (.map (some b)) (.int .i64 (k : Int)) true).run Tryz.prog w = .ok (.tuple #[(g k).getD (.slice none 0 0), .bool (g k).isSome]) w := by
  obtain ⟨D, h1, h2, -⟩ := h
  obtain ⟨v, ps, hrun, hv⟩ := h1.look_ok Dk.law3 Tryz.underlying42 (zero_bytes w) (zd := .held (.slice none 0 0)) (zp := []) rfl (Dk.key3 hk)
  obtain ⟨e1, e2⟩ := h2 k hk
  rw [hrun, e1]
  unfold idR at hv
  simp only [Option.some.injEq, Prod.mk.injEq] at hv
  cases hg : g k with
  | none =>
    rw [hg] at e1
    have := Maps.atKey_of_not_has (by simpa using e1) (DataW.held (Value.slice none 0 0))
    rw [this] at hv
    have hv1 : v = Value.slice none 0 0 := by have := hv.1; injection this
    rw [hv1]
    rfl
  | some u =>
    rw [e2 u hg] at hv
    have hv1 : v = u := by have := hv.1; injection this
    rw [hv1]
    rfl
set_option maxRecDepth 100000 in
set_option maxHeartbeats 4000000 in
theorem page_any (B Bd : Nat) (s : Dk.DS) (f pg S E hn : Nat) (l : List FR) (F : Foot) (N : Nat) (k : Nat) (w : World) (h : LogR w B Bd s f pg S E hn l F N) (hk : k < 40000) (hl : ∀ bs, pageF l k = some bs → bs.length = 512) :
    Calls Tryz.prog 15 #[.pointer (some ⟨B, 0, none⟩), .int .i64 (k : Int)] w fun r w' => ∃ t, r = .returned (.tuple #[t, .bool (pageF l k).isSome]) ∧ Below w.heap.size w w' ∧ RowB w ((pageF l k).getD []) t w' := by
  obtain ⟨mb, Fd, X, g, r⟩ := h
  have C := Lib.hid (whole_of B _ w r.log w (Below.refl _ _))
  dsimp only [LogV.cs] at C
  have q1 := fieldLC
  have q2 := fieldCM
  obtain ⟨p1, p2⟩ := r.pages k hk
  have HM : ∀ w', Below w.heap.size w w' → (Instr.lookup 42 (.map (some mb)) (.int .i64 (k : Int)) true).run Tryz.prog w' = .ok (.tuple #[(g k).getD (.slice none 0 0), .bool (g k).isSome]) w' := fun w' hb => (r.map.below hb).look hk
  cases hp : pageF l k with
  | none =>
    rw [p1 hp] at HM
    simp only [Option.getD_none, Option.isSome_none] at HM ⊢
    have CC := Lib.hid fun (w' : World) => clone_any [] none 0 w' (by simp) (fun i hi => absurd hi (Nat.not_lt_zero i))
    clear r p1 p2 hp hl
    go_enter Tryz.func15, Tryz.ntmps15
    go_wp2_with (first
      | (go_at_call 42; refine C.out.mono ?_; rintro e w1 ⟨rfl, hb⟩; have q3 := HM w1 hb; have HB := Lib.hid hb)
      | (go_at_call 44; refine (CC.out _).mono ?_; rintro e w2 ⟨t, rfl, hr⟩; have HR := Lib.hid hr; clear hr)
      | fail)
    go_ret2
    refine ⟨_, rfl, kbT HB.out HR.out.2, ?_⟩
    exact rowB_grow HB.out HR.out
  | some bs =>
    obtain ⟨q, c, hg, hb, hc, -⟩ := p2 bs hp
    have hlen := hl bs hp
    rw [hg] at HM
    simp only [Option.getD_some, Option.isSome_some] at HM ⊢
    have CC : Hid (∀ w', Below w.heap.size w w' → Calls Tryz.prog 44 #[.slice q 512 c] w' fun r w2 => ∃ t, r = .returned t ∧ RowB w' bs t w2) := Lib.hid fun w' hb2 => by
      have := clone_any bs q c w' (by omega) (bytesAt_below hb hb2)
      rw [hlen] at this
      exact this
    clear r p1 p2 hp hl hb hlen
    go_enter Tryz.func15, Tryz.ntmps15
    go_wp2_with (first
      | (go_at_call 42; refine C.out.mono ?_; rintro e w1 ⟨rfl, hb⟩; have q3 := HM w1 hb; have HB := Lib.hid hb)
      | (go_at_call 44; refine (CC.out _ HB.out).mono ?_; rintro e w2 ⟨t, rfl, hr⟩; have HR := Lib.hid hr; clear hr)
      | fail)
    go_ret2
    exact ⟨_, rfl, kbT HB.out HR.out.2, rowB_grow HB.out HR.out⟩
theorem lsize_any (B Bd : Nat) (s : Dk.DS) (f pg S E hn : Nat) (l : List FR) (F : Foot) (N : Nat) (w : World) (h : LogR w B Bd s f pg S E hn l F N) :
    Calls Tryz.prog 19 #[.pointer (some ⟨B, 0, none⟩)] w fun r w' => r = .returned (.int .i64 (sizeF hn l : Nat)) ∧ Below w.heap.size w w' := by
  obtain ⟨mb, Fd, X, g, r⟩ := h
  exact size_any _ _ w (whole_of B _ w r.log)
theorem lepoch_any (B Bd : Nat) (s : Dk.DS) (f pg S E hn : Nat) (l : List FR) (F : Foot) (N : Nat) (w : World) (h : LogR w B Bd s f pg S E hn l F N) :
    Calls Tryz.prog 20 #[.pointer (some ⟨B, 0, none⟩)] w fun r w' => r = .returned (.int .u64 (E : Nat)) ∧ Below w.heap.size w w' := by
  obtain ⟨mb, Fd, X, g, r⟩ := h
  exact epoch_any _ _ w (whole_of B _ w r.log)
theorem lmany_any (B Bd : Nat) (s : Dk.DS) (f pg S E hn : Nat) (l : List FR) (F : Foot) (N : Nat) (w : World) (h : LogR w B Bd s f pg S E hn l F N) (hl : l.length ≤ f) (hf : f ≤ 2000) :
    Calls Tryz.prog 14 #[.pointer (some ⟨B, 0, none⟩)] w fun r w' => r = .returned (.tuple #[.int .i64 (l.length : Nat), .int .i64 ((f : Int) - (l.length : Int))]) ∧ Below w.heap.size w w' := by
  obtain ⟨mb, Fd, X, g, r⟩ := h
  exact many_any _ _ w (whole_of B _ w r.log) (by simp only [IntKind.wrap, IntKind.signed, IntKind.bits]; simp; omega)
end Go.Proofs.YtdanigigjainjaaGreat
namespace Go.Proofs.YtdanigigjainjaaGreat
open Go.RowKit Go.Shelf
attribute [local go_sem] Oper.semAt_some

theorem infoFr : (Tryz.prog.info? 156).map (fun i => (i.zero, i.size, i.bytes)) = some (some (.agg #[.int .u64 0, .int .i64 0, .int .i64 0, .bool false, .int .i64 0, .int .u32 0, .slice none 0 0]), 7, 72) := by kernel_rfl
theorem own_allocT {w0 : Nat} {e : TypeId} {sz : Nat} {W : World} {v : Value} {n : Nat} {xs : List Value} (h : W.ownsRow w0 e sz v n xs) (o : Obj) : (W.alloc o).ownsRow w0 e sz v n xs := Dk.ownsRow_kept h (fun j hj => Below.heap_alloc W _ j (h.lt j hj).2)
theorem own_belowT {w0 : Nat} {e : TypeId} {sz : Nat} {W W' : World} {v : Value} {n : Nat} {xs : List Value} (h : W.ownsRow w0 e sz v n xs) (hb : Below W.heap.size W W') : W'.ownsRow w0 e sz v n xs := Dk.ownsRow_kept h (fun j hj => hb.block j (h.lt j hj).2)
/-- The frame in memory at an index. -/
def fvOf (E : Nat) (L : List FR) (i : Nat) (q : Option Addr) (c : Nat) : FV := ⟨E, i, (L.getD i FR.zero).p, (L.getD i FR.zero).cm, (L.getD i FR.zero).n, lk E L i, q, c, (L.getD i FR.zero).bs⟩
theorem fvOf_sum (E : Nat) (L : List FR) (i : Nat) (q : Option Addr) (c : Nat) : (fvOf E L i q c).sum = lk E L (i + 1) := rfl
def flatC (X : List FV) : List Value := (X.map fun x => x.cs.toList).flatten
/-- Bytes in a block of bytes. -/
def ByteBlk (W : World) (base : Nat) (q : Option Addr) (l : List Nat) : Prop := ∃ g cur, q = some ⟨g, 0, none⟩ ∧ base ≤ g ∧ W.heap[g]? = some (.cells cur 5 (0, 0)) ∧ ∀ i, i < l.length → cur[i]? = some (Value.int .u8 (l.getD i 0 : Nat))
theorem ByteBlk.at' {W : World} {base : Nat} {q : Option Addr} {l : List Nat} (h : ByteBlk W base q l) : BytesAt W q l := fun i hi => by
  obtain ⟨g, cur, rfl, -, h2, h3⟩ := h
  exact ⟨g, 0, rfl, by rw [Nat.zero_add, cell_of_row _ _ i _ _ _ h2]; exact h3 i hi⟩
theorem ByteBlk.of {w W : World} {l : List Nat} {q : Option Addr} {n c : Nat} (h : RowB w l (.slice q n c) W) (hl : 0 < l.length) : ByteBlk W w.heap.size q l := by
  rcases h.1.2 with ⟨e, h0⟩ | ⟨g, cap, cur, e, h2, h3, h4, h5, h6, h7⟩
  · omega
  · injection e with e1 e2 e3
    subst e1
    refine ⟨g, cur, rfl, h2, h3, fun i hi => ?_⟩
    have h8 : (cur.toList.take (l.length * 1))[i]? = (l.map fun (v : Nat) => Value.int .u8 (v : Int))[i]? := by rw [h7]
    rw [List.getElem?_take_of_lt (by omega), List.getElem?_map, Array.getElem?_toList] at h8
    rw [h8, List.getElem?_eq_getElem hi, List.getD_eq_getElem?_getD, List.getElem?_eq_getElem hi]
    rfl
theorem ByteBlk.below {W W' : World} {base : Nat} {q : Option Addr} {l : List Nat} (h : ByteBlk W base q l) (hb : Below W.heap.size W W') : ByteBlk W' base q l := by
  obtain ⟨g, cur, e, h1, h2, h3⟩ := h
  exact ⟨g, cur, e, h1, (hb.block g (Array.getElem?_eq_some_iff.1 h2).1).trans h2, h3⟩
theorem ByteBlk.grown {W W' : World} {base b0 n : Nat} {q : Option Addr} {l : List Nat} {v : Value} {xs : List Value} (h : ByteBlk W base q l) (ho : W.ownsRow b0 156 7 v n xs) (hg : W.grownBy W' v.ownBlock) : ByteBlk W' base q l := by
  obtain ⟨g, cur, e, h1, h2, h3⟩ := h
  exact ⟨g, cur, e, h1, (hg.block g (Array.getElem?_eq_some_iff.1 h2).1 (own_type ho h2 (by decide))).trans h2, h3⟩
/-- Frames that were made, one behind the other. -/
structure FJ (w : World) (E i0 : Nat) (L : List FR) (X : List FV) (W : World) : Prop where
  hb : Below w.heap.size w W
  box : W.heap[w.heap.size]? = some (.cells #[.int .u64 E, .int .i64 ((i0 : Int) + (X.length : Int)), .int .u32 (lk E L (i0 + X.length) : Nat)] 41 (0, 0))
  fr : ∀ (j : Nat) (x : FV), X[j]? = some x → ∃ q c, x = fvOf E L (i0 + j) q c ∧ ByteBlk W w.heap.size q x.bs
theorem FJ.below {w : World} {E i0 : Nat} {L : List FR} {X : List FV} {W W' : World} (h : FJ w E i0 L X W) (hb : Below W.heap.size W W') : FJ w E i0 L X W' :=
  ⟨kbT h.hb hb, (hb.block _ (Array.getElem?_eq_some_iff.1 h.box).1).trans h.box, fun j x hj => by
    obtain ⟨q, c, e, h1⟩ := h.fr j x hj
    exact ⟨q, c, e, h1.below hb⟩⟩
theorem FJ.grown {w : World} {E i0 : Nat} {L : List FR} {X : List FV} {W W' : World} {n : Nat} {v : Value} {xs : List Value} (h : FJ w E i0 L X W) (ho : W.ownsRow (w.heap.size + 1) 156 7 v n xs) (hg : W.grownBy W' v.ownBlock) : FJ w E i0 L X W' :=
  ⟨h.hb.grown hg h.hb.size (fun j hj => by
      rcases ho.2 with ⟨rfl, -⟩ | ⟨g', cap, cur, rfl, h2, -⟩
      · cases hj
      · simp only [Value.ownBlock, Option.some.injEq] at hj
        omega), (hg.block _ (Array.getElem?_eq_some_iff.1 h.box).1 (own_type ho h.box (by decide))).trans h.box, fun j x hj => by
    obtain ⟨q, c, e, h1⟩ := h.fr j x hj
    exact ⟨q, c, e, h1.grown ho hg⟩⟩
end Go.Proofs.YtdanigigjainjaaGreat
