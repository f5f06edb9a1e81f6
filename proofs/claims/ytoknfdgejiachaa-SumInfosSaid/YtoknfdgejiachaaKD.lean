import Derived.Test.YtoknfdgejiachaaKC
import Derived.Outline
import Derived.Test.YtoknfdgejiachaaY4
import Derived.WalkMore
namespace Go.Proofs.Ytoknfdgejiachaa
open Go.RowKit Go.Shelf
attribute [local go_sem] Oper.semAt_some

/-- The twenty operators, rising. -/
def ol : List (Fin 20) := List.ofFn id
theorem ol_take (k : Nat) (h : k < 20) : ol.take (k + 1) = ol.take k ++ [⟨k, h⟩] := by
  have hl : ol.length = 20 := rfl
  rw [List.take_succ_eq_append_getElem (by omega)]
  congr 1
  unfold ol
  rw [List.getElem_ofFn]
  rfl
/-- What the iterator hands over. -/
abbrev oenc (x : Fin 20) : Array Value := #[.int .i64 (1 + (x.val : Int)), info (oname (x.val + 1)) (manyE (1 + (x.val : Int))) (ofE (1 + (x.val : Int))) (makeE (1 + (x.val : Int)))]
/-- What a round that goes on keeps: the cells of newer blocks. -/
def KpC (n : Nat) (W W' : World) : Prop := W.heap.size ≤ W'.heap.size ∧ ∀ (k : Nat) (o : Obj), n ≤ k → W.heap[k]? = some o → o.isCells = true → W'.heap[k]? = some o
theorem KpC.refl (n : Nat) (W : World) : KpC n W W := ⟨Nat.le_refl _, fun _ _ _ h _ => h⟩
theorem kpC_t {n : Nat} {A B C : World} (h : KpC n A B) (k : KpC n B C) : KpC n A C := ⟨Nat.le_trans h.1 k.1, fun i o hi ho hc => k.2 i o hi (h.2 i o hi ho hc) hc⟩
theorem kpC_b {n : Nat} {w : World} (W : World) (l : Nat) (o o' : Obj) (_ : w.heap.size ≤ l) (h : W.heap[l]? = some o) (hc : o.isCells = false) (_ : o.isWalk = false) : KpC n W (W.putObj l o') :=
  ⟨by simp, fun k q _ hq hqc => by
    by_cases e : k = l
    · subst e; rw [h] at hq; injection hq with hq; subst hq; rw [hc] at hqc; cases hqc
    · exact (World.putObj_heap_other e).trans hq⟩
theorem KpC.of_below {n : Nat} {W W' : World} (h : Below W.heap.size W W') : KpC n W W' := ⟨h.size, fun k o _ hk _ => (h.block k (Array.getElem?_eq_some_iff.1 hk).1).trans hk⟩
/-- The cells of the table's row k. -/
def wayN (k : Nat) : Nat := (#[0, 43, 43, 43, 43, 43, 44, 45, 45, 45, 45, 45, 45, 46, 46, 43, 46, 47, 47, 48, 43] : Array Nat)[k]!
theorem tab_row (k : Nat) (h : k < 20) : TABLE[(1 + k) * 5]? = some (.string (oname (k + 1))) ∧ TABLE[(1 + k) * 5 + 1]? = some (.int .i64 (manyE (1 + (k : Int)))) ∧ TABLE[(1 + k) * 5 + 2]? = some (.int .i64 (ofE (1 + (k : Int)))) ∧ TABLE[(1 + k) * 5 + 3]? = some (.int .i64 (makeE (1 + (k : Int)))) ∧ TABLE[(1 + k) * 5 + 4]? = some (.func (.func (wayN (k + 1))) #[] #[]) := by
  rcases (show k = 0 ∨ k = 1 ∨ k = 2 ∨ k = 3 ∨ k = 4 ∨ k = 5 ∨ k = 6 ∨ k = 7 ∨ k = 8 ∨ k = 9 ∨ k = 10 ∨ k = 11 ∨ k = 12 ∨ k = 13 ∨ k = 14 ∨ k = 15 ∨ k = 16 ∨ k = 17 ∨ k = 18 ∨ k = 19 by omega) with rfl | rfl | rfl | rfl | rfl | rfl | rfl | rfl | rfl | rfl | rfl | rfl | rfl | rfl | rfl | rfl | rfl | rfl | rfl | rfl
  all_goals exact ⟨rfl, rfl, rfl, rfl, rfl⟩
set_option maxHeartbeats 400000 in
theorem opsF_any (w : World) :
    Calls Try.prog 11 #[] w fun r w' => r = .returned (.func (.func 21) #[] #[]) ∧ w = w' := by
  go_enter Try.func11, Try.ntmps11
  go_wp2
  go_ret
  exact ⟨rfl, rfl⟩
theorem wpListIn_store_row {F : Fence} {n : Nat} {P : Program} {ops : Array Oper} {rest : List Oper} {o : Oper} {a : Act} {w : World} {Q : Exit → Act → World → Prop} (hgd : o.guard = none) (ty : TypeId) (x y : Operand) (ho : o.op = .store ty x y)
    (g : Nat) (cells : Array Value) (hx : a.eval x = .pointer (some ⟨g, 0, none⟩)) (hy : a.eval y = .agg cells)
    (t : TypeId) (old : Array Value) (hg : w.heap[g]? = some (.cells old t (0, 0))) (hi : (P.info? ty).map (·.size) = some cells.size)
    (hold : old.size = cells.size) (h1 : cells.all (·.oneCell') = true)
    (h : wpListIn F n P ops Q rest (a.put o.dst undef) (w.setRow g cells)) : wpListIn F n P ops Q (o :: rest) a w := by
  refine wpListIn_plain hgd fun K' hK' => ?_
  unfold Oper.wpIn
  refine ⟨by simp [Oper.about, ho], ?_⟩
  rw [Oper.semAt_plain F _ _ (by rw [ho]; intro c hc'; cases hc')]
  simp only [execOp, ho, hx, hy, Instr.storeAt, Instr.sureAddr, Sem.run_bind, Sem.run_pure, Result.andThen_ok, run_storeVar_row w g t ty old cells hg hi hold h1]
  exact hK' _ _ h
set_option maxRecDepth 100000 in
set_option maxHeartbeats 4000000 in
theorem ops_stops (n : Nat) (hn : 2 ≤ n) (w : World) :
    SeqStopsK Fence.wide n Try.prog 21 #[] oenc (KpC w.heap.size) (fun xs => xs = ol) (fun pre => pre <+: ol) 20 w := fun l J Jx W hW hJ hJx hY h0 => by
  refine callsIn_of_wp Try.func21 rfl trivial ?_ rfl
  simp only [Try.ntmps21, List.size_toArray, List.length_cons, List.length_nil, Nat.reduceAdd, Nat.reduceSub, Array.replicate_succ, Array.replicate_zero, List.push_toArray, List.append_toArray, List.nil_append, List.cons_append]
  gi_wp2_with (first
    | (refine ⟨trivial, fun _ => by omega, (callsIn_wide.2 (table_any _)).mono ?_⟩; rintro e w1 ⟨rfl, rfl⟩)
    | (refine wpListIn_store_row rfl 61 _ _ rfl (W.heap.size + 1) TABLE (by simp [Act.eval]) rfl 61 _ (heap_alloc2_new _ _ _) (by kernel_rfl) (by kernel_rfl) (by kernel_rfl) ?_))
  have e1 : (((W.alloc (Obj.cells TABLE 61)).alloc (Obj.cells Try.zeroCells61 61)).setRow (W.heap.size + 1) TABLE) = (W.alloc (.cells TABLE 61)).alloc (.cells TABLE 61) := by
    have := World.setRow_alloc_new (W.alloc (Obj.cells TABLE 61)) Try.zeroCells61 TABLE 61
    simpa using this
  rw [e1]
  have T0 : ((W.alloc (.cells TABLE 61)).alloc (.cells TABLE 61)).heap[W.heap.size + 1]? = some (.cells TABLE 61 (0, 0)) := heap_alloc2_new _ _ _
  have J0 : J [] ((W.alloc (.cells TABLE 61)).alloc (.cells TABLE 61)) := hJ _ _ _ none (hJ _ _ _ none h0 (World.grownBy_alloc W _ none) (fun r e => by cases e)) (World.grownBy_alloc _ _ none) (fun r e => by cases e)
  clear e1
  gi_loopw [3] (fun i wr => ∃ k : Nat, k ≤ 20 ∧ i = .int .i64 (1 + (k : Int)) ∧ J (ol.take k) wr ∧ wr.heap[W.heap.size + 1]? = some (.cells TABLE 61 (0, 0))) (fun i _ => 21 - (intOf i).toNat)
  case atStart => exact ⟨0, Nat.zero_le _, rfl, J0, T0⟩
  case round =>
    obtain ⟨k, hk, rfl, hJs, hT⟩ := hrel
    by_cases hlt : k < 20
    · obtain ⟨t0, t1, t2, t3, t4⟩ := tab_row k hlt
      have hk0 : 1 + (k : Int) ≤ 20 := by omega
      have hk1 : (k : Int) < 20 := by omega
      have c0 := (cell_of_row wr (W.heap.size + 1) ((1 + k) * 5) TABLE 61 (0, 0) hT).trans t0
      have c1 := (cell_of_row wr (W.heap.size + 1) ((1 + k) * 5 + 1) TABLE 61 (0, 0) hT).trans t1
      have c2 := (cell_of_row wr (W.heap.size + 1) ((1 + k) * 5 + 2) TABLE 61 (0, 0) hT).trans t2
      have c3 := (cell_of_row wr (W.heap.size + 1) ((1 + k) * 5 + 3) TABLE 61 (0, 0) hT).trans t3
      have c4 := (cell_of_row wr (W.heap.size + 1) ((1 + k) * 5 + 4) TABLE 61 (0, 0) hT).trans t4
      have hX : J (ol.take k) (wr.alloc (.cells #[.string (oname (k + 1)), .int .i64 (manyE (1 + (k : Int))), .int .i64 (ofE (1 + (k : Int))), .int .i64 (makeE (1 + (k : Int))), .func (.func (wayN (k + 1))) #[] #[]] 60)) := hJ _ _ _ none hJs (World.grownBy_alloc _ _ none) (fun r e => by cases e)
      obtain ⟨fn, tmps, assign, body, hy, hR⟩ := hY (ol.take k) ⟨k, hlt⟩ _ hX (by simp [ol]; omega)
      have HT := Lib.hid hT
      have HTK := Lib.hid (ol_take k hlt)
      clear t0 t1 t2 t3 t4 hT hJs hX
      gi_wp2
      refine ⟨fun _ => by omega, hR.mono ?_⟩
      rintro e W3 (⟨rfl, hJ3, hK3⟩ | ⟨rfl, hJx3⟩)
      · have HK := Lib.hid (hK3.2 (W.heap.size + 1) (.cells TABLE 61 (0, 0)) (by have := hW.size; omega) ((((Below.refl wr.heap.size wr).alloc (Nat.le_refl _) _).block _ (Array.getElem?_eq_some_iff.1 HT.out).1).trans HT.out) rfl)
        clear hK3
        gi_wp2
        go_roundw
        case rel => exact ⟨k + 1, by omega, by simp; omega, by rw [HTK.out]; exact hJ3, HK.out⟩
        case measure => simp [intOf]; omega
      · gi_wp2
        refine bodyPost_ret (results_none rfl _ _ _) rfl ?_
        exact ⟨⟨_, rfl⟩, .inr ⟨_, by rw [← HTK.out]; exact List.take_prefix _ _, hJx3⟩⟩
    · obtain rfl : k = 20 := by omega
      clear hT
      gi_wp2
      go_end0
      exact ⟨⟨_, rfl⟩, .inl ⟨_, rfl, hJs⟩⟩
end Go.Proofs.Ytoknfdgejiachaa
