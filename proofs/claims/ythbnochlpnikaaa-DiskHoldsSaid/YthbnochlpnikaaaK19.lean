/- The writes that a crash keeps, in a row of their own. -/
import Derived.Test.YthbnochlpnikaaaK18
namespace Go.Proofs.Ythbnochlpnikaaa
open Go.RowKit Go.Shelf

theorem wpList_row_write {ops : Array Oper} {rest : List Oper} {o : Oper} {a : Act} {w : World} {Q : Exit → Act → World → Prop} (hg : o.guard = none) (x : Operand) (ho : o.op = .buildSlice 61 1 #[(0, x)]) {k : Int} {c : ByteArray} (hc : c.size = 64) (hx : a.eval x = .agg (wV k c))
    (h : wpList Try.prog ops Q rest (a.put o.dst (.slice (some ⟨w.heap.size, 0, none⟩) 1 1)) (w.alloc (.cells (wV k c) 78))) : wpList Try.prog ops Q (o :: rest) a w := by
  refine wpList_plain hg fun K hK => ?_
  unfold Oper.wp execOp
  have e : (#[(0, x)] : Array (Nat × Operand)).map (fun (i, x) => (i, a.eval x)) = #[(0, .agg (wV k c))] := by simp [hx]
  simp only [ho, Sem.run_bind, e, run_row_write hc, Result.andThen_ok]
  exact hK _ _ h
theorem ownsRow_raise {w : World} {b b' : Nat} {e : TypeId} {size : Nat} {v : Value} {n : Nat} {xs : List Value} (h : w.ownsRow b e size v n xs) (hb : ∀ j, v.ownBlock = some j → b' ≤ j) : w.ownsRow b' e size v n xs := by
  refine ⟨h.1, ?_⟩
  rcases h.2 with h | ⟨g, cap, cur, rfl, hg, rest⟩
  · exact .inl h
  · exact .inr ⟨g, cap, cur, rfl, hb g rfl, rest⟩
set_option maxRecDepth 100000 in
set_option maxHeartbeats 2000000 in
theorem asked_any {A : Nat} {p : Option Addr} {keep : List Bool} {c : Nat} {w : World} (hbox : w.cell? ⟨A, 0, none⟩ = some (.slice p keep.length c)) (hk : Hid (BoolsAt w p keep)) (hkl : keep.length ≤ 9223372036854775807) {q : Option Addr} {cap : Nat} {l : List (Nat × ByteArray)} (hr : w.ownsRow 0 78 65 (.slice q l.length cap) l.length (wcs l)) (hl : ∀ x ∈ l, x.2.size = 64) (hlen : l.length ≤ 20000) :
    Calls Try.prog 48 #[.slice q l.length cap, .func (.func 49) #[] #[.pointer (some ⟨A, 0, none⟩)]] w fun r w' => ∃ u, r = .returned u ∧ w'.ownsRow w.heap.size 78 65 u (keptL l keep l.length).length (wcs (keptL l keep l.length)) ∧ Below w.heap.size w w' := by
  have HR := Lib.hid hr
  have HLs := Lib.hid hl
  have HBX := Lib.hid hbox
  clear hr hl hbox
  go_enter Try.func48, Try.ntmps48
  go_wp2
  go_loopw [5, 10] (fun y i wr => ∃ k : Nat, k ≤ l.length ∧ i = .int .i64 k ∧ Hid (wr.ownsRow w.heap.size 78 65 y (keptL l keep k).length (wcs (keptL l keep k))) ∧ Hid (Below w.heap.size w wr)) (fun y i _ => (l.length - intOf i).toNat)
  case atStart => exact ⟨0, Nat.zero_le _, by first | rfl | go_num, Lib.hid ⟨rfl, .inl ⟨rfl, rfl⟩⟩, Lib.hid (Below.refl _ _)⟩
  case round =>
    obtain ⟨k, hk2, rfl, RY, B⟩ := hrel
    by_cases hlt : k < l.length
    · obtain ⟨x, hx⟩ : ∃ x, l[k]? = some x := ⟨_, List.getElem?_eq_getElem hlt⟩
      have hx2 := HLs.out x (List.mem_of_getElem? hx)
      obtain ⟨g, cap', e1, hrow⟩ : ∃ g cap', Value.slice q l.length cap = .slice (some ⟨g, 0, none⟩) l.length cap' ∧ ∀ j v, (Value.int .i64 (x.1 : Int) :: bL x.2)[j]? = some v → wr.cell? ⟨g, k * 65 + j, none⟩ = some v := by
        rcases HR.out.2 with ⟨e, h0⟩ | ⟨g, cap', cur, e, -, hg, rest⟩
        · omega
        · refine ⟨g, cap', e, fun j u hu => ?_⟩
          have hr2 := HR.out
          rw [e] at hr2
          exact below_kept B.out _ _ (row_cells hr2 HLs.out hx j u hu)
      injection e1 with e1 _ e3
      subst e1 e3
      have HRW := Lib.hid hrow
      clear hrow
      have hgd : l.getD k (0, secS 0) = x := by rw [List.getD_eq_getElem?_getD, hx]; rfl
      have HG := Lib.hid hgd
      clear hx hgd
      obtain ⟨at', b⟩ := x
      replace hx2 : b.size = 64 := hx2
      have B1 : Below w.heap.size w (wr.alloc (.cells (wV at' b) 78)) := B.out.alloc B.out.size _
      have C := Lib.hid (crash1_any (k := k) (below_kept B1 _ _ HBX.out) (Lib.hid (hk.out.below B1)) hkl)
      have HB1 := Lib.hid B1
      clear B1
      cases hkk : keep.getD k false
      · rw [hkk] at C
        have e : keptL l keep (k + 1) = keptL l keep k := by rw [keptL, hkk]; rfl
        have HE := Lib.hid e
        clear e hkk
        go_wp2_with (first
          | (refine wpList_load_write rfl _ rfl rfl hx2 HRW.out ?_)
          | (refine wpList_store_row rfl 78 _ _ rfl wr.heap.size (wV at' b) rfl rfl 78 _ (heap_alloc_new wr _) (by rw [wV_size hx2]; kernel_rfl) (by rw [wV_size hx2]; kernel_rfl) (wV_one _ _) ?_; rw [World.setRow_alloc_new])
          | (go_at_call 49; (with_reducible refine C.out.mono ?_); rintro e w2 ⟨rfl, rfl⟩)
          | fail)
        refine ⟨⟨k + 1, hlt, by first | rfl | go_num, Lib.hid ?_, Lib.hid HB1.out⟩, by simp [intOf]; omega⟩
        rw [HE.out]
        exact ownsRow_kept RY.out (fun j hj => Below.heap_alloc wr _ j (RY.out.lt j hj).2)
      · rw [hkk] at C
        have e : keptL l keep (k + 1) = keptL l keep k ++ [(at', b)] := by rw [keptL, hkk, HG.out]; rfl
        have HE := Lib.hid e
        clear e hkk
        have L0 : ∀ j v, (Value.int .i64 (at' : Int) :: bL b)[j]? = some v → (wr.alloc (.cells (wV at' b) 78)).cell? ⟨wr.heap.size, 0 + j, none⟩ = some v := fun j v hv => by
          rw [Nat.zero_add, cell_of_row (wr.alloc (.cells (wV at' b) 78)) wr.heap.size j _ 78 (0, 0) (heap_alloc_new wr _)]
          simpa [wV] using hv
        have HL0 := Lib.hid L0
        clear L0
        have RZ : Hid (((wr.alloc (.cells (wV at' b) 78)).alloc (.cells (wV at' b) 78)).ownsRow 0 78 65 _ (keptL l keep k).length (wcs (keptL l keep k))) := Lib.hid (ownsRow_base (ownsRow_kept RY.out (fun j hj => (Below.heap_alloc _ _ j (by have := (RY.out.lt j hj).2; simp; omega)).trans (Below.heap_alloc wr _ j (RY.out.lt j hj).2))) (Nat.zero_le _))
        have HN : (keptL l keep k).length ≤ 100000 := by have := keptL_length (l := l) (keep := keep) k; omega
        go_wp2_with (first
          | (refine wpList_load_write rfl _ rfl rfl hx2 HRW.out ?_)
          | (refine wpList_store_row rfl 78 _ _ rfl wr.heap.size (wV at' b) rfl rfl 78 _ (heap_alloc_new wr _) (by rw [wV_size hx2]; kernel_rfl) (by rw [wV_size hx2]; kernel_rfl) (wV_one _ _) ?_; rw [World.setRow_alloc_new])
          | (go_at_call 49; (with_reducible refine C.out.mono ?_); rintro e w2 ⟨rfl, rfl⟩)
          | (refine wpList_load_write rfl _ rfl rfl hx2 HL0.out ?_)
          | (refine wpList_row_write rfl _ rfl hx2 rfl ?_)
          | (at_builtin; go_frame; refine wpList_append_write rfl _ _ rfl rfl RZ.out rfl hx2 (heap_alloc_new _ _) HN ?_; intro v' w2 hr2 hg2 hj2)
          | fail)
        refine ⟨⟨k + 1, hlt, by first | rfl | go_num, Lib.hid ?_, Lib.hid ?_⟩, by simp [intOf]; omega⟩
        · rw [HE.out, List.length_append, List.length_singleton]
          refine ownsRow_raise hr2 (fun j hj => ?_)
          rcases hj2 j hj with h | h
          · exact ownsRow_new RY.out j h
          · have := B.out.size
            simp at h
            omega
        · exact (HB1.out.alloc HB1.out.size _).grown hg2 (by have := HB1.out.size; simp at this ⊢; omega) (fun j hj => ownsRow_new RY.out j hj)
    · obtain rfl : k = l.length := by omega
      go_wp2
      go_ret
      exact ⟨_, rfl, RY.out, B.out⟩
end Go.Proofs.Ythbnochlpnikaaa
