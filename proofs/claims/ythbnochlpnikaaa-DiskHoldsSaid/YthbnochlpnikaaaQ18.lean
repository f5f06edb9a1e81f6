/- DiskHolds: what is written behind the sync. -/
import Derived.Test.YthbnochlpnikaaaQ17
namespace Go.Proofs.Ythbnochlpnikaaa
open Go.RowKit Go.Shelf

structure Later (Rep : DiskRep) (w0 : World) (d : Value) (N gw gn gk : Nat) (A0 A1 : List (Nat × Nat)) (keep : List Bool) (va : Value) (k : Nat) (wr : World) : Prop where
  held : HeldX Rep w0 (fun j => j = gw ∨ j = gn ∨ j = gk ∨ va.ownBlock = some j) wr d ⟨N, wrs A0, wrs (A1.take k), -1⟩
  below : Below w0.heap.size w0 wr
  was : wr.rowIs gw 5 N (fun j => .int .u8 (valN A0 j))
  now : wr.rowIs gn 5 N (fun j => .int .u8 (valN (A0 ++ A1.take k) j))
  kept : wr.rowIs gk 4 N (fun j => .bool (keptB A1 keep j k))
  all : wr.ownsRow (gk + 1) 4 1 va k (List.replicate k (.bool true))
theorem row_later {w : World} {g N k : Nat} {l m : List (Nat × Nat)} {x : Nat × Nat} (hx : l[k]? = some x) (h : w.rowIs g 5 N (fun j => .int .u8 (valN (m ++ l.take k) j))) :
    (w.setCell ⟨g, x.1, none⟩ (.int .u8 x.2)).rowIs g 5 N (fun j => .int .u8 (valN (m ++ l.take (k + 1)) j)) :=
  (h.set x.1 (.int .u8 x.2)).congr fun i hi => by
    rw [List.take_add_one, hx, Option.toList_some, ← List.append_assoc, valN_snoc]
    by_cases e : i = x.1
    · subst e; rw [if_pos rfl, if_pos rfl]
    · rw [if_neg e, if_neg (fun h => e h.symm)]
theorem row_kept {w : World} {g N k : Nat} {l : List (Nat × Nat)} {keep : List Bool} {x : Nat × Nat} (hx : l[k]? = some x) (h : w.rowIs g 4 N (fun j => .bool (keptB l keep j k))) :
    (w.setCell ⟨g, x.1, none⟩ (.bool (keptB l keep x.1 k || keep.getD k false))).rowIs g 4 N (fun j => .bool (keptB l keep j (k + 1))) :=
  (h.set x.1 _).congr fun i hi => by
    have e0 : (l.getD k (0, 0)).1 = x.1 := by rw [List.getD_eq_getElem?_getD, hx]; rfl
    unfold keptB
    rw [e0]
    by_cases e : i = x.1
    · subst e
      rw [if_pos rfl, decide_eq_true rfl, Bool.true_and]
      cases k <;> rfl
    · rw [if_neg e, decide_eq_false (fun h => e h.symm), Bool.false_and, Bool.or_false]
      cases k <;> rfl
/-- The run behind a write, three stores and an append. -/
theorem Later.next {Rep : DiskRep} (S : DiskOk Rep) {w0 : World} {d : Value} {N gw gn gk : Nat} {A0 A1 : List (Nat × Nat)} {keep : List Bool} {va v' : Value} {k : Nat} {wr ws wx wz : World} {x : Nat × Nat} (h : Later Rep w0 d N gw gn gk A0 A1 keep va k wr) (hx : A1[k]? = some x) (hb : Below wr.heap.size wr ws)
    (hw0 : w0.heap.size ≤ gw) (hw1 : gw < gn) (hw2 : gn < gk) (hB : Behind Rep w0 (fun j => j = gw ∨ j = gn ∨ j = gk ∨ va.ownBlock = some j) d ⟨N, wrs A0, wrs (A1.take (k + 1)), -1⟩ ws wx)
    (ho : wz.ownsRow (gk + 1) 4 1 v' (k + 1) (List.replicate (k + 1) (.bool true))) (hg : ((wx.setCell ⟨gn, x.1, none⟩ (.int .u8 x.2)).alloc (.cells #[.bool true] 4)).grownBy wz va.ownBlock)
    (hn : ∀ j, v'.ownBlock = some j → va.ownBlock = some j ∨ wx.heap.size < j) :
    Later Rep w0 d N gw gn gk A0 A1 keep v' (k + 1) (wz.setCell ⟨gk, x.1, none⟩ (.bool (keptB A1 keep x.1 k || keep.getD k false))) := by
  have lw := h.was.lt
  have ln := h.now.lt
  have lk := h.kept.lt
  have hva : ∀ j, va.ownBlock = some j → gk + 1 ≤ j ∧ j < wr.heap.size := fun j hj => h.all.lt j hj
  have sx : ws.heap.size ≤ wx.heap.size := hB.size
  have ss := hb.size
  have hsz : ((wx.setCell ⟨gn, x.1, none⟩ (.int .u8 x.2)).alloc (.cells #[.bool true] 4)).heap.size = wx.heap.size + 1 := by simp [setCell_size]
  have hz1 := hg.size
  rw [hsz] at hz1
  -- a block that is none of those that are written keeps from wx to wz
  have step : ∀ j, j < wx.heap.size → j ≠ gn → va.ownBlock ≠ some j → wz.heap[j]? = wx.heap[j]? := fun j hj h1 h2 => by
    rw [hg.block j (by rw [hsz]; omega) (fun e => h2 e.symm), Below.heap_alloc _ _ _ (by rw [setCell_size]; exact hj), Below.heap_setCell _ _ _ _ h1]
  have r1 : wx.rowIs gw 5 N (fun j => .int .u8 (valN A0 j)) := (h.was.of_block (hb.block gw lw)).of_block (hB.same gw (.inl rfl))
  have r2 : wx.rowIs gn 5 N (fun j => .int .u8 (valN (A0 ++ A1.take k) j)) := (h.now.of_block (hb.block gn ln)).of_block (hB.same gn (.inr (.inl rfl)))
  have r3 : wx.rowIs gk 4 N (fun j => .bool (keptB A1 keep j k)) := (h.kept.of_block (hb.block gk lk)).of_block (hB.same gk (.inr (.inr (.inl rfl))))
  have n1 : va.ownBlock ≠ some gw := fun e => by have := hva gw e; omega
  have n2 : va.ownBlock ≠ some gn := fun e => by have := hva gn e; omega
  have n3 : va.ownBlock ≠ some gk := fun e => by have := hva gk e; omega
  have q1 : wz.rowIs gw 5 N (fun j => .int .u8 (valN A0 j)) := r1.of_block (step gw (by omega) (by omega) n1)
  have q2 : wz.rowIs gn 5 N (fun j => .int .u8 (valN (A0 ++ A1.take (k + 1)) j)) := (row_later hx r2).of_block (by
    rw [hg.block gn (by rw [hsz]; omega) (fun e => n2 e.symm), Below.heap_alloc _ _ _ (by rw [setCell_size]; omega)])
  have q3 : wz.rowIs gk 4 N (fun j => .bool (keptB A1 keep j k)) := r3.of_block (step gk (by omega) (by omega) n3)
  have hbz : Below w0.heap.size w0 wz := ((hB.below.setCell (by show w0.heap.size ≤ gn; omega) _).alloc (by have := hB.below.size; simp only [setCell_size]; exact this) _).grown hg (by rw [hsz]; have := hB.below.size; omega) (fun j hj => by have := hva j hj; omega)
  refine ⟨?_, hbz.setCell (by show w0.heap.size ≤ gk; omega) _, q1.setOther (by show gw ≠ gk; omega) _, q2.setOther (by show gn ≠ gk; omega) _, row_kept hx q3, ?_⟩
  · obtain ⟨F, hR, hF⟩ := hB.held
    refine ⟨F, S.keep _ _ _ _ _ hR (by rw [setCell_size]; omega) (fun j hj => ?_), fun j hj => ⟨(hF j hj).1, fun hY => ?_⟩⟩
    · have h2 := (hF j hj).2
      have hjl := S.low _ _ _ _ hR j hj
      rw [Below.heap_setCell _ _ _ _ (fun e => h2 (.inr (.inr (.inl e)))), step j hjl (fun e => h2 (.inr (.inl e))) (fun e => h2 (.inr (.inr (.inr e))))]
    · have h2 := (hF j hj).2
      have hjl := S.low _ _ _ _ hR j hj
      rcases hY with e | e | e | e
      · exact h2 (.inl e)
      · exact h2 (.inr (.inl e))
      · exact h2 (.inr (.inr (.inl e)))
      · rcases hn j e with e | e
        · exact h2 (.inr (.inr (.inr e)))
        · omega
  · obtain ⟨h0, h1⟩ := ho
    refine ⟨h0, ?_⟩
    rcases h1 with h1 | ⟨g, cap, cur, e, hgb, hh, rest⟩
    · exact .inl h1
    · exact .inr ⟨g, cap, cur, e, hgb, (Below.heap_setCell _ _ _ _ (by show g ≠ gk; omega)).trans hh, rest⟩
theorem Later.mid {Rep : DiskRep} {w0 : World} {d : Value} {N gw gn gk : Nat} {A0 A1 : List (Nat × Nat)} {keep : List Bool} {va : Value} {k a : Nat} {vx : Value} {wr ws wx wz : World} (h : Later Rep w0 d N gw gn gk A0 A1 keep va k wr) (hb : Below wr.heap.size wr ws)
    (hw0 : w0.heap.size ≤ gw) (hw1 : gw < gn) (hw2 : gn < gk) {s : DS} (hB : Behind Rep w0 (fun j => j = gw ∨ j = gn ∨ j = gk ∨ va.ownBlock = some j) d s ws wx)
    (hg : ((wx.setCell ⟨gn, a, none⟩ vx).alloc (.cells #[.bool true] 4)).grownBy wz va.ownBlock) :
    Below w0.heap.size w0 wz ∧ wz.rowIs gk 4 N (fun j => .bool (keptB A1 keep j k)) := by
  have lk := h.kept.lt
  have hva : ∀ j, va.ownBlock = some j → gk + 1 ≤ j ∧ j < wr.heap.size := fun j hj => h.all.lt j hj
  have sx : ws.heap.size ≤ wx.heap.size := hB.size
  have ss := hb.size
  have hsz : ((wx.setCell ⟨gn, a, none⟩ vx).alloc (.cells #[.bool true] 4)).heap.size = wx.heap.size + 1 := by simp [setCell_size]
  have r3 : wx.rowIs gk 4 N (fun j => .bool (keptB A1 keep j k)) := (h.kept.of_block (hb.block gk lk)).of_block (hB.same gk (.inr (.inr (.inl rfl))))
  have n3 : va.ownBlock ≠ some gk := fun e => by have := hva gk e; omega
  refine ⟨((hB.below.setCell (by show w0.heap.size ≤ gn; omega) _).alloc (by have := hB.below.size; simp only [setCell_size]; exact this) _).grown hg (by rw [hsz]; have := hB.below.size; omega) (fun j hj => by have := hva j hj; omega), r3.of_block ?_⟩
  rw [hg.block gk (by rw [hsz]; omega) (fun e => n3 e.symm), Below.heap_alloc _ _ _ (by rw [setCell_size]; omega), Below.heap_setCell _ _ _ _ (by show gk ≠ gn; omega)]
theorem Later.drew {Rep : DiskRep} (S : DiskOk Rep) {w0 : World} {d : Value} {N gw gn gk : Nat} {A0 A1 : List (Nat × Nat)} {keep : List Bool} {va : Value} {k : Nat} {wr : World} (h : Later Rep w0 d N gw gn gk A0 A1 keep va k wr) : Later Rep w0 d N gw gn gk A0 A1 keep va k wr.drew :=
  ⟨h.held.below S (Below.refl _ _).drew, h.below.drew, h.was, h.now, h.kept, h.all⟩
end Go.Proofs.Ythbnochlpnikaaa
