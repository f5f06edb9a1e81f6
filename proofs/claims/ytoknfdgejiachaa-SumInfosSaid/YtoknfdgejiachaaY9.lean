import Derived.Test.YtoknfdgejiachaaY8
import Derived.Deep.CutRange
namespace Go.Proofs.Ytoknfdgejiachaa
open Go.RowKit Go.Shelf

theorem refMakes_ok (o : Int) (l : List Int) (v : Value) (w : World) (h : Ints w v l) (hn : (makesE o l).2 = 0) :
    Calls Try.prog 10 #[.int .i64 o, v] w fun r w' => r = .returned (.tuple #[.int .i64 (makesE o l).1, .int .i64 0]) ∧ Below w.heap.size w w' := by
  have := refMakes_any o l v w h
  rw [show two (makesE o l) = .tuple #[.int .i64 (makesE o l).1, .int .i64 0] by unfold two; rw [hn]] at this
  exact this
theorem do_cells {w wr : World} {B off : Nat} {xk xn yk yn : Int} {xs ys : ByteArray} (h : Below (w.heap.size + 1) (w.alloc (vObj 0 0 ⟨#[]⟩)) wr) (hB : B < w.heap.size)
    (c0 : w.cell? ⟨B, off, none⟩ = some (.int .i64 xk)) (c1 : w.cell? ⟨B, off + 1, none⟩ = some (.int .i64 xn)) (c2 : w.cell? ⟨B, off + 2, none⟩ = some (.string xs))
    (d0 : w.cell? ⟨B, off + 3, none⟩ = some (.int .i64 yk)) (d1 : w.cell? ⟨B, off + 3 + 1, none⟩ = some (.int .i64 yn)) (d2 : w.cell? ⟨B, off + 3 + 2, none⟩ = some (.string ys)) :
    ∀ w1, Below wr.heap.size wr w1 → w1.cell? ⟨B, off, none⟩ = some (.int .i64 xk) ∧ w1.cell? ⟨B, off + 1, none⟩ = some (.int .i64 xn) ∧ w1.cell? ⟨B, off + 2, none⟩ = some (.string xs) ∧ w1.cell? ⟨B, off + 3, none⟩ = some (.int .i64 yk) ∧ w1.cell? ⟨B, off + 3 + 1, none⟩ = some (.int .i64 yn) ∧ w1.cell? ⟨B, off + 3 + 2, none⟩ = some (.string ys) := by
  intro w1 b1
  have hBr : B < wr.heap.size := by have := h.size; simp at this; omega
  have key : ∀ q v, w.cell? ⟨B, q, none⟩ = some v → w1.cell? ⟨B, q, none⟩ = some v := fun q v e => (b1.cell hBr).trans ((h.cell (by simp; omega)).trans (by go_cell))
  exact ⟨key _ _ c0, key _ _ c1, key _ _ c2, key _ _ d0, key _ _ d1, key _ _ d2⟩
/-- Two values, and the result's own cell. -/
structure DoVals (w wx : World) (A1 A2 : Nat) (xk xn : Int) (xs : ByteArray) (yk yn : Int) (ys : ByteArray) : Prop where
  a0 : wx.cell? ⟨A1, 0, none⟩ = some (.int .i64 xk)
  a1 : wx.cell? ⟨A1, 1, none⟩ = some (.int .i64 xn)
  a2 : wx.cell? ⟨A1, 2, none⟩ = some (.string xs)
  b0 : wx.cell? ⟨A2, 0, none⟩ = some (.int .i64 yk)
  b1 : wx.cell? ⟨A2, 1, none⟩ = some (.int .i64 yn)
  b2 : wx.cell? ⟨A2, 2, none⟩ = some (.string ys)
  k0 : wx.cell? ⟨w.heap.size, 0, none⟩ = some (.int .i64 0)
  k1 : wx.cell? ⟨w.heap.size, 1, none⟩ = some (.int .i64 0)
  k2 : wx.cell? ⟨w.heap.size, 2, none⟩ = some (.string ⟨#[]⟩)
  f0 : wx.frozen? ⟨w.heap.size, 0, none⟩ = false
  f1 : wx.frozen? ⟨w.heap.size, 1, none⟩ = false
  f2 : wx.frozen? ⟨w.heap.size, 2, none⟩ = false
  bel : Below w.heap.size w wx
theorem DoVals.below {w wx w' : World} {A1 A2 : Nat} {xk xn yk yn : Int} {xs ys : ByteArray} (h : DoVals w wx A1 A2 xk xn xs yk yn ys) (hb : Below wx.heap.size wx w') : DoVals w w' A1 A2 xk xn xs yk yn ys :=
  have l1 : A1 < wx.heap.size := lt_of_cell_some h.a0
  have l2 : A2 < wx.heap.size := lt_of_cell_some h.b0
  have l3 : w.heap.size < wx.heap.size := lt_of_cell_some h.k0
  ⟨(hb.cell l1).trans h.a0, (hb.cell l1).trans h.a1, (hb.cell l1).trans h.a2, (hb.cell l2).trans h.b0, (hb.cell l2).trans h.b1, (hb.cell l2).trans h.b2, (hb.cell l3).trans h.k0, (hb.cell l3).trans h.k1, (hb.cell l3).trans h.k2, (hb.frozen l3).trans h.f0, (hb.frozen l3).trans h.f1, (hb.frozen l3).trans h.f2, h.bel.trans (hb.mono (by omega))⟩
theorem do_cells1 {w wr : World} {B off : Nat} {xk xn : Int} {xs : ByteArray} (h : Below (w.heap.size + 1) (w.alloc (vObj 0 0 ⟨#[]⟩)) wr) (hB : B < w.heap.size)
    (c0 : w.cell? ⟨B, off, none⟩ = some (.int .i64 xk)) (c1 : w.cell? ⟨B, off + 1, none⟩ = some (.int .i64 xn)) (c2 : w.cell? ⟨B, off + 2, none⟩ = some (.string xs)) :
    ∀ w1, Below wr.heap.size wr w1 → w1.cell? ⟨B, off, none⟩ = some (.int .i64 xk) ∧ w1.cell? ⟨B, off + 1, none⟩ = some (.int .i64 xn) ∧ w1.cell? ⟨B, off + 2, none⟩ = some (.string xs) := by
  intro w1 b1
  have hBr : B < wr.heap.size := by have := h.size; simp at this; omega
  have key : ∀ q v, w.cell? ⟨B, q, none⟩ = some v → w1.cell? ⟨B, q, none⟩ = some v := fun q v e => (b1.cell hBr).trans ((h.cell (by simp; omega)).trans (by go_cell))
  exact ⟨key _ _ c0, key _ _ c1, key _ _ c2⟩
end Go.Proofs.Ytoknfdgejiachaa

