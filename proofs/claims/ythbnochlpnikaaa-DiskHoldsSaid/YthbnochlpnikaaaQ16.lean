/- DiskHolds: what is written ahead of the sync. -/
import Derived.Test.YthbnochlpnikaaaQ15
namespace Go.Proofs.Ythbnochlpnikaaa
open Go.RowKit Go.Shelf

/-- A slice of pairs of bytes. -/
def PairsAt (w : World) (p : Option Addr) (l : List (Nat × Nat)) : Prop := ∀ i x, l[i]? = some x → ∃ B off, p = some ⟨B, off, none⟩ ∧ w.cell? ⟨B, off + 2 * i, none⟩ = some (.int .u8 x.1) ∧ w.cell? ⟨B, off + (2 * i + 1), none⟩ = some (.int .u8 x.2)
theorem PairsAt.below {w w' : World} {p : Option Addr} {l : List (Nat × Nat)} (h : PairsAt w p l) (hb : Below w.heap.size w w') : PairsAt w' p l := fun i x hx => by
  obtain ⟨B, off, e, c, d⟩ := h i x hx
  exact ⟨B, off, e, below_kept hb _ _ c, below_kept hb _ _ d⟩
def atN (N : Nat) (l : List (Nat × Nat)) : List (Nat × Nat) := l.map fun x => (x.1 % N, x.2)
theorem atN_get {N : Nat} {l : List (Nat × Nat)} {i : Nat} {x : Nat × Nat} (h : l[i]? = some x) : (atN N l)[i]? = some (x.1 % N, x.2) := by unfold atN; rw [List.getElem?_map, h]; rfl
theorem atN_length (N : Nat) (l : List (Nat × Nat)) : (atN N l).length = l.length := by unfold atN; simp
theorem atN_byte {N : Nat} {l : List (Nat × Nat)} (h : ∀ x ∈ l, x.2 < 256) : ∀ x ∈ atN N l, x.2 < 256 := fun x hx => by
  unfold atN at hx
  obtain ⟨y, hy, rfl⟩ := List.mem_map.1 hx
  exact h y hy
theorem whole_run {N : Nat} {A0 A1 : List (Nat × Nat)} (hN : 1 ≤ N ∧ N ≤ 40000) (h0 : ∀ x ∈ A0, x.1 < N) (h1 : ∀ x ∈ A1, x.1 < N) : Whole ⟨N, wrs A0, wrs A1, -1⟩ :=
  ⟨hN, by simp, fun w hw => by
    unfold wrs at hw
    obtain ⟨y, hy, rfl⟩ := List.mem_map.1 hw
    exact ⟨h0 y hy, secS_size _⟩, fun w hw => by
    unfold wrs at hw
    obtain ⟨y, hy, rfl⟩ := List.mem_map.1 hw
    exact ⟨h1 y hy, secS_size _⟩⟩
theorem atN_lt {N : Nat} (hN : 1 ≤ N) (l : List (Nat × Nat)) : ∀ x ∈ atN N l, x.1 < N := fun x hx => by
  unfold atN at hx
  obtain ⟨y, hy, rfl⟩ := List.mem_map.1 hx
  exact Nat.mod_lt _ hN
theorem write_run {N : Nat} {S0 : List (Nat × ByteArray)} {l : List (Nat × Nat)} {k : Nat} {x : Nat × Nat} (hx : l[k]? = some x) (hl : x.1 < N) :
    writeS ⟨N, S0, wrs (l.take k), -1⟩ x.1 (secS x.2) = (⟨N, S0, wrs (l.take (k + 1)), -1⟩, 0) := by
  rw [writeS_ok (secS_size _) (by simp only; omega) (by simp), wrs_next hx]
  rfl
/-- A row of bytes that tells what was written last, and what stands there behind one more. -/
theorem row_next {w : World} {g N k : Nat} {l : List (Nat × Nat)} {x : Nat × Nat} (hx : l[k]? = some x) (h : w.rowIs g 5 N (fun j => .int .u8 (valN (l.take k) j))) :
    (w.setCell ⟨g, x.1, none⟩ (.int .u8 x.2)).rowIs g 5 N (fun j => .int .u8 (valN (l.take (k + 1)) j)) :=
  (h.set x.1 (.int .u8 x.2)).congr fun i hi => by
    rw [valN_next hx]
    by_cases e : i = x.1
    · subst e; rw [if_pos rfl, if_pos rfl]
    · rw [if_neg e, if_neg (fun h => e h.symm)]
/-- The first loop's run. -/
structure Ahead (Rep : DiskRep) (w0 : World) (d : Value) (N gw gn : Nat) (A0 : List (Nat × Nat)) (k : Nat) (wr : World) : Prop where
  held : HeldX Rep w0 (fun j => j = gw ∨ j = gn) wr d ⟨N, [], wrs (A0.take k), -1⟩
  below : Below w0.heap.size w0 wr
  was : wr.rowIs gw 5 N (fun j => .int .u8 (valN (A0.take k) j))
  now : wr.rowIs gn 5 N (fun j => .int .u8 (valN (A0.take k) j))
theorem setCell_size (w : World) (a : Addr) (v : Value) : (w.setCell a v).heap.size = w.heap.size := by simp [World.setCell]
theorem Ahead.next {Rep : DiskRep} (S : DiskOk Rep) {w0 : World} {d : Value} {N gw gn : Nat} {A0 : List (Nat × Nat)} {k : Nat} {wr ws wx : World} {x : Nat × Nat} (h : Ahead Rep w0 d N gw gn A0 k wr) (hx : A0[k]? = some x) (hb : Below wr.heap.size wr ws)
    (hw0 : w0.heap.size ≤ gw) (hw1 : w0.heap.size ≤ gn) (hne : gw ≠ gn) (hB : Behind Rep w0 (fun j => j = gw ∨ j = gn) d ⟨N, [], wrs (A0.take (k + 1)), -1⟩ ws wx) :
    Ahead Rep w0 d N gw gn A0 (k + 1) ((wx.setCell ⟨gw, x.1, none⟩ (.int .u8 x.2)).setCell ⟨gn, x.1, none⟩ (.int .u8 x.2)) := by
  have lw := h.was.lt
  have ln := h.now.lt
  have r1 : wx.rowIs gw 5 N (fun j => .int .u8 (valN (A0.take k) j)) := (h.was.of_block (hb.block gw lw)).of_block (hB.same gw (.inl rfl))
  have r2 : wx.rowIs gn 5 N (fun j => .int .u8 (valN (A0.take k) j)) := (h.now.of_block (hb.block gn ln)).of_block (hB.same gn (.inr rfl))
  refine ⟨hB.held.kept S (by simp [setCell_size]) (fun j hj hX _ => ?_), (hB.below.setCell hw0 _).setCell hw1 _, (row_next hx r1).setOther (by exact hne) _, row_next hx (r2.setOther (by exact fun e => hne e.symm) _)⟩
  rw [Below.heap_setCell _ _ _ _ (fun e => hX (.inr e)), Below.heap_setCell _ _ _ _ (fun e => hX (.inl e))]
theorem Ahead.drew {Rep : DiskRep} (S : DiskOk Rep) {w0 : World} {d : Value} {N gw gn : Nat} {A0 : List (Nat × Nat)} {k : Nat} {wr : World} (h : Ahead Rep w0 d N gw gn A0 k wr) : Ahead Rep w0 d N gw gn A0 k wr.drew :=
  ⟨h.held.below S (Below.refl _ _).drew, h.below.drew, h.was, h.now⟩
theorem two_set {w : World} {p q : Addr} {a b : Option Value} (h : w.cell? p = a ∧ w.cell? q = b) {g i : Nat} {v : Value} (hp : p.block ≠ g) (hq : q.block ≠ g) : (w.setCell ⟨g, i, none⟩ v).cell? p = a ∧ (w.setCell ⟨g, i, none⟩ v).cell? q = b := by
  obtain ⟨pb, po, ps⟩ := p
  obtain ⟨qb, qo, qs⟩ := q
  exact ⟨(World.cell?_of_block (Below.heap_setCell _ _ _ _ hp)).trans h.1, (World.cell?_of_block (Below.heap_setCell _ _ _ _ hq)).trans h.2⟩
end Go.Proofs.Ythbnochlpnikaaa
