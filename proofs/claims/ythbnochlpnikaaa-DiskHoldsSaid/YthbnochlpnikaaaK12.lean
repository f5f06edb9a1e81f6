/- Write. -/
import Derived.Test.YthbnochlpnikaaaK11
namespace Go.Proofs.Ythbnochlpnikaaa
open Go.RowKit Go.Shelf

theorem ref_write (A A' A'' B : Nat) (k : Int) (l : List Nat) (s : DS) : refE [qOdd A l.length, qBeyond A' A'' k s, qHalted B s] = (writeS s k (strOf l)).2 := by
  rw [refE_if (p := l.length ≠ 64) rfl, refE_if (p := k < 0 ∨ (s.many : Int) ≤ k) beyond_ans, refE_if (p := s.left = 0) rfl]
  unfold writeS
  rw [strOf_size]
  split
  · rfl
  · split
    · rfl
    · split <;> rfl
theorem layB_all {l : List Nat} {c : ByteArray} (hl : l.length = 64) : layB l c = strOf l := by
  unfold layB
  rw [hl]
  have : c.extract 64 64 = ByteArray.empty := by
    apply ByteArray.ext
    simp [ByteArray.data_extract]
  rw [this, ByteArray.append_empty]
theorem row_apart {w : World} {b m : Nat} {f : Nat → ByteArray} {v : Value} {l : List (Nat × ByteArray)} (h : MapIs w b m f) (hr : w.ownsRow 0 78 65 v l.length (wcs l)) : v.ownBlock ≠ some b := by
  intro e
  rcases hr.2 with ⟨rfl, -⟩ | ⟨g, cap, cur, rfl, -, hg, -⟩
  · cases e
  · injection e with e
    exact h.cells hg e.symm
/-- A sector is laid, a write is appended, the row is put in its place. -/
theorem DiskAt.wrote {w wc w1 wx w2 : World} {B b1 b2 : Nat} {v v' : Value} {s : DS} {k : Nat} {c : ByteArray} (h : DiskAt wc B b1 b2 v s) (hc : Below w.heap.size w wc) (M1 : MapIs w1 b1 s.many (upd (sectorS s) k c)) (A1 : Apart (fun j => j = b1) wc w1) (Bx : Below w1.heap.size w1 wx)
    (hr : w2.ownsRow 0 78 65 v' (s.loose.length + 1) (wcs (s.loose ++ [(k, c)]))) (hg : wx.grownBy w2 v.ownBlock) (hj : ∀ j, v'.ownBlock = some j → v.ownBlock = some j ∨ wx.heap.size ≤ j) (hlow : ∀ j, FootOf B b1 b2 v j → j < w.heap.size) :
    DiskAt (w2.setCell ⟨B, 3, none⟩ v') B b1 b2 v' ⟨s.many, s.sync, s.loose ++ [(k, c)], s.left⟩ ∧ Apart (FootOf B b1 b2 v) w (w2.setCell ⟨B, 3, none⟩ v') ∧ (∀ j, v'.ownBlock = some j → v.ownBlock = some j ∨ w.heap.size ≤ j) ∧ w2.cell? ⟨B, 3, none⟩ = some v ∧ w2.frozen? ⟨B, 3, none⟩ = false := by
  have hB1 : b1 ≠ B := h.now.cells h.cells
  have hB2 : b2 ≠ B := h.sync.cells h.cells
  have lB := lt_of_heap h.cells
  have l1 := h.now.lt
  have l2 := h.sync.lt
  have s1 := A1.size
  have sx := Bx.size
  have sc := hc.size
  have hv1 := row_apart h.now h.row
  have hv2 := row_apart h.sync h.row
  have k2 : ∀ j, j < wc.heap.size → j ≠ b1 → v.ownBlock ≠ some j → w2.heap[j]? = wc.heap[j]? := fun j hj h1 h2 =>
    ((hg.block j (by omega) (fun e => h2 e.symm)).trans (Bx.block j (by omega))).trans (A1.block j hj h1)
  have c2 := (k2 B lB (fun e => hB1 e.symm) h.off).trans h.cells
  have hvB : v'.ownBlock ≠ some B := fun e => by
    rcases hj B e with e | e
    · exact h.off e
    · omega
  refine ⟨⟨?_, h.left, h.ne, ?_, hvB, ?_, ?_⟩, ?_, fun j e => ?_, ?_, ?_⟩
  · rw [heap_setCell_same w2 B 3 _ 65 v' c2]
    rfl
  · rw [List.length_append, List.length_singleton]
    exact ownsRow_kept hr (fun j hj' => heap_setCell_other w2 _ j _ (fun e => by
      simp only at e
      subst e
      exact hvB hj'))
  · have m2 : MapIs w2 b1 s.many (upd (sectorS s) k c) := M1.of_block ((hg.block b1 (by omega) (fun e => hv1 e.symm)).trans (Bx.block b1 (by omega)))
    have m3 := m2.of_block (w' := w2.setCell ⟨B, 3, none⟩ v') (heap_setCell_other w2 _ b1 _ hB1)
    refine m3.congr fun j _ => ?_
    simp only [upd, sectorS, ← List.append_assoc, lastS_snoc]
    by_cases e : j = k
    · subst e; simp
    · rw [if_neg e, if_neg (fun x => e x.symm)]
  · exact (h.sync.of_block (k2 b2 l2 (fun e => h.ne e.symm) hv2)).of_block (heap_setCell_other w2 _ b2 _ hB2)
  · refine ⟨?_, ?_, ?_, ?_, fun j hjw hF => ?_⟩
    · exact hg.os.trans (Bx.os.trans (A1.os.trans hc.os))
    · exact hg.tape.trans (Bx.tape.trans (A1.tape.trans hc.tape))
    · exact hg.output.trans (Bx.output.trans (A1.output.trans hc.output))
    · rw [setCell_size]
      exact Nat.le_trans sc (Nat.le_trans s1 (Nat.le_trans sx hg.size))
    · rw [heap_setCell_other w2 _ j _ (fun e => hF (.inl e))]
      rw [k2 j (by omega) (fun e => hF (.inr (.inl e))) (fun e => hF (.inr (.inr (.inr e))))]
      exact hc.block j hjw
  · rcases hj j e with e | e
    · exact .inl e
    · exact .inr (by omega)
  · rw [cell_of_row w2 B 3 _ 65 (0, 0) c2]
    rfl
  · exact frozen_of_row w2 B 3 _ 65 c2
end Go.Proofs.Ythbnochlpnikaaa
