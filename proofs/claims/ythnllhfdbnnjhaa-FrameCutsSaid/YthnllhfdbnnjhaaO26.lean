import Derived.Test.YthnllhfdbnnjhaaO25
import Derived.Lib.SlBytesConst
namespace Go.Proofs.Ythnllhfdbnnjhaa
open Go.RowKit Go.Shelf

theorem kbA {w w1 : World} {o : Obj} (h1 : Below (w.alloc o).heap.size (w.alloc o) w1) : Below w.heap.size w w1 := ((Below.refl _ _).alloc (Nat.le_refl _) o).trans (h1.mono (by simp))
theorem kbT {w w1 w2 : World} (h1 : Below w.heap.size w w1) (h2 : Below w1.heap.size w1 w2) : Below w.heap.size w w2 := h1.trans (h2.mono h1.size)
theorem kbS {w w1 : World} {o o' : Obj} (h1 : Below ((w.alloc o).heap.size + 1) ((w.alloc o).alloc o') w1) : Below w.heap.size w w1 := (((Below.refl _ _).alloc (Nat.le_refl _) o).alloc (by simp) o').trans (h1.mono (by simp; omega))
theorem bytesAt_mark (w : World) (l : List Nat) (t : TypeId) (fr : Nat × Nat) : BytesAt (w.alloc (.cells (l.map fun (v : Nat) => Value.int .u8 (v : Int)).toArray t fr)) (some ⟨w.heap.size, 0, none⟩) l := by
  intro i hi
  refine ⟨_, _, rfl, ?_⟩
  rw [World.cell?_alloc_mark]
  simp [List.getD_eq_getElem?_getD, hi]
theorem conv_digits (w : World) : (convert 39 39 (.slice (some ⟨w.heap.size, 0, none⟩) 9 9)).run Try.prog (w.alloc (.cells #[.int .u8 49, .int .u8 50, .int .u8 51, .int .u8 52, .int .u8 53, .int .u8 54, .int .u8 55, .int .u8 56, .int .u8 57] 5)) = .ok (.slice (some ⟨w.heap.size, 0, none⟩) 9 9) (w.alloc (.cells #[.int .u8 49, .int .u8 50, .int .u8 51, .int .u8 52, .int .u8 53, .int .u8 54, .int .u8 55, .int .u8 56, .int .u8 57] 5 (9, 10))) :=
  Lib.run_convert_bytes_const w 39 5 _ 9 9 Try.underlying39 Try.underlying5
end Go.Proofs.Ythnllhfdbnnjhaa
