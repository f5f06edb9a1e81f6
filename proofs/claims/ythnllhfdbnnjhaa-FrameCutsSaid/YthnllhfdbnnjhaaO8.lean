import Derived.Test.YthnllhfdbnnjhaaO7
import Derived.Lib.AppendStr
namespace Go.Proofs.Ythnllhfdbnnjhaa
open Go.RowKit Go.Shelf

def bytesL (s : ByteArray) : List Nat := s.data.toList.map UInt8.toNat
theorem bytesL_len (s : ByteArray) : (bytesL s).length = s.size := by unfold bytesL; simp
theorem strCells_bytes (s : ByteArray) : Lib.strCells s = u8s (bytesL s) := by
  unfold Lib.strCells u8s bytesL
  simp [List.map_map]
theorem numF_len (f : Nat) : ∀ n, (numF f n).length ≤ f + 1 := by
  induction f with
  | zero => intro n; simp [numF]
  | succ f ih =>
    intro n
    rw [numF_more]
    split
    · simp
    · have := ih (n / 128)
      simp only [List.length_cons]
      omega
end Go.Proofs.Ythnllhfdbnnjhaa

