import Derived.Test.YthnllhfdbnnjhaaO9
import Derived.Test.YthnllhfdbnnjhaaO7
import Derived.Shelf.Bytes.SlClone
namespace Go.Proofs
open Go.Shelf
def Try.clone_ren : Go.Shelf.Ren := ⟨fun | 4 => 47 | n => n, fun | 4 => 4 | 22 => 39 | 5 => 5 | n => n, fun | n => n⟩
theorem Try.clone_lays : Go.Proofs.SlLaysK.n4 Try.prog Try.clone_ren := {
  mixed := by kernel_rfl
  f4 := Try.func47.trans (congrArg some (by kernel_rfl))
  t4 := Try.underlying4
  a4 := Try.isAgg4
  z4 := Try.sizeOf4
  v4 := Try.zeroValue4
  t22 := Try.underlying39
  a22 := Try.isAgg39
  z22 := Try.sizeOf39
  v22 := Try.zeroValue39
  t5 := Try.underlying5
  i5 := by kernel_rfl }
end Go.Proofs
