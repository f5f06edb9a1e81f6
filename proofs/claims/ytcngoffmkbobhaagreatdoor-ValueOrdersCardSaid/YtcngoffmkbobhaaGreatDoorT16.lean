import Derived.Test.YtcngoffmkbobhaaGreatDoorT15
namespace Go.Proofs.YtcngoffmkbobhaaGreatDoor
open Go.RowKit

abbrev sIts : ByteArray := ⟨#[105, 116, 39, 115]⟩
abbrev sBlob : ByteArray := ⟨#[0, 255]⟩
theorem lit1 (w : World) (hw : Base w) : Calls Tryz.prog 27 #[.agg #[.int .i64 3, .int .i64 0, .string sIts]] w fun r w' => r = .returned (.tuple #[.string ⟨#[39, 105, 116, 39, 39, 115, 39]⟩, .int .i64 0]) ∧ Below w.heap.size w w' := by
  have h := literal_any 3 0 sIts w hw (by decide) (by decide) (by decide)
  rw [show litE 3 0 sIts = ([39, 105, 116, 39, 39, 115, 39], 0) from by decide +kernel] at h
  exact h
theorem lit2 (w : World) (hw : Base w) : Calls Tryz.prog 27 #[.agg #[.int .i64 4, .int .i64 0, .string sBlob]] w fun r w' => r = .returned (.tuple #[.string ⟨#[120, 39, 48, 48, 102, 102, 39]⟩, .int .i64 0]) ∧ Below w.heap.size w w' := by
  have h := literal_any 4 0 sBlob w hw (by decide) (by decide) (by decide)
  rw [show litE 4 0 sBlob = ([120, 39, 48, 48, 102, 102, 39], 0) from by decide +kernel] at h
  exact h
theorem par1 (w : World) (hw : Base w) : Calls Tryz.prog 29 #[.string ⟨#[45, 48]⟩] w fun r w' => r = .returned (.tuple #[.agg #[.int .i64 0, .int .i64 0, .string ⟨#[]⟩], .int .i64 110]) ∧ Below w.heap.size w w' := by
  have h := parse_any ⟨#[45, 48]⟩ (by decide) w hw
  rw [show parseE (⟨#[45, 48]⟩ : ByteArray).data.toList = (110, 0, 0, []) from by decide +kernel] at h
  exact h
theorem par2 (w : World) (hw : Base w) : Calls Tryz.prog 29 #[.string ⟨#[39, 97, 39, 39, 98, 39]⟩] w fun r w' => r = .returned (.tuple #[.agg #[.int .i64 3, .int .i64 0, .string ⟨#[97, 39, 98]⟩], .int .i64 0]) ∧ Below w.heap.size w w' := by
  have h := parse_any ⟨#[39, 97, 39, 39, 98, 39]⟩ (by decide) w hw
  rw [show parseE (⟨#[39, 97, 39, 39, 98, 39]⟩ : ByteArray).data.toList = (0, 3, 0, [97, 39, 98]) from by decide +kernel] at h
  exact h
theorem par3 (w : World) (hw : Base w) : Calls Tryz.prog 29 #[.string ⟨#[120, 39, 48, 103, 39]⟩] w fun r w' => r = .returned (.tuple #[.agg #[.int .i64 0, .int .i64 0, .string ⟨#[]⟩], .int .i64 110]) ∧ Below w.heap.size w w' := by
  have h := parse_any ⟨#[120, 39, 48, 103, 39]⟩ (by decide) w hw
  rw [show parseE (⟨#[120, 39, 48, 103, 39]⟩ : ByteArray).data.toList = (110, 0, 0, []) from by decide +kernel] at h
  exact h
theorem ord1 (w : World) : Calls Tryz.prog 13 #[.agg #[.int .i64 0, .int .i64 0, .string ⟨#[]⟩], .agg #[.int .i64 1, .int .i64 0, .string ⟨#[]⟩]] w fun r w' => r = .returned (.int .i64 (-1)) ∧ Below w.heap.size w w' := order_any 0 0 1 0 ⟨#[]⟩ ⟨#[]⟩ w
theorem ord2 (w : World) : Calls Tryz.prog 13 #[.agg #[.int .i64 2, .int .i64 2, .string ⟨#[]⟩], .agg #[.int .i64 3, .int .i64 0, .string ⟨#[49]⟩]] w fun r w' => r = .returned (.int .i64 (-1)) ∧ Below w.heap.size w w' := order_any 2 2 3 0 ⟨#[]⟩ ⟨#[49]⟩ w
end Go.Proofs.YtcngoffmkbobhaaGreatDoor
