import Derived.Test.YtcngoffmkbobhaaGreatDoorN3
namespace Go.Proofs.YtcngoffmkbobhaaGreatDoor
open Go.RowKit

theorem dv_hit : ∀ (c : Fin 256) (j : Fin 16), (dg j.val : Int) = (c.val : Int) → dv c.val.toUInt8 = (j.val : Int) := by decide +kernel
theorem dv_miss : ∀ (c : Fin 256), (∀ j : Fin 16, ¬ (dg j.val : Int) = (c.val : Int)) → dv c.val.toUInt8 = -1 := by decide +kernel
theorem dv_hit' (c : UInt8) (j : Nat) (h : j < 16) (e : (dg j : Int) = (c.toNat : Int)) : dv c = (j : Int) := by
  have := dv_hit ⟨c.toNat, c.toNat_lt⟩ ⟨j, h⟩ e
  simpa using this
theorem dv_miss' (c : UInt8) (h : ∀ j, j < 16 → ¬ (dg j : Int) = (c.toNat : Int)) : dv c = -1 := by
  have := dv_miss ⟨c.toNat, c.toNat_lt⟩ (fun j => h j.val j.isLt)
  simpa using this
theorem dig_run64 (m : Nat) (h : m < 16) (w : World) : (Instr.index 9 (.string ⟨#[48, 49, 50, 51, 52, 53, 54, 55, 56, 57, 97, 98, 99, 100, 101, 102]⟩) (.int .i64 m)).run Tryz.prog w = .ok (.int .u8 (dg m)) w := by
  have hs : (⟨#[48, 49, 50, 51, 52, 53, 54, 55, 56, 57, 97, 98, 99, 100, 101, 102]⟩ : ByteArray).size = 16 := rfl
  rw [run_index_string w 9 _ .i64 _ Tryz.underlying9, dif_pos ⟨by omega, by rw [hs]; omega⟩]
  have := dig_at ⟨m, h⟩
  simp only [Int.toNat_natCast]
  rw [← this]
  rfl

set_option maxRecDepth 100000 in
set_option maxHeartbeats 400000 in
theorem refDigit_any (c : UInt8) (w : World) :
    Calls Tryz.prog 57 #[.int .u8 c.toNat] w fun r w' => r = .returned (.int .i64 (dv c)) ∧ w = w' := by
  go_enter Tryz.func57, Tryz.ntmps57
  go_wp2
  go_loopw [3] (fun i wr => ∃ j : Nat, j ≤ 16 ∧ i = .int .i64 j ∧ (∀ k, k < j → ¬ (dg k : Int) = (c.toNat : Int)) ∧ w = wr) (fun i _ => 16 - (intOf i).toNat)
  case atStart => exact ⟨0, by omega, rfl, fun k hk => absurd hk (by omega), rfl⟩
  case round =>
    obtain ⟨j, hj, rfl, hno, rfl⟩ := hrel
    have HNO := Lib.hid hno
    clear hno
    by_cases hlt : j < 16
    · have hd := dig_run64 j hlt
      have hi1 : (j : Int) < 16 := by omega
      go_wp2
      · go_ret
        exact ⟨by rw [dv_hit' c j hlt (by simpa using ‹((dg j : Int) == (c.toNat : Int)) = true›)]; rfl, rfl⟩
      · refine ⟨⟨j + 1, by omega, by go_num, fun k hk => ?_, trivial⟩, by simp [intOf]; omega⟩
        by_cases hkj : k = j
        · subst hkj
          simpa using ‹((dg k : Int) == (c.toNat : Int)) = false›
        · exact HNO.out k (by omega)
    · have hi1 : ¬ (j : Int) < 16 := by omega
      go_wp2
      go_ret
      exact ⟨by rw [dv_miss' c (fun k hk => HNO.out k (by omega))]; rfl, rfl⟩
end Go.Proofs.YtcngoffmkbobhaaGreatDoor
