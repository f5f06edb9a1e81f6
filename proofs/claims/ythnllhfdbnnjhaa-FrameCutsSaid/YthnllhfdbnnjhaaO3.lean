import Derived.Test.YthnllhfdbnnjhaaO2
import Derived.Deep.CutRange
import Derived.Laws.Bits64
import Derived.Test.YthnllhfdbnnjhaaRows
import Derived.WalkKit
import Derived.WalkSpells
import Derived.WalkLawsBesides
import Derived.Handy
import Derived.Outline
import Derived.Deep.RegionHeld3
import Derived.Sort.Walk0
import Derived.Laws.StructEq
import Derived.RangeFuncNested
import Derived.RangeFuncBound
import Derived.RangeFuncCalls
import Derived.RangeFuncLeaves
import Derived.Shelf.Abstract
import Derived.OwnWalkIn
import Derived.TacticsInMore
import Derived.LoopNIn
import Derived.LoopIn
import Derived.WalkMore
import Derived.Lib.Hide
namespace Go.Proofs.Ythnllhfdbnnjhaa
open Go.RowKit Go.Shelf

/-- A slice of bytes. -/
abbrev BytesAt (w : World) (p : Option Addr) (l : List Nat) : Prop := ∀ i, i < l.length → ∃ B off, p = some ⟨B, off, none⟩ ∧ w.cell? ⟨B, off + i, none⟩ = some (.int .u8 (l.getD i 0))
def sumN (l : List Nat) : BitVec 32 := l.foldl (fun s b => byteStep s (BitVec.ofNat 8 b)) 0xffffffff#32
theorem xor_u32 (x y : BitVec 32) : bits .xor .u32 x.toNat y.toNat = (x ^^^ y).toNat := by
  have hx := x.isLt
  have hy := y.isLt
  have h : (x ^^^ y).toNat < 2 ^ 32 := (x ^^^ y).isLt
  show IntKind.u32.wrap ((BitVec.ofInt 32 x.toNat ^^^ BitVec.ofInt 32 y.toNat).toNat : Int) = _
  rw [show BitVec.ofInt 32 (x.toNat : Int) = x by simp, show BitVec.ofInt 32 (y.toNat : Int) = y by simp]
  simp only [IntKind.wrap, IntKind.signed, IntKind.bits, Bool.false_and, Bool.false_eq_true, if_false]
  generalize (x ^^^ y).toNat = z at h ⊢
  omega
theorem bitSteps_next (k : Nat) : ∀ s, bitSteps (k + 1) s = bitStep (bitSteps k s) := by
  induction k with
  | zero => intro s; rfl
  | succ k ih => intro s; exact ih (bitStep s)
theorem sumN_next (l : List Nat) (k : Nat) (h : k < l.length) (b : Nat) (hb : b = l.getD k 0) : sumN (l.take (k + 1)) = bitSteps 8 (sumN (l.take k) ^^^ (BitVec.ofNat 8 b).setWidth 32) := by
  unfold sumN
  have e : b = l[k] := by rw [hb, List.getD_eq_getElem?_getD, List.getElem?_eq_getElem h]; rfl
  rw [List.take_succ_eq_append_getElem h, List.foldl_append, e]
  rfl
set_option maxRecDepth 100000 in
set_option maxHeartbeats 1000000 in
theorem refSum_any (l : List Nat) (p : Option Addr) (cap : Nat) (w : World) (hl : l.length ≤ 100000) (hb : ∀ b ∈ l, b < 256) (hc : Hid (BytesAt w p l)) :
    Calls Try.prog 37 #[.slice p l.length cap] w fun r w' => r = .returned (.int .u32 (~~~ sumN l).toNat) ∧ w = w' := by
  go_enter Try.func37, Try.ntmps37
  go_wp2
  go_loop [3, 4] (fun s i => ∃ k : Nat, k ≤ l.length ∧ i = .int .i64 k ∧ s = .int .u32 (sumN (l.take k)).toNat) (fun _ i => l.length - (intOf i).toNat)
  case atStart => exact ⟨0, Nat.zero_le _, rfl, rfl⟩
  case round =>
    obtain ⟨k, hk, rfl, rfl⟩ := hrel
    by_cases hlt : k < l.length
    · obtain ⟨B, off, rfl, c⟩ := hc.out k hlt
      obtain ⟨b, hbk⟩ : ∃ b, b = l.getD k 0 := ⟨_, rfl⟩
      rw [← hbk] at c
      have hb' : b < 256 := by rw [hbk, List.getD_eq_getElem?_getD, List.getElem?_eq_getElem hlt]; exact hb _ (List.getElem_mem hlt)
      have HN := Lib.hid (sumN_next l k hlt b hbk)
      clear hbk
      have e1 : bits .xor .u32 (sumN (l.take k)).toNat b = (sumN (l.take k) ^^^ (BitVec.ofNat 8 b).setWidth 32).toNat := by
        rw [← xor_u32]
        congr 1
        simp
        omega
      generalize sumN (l.take k) = S at e1 HN ⊢
      generalize S ^^^ (BitVec.ofNat 8 b).setWidth 32 = S1 at e1 HN
      go_wp2
      go_loop [3, 5, 6] (fun s i _ => ∃ j : Nat, j ≤ 8 ∧ i = .int .i64 j ∧ s = .int .u32 (bitSteps j S1).toNat) (fun _ i _ => 8 - (intOf i).toNat)
      case atStart => exact ⟨0, Nat.zero_le _, rfl, rfl⟩
      case round =>
        obtain ⟨j, hj, rfl, rfl⟩ := hrel
        by_cases hj8 : j < 8
        · have HJ := Lib.hid (bitSteps_next j S1)
          generalize bitSteps j S1 = T at HJ ⊢
          have hT := T.isLt
          by_cases ht : T.toNat % 2 = 1
          · have e : bitStep T = (T >>> 1) ^^^ 0xedb88320#32 := by unfold bitStep; rw [if_pos ht]
            have e3 : bits .xor .u32 ((T.toNat : Int) / 2) 3988292384 = (bitStep T).toNat := by
              rw [e, ← xor_u32]
              congr 1
            have HE := Lib.hid e3
            clear e3 e
            go_wp2
            exact ⟨⟨j + 1, by omega, by go_num, by rw [HJ.out, HE.out]⟩, by simp [intOf]; omega⟩
          · have e : bitStep T = T >>> 1 := by unfold bitStep; rw [if_neg ht]
            have e3 : ((T.toNat : Int) / 2) = (bitStep T).toNat := by
              rw [e, BitVec.toNat_ushiftRight, Nat.shiftRight_eq_div_pow]
              omega
            have HE := Lib.hid e3
            clear e3 e
            go_wp2
            exact ⟨⟨j + 1, by omega, by go_num, by rw [HJ.out, HE.out]⟩, by simp [intOf]; omega⟩
        · obtain rfl : j = 8 := by omega
          go_wp2
          go_round
          case rel => exact ⟨k + 1, by omega, by go_num, by rw [HN.out]⟩
          case measure => simp [intOf]; omega
    · obtain rfl : k = l.length := by omega
      rw [List.take_length]
      have e2 : bits .xor .u32 IntKind.u32.max (sumN l).toNat = (~~~ sumN l).toNat := by
        rw [show IntKind.u32.max = ((0xffffffff#32).toNat : Int) from rfl, xor_u32]
        rw [show 0xffffffff#32 = BitVec.allOnes 32 from rfl, BitVec.allOnes_xor]
      go_wp2
      go_ret
      exact ⟨rfl, rfl⟩
end Go.Proofs.Ythnllhfdbnnjhaa

