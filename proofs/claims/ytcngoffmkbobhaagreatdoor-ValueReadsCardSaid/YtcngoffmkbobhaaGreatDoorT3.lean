import Derived.Test.YtcngoffmkbobhaaGreatDoorT2
import Derived.Test.YtcngoffmkbobhaaGreatDoorShelf
import Derived.Test.YtcngoffmkbobhaaGreatDoorM
import Derived.WalkSmall
import Derived.Lib.SmallJoins
import Derived.Lib.AppendIntMem
import Derived.Deep.RegionLaw
import Derived.BigQuiet
namespace Go.Proofs.YtcngoffmkbobhaaGreatDoor
open Go.RowKit

theorem app_str (a b : List UInt8) : (⟨a.toArray⟩ : ByteArray) ++ ⟨b.toArray⟩ = ⟨(a ++ b).toArray⟩ := by
  apply ByteArray.ext
  simp [ByteArray.data_append]

structure Base (w : World) : Prop where
  mx : ∃ m, w.cell? ⟨1, 0, none⟩ = some (.int .i64 m)
  tab : Lib.TabIs Tryz.prog w "internal/strconv.uint64pow10" .u64 Lib.pow10Tab
  syn : ∃ tp p, w.var? Tryz.prog "strconv.ErrSyntax" = some #[.iface tp p]
  rng : ∃ tp p, w.var? Tryz.prog "strconv.ErrRange" = some #[.iface tp p]

theorem gTab : ∃ g, Tryz.prog.globalNamed "internal/strconv.uint64pow10" = some g := by
  have h : (Tryz.prog.globalNamed "internal/strconv.uint64pow10").isSome = true := by kernel_rfl
  exact Option.isSome_iff_exists.1 h
theorem gSyn : ∃ g, Tryz.prog.globalNamed "strconv.ErrSyntax" = some g := by
  have h : (Tryz.prog.globalNamed "strconv.ErrSyntax").isSome = true := by kernel_rfl
  exact Option.isSome_iff_exists.1 h
theorem gRng : ∃ g, Tryz.prog.globalNamed "strconv.ErrRange" = some g := by
  have h : (Tryz.prog.globalNamed "strconv.ErrRange").isSome = true := by kernel_rfl
  exact Option.isSome_iff_exists.1 h

theorem Base.below {w w' : World} (h : Base w) (hb : Below w.heap.size w w') : Base w' where
  mx := by obtain ⟨m, hm⟩ := h.mx; exact ⟨m, cell_later hb hm⟩
  tab := by obtain ⟨g, hg⟩ := gTab; exact Joins.tab_stays hg h.tab hb (Nat.le_refl _)
  syn := by obtain ⟨g, hg⟩ := gSyn; obtain ⟨tp, p, hv⟩ := h.syn; exact ⟨tp, p, Joins.var_stays hg hv hb (Nat.le_refl _)⟩
  rng := by obtain ⟨g, hg⟩ := gRng; obtain ⟨tp, p, hv⟩ := h.rng; exact ⟨tp, p, Joins.var_stays hg hv hb (Nat.le_refl _)⟩
theorem Base.alloc {w : World} (h : Base w) (o : Obj) : Base (w.alloc o) := h.below ((Below.refl _ _).alloc (Nat.le_refl _) _)

set_option maxHeartbeats 400000 in
theorem lit1_any (w : World) :
    Calls Tryz.prog 43 #[] w fun r w' => r = .returned (.string ⟨#[110, 117, 108, 108]⟩) ∧ w = w' := by
  go_enter Tryz.func43, Tryz.ntmps43
  go_wp2
  go_ret
  exact ⟨rfl, rfl⟩
set_option maxHeartbeats 400000 in
theorem lit2_any (b : Nat) (n : Int) (w : World) (h : w.cell? ⟨b, 1, none⟩ = some (.int .i64 n)) :
    Calls Tryz.prog 44 #[.pointer (some ⟨b, 0, none⟩)] w fun r w' => r = .returned (.string ⟨(Lib.formatBool (n == 1)).toArray⟩) ∧ w = w' := by
  go_enter Tryz.func44, Tryz.ntmps44
  go_wp2_with (go_at_call 45; refine (Tryz.strconv_FormatBool _ _).mono ?_; rintro e w' ⟨rfl, rfl⟩)
  go_ret
  exact ⟨rfl, rfl⟩
set_option maxHeartbeats 400000 in
theorem lit3_any (b : Nat) (n : Int) (w : World) (hw : Base w) (h0 : -9223372036854775808 ≤ n) (h1 : n ≤ 9223372036854775807) (h : w.cell? ⟨b, 1, none⟩ = some (.int .i64 n)) :
    Calls Tryz.prog 46 #[.pointer (some ⟨b, 0, none⟩)] w fun r w' => r = .returned (.string ⟨(Lib.itoa n).toArray⟩) ∧ Below w.heap.size w w' := by
  go_enter Tryz.func46, Tryz.ntmps46
  go_wp2_with (go_at_call 47; refine (Tryz.strconv_FormatInt_10 n h0 h1 _ hw.tab).mono ?_; rintro e w' ⟨rfl, k, os, rfl⟩)
  go_ret
  exact ⟨rfl, Lib.below_grow _ _ (Nat.le_refl _) _ _⟩
set_option maxHeartbeats 400000 in
theorem lit4_any (b : Nat) (s : ByteArray) (w : World) (hw : Base w) (hs : s.size ≤ 1000000) (hl : (Lib.replaceAll s.data.toList [39] [39, 39]).length ≤ 3000000) (h : w.cell? ⟨b, 2, none⟩ = some (.string s)) :
    Calls Tryz.prog 48 #[.pointer (some ⟨b, 0, none⟩)] w fun r w' => r = .returned (.string ⟨((39 : UInt8) :: (Lib.replaceAll s.data.toList [39] [39, 39] ++ [39])).toArray⟩) ∧ Below w.heap.size w w' := by
  obtain ⟨m, hm⟩ := hw.mx
  have hcb : s.size + Lib.countB s ⟨#[39]⟩ * (⟨#[39, 39]⟩ : ByteArray).size ≤ 140737488355328 := by
    have := Lib.countB_le ⟨#[39]⟩ (by decide) s.size s (Nat.le_refl _)
    have e : (⟨#[39, 39]⟩ : ByteArray).size = 2 := rfl
    rw [e]
    omega
  go_enter Tryz.func48, Tryz.ntmps48
  go_wp2_with (go_at_call 49; refine (Tryz.strings_ReplaceAll _ _ _ m _ (by omega) hm (by decide) (by exact hcb)).mono ?_; rintro e w' ⟨rfl, hb⟩)
  go_ret
  refine ⟨?_, hb⟩
  simp [app_str]
theorem ins0 (w : World) (p : Option Addr) : (Instr.mapUpdate 76 (.map (some w.heap.size)) (.int .i64 0) (.func (Fn.func 43) #[] #[])).run Tryz.prog (w.alloc (.map #[] 0)) = .ok () (w.alloc (.map #[⟨.int .i64 0, (.func (Fn.func 43) #[] #[]), 0⟩] 1)) :=
  run_ins_new Tryz.underlying76 Tryz.underlying22 w #[] 0 0 _ (by decide) rfl
theorem ins1 (w : World) (p : Option Addr) : (Instr.mapUpdate 76 (.map (some w.heap.size)) (.int .i64 1) (.func (Fn.func 44) #[] #[.pointer p])).run Tryz.prog (w.alloc (.map #[⟨.int .i64 0, (.func (Fn.func 43) #[] #[]), 0⟩] 1)) = .ok () (w.alloc (.map #[⟨.int .i64 0, (.func (Fn.func 43) #[] #[]), 0⟩, ⟨.int .i64 1, (.func (Fn.func 44) #[] #[.pointer p]), 1⟩] 2)) :=
  run_ins_new Tryz.underlying76 Tryz.underlying22 w #[⟨.int .i64 0, (.func (Fn.func 43) #[] #[]), 0⟩] 1 1 _ (by decide) rfl
theorem ins2 (w : World) (p : Option Addr) : (Instr.mapUpdate 76 (.map (some w.heap.size)) (.int .i64 2) (.func (Fn.func 46) #[] #[.pointer p])).run Tryz.prog (w.alloc (.map #[⟨.int .i64 0, (.func (Fn.func 43) #[] #[]), 0⟩, ⟨.int .i64 1, (.func (Fn.func 44) #[] #[.pointer p]), 1⟩] 2)) = .ok () (w.alloc (.map #[⟨.int .i64 0, (.func (Fn.func 43) #[] #[]), 0⟩, ⟨.int .i64 1, (.func (Fn.func 44) #[] #[.pointer p]), 1⟩, ⟨.int .i64 2, (.func (Fn.func 46) #[] #[.pointer p]), 2⟩] 3)) :=
  run_ins_new Tryz.underlying76 Tryz.underlying22 w #[⟨.int .i64 0, (.func (Fn.func 43) #[] #[]), 0⟩, ⟨.int .i64 1, (.func (Fn.func 44) #[] #[.pointer p]), 1⟩] 2 2 _ (by decide) rfl
theorem ins3 (w : World) (p : Option Addr) : (Instr.mapUpdate 76 (.map (some w.heap.size)) (.int .i64 3) (.func (Fn.func 48) #[] #[.pointer p])).run Tryz.prog (w.alloc (.map #[⟨.int .i64 0, (.func (Fn.func 43) #[] #[]), 0⟩, ⟨.int .i64 1, (.func (Fn.func 44) #[] #[.pointer p]), 1⟩, ⟨.int .i64 2, (.func (Fn.func 46) #[] #[.pointer p]), 2⟩] 3)) = .ok () (w.alloc (.map #[⟨.int .i64 0, (.func (Fn.func 43) #[] #[]), 0⟩, ⟨.int .i64 1, (.func (Fn.func 44) #[] #[.pointer p]), 1⟩, ⟨.int .i64 2, (.func (Fn.func 46) #[] #[.pointer p]), 2⟩, ⟨.int .i64 3, (.func (Fn.func 48) #[] #[.pointer p]), 3⟩] 4)) :=
  run_ins_new Tryz.underlying76 Tryz.underlying22 w #[⟨.int .i64 0, (.func (Fn.func 43) #[] #[]), 0⟩, ⟨.int .i64 1, (.func (Fn.func 44) #[] #[.pointer p]), 1⟩, ⟨.int .i64 2, (.func (Fn.func 46) #[] #[.pointer p]), 2⟩] 3 3 _ (by decide) rfl
theorem ins4 (w : World) (p : Option Addr) : (Instr.mapUpdate 76 (.map (some w.heap.size)) (.int .i64 4) (.func (Fn.func 50) #[] #[.pointer p])).run Tryz.prog (w.alloc (.map #[⟨.int .i64 0, (.func (Fn.func 43) #[] #[]), 0⟩, ⟨.int .i64 1, (.func (Fn.func 44) #[] #[.pointer p]), 1⟩, ⟨.int .i64 2, (.func (Fn.func 46) #[] #[.pointer p]), 2⟩, ⟨.int .i64 3, (.func (Fn.func 48) #[] #[.pointer p]), 3⟩] 4)) = .ok () (w.alloc (.map #[⟨.int .i64 0, (.func (Fn.func 43) #[] #[]), 0⟩, ⟨.int .i64 1, (.func (Fn.func 44) #[] #[.pointer p]), 1⟩, ⟨.int .i64 2, (.func (Fn.func 46) #[] #[.pointer p]), 2⟩, ⟨.int .i64 3, (.func (Fn.func 48) #[] #[.pointer p]), 3⟩, ⟨.int .i64 4, (.func (Fn.func 50) #[] #[.pointer p]), 4⟩] 5)) :=
  run_ins_new Tryz.underlying76 Tryz.underlying22 w #[⟨.int .i64 0, (.func (Fn.func 43) #[] #[]), 0⟩, ⟨.int .i64 1, (.func (Fn.func 44) #[] #[.pointer p]), 1⟩, ⟨.int .i64 2, (.func (Fn.func 46) #[] #[.pointer p]), 2⟩, ⟨.int .i64 3, (.func (Fn.func 48) #[] #[.pointer p]), 3⟩] 4 4 _ (by decide) rfl
theorem look0 (w : World) (p : Option Addr) : (Instr.lookup 76 (.map (some w.heap.size)) (.int .i64 0) false).run Tryz.prog (w.alloc (.map #[⟨.int .i64 0, (.func (Fn.func 43) #[] #[]), 0⟩, ⟨.int .i64 1, (.func (Fn.func 44) #[] #[.pointer p]), 1⟩, ⟨.int .i64 2, (.func (Fn.func 46) #[] #[.pointer p]), 2⟩, ⟨.int .i64 3, (.func (Fn.func 48) #[] #[.pointer p]), 3⟩, ⟨.int .i64 4, (.func (Fn.func 50) #[] #[.pointer p]), 4⟩] 5)) = .ok (.func (Fn.func 43) #[] #[]) (w.alloc (.map #[⟨.int .i64 0, (.func (Fn.func 43) #[] #[]), 0⟩, ⟨.int .i64 1, (.func (Fn.func 44) #[] #[.pointer p]), 1⟩, ⟨.int .i64 2, (.func (Fn.func 46) #[] #[.pointer p]), 2⟩, ⟨.int .i64 3, (.func (Fn.func 48) #[] #[.pointer p]), 3⟩, ⟨.int .i64 4, (.func (Fn.func 50) #[] #[.pointer p]), 4⟩] 5)) :=
  run_look_new Tryz.underlying76 Tryz.underlying22 w #[⟨.int .i64 0, (.func (Fn.func 43) #[] #[]), 0⟩, ⟨.int .i64 1, (.func (Fn.func 44) #[] #[.pointer p]), 1⟩, ⟨.int .i64 2, (.func (Fn.func 46) #[] #[.pointer p]), 2⟩, ⟨.int .i64 3, (.func (Fn.func 48) #[] #[.pointer p]), 3⟩, ⟨.int .i64 4, (.func (Fn.func 50) #[] #[.pointer p]), 4⟩] 5 0 0 _ (by decide) rfl
theorem look1 (w : World) (p : Option Addr) : (Instr.lookup 76 (.map (some w.heap.size)) (.int .i64 1) false).run Tryz.prog (w.alloc (.map #[⟨.int .i64 0, (.func (Fn.func 43) #[] #[]), 0⟩, ⟨.int .i64 1, (.func (Fn.func 44) #[] #[.pointer p]), 1⟩, ⟨.int .i64 2, (.func (Fn.func 46) #[] #[.pointer p]), 2⟩, ⟨.int .i64 3, (.func (Fn.func 48) #[] #[.pointer p]), 3⟩, ⟨.int .i64 4, (.func (Fn.func 50) #[] #[.pointer p]), 4⟩] 5)) = .ok (.func (Fn.func 44) #[] #[.pointer p]) (w.alloc (.map #[⟨.int .i64 0, (.func (Fn.func 43) #[] #[]), 0⟩, ⟨.int .i64 1, (.func (Fn.func 44) #[] #[.pointer p]), 1⟩, ⟨.int .i64 2, (.func (Fn.func 46) #[] #[.pointer p]), 2⟩, ⟨.int .i64 3, (.func (Fn.func 48) #[] #[.pointer p]), 3⟩, ⟨.int .i64 4, (.func (Fn.func 50) #[] #[.pointer p]), 4⟩] 5)) :=
  run_look_new Tryz.underlying76 Tryz.underlying22 w #[⟨.int .i64 0, (.func (Fn.func 43) #[] #[]), 0⟩, ⟨.int .i64 1, (.func (Fn.func 44) #[] #[.pointer p]), 1⟩, ⟨.int .i64 2, (.func (Fn.func 46) #[] #[.pointer p]), 2⟩, ⟨.int .i64 3, (.func (Fn.func 48) #[] #[.pointer p]), 3⟩, ⟨.int .i64 4, (.func (Fn.func 50) #[] #[.pointer p]), 4⟩] 5 1 1 _ (by decide) rfl
theorem look2 (w : World) (p : Option Addr) : (Instr.lookup 76 (.map (some w.heap.size)) (.int .i64 2) false).run Tryz.prog (w.alloc (.map #[⟨.int .i64 0, (.func (Fn.func 43) #[] #[]), 0⟩, ⟨.int .i64 1, (.func (Fn.func 44) #[] #[.pointer p]), 1⟩, ⟨.int .i64 2, (.func (Fn.func 46) #[] #[.pointer p]), 2⟩, ⟨.int .i64 3, (.func (Fn.func 48) #[] #[.pointer p]), 3⟩, ⟨.int .i64 4, (.func (Fn.func 50) #[] #[.pointer p]), 4⟩] 5)) = .ok (.func (Fn.func 46) #[] #[.pointer p]) (w.alloc (.map #[⟨.int .i64 0, (.func (Fn.func 43) #[] #[]), 0⟩, ⟨.int .i64 1, (.func (Fn.func 44) #[] #[.pointer p]), 1⟩, ⟨.int .i64 2, (.func (Fn.func 46) #[] #[.pointer p]), 2⟩, ⟨.int .i64 3, (.func (Fn.func 48) #[] #[.pointer p]), 3⟩, ⟨.int .i64 4, (.func (Fn.func 50) #[] #[.pointer p]), 4⟩] 5)) :=
  run_look_new Tryz.underlying76 Tryz.underlying22 w #[⟨.int .i64 0, (.func (Fn.func 43) #[] #[]), 0⟩, ⟨.int .i64 1, (.func (Fn.func 44) #[] #[.pointer p]), 1⟩, ⟨.int .i64 2, (.func (Fn.func 46) #[] #[.pointer p]), 2⟩, ⟨.int .i64 3, (.func (Fn.func 48) #[] #[.pointer p]), 3⟩, ⟨.int .i64 4, (.func (Fn.func 50) #[] #[.pointer p]), 4⟩] 5 2 2 _ (by decide) rfl
theorem look3 (w : World) (p : Option Addr) : (Instr.lookup 76 (.map (some w.heap.size)) (.int .i64 3) false).run Tryz.prog (w.alloc (.map #[⟨.int .i64 0, (.func (Fn.func 43) #[] #[]), 0⟩, ⟨.int .i64 1, (.func (Fn.func 44) #[] #[.pointer p]), 1⟩, ⟨.int .i64 2, (.func (Fn.func 46) #[] #[.pointer p]), 2⟩, ⟨.int .i64 3, (.func (Fn.func 48) #[] #[.pointer p]), 3⟩, ⟨.int .i64 4, (.func (Fn.func 50) #[] #[.pointer p]), 4⟩] 5)) = .ok (.func (Fn.func 48) #[] #[.pointer p]) (w.alloc (.map #[⟨.int .i64 0, (.func (Fn.func 43) #[] #[]), 0⟩, ⟨.int .i64 1, (.func (Fn.func 44) #[] #[.pointer p]), 1⟩, ⟨.int .i64 2, (.func (Fn.func 46) #[] #[.pointer p]), 2⟩, ⟨.int .i64 3, (.func (Fn.func 48) #[] #[.pointer p]), 3⟩, ⟨.int .i64 4, (.func (Fn.func 50) #[] #[.pointer p]), 4⟩] 5)) :=
  run_look_new Tryz.underlying76 Tryz.underlying22 w #[⟨.int .i64 0, (.func (Fn.func 43) #[] #[]), 0⟩, ⟨.int .i64 1, (.func (Fn.func 44) #[] #[.pointer p]), 1⟩, ⟨.int .i64 2, (.func (Fn.func 46) #[] #[.pointer p]), 2⟩, ⟨.int .i64 3, (.func (Fn.func 48) #[] #[.pointer p]), 3⟩, ⟨.int .i64 4, (.func (Fn.func 50) #[] #[.pointer p]), 4⟩] 5 3 3 _ (by decide) rfl
theorem look4 (w : World) (p : Option Addr) : (Instr.lookup 76 (.map (some w.heap.size)) (.int .i64 4) false).run Tryz.prog (w.alloc (.map #[⟨.int .i64 0, (.func (Fn.func 43) #[] #[]), 0⟩, ⟨.int .i64 1, (.func (Fn.func 44) #[] #[.pointer p]), 1⟩, ⟨.int .i64 2, (.func (Fn.func 46) #[] #[.pointer p]), 2⟩, ⟨.int .i64 3, (.func (Fn.func 48) #[] #[.pointer p]), 3⟩, ⟨.int .i64 4, (.func (Fn.func 50) #[] #[.pointer p]), 4⟩] 5)) = .ok (.func (Fn.func 50) #[] #[.pointer p]) (w.alloc (.map #[⟨.int .i64 0, (.func (Fn.func 43) #[] #[]), 0⟩, ⟨.int .i64 1, (.func (Fn.func 44) #[] #[.pointer p]), 1⟩, ⟨.int .i64 2, (.func (Fn.func 46) #[] #[.pointer p]), 2⟩, ⟨.int .i64 3, (.func (Fn.func 48) #[] #[.pointer p]), 3⟩, ⟨.int .i64 4, (.func (Fn.func 50) #[] #[.pointer p]), 4⟩] 5)) :=
  run_look_new Tryz.underlying76 Tryz.underlying22 w #[⟨.int .i64 0, (.func (Fn.func 43) #[] #[]), 0⟩, ⟨.int .i64 1, (.func (Fn.func 44) #[] #[.pointer p]), 1⟩, ⟨.int .i64 2, (.func (Fn.func 46) #[] #[.pointer p]), 2⟩, ⟨.int .i64 3, (.func (Fn.func 48) #[] #[.pointer p]), 3⟩, ⟨.int .i64 4, (.func (Fn.func 50) #[] #[.pointer p]), 4⟩] 5 4 4 _ (by decide) rfl

end Go.Proofs.YtcngoffmkbobhaaGreatDoor
