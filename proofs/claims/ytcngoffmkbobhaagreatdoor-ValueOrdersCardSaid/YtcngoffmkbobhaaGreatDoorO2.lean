import Derived.RangeFuncNested
import Derived.RangeFuncBound
import Derived.RangeFuncCalls
import Derived.RangeFuncLeaves
import Derived.Shelf.Abstract
import Derived.WalkKit
import Derived.OwnWalkIn
import Derived.TacticsInMore
import Derived.LoopNIn
import Derived.LoopIn
import Derived.Test.YtcngoffmkbobhaaGreatDoorO1
namespace Go.Proofs.YtcngoffmkbobhaaGreatDoor
open Go.RowKit Go.Shelf
attribute [local go_sem] Oper.semAt_some

/-- The four types, rising. -/
def tl : List (Fin 4) := [0, 1, 2, 3]
abbrev tenc (x : Fin 4) : Array Value := #[.int .i64 (1 + (x.val : Int)), .string (tname (x.val + 1))]
theorem tl_take (k : Nat) (h : k < 4) : tl.take (k + 1) = tl.take k ++ [⟨k, h⟩] := by
  match k, h with
  | 0, _ => rfl
  | 1, _ => rfl
  | 2, _ => rfl
  | 3, _ => rfl
abbrev NAMES : Value := .agg #[.string ⟨#[98, 111, 111, 108]⟩, .string ⟨#[105, 110, 116]⟩, .string ⟨#[116, 101, 120, 116]⟩, .string ⟨#[98, 108, 111, 98]⟩]
set_option maxRecDepth 100000 in
set_option maxHeartbeats 400000 in
theorem names_run (k : Nat) (h : k < 4) (w : World) : (Instr.index 93 NAMES (.int .i64 k)).run Tryz.prog w = .ok (.string (tname (k + 1))) w := by
  match k, h with
  | 0, _ => go_simp; first | done | rfl | simp [tname]
  | 1, _ => go_simp; first | done | rfl | simp [tname]
  | 2, _ => go_simp; first | done | rfl | simp [tname]
  | 3, _ => go_simp; first | done | rfl | simp [tname]

set_option maxRecDepth 100000 in
set_option maxHeartbeats 2000000 in
theorem types_stops (F : Fence) (n : Nat) (h58 : F.fn 58) (hro : F.round = none) (hn : 1 ≤ n) (Kp : World → World → Prop) (w : World) :
    SeqStopsK F n Tryz.prog 58 #[] tenc Kp (fun xs => xs = tl) (fun pre => pre <+: tl) 4 w := fun l J Jx W hW hJ hJx hY h0 => by
  refine callsIn_of_wp Tryz.func58 rfl h58 ?_ hro
  simp only [Tryz.ntmps58, List.size_toArray, List.length_cons, List.length_nil, Nat.reduceAdd, Nat.reduceSub, Array.replicate_succ, Array.replicate_zero, List.push_toArray, List.append_toArray, List.nil_append, List.cons_append]
  gi_wp2
  gi_loopw [7] (fun i wr => ∃ k : Nat, k ≤ 4 ∧ i = .int .i64 k ∧ J (tl.take k) wr) (fun i _ => 4 - (intOf i).toNat)
  case atStart => exact ⟨0, Nat.zero_le _, rfl, hJ _ _ _ none h0 (World.grownBy_alloc W _ none) (fun r e => by cases e)⟩
  case round =>
    obtain ⟨k, hk, rfl, hJs⟩ := hrel
    by_cases hlt : k < 4
    · obtain ⟨fn, tmps, assign, body, hy, hR⟩ := hY (tl.take k) ⟨k, hlt⟩ wr hJs (by simp [tl]; omega)
      have hi := names_run k hlt
      have hk0 : (k : Int) < 4 := by omega
      gi_wp2
      refine hR.mono ?_
      rintro e W3 (⟨rfl, hJ3, _⟩ | ⟨rfl, hJx3⟩)
      · gi_wp2
        go_roundw
        case rel => exact ⟨k + 1, by omega, by simp, by rw [tl_take k hlt]; exact hJ3⟩
        case measure => simp [intOf]; omega
      · gi_wp2
        refine bodyPost_ret (results_none rfl _ _ _) rfl ?_
        exact ⟨⟨_, rfl⟩, .inr ⟨_, by rw [← tl_take k hlt]; exact List.take_prefix _ _, hJx3⟩⟩
    · obtain rfl : k = 4 := by omega
      gi_wp2
      go_end0
      exact ⟨⟨_, rfl⟩, .inl ⟨_, rfl, hJs⟩⟩
end Go.Proofs.YtcngoffmkbobhaaGreatDoor
