/- Stop, Write. -/
import Derived.Test.YthbnochlpnikaaaK10
namespace Go.Proofs.Ythbnochlpnikaaa
open Go.RowKit Go.Shelf

theorem goes_at {w w' : World} {B b1 b2 : Nat} {v v' : Value} {s : DS} (h : DiskAt w' B b1 b2 v' s) (hv : ∀ j, v'.ownBlock = some j → v.ownBlock = some j ∨ w.heap.size ≤ j) (ha : Apart (FootOf B b1 b2 v) w w') : Goes RepD (.pointer (some ⟨B, 0, none⟩)) s (FootOf B b1 b2 v) w w' :=
  ⟨_, ⟨B, b1, b2, v', rfl, h, rfl⟩, fun k hk => by
    rcases hk with rfl | rfl | rfl | hk
    · exact .inl (.inl rfl)
    · exact .inl (.inr (.inl rfl))
    · exact .inl (.inr (.inr (.inl rfl)))
    · rcases hv k hk with h | h
      · exact .inl (.inr (.inr (.inr h)))
      · exact .inr h, ha⟩
theorem ref_stop (A : Nat) (n : Int) (s : DS) : refE [qBelow A n] = (stopS s n).2 := by
  rw [refE_if (p := n < 0) rfl]
  unfold stopS
  split <;> rfl
set_option maxRecDepth 100000 in
set_option maxHeartbeats 1000000 in
theorem dstop_any {w : World} {d : Value} {s : DS} {F : Nat → Prop} (n : Int) (h : RepD w d s F) (hW : Whole s) (hn : -9223372036854775808 ≤ n ∧ n ≤ 9223372036854775807) :
    Calls Try.prog 20 #[d, .int .i64 n] w fun r w' => r = .returned (.int .i64 (stopS s n).2) ∧ Goes RepD d (stopS s n).1 F w w' := by
  obtain ⟨B, b1, b2, v, rfl, h, rfl⟩ := h
  have hm := hW.many.1
  go_enter Try.func20, Try.ntmps20
  go_wp2_with fail
  refine (below_any2 _ _).mono ?_
  rintro e wa ⟨rfl, a0, Ba⟩
  go_wp2_with fail
  refine (refuse1 (q1 := qBelow w.heap.size n) (h.below Ba) hm (qBelow_ok a0)).mono ?_
  rintro e wb ⟨rfl, Bb⟩
  rw [ref_stop _ _ s]
  have hC := kbP Ba Bb
  have hD := h.below hC
  clear a0
  by_cases h0 : n < 0
  · have e : stopS s n = (s, 2) := by unfold stopS; rw [if_pos h0]
    rw [e]
    go_wp2_with fail
    go_ret
    rw [e]
    exact ⟨rfl, goes_at hD (fun j hj => .inl hj) (Below.apart hC _)⟩
  · have e : stopS s n = (⟨s.many, s.sync, s.loose, n⟩, 0) := by unfold stopS; rw [if_neg h0]
    rw [e]
    have f4 := hD.frozen 4
    have f5 := hD.frozen 5
    obtain ⟨-, -, -, -, c4, c5⟩ := hD.cell
    go_wp2_with fail
    go_ret
    rw [e]
    refine ⟨rfl, goes_at (v := v) (v' := v) ?_ (fun j hj => .inl hj) ?_⟩
    · have e1 := heap_setCell_same wb B 4 _ 65 (.bool true) hD.cells
      refine hD.turn n hn.2 ?_ (fun k hk => by rw [heap_setCell_other _ _ _ _ (by exact hk), heap_setCell_other _ _ _ _ (by exact hk)])
      rw [heap_setCell_same _ B 5 _ 65 _ e1]
      rw [decide_eq_true (show 0 ≤ n by omega), show ((n.toNat : Nat) : Int) = n by omega]
      rfl
    · exact (Below.apart hC _).trans (((apart_set wb B 4 _).trans (apart_set _ B 5 _) (fun j hj => .inl hj)).wide (fun j hj => (.inl hj : FootOf B b1 b2 v j))) (fun j hj => .inl hj)
end Go.Proofs.Ythbnochlpnikaaa
