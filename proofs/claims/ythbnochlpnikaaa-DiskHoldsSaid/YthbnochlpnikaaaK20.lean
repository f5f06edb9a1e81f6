/- Crash. -/
import Derived.Test.YthbnochlpnikaaaK19
namespace Go.Proofs.Ythbnochlpnikaaa
open Go.RowKit Go.Shelf

theorem ref_crash (A A' : Nat) (tear : Int) (s : DS) (keep : List Bool) : refE [qBelow A tear, qAbove A' tear] = (crashS s tear keep).2 := by
  rw [refE_if (p := tear < 0) rfl, refE_if (p := 64 ≤ tear) rfl]
  unfold crashS
  by_cases h1 : tear < 0
  · rw [if_pos h1, if_pos (.inl h1)]; rfl
  · rw [if_neg h1]
    by_cases h2 : 64 ≤ tear
    · rw [if_pos h2, if_pos (.inr (by omega))]; rfl
    · rw [if_neg h2, if_neg (by omega)]; rfl
theorem crash_end {w : World} {B b1 b2 : Nat} {v : Value} {m : Nat} {S' L : List (Nat × ByteArray)} {n : Int} (h : DiskAt w B b1 b2 v ⟨m, S', L, n⟩) : DiskAt ((w.setCell ⟨B, 4, none⟩ (.bool false)).setCell ⟨B, 5, none⟩ (.int .i64 0)) B b1 b2 v ⟨m, S', L, -1⟩ ∧ Apart (fun j => j = B) w ((w.setCell ⟨B, 4, none⟩ (.bool false)).setCell ⟨B, 5, none⟩ (.int .i64 0)) := by
  have e1 := heap_setCell_same w B 4 _ 65 (.bool false) h.cells
  refine ⟨h.turn (-1) (by omega) ?_ (fun k hk => by rw [heap_setCell_other _ _ _ _ (by exact hk), heap_setCell_other _ _ _ _ (by exact hk)]), (apart_set w B 4 _).trans (apart_set _ B 5 _) (fun j hj => .inl hj)⟩
  rw [heap_setCell_same _ B 5 _ 65 _ e1]
  rfl
set_option maxRecDepth 100000 in
set_option maxHeartbeats 2000000 in
theorem dcrash_any {w : World} {d : Value} {s : DS} {F : Nat → Prop} (tear : Int) (p : Option Addr) (keep : List Bool) (cap : Nat) (h : RepD w d s F) (hW : Whole s) (hF : Few s) (hkl : keep.length ≤ 9223372036854775807) (hin : BoolsAt w p keep) :
    Calls Try.prog 18 #[d, .int .i64 tear, .slice p keep.length cap] w fun r w' => r = .returned (.int .i64 (crashS s tear keep).2) ∧ Goes RepD d (crashS s tear keep).1 F w w' := by
  obtain ⟨B, b1, b2, v, rfl, h, rfl⟩ := h
  have hm := hW.many.1
  have B0 : Below w.heap.size w (w.alloc (.cells #[.slice p keep.length cap] 23)) := (Below.refl _ _).alloc (Nat.le_refl _) _
  have x0 : (w.alloc (.cells #[.slice p keep.length cap] 23)).cell? ⟨w.heap.size, 0, none⟩ = some (.slice p keep.length cap) := by go_cell
  have HIN := Lib.hid hin
  clear hin
  go_enter Try.func18, Try.ntmps18
  go_wp2_with fail
  generalize hw0 : w.alloc (.cells #[.slice p keep.length cap] 23) = w0 at *
  clear hw0
  refine (below_any2 _ _).mono ?_
  rintro e wa ⟨rfl, a0, Ba⟩
  go_wp2_with fail
  refine (above_any2 _ _).mono ?_
  rintro e wb ⟨rfl, a1, Bb⟩
  go_wp2_with fail
  have hB := kbP (kbP B0 Ba) Bb
  refine (refuse2 (q1 := qBelow w0.heap.size tear) (q2 := qAbove wa.heap.size tear) (h.below hB) hm (qBelow_ok (below_kept Bb _ _ a0)) (qAbove_ok a1)).mono ?_
  rintro e wc ⟨rfl, Bc⟩
  rw [ref_crash _ _ _ s keep]
  have hC := kbP hB Bc
  have hD := h.below hC
  have X0 : wc.cell? ⟨w.heap.size, 0, none⟩ = some (.slice p keep.length cap) := below_kept (kbP (kbP Ba Bb) Bc) _ _ x0
  clear a0 a1
  by_cases h0 : tear < 0 ∨ 63 < tear
  · have e : crashS s tear keep = (s, 2) := by unfold crashS; rw [if_pos h0]
    rw [e]
    go_wp2_with fail
    go_ret
    rw [e]
    exact ⟨rfl, goes_at hD (fun j hj => .inl hj) (Below.apart hC _)⟩
  · obtain ⟨t, rfl⟩ : ∃ t : Nat, tear = t := ⟨tear.toNat, by omega⟩
    have ht : t ≤ 63 := by omega
    have e : crashS s t keep = (⟨s.many, crashF keep s.loose t (tornS s keep) s.sync (tornS s keep + 1).toNat, [], -1⟩, 0) := by
      unfold crashS
      rw [if_neg h0, Int.toNat_natCast]
    rw [e]
    have HE := Lib.hid e
    clear e h0
    obtain ⟨q, c, rfl⟩ : ∃ q c, v = .slice q s.loose.length c := by
      rcases h.row.2 with ⟨e, h0⟩ | ⟨g, cap', cur, e, -⟩
      · exact ⟨none, 0, by rw [e, h0]⟩
      · exact ⟨_, _, e⟩
    obtain ⟨-, -, -, c3, -, -⟩ := hD.cell
    have AS := Lib.hid (asked_any (A := w.heap.size) X0 (Lib.hid (HIN.out.below hC)) hkl hD.row (fun x hx => (hW.loose x hx).2) hF.2)
    have ST : Hid (∀ (wd : World) (n : Nat) (q' : Option Addr) (c' : Nat), n = lastN t → Below wc.heap.size wc wd → wd.ownsRow wc.heap.size 78 65 (.slice q' (keptL s.loose keep s.loose.length).length c') (keptL s.loose keep s.loose.length).length (wcs (keptL s.loose keep s.loose.length)) →
        Calls Try.prog 45 #[.pointer (some ⟨B, 0, none⟩), .slice q' (keptL s.loose keep s.loose.length).length c', .int .i64 n] wd fun r w' => r = .returned (.tuple #[]) ∧ DiskAt w' B b1 b2 (.slice none 0 0) ⟨s.many, crashF keep s.loose t (tornS s keep) s.sync (tornS s keep + 1).toNat, [], s.left⟩ ∧ Apart (fun j => j = B ∨ j = b1 ∨ j = b2) wd w') := Lib.hid fun wd n q' c' hn hb hr => by
      subst hn
      refine settle_any (hD.below hb) hW hF (ownsRow_base hr (Nat.zero_le _)) (fun x hx => hW.loose x (keptL_mem (Nat.le_refl _) x hx)) (by have := keptL_length (l := s.loose) (keep := keep) s.loose.length; have := hF.2; omega) (lastN t) (by unfold lastN; split <;> omega) _ (fun k _ => by rw [crash_last hW ht]) (fun x hx => ⟨x, keptL_mem (Nat.le_refl _) x hx, rfl⟩)
    clear hF hW
    by_cases hz : t = 0
    · have hq : ((t : Int) == 0) = true := by simp [hz]
      have hn : (64 : Nat) = lastN t := by unfold lastN; rw [if_pos hz]
      have HN := Lib.hid hn
      clear hn hz
      go_wp2_with (first
        | (go_at_call 48; (with_reducible refine AS.out.mono ?_); rintro e wd ⟨u, rfl, hru, Bd⟩; obtain ⟨q', c', rfl⟩ : ∃ q' c', u = .slice q' (keptL s.loose keep s.loose.length).length c' := by (rcases hru.2 with ⟨e, h0⟩ | ⟨g, cap', cur, e, -⟩; exact ⟨none, 0, by rw [e, h0]⟩; exact ⟨_, _, e⟩))
        | (go_at_call 45; refine (ST.out wd 64 q' c' HN.out Bd hru).mono ?_; rintro e we ⟨rfl, De, Ae⟩; have f4 := De.frozen 4; have f5 := De.frozen 5; obtain ⟨-, -, -, -, y4, y5⟩ := De.cell)
        | fail)
      go_ret
      rw [HE.out]
      obtain ⟨D5, A5⟩ := crash_end De
      exact ⟨rfl, goes_at D5 (fun j hj => by cases hj) (apart_foot ((((Below.apart (kbP hC Bd) _).trans Ae (fun j hj => .inl hj)).trans A5 (fun j hj => .inl (.inl hj)))))⟩
    · have hq : ((t : Int) == 0) = false := by simp [hz]
      have hn : t = lastN t := by unfold lastN; rw [if_neg hz]
      have HN := Lib.hid hn
      clear hn hz
      go_wp2_with (first
        | (go_at_call 48; (with_reducible refine AS.out.mono ?_); rintro e wd ⟨u, rfl, hru, Bd⟩; obtain ⟨q', c', rfl⟩ : ∃ q' c', u = .slice q' (keptL s.loose keep s.loose.length).length c' := by (rcases hru.2 with ⟨e, h0⟩ | ⟨g, cap', cur, e, -⟩; exact ⟨none, 0, by rw [e, h0]⟩; exact ⟨_, _, e⟩))
        | (go_at_call 45; refine (ST.out wd t q' c' HN.out Bd hru).mono ?_; rintro e we ⟨rfl, De, Ae⟩; have f4 := De.frozen 4; have f5 := De.frozen 5; obtain ⟨-, -, -, -, y4, y5⟩ := De.cell)
        | fail)
      go_ret
      rw [HE.out]
      obtain ⟨D5, A5⟩ := crash_end De
      exact ⟨rfl, goes_at D5 (fun j hj => by cases hj) (apart_foot ((((Below.apart (kbP hC Bd) _).trans Ae (fun j hj => .inl hj)).trans A5 (fun j hj => .inl (.inl hj)))))⟩
end Go.Proofs.Ythbnochlpnikaaa
