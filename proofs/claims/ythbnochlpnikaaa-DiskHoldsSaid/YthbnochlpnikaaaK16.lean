/- Sync. -/
import Derived.Test.YthbnochlpnikaaaK15
namespace Go.Proofs.Ythbnochlpnikaaa
open Go.RowKit Go.Shelf

theorem ref_sync (B : Nat) (s : DS) : refE [qHalted B s] = (syncS s).2 := by
  rw [refE_if (p := s.left = 0) rfl]
  unfold syncS
  split <;> rfl
theorem lastS_upd (l : List (Nat × ByteArray)) (w : Nat × ByteArray) : lastS (l ++ [w]) = upd (lastS l) w.1 w.2 := by
  funext k
  rw [lastS_snoc]
  unfold upd
  by_cases e : w.1 = k
  · rw [if_pos e, if_pos e.symm]
  · rw [if_neg e, if_neg (fun x => e x.symm)]
/-- Where nothing is torn, each sector is as it was written last. -/
theorem setF_whole {m : Nat} {sync l : List (Nat × ByteArray)} (hs : ∀ x ∈ sync, x.2.size = 64) (hl : ∀ x ∈ l, x.2.size = 64) : ∀ k, k ≤ l.length → setF l 64 (lastS sync) k = lastS (sync ++ l.take k)
  | 0, _ => by simp [setF]
  | k + 1, hk => by
    have hx := List.getElem?_eq_getElem (show k < l.length by omega)
    rw [setF_next hx, setF_whole (m := m) hs hl k (by omega), List.take_add_one, hx, Option.toList_some, ← List.append_assoc, lastS_upd]
    congr 1
    rw [ite_self, tornB_64 (hl _ (List.getElem_mem (show k < l.length by omega)))]
    exact lastS_size (fun w hw => by
      rcases List.mem_append.1 hw with hw | hw
      · exact hs w hw
      · exact hl w (List.mem_of_mem_take hw)) _
theorem apart_foot {w w' : World} {B b1 b2 : Nat} {v : Value} (h : Apart (fun j => j = B ∨ j = b1 ∨ j = b2) w w') : Apart (FootOf B b1 b2 v) w w' := h.wide (fun j hj => by
  rcases hj with e | e | e
  · exact .inl e
  · exact .inr (.inl e)
  · exact .inr (.inr (.inl e)))
set_option maxRecDepth 100000 in
set_option maxHeartbeats 1000000 in
theorem dsync_any {w : World} {d : Value} {s : DS} {F : Nat → Prop} (h : RepD w d s F) (hW : Whole s) (hF : Few s) :
    Calls Try.prog 17 #[d] w fun r w' => r = .returned (.int .i64 (syncS s).2) ∧ Goes RepD d (syncS s).1 F w w' := by
  obtain ⟨B, b1, b2, v, rfl, h, rfl⟩ := h
  have hm := hW.many.1
  go_enter Try.func17, Try.ntmps17
  go_wp2_with fail
  refine (halted_any _ _).mono ?_
  rintro e wa ⟨rfl, Ba⟩
  go_wp2_with fail
  refine (refuse1 (q1 := qHalted B s) (h.below Ba) hm (qHalted_ok (h.below Ba) hm)).mono ?_
  rintro e wb ⟨rfl, Bb⟩
  rw [ref_sync]
  have hC := kbP Ba Bb
  have hD := h.below hC
  by_cases h0 : s.left = 0
  · have e : syncS s = (s, 140) := by unfold syncS; rw [if_pos h0]
    rw [e]
    go_wp2_with fail
    go_ret
    rw [e]
    exact ⟨rfl, goes_at hD (fun j hj => .inl hj) (Below.apart hC _)⟩
  · have e : syncS s = (⟨s.many, s.sync ++ s.loose, [], doneL s.left⟩, 0) := by unfold syncS; rw [if_neg h0]
    rw [e]
    have HE := Lib.hid e
    clear e
    obtain ⟨q, c, rfl⟩ : ∃ q c, v = .slice q s.loose.length c := by
      rcases h.row.2 with ⟨e, h0⟩ | ⟨g, cap', cur, e, -⟩
      · exact ⟨none, 0, by rw [e, h0]⟩
      · exact ⟨_, _, e⟩
    obtain ⟨-, -, -, c3, -, -⟩ := hD.cell
    have ST : Hid (Calls Try.prog 45 #[.pointer (some ⟨B, 0, none⟩), .slice q s.loose.length c, .int .i64 64] wb fun r w' => r = .returned (.tuple #[]) ∧ DiskAt w' B b1 b2 (.slice none 0 0) ⟨s.many, s.sync ++ s.loose, [], s.left⟩ ∧ Apart (fun j => j = B ∨ j = b1 ∨ j = b2) wb w') := Lib.hid (settle_any hD hW hF hD.row hW.loose (by have := hF.2; omega) 64 (Nat.le_refl _) (s.sync ++ s.loose) (fun k hk => by
      rw [setF_whole (m := s.many) (fun x hx => (hW.sync x hx).2) (fun x hx => (hW.loose x hx).2) _ (Nat.le_refl _), List.take_length]) (fun x hx => ⟨x, hx, rfl⟩))
    have HL := Lib.hid hW.left
    clear hW hF
    go_wp2_with (first
      | (go_at_call 45; (with_reducible refine ST.out.mono ?_); rintro e wc ⟨rfl, Dc, Ac⟩)
      | (go_at_call 44; refine (count_any Dc h0 HL.out).mono ?_; rintro e wd ⟨rfl, Dd, Ad⟩))
    go_ret
    rw [HE.out]
    exact ⟨rfl, goes_at Dd (fun j hj => by cases hj) (apart_foot (((Below.apart hC _).trans Ac (fun j hj => .inl hj)).trans Ad (fun j hj => .inl (.inl hj))))⟩
end Go.Proofs.Ythbnochlpnikaaa
