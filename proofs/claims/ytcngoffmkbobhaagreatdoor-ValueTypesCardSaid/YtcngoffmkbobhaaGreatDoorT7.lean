import Derived.Test.YtcngoffmkbobhaaGreatDoorT6
import Derived.Test.YtcngoffmkbobhaaGreatDoorP
namespace Go.Proofs.YtcngoffmkbobhaaGreatDoor
open Go.RowKit

theorem get_at (s : ByteArray) (k : Nat) (h : k < s.size) : s.get! k = s.data.toList[k]'(by simpa using h) := by
  have h2 : k < s.data.size := h
  simp only [ByteArray.get!, Array.getElem_toList]
  exact getElem!_pos s.data k h2

/-- One letter more is read: what is left to be asked of the rest. -/
theorem qs_step (s : ByteArray) (pos : Nat) (h : pos < s.size) (o : Bool) :
    let r := (Utf8.decode s pos).1
    let n := (Utf8.decode s pos).2
    1 ≤ n ∧ pos + n ≤ s.size ∧ (r = 39 → qs (s.data.toList.drop pos) o = qs (s.data.toList.drop (pos + n)) (!o)) ∧ (r ≠ 39 → o = true → qs (s.data.toList.drop pos) o = false) ∧ (r ≠ 39 → o = false → qs (s.data.toList.drop pos) o = qs (s.data.toList.drop (pos + n)) false) := by
  have hl : pos < s.data.toList.length := by simpa using h
  have hd : s.data.toList.drop pos = s.data.toList[pos] :: s.data.toList.drop (pos + 1) := List.drop_eq_getElem_cons hl
  have hg := get_at s pos h
  have hs : s[pos]'h = s.data.toList[pos] := rfl
  by_cases ha : (s[pos]'h).toNat < 128
  · rw [decode_ascii s pos h ha]
    refine ⟨Nat.le_refl _, by omega, fun h39 => ?_, fun hne ho => ?_, fun hne ho => ?_⟩
    · have hc : s.data.toList[pos] = 39 := by rw [← hs]; exact UInt8.toNat_inj.1 h39
      rw [hd, hc]
      cases o
      · exact qs_false_quote _
      · exact qs_true_quote _
    · subst ho
      rw [hd, qs_true_high _ _ (fun e => hne (by rw [hs, e]; rfl))]
    · subst ho
      rw [hd, qs_false_other _ _ (fun e => hne (by rw [hs, e]; rfl))]
  · have ht := dec_tail s pos h (by rw [hg, ← hs]; omega)
    obtain ⟨hr, hn⟩ := decode_high s pos h (by omega)
    have hlast := (ht ((Utf8.decode s pos).2 - 1) (by omega)).1
    refine ⟨hn, by omega, fun h39 => by omega, fun _ ho => ?_, fun _ ho => ?_⟩
    · subst ho
      rw [hd, qs_true_high _ _ (fun e => ha (by rw [hs, e]; decide))]
    · subst ho
      rw [qs_skip (Utf8.decode s pos).2 (s.data.toList.drop pos) (by simp; omega) (fun k hk => ?_), List.drop_drop]
      obtain ⟨h1, h2⟩ := ht k hk
      rw [get_at s _ h1] at h2
      intro e
      rw [List.getD_eq_getElem?_getD, List.getElem?_drop, List.getElem?_eq_getElem (by simpa using h1)] at e
      simp only [Option.getD_some] at e
      rw [e] at h2
      simp at h2

set_option maxRecDepth 100000 in
set_option maxHeartbeats 1000000 in
theorem quoted_ok (s : ByteArray) (w : World) (hw : Base w) (hs : s.size ≤ 1000000) (hc : Hid (qs s.data.toList false = true)) :
    Calls Tryz.prog 67 #[.string s] w fun r w' => r = .returned (.string ⟨(Lib.replaceAll s.data.toList [39, 39] [39]).toArray⟩) ∧ Below w.heap.size w w' := by
  obtain ⟨m, hm⟩ := hw.mx
  have hcb : s.size + Lib.countB s ⟨#[39, 39]⟩ * (⟨#[39]⟩ : ByteArray).size ≤ 140737488355328 := by
    have := Lib.countB_le ⟨#[39, 39]⟩ (by decide) s.size s (Nat.le_refl _)
    have e : (⟨#[39]⟩ : ByteArray).size = 1 := rfl
    rw [e]
    omega
  go_enter Tryz.func67, Tryz.ntmps67
  go_wp2
  go_loopw [3] (fun v wr => ∃ (pos : Nat) (o : Bool), pos ≤ s.size ∧ v = .bool o ∧ wr = w.iter s pos ∧ Hid (qs (s.data.toList.drop pos) o = true)) (fun _ wr => s.size - wr.iterPos w.heap.size)
  case atStart => exact ⟨0, false, Nat.zero_le _, rfl, rfl, hc⟩
  case round =>
    obtain ⟨pos, o, hps, rfl, rfl, HQ⟩ := hrel
    by_cases hp : pos < s.size
    · obtain ⟨hn, hle, hq1, hq2, hq3⟩ := qs_step s pos hp o
      have hnext : ∀ ty, (Instr.next (.pointer (some ⟨w.heap.size, 0, none⟩)) true ty).run Tryz.prog (w.iter s pos) = _ := fun ty => run_next_any w s pos ty hp
      generalize (Utf8.decode s pos).1 = r at *
      generalize (Utf8.decode s pos).2 = n at *
      by_cases h39 : r = 39
      · subst h39
        have HE := Lib.hid (hq1 rfl)
        clear hq1 hq2 hq3
        cases o
        all_goals
          go_wp2_with (go_at_call 82; refine (need_ok _ _ (by first | rfl | assumption | (simp; omega)) _).mono ?_; rintro e w' ⟨rfl, rfl⟩)
          go_roundw
          case rel => exact ⟨pos + n, _, hle, rfl, rfl, Lib.hid (HE.out.symm.trans HQ.out)⟩
          case measure => simp only [World.iterPos_iter]; omega
      · have h39' : ((r : Int) == 39) = false := by simp; omega
        cases o
        · have HE := Lib.hid (hq3 h39 rfl)
          clear hq1 hq2 hq3
          go_wp2_with (go_at_call 82; refine (need_ok _ _ (by first | rfl | assumption | (simp; omega)) _).mono ?_; rintro e w' ⟨rfl, rfl⟩)
          go_roundw
          case rel => exact ⟨pos + n, _, hle, rfl, rfl, Lib.hid (HE.out.symm.trans HQ.out)⟩
          case measure => simp only [World.iterPos_iter]; omega
        · have HE := Lib.hid (hq2 h39 rfl)
          clear hq1 hq2 hq3
          exact absurd HQ.out (by rw [HE.out]; simp)
    · have hnext : ∀ ty, (Instr.next (.pointer (some ⟨w.heap.size, 0, none⟩)) true ty).run Tryz.prog (w.iter s pos) = _ := fun ty => run_next_end w s pos ty hp
      have he := HQ.out
      rw [List.drop_eq_nil_of_le (by simp; omega)] at he
      have ho : o = false := by simpa [qs] using he
      clear he
      subst ho
      have hm' : (w.iter s pos).cell? ⟨1, 0, none⟩ = some (.int .i64 m) := cell_later ((Below.refl w.heap.size w).alloc (Nat.le_refl _) _) hm
      go_wp2_with (first | (go_at_call 82; refine (need_ok _ _ (by first | rfl | assumption | (simp; omega)) _).mono ?_; rintro e w' ⟨rfl, rfl⟩) | (go_at_call 49; refine (Tryz.strings_ReplaceAll _ _ _ m _ (by omega) hm' (by decide) (by exact hcb)).mono ?_; rintro e w' ⟨rfl, hb⟩))
      go_ret
      exact ⟨rfl, ((Below.refl _ _).alloc (Nat.le_refl _) _).trans (hb.mono (by simp [World.iter]))⟩

set_option maxRecDepth 100000 in
set_option maxHeartbeats 1000000 in
theorem quoted_no (s : ByteArray) (w : World) (hs : s.size ≤ 1000000) (hc : Hid (qs s.data.toList false = false)) :
    Calls Tryz.prog 67 #[.string s] w fun r w' => r = gaveUp 110 ∧ Below w.heap.size w w' := by
  go_enter Tryz.func67, Tryz.ntmps67
  go_wp2
  go_loopw [3] (fun v wr => ∃ (pos : Nat) (o : Bool), pos ≤ s.size ∧ v = .bool o ∧ wr = w.iter s pos ∧ Hid (qs (s.data.toList.drop pos) o = false)) (fun _ wr => s.size - wr.iterPos w.heap.size)
  case atStart => exact ⟨0, false, Nat.zero_le _, rfl, rfl, hc⟩
  case round =>
    obtain ⟨pos, o, hps, rfl, rfl, HQ⟩ := hrel
    by_cases hp : pos < s.size
    · obtain ⟨hn, hle, hq1, hq2, hq3⟩ := qs_step s pos hp o
      have hnext : ∀ ty, (Instr.next (.pointer (some ⟨w.heap.size, 0, none⟩)) true ty).run Tryz.prog (w.iter s pos) = _ := fun ty => run_next_any w s pos ty hp
      generalize (Utf8.decode s pos).1 = r at *
      generalize (Utf8.decode s pos).2 = n at *
      by_cases h39 : r = 39
      · subst h39
        have HE := Lib.hid (hq1 rfl)
        clear hq1 hq2 hq3
        cases o
        all_goals
          go_wp2_with (go_at_call 82; refine (need_ok _ _ (by first | rfl | assumption | (simp; omega)) _).mono ?_; rintro e w' ⟨rfl, rfl⟩)
          go_roundw
          case rel => exact ⟨pos + n, _, hle, rfl, rfl, Lib.hid (HE.out.symm.trans HQ.out)⟩
          case measure => simp only [World.iterPos_iter]; omega
      · have h39' : ((r : Int) == 39) = false := by simp; omega
        cases o
        · have HE := Lib.hid (hq3 h39 rfl)
          clear hq1 hq2 hq3
          go_wp2_with (go_at_call 82; refine (need_ok _ _ (by first | rfl | assumption | (simp; omega)) _).mono ?_; rintro e w' ⟨rfl, rfl⟩)
          go_roundw
          case rel => exact ⟨pos + n, _, hle, rfl, rfl, Lib.hid (HE.out.symm.trans HQ.out)⟩
          case measure => simp only [World.iterPos_iter]; omega
        · have HE := Lib.hid (hq2 h39 rfl)
          clear hq1 hq2 hq3
          go_wp2_with (go_at_call 82; refine (need_no _ _ (by first | rfl | assumption | (simp; omega)) _).mono ?_; rintro e w' ⟨rfl, rfl⟩)
          exact ⟨rfl, rfl, (Below.refl _ _).alloc (Nat.le_refl _) _⟩
    · have hnext : ∀ ty, (Instr.next (.pointer (some ⟨w.heap.size, 0, none⟩)) true ty).run Tryz.prog (w.iter s pos) = _ := fun ty => run_next_end w s pos ty hp
      have he := HQ.out
      rw [List.drop_eq_nil_of_le (by simp; omega)] at he
      have ho : o = true := by simpa [qs] using he
      clear he
      subst ho
      go_wp2_with (go_at_call 82; refine (need_no _ _ (by first | rfl | assumption | (simp; omega)) _).mono ?_; rintro e w' ⟨rfl, rfl⟩)
      exact ⟨rfl, rfl, (Below.refl _ _).alloc (Nat.le_refl _) _⟩
end Go.Proofs.YtcngoffmkbobhaaGreatDoor
