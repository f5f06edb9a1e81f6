/- What a question asks of a list: which writes a crash keeps. -/
import Derived.Test.YthbnochlpnikaaaK17
namespace Go.Proofs.Ythbnochlpnikaaa
open Go.RowKit Go.Shelf

set_option maxRecDepth 100000 in
set_option maxHeartbeats 400000 in
theorem crash1_any {A k : Nat} {p : Option Addr} {keep : List Bool} {c : Nat} {w : World} (h : w.cell? ⟨A, 0, none⟩ = some (.slice p keep.length c)) (hk : Hid (BoolsAt w p keep)) (hkl : keep.length ≤ 9223372036854775807) :
    Calls Try.prog 49 #[.int .i64 k, .pointer (some ⟨A, 0, none⟩)] w fun r w' => r = .returned (.bool (keep.getD k false)) ∧ w = w' := by
  by_cases hlt : k < keep.length
  · have hd : decide ((k : Int) < keep.length) = true := decide_eq_true (by omega)
    obtain ⟨b, hb⟩ : ∃ b, keep[k]? = some b := ⟨_, List.getElem?_eq_getElem hlt⟩
    obtain ⟨B, off, rfl, hc⟩ := hk.out k b hb
    have e : keep.getD k false = b := by rw [List.getD_eq_getElem?_getD, hb]; rfl
    rw [e]
    clear e hb
    go_enter Try.func49, Try.ntmps49
    go_wp2
    all_goals first
      | (go_ret; exact ⟨rfl, rfl⟩)
      | skip
  · have hd : decide ((k : Int) < keep.length) = false := decide_eq_false (by omega)
    have e : keep.getD k false = false := by rw [List.getD_eq_getElem?_getD, List.getElem?_eq_none (by omega)]; rfl
    rw [e]
    clear e
    go_enter Try.func49, Try.ntmps49
    go_wp2
    all_goals first
      | (go_ret; exact ⟨rfl, rfl⟩)
      | skip
end Go.Proofs.Ythbnochlpnikaaa
