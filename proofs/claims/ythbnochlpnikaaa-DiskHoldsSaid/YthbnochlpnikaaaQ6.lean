/- The document's New, done, Stop, Read. -/
import Derived.Test.YthbnochlpnikaaaQ5
namespace Go.Proofs.Ythbnochlpnikaaa
open Go.RowKit Go.Shelf

theorem refAt_new (w : World) (n : Nat) : RefAt w (newS n) none 0 none 0 := ⟨fun _ => rfl, fun _ => rfl, ⟨Nat.le_refl _, by omega⟩, ⟨Nat.le_refl _, by omega⟩, WritesAt.nil _ _, WritesAt.nil _ _⟩
set_option maxRecDepth 100000 in
theorem refNew_any (n : Nat) (w : World) :
    Calls Try.prog 8 #[.int .i64 n] w fun r w' => r = .returned (refV (newS n) none 0 none 0) ∧ Below w.heap.size w w' := by
  go_enter Try.func8, Try.ntmps8
  go_wp2
  refine bodyPost_ret (v := refV (newS n) none 0 none 0) ?_ rfl ⟨rfl, ?_⟩
  · simp [results, Try.results8, go_sem, refV, newS]
  · go_grown
set_option maxRecDepth 100000 in
theorem refDone_any (m : Nat) (p : Option Addr) (n c : Nat) (q : Option Addr) (o d : Nat) (left : Int) (hl : -1 ≤ left ∧ left ≤ 9223372036854775807) (w : World) :
    Calls Try.prog 51 #[.agg #[.int .i64 m, .slice p n c, .slice q o d, .int .i64 left]] w fun r w' => r = .returned (.agg #[.int .i64 m, .slice p n c, .slice q o d, .int .i64 (doneL left)]) ∧ Below w.heap.size w w' := by
  by_cases h : 0 < left
  · have e : doneL left = left - 1 := by unfold doneL; rw [if_pos h]
    rw [e]
    clear e
    go_enter Try.func51, Try.ntmps51
    go_wp2
    refine bodyPost_ret (v := .agg #[.int .i64 m, .slice p n c, .slice q o d, .int .i64 (left - 1)]) ?_ rfl ⟨rfl, ?_⟩
    · simp [results, Try.results51, go_sem]
    · go_grown
  · have e : doneL left = left := by unfold doneL; rw [if_neg h]
    rw [e]
    clear e
    go_enter Try.func51, Try.ntmps51
    go_wp2
    refine bodyPost_ret (v := .agg #[.int .i64 m, .slice p n c, .slice q o d, .int .i64 left]) ?_ rfl ⟨rfl, ?_⟩
    · simp [results, Try.results51, go_sem]
    · go_grown
/-- A list of writes lies where one of two lay, or in new memory. -/
def From (w : World) (p q p' : Option Addr) : Prop := ∀ B off, p' = some ⟨B, off, none⟩ → p = some ⟨B, off, none⟩ ∨ q = some ⟨B, off, none⟩ ∨ w.heap.size ≤ B
theorem From.left {w : World} {p q : Option Addr} : From w p q p := fun _ _ h => .inl h
theorem From.right {w : World} {p q : Option Addr} : From w p q q := fun _ _ h => .inr (.inl h)
theorem From.none {w : World} {p q : Option Addr} : From w p q none := fun _ _ h => by cases h
/-- What an answer of a disk and an error says. -/
def RefPost (w : World) (p q : Option Addr) (s : DS × Int) (r : Ending) (w' : World) : Prop := ∃ p' c' q' d', r = .returned (.tuple #[refV s.1 p' c' q' d', .int .i64 s.2]) ∧ RefAt w' s.1 p' c' q' d' ∧ From w p q p' ∧ From w p q q' ∧ Below w.heap.size w w'
theorem refAt_same {w : World} {s t : DS} {p : Option Addr} {c : Nat} {q : Option Addr} {d : Nat} (h : RefAt w s p c q d) (h1 : t.sync = s.sync) (h2 : t.loose = s.loose) : RefAt w t p c q d :=
  ⟨h.pc, h.qd, by rw [h1]; exact h.cl, by rw [h2]; exact h.dl, by rw [h1]; exact h.sync, by rw [h2]; exact h.loose⟩
theorem stopS_neg {s : DS} {n : Int} (h : n < 0) : stopS s n = (s, 2) := by unfold stopS; rw [if_pos h]
theorem stopS_pos {s : DS} {n : Int} (h : ¬ n < 0) : stopS s n = (⟨s.many, s.sync, s.loose, n⟩, 0) := by unfold stopS; rw [if_neg h]
set_option maxRecDepth 100000 in
theorem refStop_any (s : DS) (p : Option Addr) (c : Nat) (q : Option Addr) (d : Nat) (n : Int) (w : World) (R : Hid (RefAt w s p c q d)) :
    Calls Try.prog 25 #[refV s p c q d, .int .i64 n] w (RefPost w p q (stopS s n)) := by
  by_cases h : n < 0
  · rw [stopS_neg h]
    unfold refV
    go_enter Try.func25, Try.ntmps25
    go_wp2
    refine bodyPost_ret (v := .tuple #[refV s p c q d, .int .i64 2]) ?_ rfl ⟨p, c, q, d, rfl, R.out.below ?_, .left, .right, ?_⟩
    · simp [results, Try.results25, go_sem, refV]
    · go_grown
    · go_grown
  · rw [stopS_pos h]
    unfold refV
    go_enter Try.func25, Try.ntmps25
    go_wp2
    refine bodyPost_ret (v := .tuple #[refV ⟨s.many, s.sync, s.loose, n⟩ p c q d, .int .i64 0]) ?_ rfl ⟨p, c, q, d, rfl, refAt_same (R.out.below ?_) rfl rfl, .left, .right, ?_⟩
    · simp [results, Try.results25, go_sem, refV]
    · go_grown
    · go_grown
end Go.Proofs.Ythbnochlpnikaaa
