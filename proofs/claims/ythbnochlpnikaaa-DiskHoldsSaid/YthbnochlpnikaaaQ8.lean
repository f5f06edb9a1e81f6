/- The document's Sync. -/
import Derived.Test.YthbnochlpnikaaaQ7
import Derived.Deep.RegionLaw
namespace Go.Proofs.Ythbnochlpnikaaa
open Go.RowKit Go.Shelf

/-- A block of four words that may be written. -/
structure BoxAt (w : World) (A : Nat) (a b c d : Value) : Prop where
  x0 : w.cell? ⟨A, 0, none⟩ = some a
  x1 : w.cell? ⟨A, 1, none⟩ = some b
  x2 : w.cell? ⟨A, 2, none⟩ = some c
  x3 : w.cell? ⟨A, 3, none⟩ = some d
  f0 : w.frozen? ⟨A, 0, none⟩ = false
  f1 : w.frozen? ⟨A, 1, none⟩ = false
  f2 : w.frozen? ⟨A, 2, none⟩ = false
  f3 : w.frozen? ⟨A, 3, none⟩ = false
theorem BoxAt.lt {w : World} {A : Nat} {a b c d : Value} (h : BoxAt w A a b c d) : A < w.heap.size := lt_of_cell_some h.x0
theorem BoxAt.below {w w' : World} {A : Nat} {a b c d : Value} (h : BoxAt w A a b c d) (hb : Below w.heap.size w w') : BoxAt w' A a b c d :=
  have l := h.lt
  ⟨(hb.cell (p := ⟨A, 0, none⟩) l).trans h.x0, (hb.cell (p := ⟨A, 1, none⟩) l).trans h.x1, (hb.cell (p := ⟨A, 2, none⟩) l).trans h.x2, (hb.cell (p := ⟨A, 3, none⟩) l).trans h.x3,
    (hb.frozen (p := ⟨A, 0, none⟩) l).trans h.f0, (hb.frozen (p := ⟨A, 1, none⟩) l).trans h.f1, (hb.frozen (p := ⟨A, 2, none⟩) l).trans h.f2, (hb.frozen (p := ⟨A, 3, none⟩) l).trans h.f3⟩
theorem BoxAt.new (w : World) (a b c d : Value) (t : TypeId) : BoxAt (w.alloc (.cells #[a, b, c, d] t)) w.heap.size a b c d :=
  ⟨by go_cell, by go_cell, by go_cell, by go_cell, by go_cell, by go_cell, by go_cell, by go_cell⟩
theorem syncS_stop {s : DS} (h : s.left = 0) : syncS s = (s, 140) := by unfold syncS; rw [if_pos h]
theorem syncS_ok {s : DS} (h : ¬ s.left = 0) : syncS s = (⟨s.many, s.sync ++ s.loose, [], doneL s.left⟩, 0) := by unfold syncS; rw [if_neg h]
theorem WritesAt.set {w : World} {p : Option Addr} {l : List (Nat × ByteArray)} (h : WritesAt w p l) {g : Nat} (hg : ∀ B off, p = some ⟨B, off, none⟩ → B ≠ g) (i : Nat) (v : Value) : WritesAt (w.setCell ⟨g, i, none⟩ v) p l := fun j x hx => by
  obtain ⟨B, off, e, c1, c2⟩ := h j x hx
  have hb := hg B off e
  refine ⟨B, off, e, ?_, ?_⟩
  · exact (World.cell?_setCell_other _ _ _ _ (by simp <;> omega)).trans c1
  · exact (World.cell?_setCell_other _ _ _ _ (by simp <;> omega)).trans c2
set_option maxRecDepth 100000 in
set_option maxHeartbeats 1000000 in
theorem refSync_any (s : DS) (p : Option Addr) (c : Nat) (q : Option Addr) (d : Nat) (w : World) (hf : Few s) (hl : -1 ≤ s.left ∧ s.left ≤ 9223372036854775807) (R : Hid (RefAt w s p c q d)) :
    Calls Try.prog 24 #[refV s p c q d] w (RefPost w p q (syncS s)) := by
  obtain ⟨hf1, hf2⟩ := hf
  by_cases h : s.left = 0
  · rw [syncS_stop h]
    have hz : (s.left == 0) = true := by rw [h]; rfl
    clear h
    unfold refV
    go_enter Try.func24, Try.ntmps24
    go_wp2
    refine bodyPost_ret (v := .tuple #[refV s p c q d, .int .i64 140]) ?_ rfl ⟨p, c, q, d, rfl, R.out.below ?_, .left, .right, ?_⟩
    · simp [results, Try.results24, go_sem, refV]
    · go_grown
    · go_grown
  · rw [syncS_ok h]
    have hz : (s.left == 0) = false := by simpa using h
    clear h
    unfold refV
    have D : Hid (∀ (p : Option Addr) (n c : Nat) w, Calls Try.prog 51 #[.agg #[.int .i64 s.many, .slice p n c, .slice none 0 0, .int .i64 s.left]] w fun r w' => r = .returned (.agg #[.int .i64 s.many, .slice p n c, .slice none 0 0, .int .i64 (doneL s.left)]) ∧ Below w.heap.size w w') := Lib.hid fun p n c w => refDone_any s.many p n c none 0 0 s.left hl w
    clear hl
    generalize hW0 : (w.alloc (.cells #[.int .i64 s.many, .slice p s.sync.length c, .slice q s.loose.length d, .int .i64 s.left] 35)).alloc (.cells #[.int .i64 0, .slice none 0 0, .slice none 0 0, .int .i64 0] 35) = w0
    have B0 : Below w.heap.size w w0.drew := by subst hW0; exact (((Below.refl _ _).alloc (Nat.le_refl _) _).alloc (by simp) _).drew
    have BA : BoxAt w0 w.heap.size (.int .i64 s.many) (.slice p s.sync.length c) (.slice q s.loose.length d) (.int .i64 s.left) := by
      subst hW0
      exact (BoxAt.new w _ _ _ _ _).below ((Below.refl _ _).alloc (Nat.le_refl _) _)
    have BR : BoxAt w0 (w.heap.size + 1) (.int .i64 0) (.slice none 0 0) (.slice none 0 0) (.int .i64 0) := by
      subst hW0
      have e : (w.alloc (.cells #[.int .i64 s.many, .slice p s.sync.length c, .slice q s.loose.length d, .int .i64 s.left] 35)).heap.size = w.heap.size + 1 := by simp
      have := BoxAt.new (w.alloc (.cells #[.int .i64 s.many, .slice p s.sync.length c, .slice q s.loose.length d, .int .i64 s.left] 35)) (.int .i64 0) (.slice none 0 0) (.slice none 0 0) (.int .i64 0) 35
      rw [e] at this
      exact this
    have hsz : w.heap.size + 1 < w0.heap.size := by subst hW0; simp
    have RS := Lib.hid (R.out.sync.below B0)
    have RL := Lib.hid (R.out.loose.below B0)
    have hq1 := Lib.hid R.out.pc
    have hq2 := Lib.hid R.out.qd
    have RowE : Hid (RowW w0.drew [] (.slice (some ⟨w0.heap.size, 0, none⟩) 0 0) (w0.alloc (.cells #[] 80)).drew) := Lib.hid (RowW.empty w0.drew)
    have KA : Hid (∀ w', Below w0.drew.heap.size w0.drew w' → BoxAt w' w.heap.size (.int .i64 s.many) (.slice p s.sync.length c) (.slice q s.loose.length d) (.int .i64 s.left)) := Lib.hid fun w' h => (BA.below (w' := w0.drew) (Below.refl _ _).drew).below h
    have KR : Hid (∀ w', Below w0.drew.heap.size w0.drew w' → BoxAt w' (w.heap.size + 1) (.int .i64 0) (.slice none 0 0) (.slice none 0 0) (.int .i64 0)) := Lib.hid fun w' h => (BR.below (w' := w0.drew) (Below.refl _ _).drew).below h
    obtain ⟨x0, x1, x2, x3, f0, f1, f2, f3⟩ := BA
    have z1 : (w0.alloc (.cells #[] 80)).cell? ⟨w.heap.size, 1, none⟩ = some (.slice p s.sync.length c) := (KA.out _ RowE.out.2).x1
    have z2 : (w0.alloc (.cells #[] 80)).cell? ⟨w.heap.size, 2, none⟩ = some (.slice q s.loose.length d) := (KA.out _ RowE.out.2).x2
    clear BR
    have HB0 := Lib.hid B0
    clear B0
    have HN : Hid (([] ++ s.sync ++ s.loose).length = s.sync.length + s.loose.length) := Lib.hid (by simp)
    go_enter Try.func24, Try.ntmps24
    go_wp2
    clear hW0
    go_region_law ((first
      | (refine step_append_writes rfl (.tmp 8) (.tmp 10) rfl rfl RowE.out rfl hq1.out (RS.out.below RowE.out.2) (by simp; omega) ?_; intro v1 w1 hR1; obtain ⟨x0, x1, x2, x3, f0, f1, f2, f3⟩ := KA.out _ hR1.2; have RowB1 := Lib.hid hR1; clear hR1)
      | (refine step_append_writes rfl (.tmp 11) (.tmp 13) rfl rfl RowB1.out rfl hq2.out (RL.out.below RowB1.out.2) (by simp; omega) ?_; intro v2 w2 hR2; obtain ⟨x0, x1, x2, x3, f0, f1, f2, f3⟩ := KA.out _ hR2.2; obtain ⟨y0, y1, y2, y3, g0, g1, g2, g3⟩ := KR.out _ hR2.2; have HBx := Lib.hid hR2.2; obtain ⟨p2, c2, rfl, hl2, hm2, hw2, hn2, hge⟩ := hR2.at'; rw [HN.out]; rw [HN.out] at hl2; have Y4 : Hid (BoxAt ((w2.setCell ⟨w.heap.size, 1, none⟩ (.slice p2 (s.sync.length + s.loose.length) c2)).setCell ⟨w.heap.size, 2, none⟩ (.slice none 0 0)) (w.heap.size + 1) (.int .i64 0) (.slice none 0 0) (.slice none 0 0) (.int .i64 0)) := Lib.hid ⟨by go_cell, by go_cell, by go_cell, by go_cell, by go_cell, by go_cell, by go_cell, by go_cell⟩; have HG2 : Hid (∀ B off, p2 = some ⟨B, off, none⟩ → B ≠ w.heap.size ∧ B ≠ w.heap.size + 1 ∧ w.heap.size ≤ B) := Lib.hid (fun B off e => by have := hge B off e; simp at this; omega); have HW4 : Hid (WritesAt ((w2.setCell ⟨w.heap.size, 1, none⟩ (.slice p2 (s.sync.length + s.loose.length) c2)).setCell ⟨w.heap.size, 2, none⟩ (.slice none 0 0)) p2 (s.sync ++ s.loose)) := Lib.hid ((WritesAt.set hw2 (fun B off e => (HG2.out B off e).1) _ _).set (fun B off e => (HG2.out B off e).1) _ _); have HB4 : Hid (Below w.heap.size w ((w2.setCell ⟨w.heap.size, 1, none⟩ (.slice p2 (s.sync.length + s.loose.length) c2)).setCell ⟨w.heap.size, 2, none⟩ (.slice none 0 0))) := Lib.hid (((below_any HB0.out HBx.out).setCell (Nat.le_refl _) _).setCell (Nat.le_refl _) _); clear hw2 hge hR2)))
    all_goals (
      go_wp2_with (go_at_call 51; (with_reducible refine (D.out _ _ _ _).mono ?_); rintro e w3 ⟨rfl, hb3⟩; obtain ⟨y0, y1, y2, y3, g0, g1, g2, g3⟩ := Y4.out.below hb3; have HW5 := Lib.hid (HW4.out.below hb3); have HB5 := Lib.hid (below_any HB4.out hb3); clear hb3)
      refine bodyPost_ret (v := .tuple #[.agg #[.int .i64 s.many, .slice p2 (s.sync.length + s.loose.length) c2, .slice none 0 0, .int .i64 (doneL s.left)], .int .i64 0]) ?_ rfl ⟨p2, c2, none, 0, ?_, ?_, fun B off e => .inr (.inr (HG2.out B off e).2.2), .none, ?_⟩
      focus simp [results, Try.results24, go_sem, y0, y1, y2, y3]
      focus (unfold refV; simp)
      focus exact ⟨hn2, fun _ => rfl, by unfold maxLen at hm2; simp only [List.length_append]; omega, by simp, (((HW5.out.set (fun B off e => (HG2.out B off e).2.1) _ _).set (fun B off e => (HG2.out B off e).2.1) _ _).set (fun B off e => (HG2.out B off e).2.1) _ _).set (fun B off e => (HG2.out B off e).2.1) _ _, WritesAt.nil _ _⟩
      focus exact (((HB5.out.setCell (by simp) _).setCell (by simp) _).setCell (by simp) _).setCell (by simp) _)
end Go.Proofs.Ythbnochlpnikaaa
