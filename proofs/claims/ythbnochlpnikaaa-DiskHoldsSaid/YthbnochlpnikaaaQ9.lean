/- The document's Write. -/
import Derived.Test.YthbnochlpnikaaaQ8
namespace Go.Proofs.Ythbnochlpnikaaa
open Go.RowKit Go.Shelf

theorem writeS_arg {s : DS} {k : Int} {b : ByteArray} (h : b.size ≠ 64) : writeS s k b = (s, 2) := by unfold writeS; rw [if_pos h]
theorem writeS_low {s : DS} {k : Int} {b : ByteArray} (h : b.size = 64) (h1 : k < 0) : writeS s k b = (s, 4) := by unfold writeS; rw [if_neg (by omega), if_pos (.inl h1)]
theorem writeS_high {s : DS} {k : Int} {b : ByteArray} (h : b.size = 64) (h1 : (s.many : Int) ≤ k) : writeS s k b = (s, 4) := by unfold writeS; rw [if_neg (by omega), if_pos (.inr h1)]
theorem writeS_stop {s : DS} {k : Int} {b : ByteArray} (h : b.size = 64) (h0 : ¬ k < 0) (h1 : ¬ (s.many : Int) ≤ k) (h2 : s.left = 0) : writeS s k b = (s, 140) := by unfold writeS; rw [if_neg (by omega), if_neg (by omega), if_pos h2]
theorem writeS_ok {s : DS} {k : Nat} {b : ByteArray} (h : b.size = 64) (h1 : ¬ s.many ≤ k) (h2 : ¬ s.left = 0) : writeS s k b = (⟨s.many, s.sync, s.loose ++ [(k, b)], doneL s.left⟩, 0) := by
  unfold writeS; rw [if_neg (by omega), if_neg (by omega), if_neg h2]; rfl
theorem writesAt_one (w : World) (k : Nat) (b : ByteArray) (t : TypeId) : WritesAt (w.alloc (.cells #[.int .i64 k, .string b] t)) (some ⟨w.heap.size, 0, none⟩) [(k, b)] := fun i x hx => by
  cases i with
  | zero => simp at hx; subst hx; exact ⟨w.heap.size, 0, rfl, by go_cell, by go_cell⟩
  | succ i => simp at hx
set_option maxRecDepth 100000 in
set_option maxHeartbeats 1000000 in
theorem refWrite_any (s : DS) (p : Option Addr) (c : Nat) (q : Option Addr) (d : Nat) (k : Int) (b : ByteArray) (w : World) (hb : b.size ≤ 100000) (hf : Few s) (hl : -1 ≤ s.left ∧ s.left ≤ 9223372036854775807) (R : Hid (RefAt w s p c q d)) :
    Calls Try.prog 23 #[refV s p c q d, .int .i64 k, .string b] w (RefPost w p q (writeS s k b)) := by
  obtain ⟨hf1, hf2⟩ := hf
  have fin : ∀ (e : Int) (w' : World), Below w.heap.size w w' → RefPost w p q (s, e) (.returned (.tuple #[refV s p c q d, .int .i64 e])) w' := fun e w' hb => ⟨p, c, q, d, rfl, R.out.below hb, .left, .right, hb⟩
  by_cases h : b.size = 64
  case neg =>
    rw [writeS_arg h]
    have hz : ((b.size : Int) != 64) = true := by simp; omega
    clear h
    unfold refV at fin ⊢
    have FIN := Lib.hid fin
    clear fin
    go_enter Try.func23, Try.ntmps23
    go_wp2
    refine bodyPost_ret (v := .tuple #[_, .int .i64 2]) ?_ rfl (FIN.out 2 _ ?_)
    · simp [results, Try.results23, go_sem]
    · go_grown
  have hz : ((b.size : Int) != 64) = false := by simp; omega
  by_cases h0 : k < 0
  · rw [writeS_low h h0]
    clear h
    unfold refV at fin ⊢
    have FIN := Lib.hid fin
    clear fin
    go_enter Try.func23, Try.ntmps23
    go_wp2
    refine bodyPost_ret (v := .tuple #[_, .int .i64 4]) ?_ rfl (FIN.out 4 _ ?_)
    · simp [results, Try.results23, go_sem]
    · go_grown
  by_cases h1 : (s.many : Int) ≤ k
  · rw [writeS_high h h1]
    clear h
    unfold refV at fin ⊢
    have FIN := Lib.hid fin
    clear fin
    go_enter Try.func23, Try.ntmps23
    go_wp2
    refine bodyPost_ret (v := .tuple #[_, .int .i64 4]) ?_ rfl (FIN.out 4 _ ?_)
    · simp [results, Try.results23, go_sem]
    · go_grown
  obtain ⟨k, rfl⟩ := Int.eq_ofNat_of_zero_le (show 0 ≤ k by omega)
  by_cases h2 : s.left = 0
  · rw [writeS_stop h h0 h1 h2]
    have hy : (s.left == 0) = true := by rw [h2]; rfl
    clear h h2
    unfold refV at fin ⊢
    have FIN := Lib.hid fin
    clear fin
    go_enter Try.func23, Try.ntmps23
    go_wp2
    refine bodyPost_ret (v := .tuple #[_, .int .i64 140]) ?_ rfl (FIN.out 140 _ ?_)
    · simp [results, Try.results23, go_sem]
    · go_grown
  rw [writeS_ok h (by omega) h2]
  have hy : (s.left == 0) = false := by simpa using h2
  clear h h2 fin
  unfold refV
  have D : Hid (∀ (q : Option Addr) (n d : Nat) w, Calls Try.prog 51 #[.agg #[.int .i64 s.many, .slice p s.sync.length c, .slice q n d, .int .i64 s.left]] w fun r w' => r = .returned (.agg #[.int .i64 s.many, .slice p s.sync.length c, .slice q n d, .int .i64 (doneL s.left)]) ∧ Below w.heap.size w w') := Lib.hid fun q n d w => refDone_any s.many p s.sync.length c q n d s.left hl w
  clear hl
  generalize hW0 : (w.alloc (.cells #[.int .i64 s.many, .slice p s.sync.length c, .slice q s.loose.length d, .int .i64 s.left] 35)).alloc (.cells #[.int .i64 0, .slice none 0 0, .slice none 0 0, .int .i64 0] 35) = w0
  have B0 : Below w.heap.size w w0 := by subst hW0; exact ((Below.refl _ _).alloc (Nat.le_refl _) _).alloc (by simp) _
  have BA : BoxAt w0 w.heap.size (.int .i64 s.many) (.slice p s.sync.length c) (.slice q s.loose.length d) (.int .i64 s.left) := by
    subst hW0
    exact (BoxAt.new w _ _ _ _ _).below ((Below.refl _ _).alloc (Nat.le_refl _) _)
  have BR : BoxAt w0 (w.heap.size + 1) (.int .i64 0) (.slice none 0 0) (.slice none 0 0) (.int .i64 0) := by
    subst hW0
    have e : (w.alloc (.cells #[.int .i64 s.many, .slice p s.sync.length c, .slice q s.loose.length d, .int .i64 s.left] 35)).heap.size = w.heap.size + 1 := by simp
    have := BoxAt.new (w.alloc (.cells #[.int .i64 s.many, .slice p s.sync.length c, .slice q s.loose.length d, .int .i64 s.left] 35)) (.int .i64 0) (.slice none 0 0) (.slice none 0 0) (.int .i64 0) 35
    rw [e] at this
    exact this
  have hsz : w.heap.size + 1 < w0.heap.size := by subst hW0; simp
  have RowE : Hid (RowW w0 [] (.slice (some ⟨w0.heap.size, 0, none⟩) 0 0) (w0.alloc (.cells #[] 80))) := Lib.hid (RowW.empty w0)
  have KA : Hid (∀ w', Below w0.heap.size w0 w' → BoxAt w' w.heap.size (.int .i64 s.many) (.slice p s.sync.length c) (.slice q s.loose.length d) (.int .i64 s.left)) := Lib.hid fun w' h => BA.below h
  have KR : Hid (∀ w', Below w0.heap.size w0 w' → BoxAt w' (w.heap.size + 1) (.int .i64 0) (.slice none 0 0) (.slice none 0 0) (.int .i64 0)) := Lib.hid fun w' h => BR.below h
  have RL := Lib.hid (R.out.loose.below B0)
  have HS := Lib.hid R.out.sync
  have hq2 := Lib.hid R.out.qd
  have hq1 := Lib.hid R.out.pc
  have hcl := Lib.hid R.out.cl
  obtain ⟨x0, x1, x2, x3, f0, f1, f2, f3⟩ := BA
  clear BR R
  have z2 : (w0.alloc (.cells #[] 80)).cell? ⟨w.heap.size, 2, none⟩ = some (.slice q s.loose.length d) := (KA.out _ RowE.out.2).x2
  have HB0 := Lib.hid B0
  clear B0
  go_enter Try.func23, Try.ntmps23
  go_wp2_with (at_builtin; refine wpList_append_writes rfl (.tmp 25) (.tmp 27) rfl rfl RowE.out rfl hq2.out (RL.out.below RowE.out.2) ?c1 ?_)
  case c1 => first | omega | (simp; omega)
  intro v1 w1 hR1
  clear hW0
  obtain ⟨x0, x1, x2, x3, f0, f1, f2, f3⟩ := KA.out _ hR1.2
  have hs1 := hR1.2.size
  have O1 := Lib.hid (writesAt_one w1 k b 80)
  have hR1' : RowW w0 s.loose v1 (w1.alloc (.cells #[.int .i64 k, .string b] 80)) := ⟨hR1.1.alloc _, hR1.2.alloc hs1 _⟩
  have HR1 := Lib.hid hR1'
  clear hR1 hR1'
  go_wp2_with (at_builtin; refine wpList_append_writes rfl (.tmp 28) (.tmp 32) rfl rfl HR1.out rfl (fun e => by cases e) O1.out ?c2 ?_)
  case c2 => first | omega | (simp; omega)
  intro v2 w2 hR2
  obtain ⟨x0, x1, x2, x3, f0, f1, f2, f3⟩ := KA.out _ hR2.2
  have HBx := Lib.hid hR2.2
  obtain ⟨p2, c2, rfl, hl2, hm2, hw2, hn2, hge⟩ := hR2.at'
  have HN : (s.loose ++ [(k, b)]).length = s.loose.length + 1 := by simp
  rw [HN]
  rw [HN] at hl2
  clear HN
  have HG2 : Hid (∀ B off, p2 = some ⟨B, off, none⟩ → B ≠ w.heap.size ∧ B ≠ w.heap.size + 1 ∧ w.heap.size ≤ B) := Lib.hid (fun B off e => by have := hge B off e; omega)
  have Y4 : Hid (BoxAt (w2.setCell ⟨w.heap.size, 2, none⟩ (.slice p2 (s.loose.length + 1) c2)) (w.heap.size + 1) (.int .i64 0) (.slice none 0 0) (.slice none 0 0) (.int .i64 0)) := by
    obtain ⟨y0, y1, y2, y3, g0, g1, g2, g3⟩ := KR.out _ hR2.2
    exact Lib.hid ⟨by go_cell, by go_cell, by go_cell, by go_cell, by go_cell, by go_cell, by go_cell, by go_cell⟩
  have HW4 : Hid (WritesAt (w2.setCell ⟨w.heap.size, 2, none⟩ (.slice p2 (s.loose.length + 1) c2)) p2 (s.loose ++ [(k, b)])) := Lib.hid (WritesAt.set hw2 (fun B off e => (HG2.out B off e).1) _ _)
  have HB4 : Hid (Below w.heap.size w (w2.setCell ⟨w.heap.size, 2, none⟩ (.slice p2 (s.loose.length + 1) c2))) := Lib.hid ((below_any HB0.out HBx.out).setCell (Nat.le_refl _) _)
  clear hw2 hge hR2
  go_wp2_with (go_at_call 51; (with_reducible refine (D.out _ _ _ _).mono ?_); rintro e w3 ⟨rfl, hb3⟩; obtain ⟨y0, y1, y2, y3, g0, g1, g2, g3⟩ := Y4.out.below hb3; have HW5 := Lib.hid (HW4.out.below hb3); have HB5 := Lib.hid (below_any HB4.out hb3); clear hb3)
  refine bodyPost_ret (v := .tuple #[.agg #[.int .i64 s.many, .slice p s.sync.length c, .slice p2 (s.loose.length + 1) c2, .int .i64 (doneL s.left)], .int .i64 0]) ?_ rfl ⟨p, c, p2, c2, ?_, ?_, .left, fun B off e => .inr (.inr (HG2.out B off e).2.2), ?_⟩
  focus simp [results, Try.results23, go_sem, y0, y1, y2, y3]
  focus (unfold refV; simp)
  focus exact ⟨hq1.out, hn2, hcl.out, by unfold maxLen at hm2; simp only [List.length_append, List.length_singleton]; omega, HS.out.below ((((HB5.out.setCell (by simp) _).setCell (by simp) _).setCell (by simp) _).setCell (by simp) _), (((HW5.out.set (fun B off e => (HG2.out B off e).2.1) _ _).set (fun B off e => (HG2.out B off e).2.1) _ _).set (fun B off e => (HG2.out B off e).2.1) _ _).set (fun B off e => (HG2.out B off e).2.1) _ _⟩
  focus exact (((HB5.out.setCell (by simp) _).setCell (by simp) _).setCell (by simp) _).setCell (by simp) _
end Go.Proofs.Ythbnochlpnikaaa
