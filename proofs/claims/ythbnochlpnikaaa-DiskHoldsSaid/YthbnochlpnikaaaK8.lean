/- New, Read. -/
import Derived.Test.YthbnochlpnikaaaK7
namespace Go.Proofs.Ythbnochlpnikaaa
open Go.RowKit Go.Shelf

set_option maxRecDepth 100000 in
set_option maxHeartbeats 400000 in
theorem noughts_any (w : World) : Calls Try.prog 21 #[] w fun r w' => ∃ b, r = .returned (.agg #[.map (some b)]) ∧ w.heap.size ≤ b ∧ (∀ m, m ≤ 40000 → MapIs w' b m (fun _ => secS 0)) ∧ Below w.heap.size w w' := by
  have hmm := @run_makeMap Try.prog
  go_enter Try.func21, Try.ntmps21
  go_wp2
  refine bodyPost_ret (v := .agg #[.map (some (w.heap.size + 1))]) ?_ rfl ⟨_, rfl, by omega, fun m hm => ?_, ((Below.refl _ _).alloc (Nat.le_refl _) _).alloc (by simp) _⟩
  · simp [results, Try.results21, go_sem]
  · have := MapIs.made (w.alloc (.cells #[.map (some (w.heap.size + 1))] 59)) hm
    rwa [World.size_alloc] at this
set_option maxRecDepth 100000 in
set_option maxHeartbeats 400000 in
theorem dnew_any (n : Nat) (w : World) (hn : 1 ≤ n ∧ n ≤ 40000) : Calls Try.prog 7 #[.int .i64 n] w fun r w' => ∃ d F, r = .returned (.tuple #[d, .int .i64 0]) ∧ RepD w' d (newS n) F ∧ (∀ k, F k → w.heap.size ≤ k) ∧ Below w.heap.size w w' := by
  have h1 : ¬ ((n : Int) < 1) := by omega
  have h2 : ¬ ((40000 : Int) < n) := by omega
  have h1' : decide ((n : Int) < 1) = false := decide_eq_false h1
  have h2' : decide ((40000 : Int) < n) = false := decide_eq_false h2
  go_enter Try.func7, Try.ntmps7
  go_wp2_with fail
  refine (noughts_any _).mono ?_
  rintro e wa ⟨b1, rfl, hb1, M1, Ba⟩
  go_wp2_with fail
  refine (noughts_any _).mono ?_
  rintro e wb ⟨b2, rfl, hb2, M2, Bb⟩
  go_wp2_with fail
  go_ret2
  have hN : ∀ k, sectorS (newS n) k = secS 0 := fun k => rfl
  refine ⟨.pointer (some ⟨wb.heap.size, 0, none⟩), _, rfl, ⟨wb.heap.size, b1, b2, .slice none 0 0, rfl, ⟨?_, by simp [newS], ?_, ⟨rfl, .inl ⟨rfl, rfl⟩⟩, by simp [Value.ownBlock], ?_, ?_⟩, rfl⟩, ?_, ?_⟩
  · exact heap_alloc_new _ _
  · have := (M1 1 (by omega)).lt
    omega
  · exact ((M1 n hn.2).below Bb).below ((Below.refl _ _).alloc (Nat.le_refl _) _)
  · exact (M2 n hn.2).below ((Below.refl _ _).alloc (Nat.le_refl _) _)
  · rintro k (rfl | rfl | rfl | hk)
    · exact Nat.le_trans Ba.size Bb.size
    · exact hb1
    · exact Nat.le_trans Ba.size hb2
    · cases hk
  · exact (Ba.trans (Bb.mono Ba.size)).alloc (Nat.le_trans Ba.size Bb.size) _
theorem beyond_ans {s : DS} {k : Int} : (decide (k < 0) || decide ((s.many : Int) ≤ k)) = decide (k < 0 ∨ (s.many : Int) ≤ k) := by
  rw [Bool.eq_iff_iff]; simp
theorem refE_if {q : Qn} {l : List Qn} {p : Prop} [Decidable p] (h : q.ans = decide p) : refE (q :: l) = if p then q.e else refE l := by
  have e : refE (q :: l) = if q.ans = true then q.e else refE l := rfl
  rw [e]
  by_cases hp : p
  · rw [if_pos hp, if_pos (by rw [h]; exact decide_eq_true hp)]
  · rw [if_neg hp, if_neg (by rw [h]; simp [hp])]
/-- What Read's questions tell. -/
theorem ref_read (B A A' : Nat) (k : Int) (s : DS) : refE [qBeyond A A' k s, qHalted B s] = (readS s k).2 := by
  rw [refE_if (p := k < 0 ∨ (s.many : Int) ≤ k) beyond_ans, refE_if (p := s.left = 0) rfl]
  unfold readS
  split
  · rfl
  · split <;> rfl
theorem qs2 {w : World} {q1 q2 : Qn} : QsAt (w.alloc (.cells #[.int .i64 q1.e, q1.fv, .int .i64 q2.e, q2.fv] 91)) w.heap.size [q1, q2] := fun i q hq => by
  rcases i with _ | _ | i
  · injection hq with hq; subst hq; exact ⟨by go_cell, by go_cell⟩
  · injection hq with hq; subst hq; exact ⟨by go_cell, by go_cell⟩
  · cases hq
theorem qs1 {w : World} {q1 : Qn} : QsAt (w.alloc (.cells #[.int .i64 q1.e, q1.fv] 91)) w.heap.size [q1] := fun i q hq => by
  rcases i with _ | i
  · injection hq with hq; subst hq; exact ⟨by go_cell, by go_cell⟩
  · cases hq
theorem qs3 {w : World} {q1 q2 q3 : Qn} : QsAt (w.alloc (.cells #[.int .i64 q1.e, q1.fv, .int .i64 q2.e, q2.fv, .int .i64 q3.e, q3.fv] 91)) w.heap.size [q1, q2, q3] := fun i q hq => by
  rcases i with _ | _ | _ | i
  · injection hq with hq; subst hq; exact ⟨by go_cell, by go_cell⟩
  · injection hq with hq; subst hq; exact ⟨by go_cell, by go_cell⟩
  · injection hq with hq; subst hq; exact ⟨by go_cell, by go_cell⟩
  · cases hq
theorem ok1 {w : World} {q1 : Qn} (h1 : QnOk w q1) : ∀ (i : Nat) (q : Qn), [q1][i]? = some q → QnOk w q := fun i q hq => by
  rcases i with _ | i
  · injection hq with hq; subst hq; exact h1
  · cases hq
theorem ok2 {w : World} {q1 q2 : Qn} (h1 : QnOk w q1) (h2 : QnOk w q2) : ∀ (i : Nat) (q : Qn), [q1, q2][i]? = some q → QnOk w q := fun i q hq => by
  rcases i with _ | _ | i
  · injection hq with hq; subst hq; exact h1
  · injection hq with hq; subst hq; exact h2
  · cases hq
theorem ok3 {w : World} {q1 q2 q3 : Qn} (h1 : QnOk w q1) (h2 : QnOk w q2) (h3 : QnOk w q3) : ∀ (i : Nat) (q : Qn), [q1, q2, q3][i]? = some q → QnOk w q := fun i q hq => by
  rcases i with _ | _ | _ | i
  · injection hq with hq; subst hq; exact h1
  · injection hq with hq; subst hq; exact h2
  · injection hq with hq; subst hq; exact h3
  · cases hq
theorem QnOk.below {w w' : World} {q : Qn} (h : QnOk w q) (hb : Below w.heap.size w w') : QnOk w' q := ⟨h.enters, fun w2 h2 => h.tells w2 (kbT hb h2)⟩
theorem refuse1 {w : World} {B b1 b2 : Nat} {v : Value} {s : DS} (h : DiskAt w B b1 b2 v s) (hm : 1 ≤ s.many) {q1 : Qn} (k1 : QnOk w q1) :
    Calls Try.prog 39 #[.pointer (some ⟨B, 0, none⟩), .slice (some ⟨w.heap.size, 0, none⟩) 1 1] (w.alloc (.cells #[.int .i64 q1.e, q1.fv] 91)) fun r w' => r = .returned (.int .i64 (refE [q1])) ∧ Below w.heap.size w w' := by
  have Bw : Below w.heap.size w (w.alloc (.cells #[.int .i64 q1.e, q1.fv] 91)) := (Below.refl _ _).alloc (Nat.le_refl _) _
  refine (refusal_any (h.below Bw).cell.2.2.1 (by omega) [q1] w.heap.size 1 (by simp) (Lib.hid qs1) (Lib.hid (ok1 (k1.below Bw)))).mono ?_
  rintro e w2 ⟨rfl, hb⟩
  exact ⟨rfl, kbT Bw hb⟩
theorem refuse2 {w : World} {B b1 b2 : Nat} {v : Value} {s : DS} (h : DiskAt w B b1 b2 v s) (hm : 1 ≤ s.many) {q1 q2 : Qn} (k1 : QnOk w q1) (k2 : QnOk w q2) :
    Calls Try.prog 39 #[.pointer (some ⟨B, 0, none⟩), .slice (some ⟨w.heap.size, 0, none⟩) 2 2] (w.alloc (.cells #[.int .i64 q1.e, q1.fv, .int .i64 q2.e, q2.fv] 91)) fun r w' => r = .returned (.int .i64 (refE [q1, q2])) ∧ Below w.heap.size w w' := by
  have Bw : Below w.heap.size w (w.alloc (.cells #[.int .i64 q1.e, q1.fv, .int .i64 q2.e, q2.fv] 91)) := (Below.refl _ _).alloc (Nat.le_refl _) _
  refine (refusal_any (h.below Bw).cell.2.2.1 (by omega) [q1, q2] w.heap.size 2 (by simp) (Lib.hid qs2) (Lib.hid (ok2 (k1.below Bw) (k2.below Bw)))).mono ?_
  rintro e w2 ⟨rfl, hb⟩
  exact ⟨rfl, kbT Bw hb⟩
theorem refuse3 {w : World} {B b1 b2 : Nat} {v : Value} {s : DS} (h : DiskAt w B b1 b2 v s) (hm : 1 ≤ s.many) {q1 q2 q3 : Qn} (k1 : QnOk w q1) (k2 : QnOk w q2) (k3 : QnOk w q3) :
    Calls Try.prog 39 #[.pointer (some ⟨B, 0, none⟩), .slice (some ⟨w.heap.size, 0, none⟩) 3 3] (w.alloc (.cells #[.int .i64 q1.e, q1.fv, .int .i64 q2.e, q2.fv, .int .i64 q3.e, q3.fv] 91)) fun r w' => r = .returned (.int .i64 (refE [q1, q2, q3])) ∧ Below w.heap.size w w' := by
  have Bw : Below w.heap.size w (w.alloc (.cells #[.int .i64 q1.e, q1.fv, .int .i64 q2.e, q2.fv, .int .i64 q3.e, q3.fv] 91)) := (Below.refl _ _).alloc (Nat.le_refl _) _
  refine (refusal_any (h.below Bw).cell.2.2.1 (by omega) [q1, q2, q3] w.heap.size 3 (by simp) (Lib.hid qs3) (Lib.hid (ok3 (k1.below Bw) (k2.below Bw) (k3.below Bw)))).mono ?_
  rintro e w2 ⟨rfl, hb⟩
  exact ⟨rfl, kbT Bw hb⟩
theorem kbP {w w1 w2 : World} (h1 : Below w.heap.size w w1) (h2 : Below w1.heap.size w1 w2) : Below w.heap.size w w2 := kbT h1 h2
theorem tellB_nil (w w' : World) (h : Below w.heap.size w w') : TellB w [] (.slice none 0 0) w' := ⟨⟨none, 0, rfl, Nat.le_refl _, by unfold maxLen; omega, fun i hi => absurd hi (Nat.not_lt_zero i), fun a e => by cases e⟩, h⟩
theorem bytesAt_sec (w : World) {l : List Nat} (hb : ∀ x ∈ l, x < 256) (t : TypeId) : BytesAt (w.alloc (.cells (bV (strOf l)) t)) (some ⟨w.heap.size, 0, none⟩) l := by
  have := bytesAt_new w l t
  rw [show bV (strOf l) = (l.map fun (v : Nat) => Value.int .u8 (v : Int)).toArray by simp only [bV, bL_strOf l hb, u8s]]
  exact this
theorem tellB_sec {w w1 : World} {l : List Nat} {X : Obj} (hl : l.length = 64) (hb : ∀ x ∈ l, x < 256) (hB : Below w.heap.size w w1) : TellB w l (.slice (some ⟨w1.heap.size + 1, 0, none⟩) 64 64) ((w1.alloc X).alloc (.cells (bV (strOf l)) 76)) := by
  refine ⟨⟨_, 64, by rw [hl], by omega, by unfold maxLen; omega, ?_, fun a e => by injection e with e; subst e; have := hB.size; simp only; omega⟩, (hB.alloc hB.size _).alloc (by have := hB.size; simp; omega) _⟩
  have := bytesAt_sec (w1.alloc X) hb 76
  rwa [World.size_alloc] at this
set_option maxRecDepth 100000 in
set_option maxHeartbeats 1000000 in
theorem dread_any {w : World} {d : Value} {s : DS} {F : Nat → Prop} (k : Int) (h : RepD w d s F) (hW : Whole s) :
    Calls Try.prog 19 #[d, .int .i64 k] w fun r w' => ∃ t l, r = .returned (.tuple #[t, .int .i64 (readS s k).2]) ∧ TellB w l t w' ∧ (∀ b ∈ l, b < 256) ∧ strOf l = (readS s k).1 := by
  obtain ⟨B, b1, b2, v, rfl, h, -⟩ := h
  have hm := hW.many.1
  go_enter Try.func19, Try.ntmps19
  go_wp2_with fail
  refine (beyond_any _ _ _).mono ?_
  rintro e wa ⟨rfl, a0, a1, Ba⟩
  go_wp2_with fail
  refine (halted_any _ _).mono ?_
  rintro e wb ⟨rfl, Bb⟩
  go_wp2_with fail
  have hB := kbP Ba Bb
  refine (refuse2 (q1 := qBeyond (w.heap.size + 1) w.heap.size k s) (q2 := qHalted B s) (h.below hB) hm (qBeyond_ok (h.below hB) (below_kept Bb _ _ a1) (below_kept Bb _ _ a0)) (qHalted_ok (h.below hB) hm)).mono ?_
  rintro e wc ⟨rfl, Bc⟩
  rw [ref_read]
  have hC := kbP hB Bc
  clear a0 a1
  by_cases h0 : k < 0 ∨ (s.many : Int) ≤ k
  · have e : readS s k = (⟨#[]⟩, 4) := by unfold readS; rw [if_pos h0]
    rw [e]
    go_wp2_with fail
    go_ret2
    rw [e]
    exact ⟨_, [], rfl, tellB_nil _ _ hC, (fun b hb => by cases hb), rfl⟩
  · by_cases h1 : s.left = 0
    · have e : readS s k = (⟨#[]⟩, 140) := by unfold readS; rw [if_neg h0, if_pos h1]
      rw [e]
      go_wp2_with fail
      go_ret2
      rw [e]
      exact ⟨_, [], rfl, tellB_nil _ _ hC, (fun b hb => by cases hb), rfl⟩
    · have e : readS s k = (sectorS s k.toNat, 0) := by unfold readS; rw [if_neg h0, if_neg h1]
      obtain ⟨n, rfl⟩ : ∃ n : Nat, k = n := ⟨k.toNat, by omega⟩
      have hn : n < s.many := by omega
      rw [e, Int.toNat_natCast]
      have hD := h.below hC
      obtain ⟨c0, -, -, -, -, -⟩ := hD.cell
      have hz := hD.now.size n hn
      obtain ⟨l, hl1, hl2, hl3⟩ := bytes_of (sectorS s n)
      go_wp2_with (first
        | (go_at_call 50; refine (bytes_any hD.now hn).mono ?_; rintro e w' ⟨rfl, rfl⟩)
        | fail)
      go_ret2
      rw [e]
      refine ⟨_, l, rfl, ?_, hl2, hl3.symm⟩
      exact tellB_sec (by omega) hl2 hC
end Go.Proofs.Ythbnochlpnikaaa
