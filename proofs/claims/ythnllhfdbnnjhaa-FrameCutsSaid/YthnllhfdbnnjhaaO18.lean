import Derived.Test.YthnllhfdbnnjhaaO17
import Derived.RangeFuncNested
namespace Go.Proofs.Ythnllhfdbnnjhaa
open Go.RowKit Go.Shelf

/-- What is said of a world abides an iterator's steps, one that writes a variable of its own among them: the first block that it lays. -/
def Calm {β : Type} (B : Nat) (J : β → World → Prop) : Prop := AbidesFrom B J ∧ ∀ s A v, J s A → J s (A.setCell ⟨B, 0, none⟩ v)
/-- What an iterator with a variable of its own promises to whoever ranges over it. -/
def SeqOwn {α : Type} (F : Fence) (n : Nat) (P : Program) (g : Nat) (lb : Array Value) (enc : α → Array Value) (Kp : World → World → Prop) (S Sp : List α → Prop) (N : Nat) (w : World) : Prop :=
  ∀ (l : Nat) (J Jx : List α → World → Prop) (W : World), Below w.heap.size w W → Calm W.heap.size J → Calm W.heap.size Jx →
    (∀ pre x A, J pre A → pre.length < N → Sp (pre ++ [x]) → YieldAt F (n - 1) P l (enc x) A fun e A' =>
      (e = .returned (.bool true) ∧ J (pre ++ [x]) A' ∧ Kp A A') ∨ (e = .returned (.bool false) ∧ Jx (pre ++ [x]) A')) →
    J [] W → CallsIn F n P g (#[.func (.yield l) #[] #[]] ++ lb) W fun e W' =>
      (∃ v, e = .returned v) ∧ ((∃ xs, S xs ∧ J xs W') ∨ ∃ pre, Sp pre ∧ Jx pre W')
section
variable {F : Fence} {n : Nat} {P : Program}
theorem range_own {α : Type} {g : Operand} {ps : Array Tmp} {assign body : Code} {Q : Exit → Act → World → Prop} {a : Act} {w : World}
    (hro : F.round = none) (h1 : 1 ≤ n) {gf : Nat} {lb : Array Value} (hg : a.eval g = .func (.func gf) #[] lb) (hF : F.fn gf) (eg : ∀ args w, (callFunc gf args).run P w = .ok (.enter gf args) w)
    {enc : α → Array Value} {Kp : World → World → Prop} {S Sp : List α → Prop} {N : Nat} {w0 : World} (hseq : SeqOwn F (n - 1) P gf lb enc Kp S Sp N w0)
    (hKt : ∀ {A B C : World}, Kp A B → Kp B C → Kp A C) (hKb : ∀ (W : World) (l : Nat) (o o' : Obj), w.heap.size ≤ l → W.heap[l]? = some o → o.isCells = false → o.isWalk = false → Kp W (W.putObj l o'))
    (hb0 : Below w0.heap.size w0 w) (hps : ∀ x, (enc x).size = ps.size)
    (I : List α → World → Prop) (Ix : Code → List α → World → Prop) (hI : OwnFrom w.heap.size I) (hIx : ∀ c, OwnFrom w.heap.size (Ix c))
    (hIR : ∀ s A v, I s A → I s (A.setCell ⟨w.heap.size + 2, 0, none⟩ v)) (hIxR : ∀ c s A v, Ix c s A → Ix c s (A.setCell ⟨w.heap.size + 2, 0, none⟩ v))
    (h0 : I [] w) (a₁ : α → Act)
    (hassign : ∀ (l : Nat) (x : α) (W : World) (K : Act → World → Prop), K (a₁ x) W →
      assign.wpIn (F.inRound l) (n - 1 - 1) P (Exit.then K fun _ _ _ => False) { tmps := (ps.zip (enc x)).foldl (fun t (p, v) => t.setIfInBounds p v) a.tmps, defers := [] } W)
    (hbody : ∀ (l : Nat) (pre : List α) (x : α) (W : World), I pre W → pre.length < N → Sp (pre ++ [x]) → body.wpIn (F.inRound l) (n - 1 - 1) P (ownPostG w.heap.size Kp I Ix (pre ++ [x]) W) (a₁ x) W)
    (hdone : ∀ (D : Nat) (xs : List α) (W : World), w.heap.size ≤ D → S xs → I xs W → W.heap[D]? = some (.deferred (some [])) → Q .normal { a with defers := { target := .collected D, args := #[] } :: a.defers } W)
    (hstop : ∀ (D : Nat) (c : Code) (pre : List α) (W : World), w.heap.size ≤ D → Sp pre → Ix c pre W → W.heap[D]? = some (.deferred (some [])) → c.wpIn F n P Q { a with defers := { target := .collected D, args := #[] } :: a.defers } W) :
    (Code.rangeFunc g ps assign body).wpIn F n P Q a w := by
  refine wpIn_rangeFunc fun fn hfn => ?_
  rw [hro]
  -- the loop's own two blocks: its record, in one of three states, and the rounds' deferred calls
  generalize hrc : (fun (s : LoopState) (j : Option Code) => ({ state := s, pending := j, fn := fn, tmps := a.tmps, params := ps, assign := assign, body := body, defers := w.heap.size } : Loop)) = rc
  obtain ⟨At, hAt⟩ : ∃ At : LoopState → Option Code → World → Prop, At = fun s j W => W.heap[w.heap.size + 1]? = some (.loop (rc s j)) ∧ W.heap[w.heap.size]? = some (.deferred (some [])) := ⟨_, rfl⟩
  have grown : ∀ s j A C row, At s j A → A.grownBy C row → (∀ r, row = some r → ∃ o : Obj, A.heap[r]? = some o ∧ o.isWalk = true) → At s j C := fun s j A C row h hg hr => by
    subst hAt
    exact ⟨(grownBy_keeps hg hr h.1 rfl).trans h.1, (grownBy_keeps hg hr h.2 rfl).trans h.2⟩
  have celled : ∀ s j A v, At s j A → At s j (A.setCell ⟨w.heap.size + 2, 0, none⟩ v) := fun s j A v h => by
    subst hAt
    exact ⟨(Below.heap_setCell A _ v _ (by simp)).trans h.1, (Below.heap_setCell A _ v _ (by simp)).trans h.2⟩
  have turned : ∀ s j s' j' A, At s j A → At s' j' (A.putObj (w.heap.size + 1) (.loop (rc s' j'))) := fun s j s' j' A h => by
    subst hAt
    exact ⟨World.putObj_heap_same (Array.getElem?_eq_some_iff.1 h.1).1, (World.putObj_heap_other (by omega)).trans h.2⟩
  have kept : ∀ s j A C, At s j A → KeepsFrom w.heap.size A C → At s j C := fun s j A C h hk => by
    subst hAt
    exact ⟨hk.same _ _ (by omega) h.1 rfl, hk.same _ _ (Nat.le_refl _) h.2 rfl⟩
  have rec_at : ∀ s j A, At s j A → A.heap[w.heap.size + 1]? = some (.loop (rc s j)) := fun s j A h => by subst hAt; exact h.1
  have def_at : ∀ s j A, At s j A → A.heap[w.heap.size]? = some (.deferred (some [])) := fun s j A h => by subst hAt; exact h.2
  have put : ∀ (β : Type) (K : β → World → Prop) (s : β) st j (o : Obj) A, OwnFrom w.heap.size K → At st j A → K s A → K s (A.putObj (w.heap.size + 1) o) := fun β K s st j o A hK h hs => hK.putObj o hs (by omega) (rec_at st j A h) rfl
  obtain ⟨W1, hW1⟩ : ∃ W1, (w.alloc (.deferred (some []))).alloc (.loop (rc .ready none)) = W1 := ⟨_, rfl⟩
  have a1 : At .ready none W1 := by
    subst hAt hW1
    have e := World.alloc_heap_new (w.alloc (.deferred (some []))) (.loop (rc .ready none))
    rw [World.size_alloc] at e
    exact ⟨e, (Below.heap_alloc _ _ _ (by simp)).trans (World.alloc_heap_new w _)⟩
  have s1 : W1.heap.size = w.heap.size + 2 := by subst hW1; simp
  have i1 : I [] W1 := by subst hW1; exact hI.alloc _ (hI.alloc _ h0)
  have b1 : Below w0.heap.size w0 W1 := by
    subst hW1
    exact (hb0.alloc hb0.size _).alloc (by simp; exact Nat.le_succ_of_le hb0.size) _
  have own : ∀ (A : World) (row : Option Nat), (∀ r, row = some r → W1.heap.size ≤ r ∧ ∃ o : Obj, A.heap[r]? = some o ∧ o.isWalk = true) → ∀ r, row = some r → w.heap.size ≤ r ∧ ∃ o : Obj, A.heap[r]? = some o ∧ o.isCells = false := fun A row h r e => by
    obtain ⟨hB, o, ho, hw⟩ := h r e
    exact ⟨by omega, o, ho, Obj.not_cells_of_walk hw⟩
  have en : (Instr.enterLoop fn a.tmps ps assign body none).run P w = .ok (w.heap.size + 1, [{ target := .collected w.heap.size, args := #[] }]) W1 := by
    rw [← hW1, ← hrc]
    exact run_enterLoop_outer _ _ _ _ _
  refine ⟨_, _, W1, { target := .fn (.func gf) lb, args := #[.func (.yield (w.heap.size + 1)) #[] #[]] }, W1, gf, #[.func (.yield (w.heap.size + 1)) #[] #[]] ++ lb, W1, en, ?_, fun f' h => ?_, ?_, fun _ => h1, ?_⟩
  · simp only [resolve, hg]
    simp [go_sem]
  · simp [Target.leads] at h
    subst h
    exact hF
  · simp [invoke, go_sem, eg]
  refine (hseq (w.heap.size + 1) (fun pre W => I pre W ∧ At .ready none W) (fun pre W => ∃ c, Ix c pre W ∧ At .done (some c) W) W1 b1 ?_ ?_ ?_ ⟨i1, a1⟩).mono ?_
  · refine ⟨fun s A C row h hg' hr => ⟨hI s A C row h.1 hg' (own A row hr), grown _ _ A C row h.2 hg' fun r e => (hr r e).2⟩, fun s A v h => ?_⟩
    rw [s1]
    exact ⟨hIR s A v h.1, celled _ _ A v h.2⟩
  · refine ⟨fun s A C row h hg' hr => ?_, fun s A v h => ?_⟩
    · obtain ⟨c, hc, ha⟩ := h
      exact ⟨c, hIx c s A C row hc hg' (own A row hr), grown _ _ A C row ha hg' fun r e => (hr r e).2⟩
    · obtain ⟨c, hc, ha⟩ := h
      rw [s1]
      exact ⟨c, hIxR c s A v hc, celled _ _ A v ha⟩
  · -- a round
    rintro pre x W ⟨hi, ha⟩ hlen hsp
    have hy := run_yield (P := P) (args := enc x) (rec_at _ _ _ ha) (by rw [← hrc]; exact hps x)
    rw [← hrc] at hy
    refine ⟨fn, _, assign, body, hy, roundIn_of_wpIn hfn (hassign _ x W _ ⟨_, run_beginRound (rec_at _ _ _ ha) (by rw [← hrc]), ?_⟩)⟩
    have busy : At .busy none (W.putObj (w.heap.size + 1) (.loop { rc .ready none with state := .busy })) := by
      have := turned _ _ .busy none W ha
      rw [← hrc] at this ⊢
      exact this
    have kb : Kp W (W.putObj (w.heap.size + 1) (.loop { rc .ready none with state := .busy })) := hKb _ _ _ _ (by omega) (rec_at _ _ _ ha) rfl rfl
    refine wpIn_mono (hbody _ pre x _ (put _ I pre _ _ _ W hI ha hi) hlen hsp) fun e a3 W3 hp => ?_
    -- the end of a round
    have fin : ∀ (j : Option Code), KeepsFrom w.heap.size (W.putObj (w.heap.size + 1) (.loop { rc .ready none with state := .busy })) W3 →
        At .busy none W3 ∧ (Instr.endRound (w.heap.size + 1) j).run P W3 = .ok (.bool j.isNone) (W3.putObj (w.heap.size + 1) (.loop (rc (if j.isNone then .ready else .done) j))) := fun j hk => by
      have h3 := kept _ _ _ _ busy hk
      have := run_endRound (P := P) j (rec_at _ _ _ h3)
      rw [← hrc] at this ⊢
      exact ⟨h3, this⟩
    have out : ∀ (c : Code), KeepsFrom w.heap.size (W.putObj (w.heap.size + 1) (.loop { rc .ready none with state := .busy })) W3 → Ix c (pre ++ [x]) W3 →
        ∃ v w', (Instr.endRound (w.heap.size + 1) (some c)).run P W3 = .ok v w' ∧ ((Ending.returned v = .returned (.bool true) ∧ (I (pre ++ [x]) w' ∧ At .ready none w') ∧ Kp W w') ∨ (Ending.returned v = .returned (.bool false) ∧ ∃ c, Ix c (pre ++ [x]) w' ∧ At .done (some c) w')) := fun c hk hc => by
      obtain ⟨h3, hr⟩ := fin (some c) hk
      exact ⟨_, _, hr, .inr ⟨rfl, c, put _ (Ix c) _ _ _ _ W3 (hIx c) h3 hc, turned _ _ _ _ W3 h3⟩⟩
    cases e with
    | normal =>
      obtain ⟨hk, hkp, hi3⟩ := hp
      obtain ⟨h3, hr⟩ := fin none hk
      exact ⟨_, _, hr, .inl ⟨rfl, ⟨put _ I _ _ _ _ W3 hI h3 hi3, turned _ _ _ _ W3 h3⟩, hKt (hKt kb hkp) (hKb _ _ _ _ (by omega) (rec_at _ _ _ h3) rfl rfl)⟩⟩
    | ret => exact out .ret hp.1 hp.2
    | exit id => exact out (.exit id) hp.1 hp.2
    | goto t => exact out (.goto t) hp.1 hp.2
    | panic c => exact hp.elim
    | outgrown => exact hp.elim
  · -- behind the iterator
    rintro e W2 ⟨⟨v, rfl⟩, h⟩
    have fin : ∀ s j, s ≠ .busy → At s j W2 → (Instr.endLoop (w.heap.size + 1)).run P W2 = .ok j (W2.putObj (w.heap.size + 1) (.loop { rc s j with state := .exhausted })) ∧ (W2.putObj (w.heap.size + 1) (.loop { rc s j with state := .exhausted })).heap[w.heap.size]? = some (.deferred (some [])) := fun s j hs h => by
      have := run_endLoop (P := P) (rec_at _ _ _ h) (by rw [← hrc]; exact hs)
      rw [← hrc] at this ⊢
      exact ⟨this, (World.putObj_heap_other (by omega)).trans (def_at _ _ _ h)⟩
    rcases h with ⟨xs, hS, hi, ha⟩ | ⟨pre, hSp, c, hi, ha⟩
    · obtain ⟨hr, hd⟩ := fin _ _ (by simp) ha
      exact ⟨none, _, hr, hdone _ xs _ (Nat.le_refl _) hS (put _ I _ _ _ _ W2 hI ha hi) hd⟩
    · obtain ⟨hr, hd⟩ := fin _ _ (by simp) ha
      exact ⟨some c, _, hr, hstop _ c pre _ (Nat.le_refl _) hSp (put _ (Ix c) _ _ _ _ W2 (hIx c) ha hi) hd⟩
end
theorem wpIn_scope_wide {n : Nat} {P : Program} {c : Code} {Q : Exit → Act → World → Prop} {a : Act} {w : World} (h : c.wpIn Fence.wide n P (Exit.noGoto Q) a w) : (Code.scope c).wpIn Fence.wide n P Q a w := wpIn_wide.2 (wp_scope_straight (wpIn_wide.1 h))
/-- A range over a function that is left at its end or by a break: one way on. -/
theorem range_norm {F : Fence} {n : Nat} {P : Program} {g : Operand} {ps : Array Tmp} {assign body : Code} {Q : Exit → Act → World → Prop} {a : Act} {w : World} (id : Nat) (R : Nat → World → Prop)
    (hex : ∀ a W, Q .normal a W → Q (.exit id) a W)
    (h : (Code.rangeFunc g ps assign body).wpIn F n P (fun e a' W => (e = .normal ∨ e = .exit id) ∧ ∃ D, a' = { a with defers := { target := .collected D, args := #[] } :: a.defers } ∧ R D W) a w)
    (hfin : ∀ D W, R D W → Q .normal { a with defers := { target := .collected D, args := #[] } :: a.defers } W) :
    (Code.rangeFunc g ps assign body).wpIn F n P Q a w :=
  wpIn_mono h (by
    rintro e a' W ⟨rfl | rfl, D, rfl, hR⟩
    · exact hfin D W hR
    · exact hex _ _ (hfin D W hR))
theorem keepsB {W W' : World} (h : Below W.heap.size W W') : KeepsOthers W W' :=
  ⟨h.size, fun k o hk _ => (h.block k (Array.getElem?_eq_some_iff.1 hk).1).trans hk⟩
theorem ownFrom_mark {β : Type} {B D : Nat} (hD : D < B) : OwnFrom B (fun (_ : β) W => W.heap[D]? = some (.deferred (some []))) :=
  fun _ A C row hs hg hr => (hg.block D (Array.getElem?_eq_some_iff.1 hs).1 (fun e => by have := (hr D e.symm).1; omega)).trans hs
end Go.Proofs.Ythnllhfdbnnjhaa
