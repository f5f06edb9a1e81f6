/- Ranging over an iterator that makes memory of its own: both sides say what lies below. -/
import Derived.Test.YthnllhfdbnnjhaaPG
import Derived.RangeFuncNested
import Derived.Stop.RegionWithIn
namespace Go.Proofs.Ythnllhfdbnnjhaa
open Go.RowKit Go.Shelf
attribute [local go_sem] Oper.semAt_some
/-- What is said of a world speaks of what lies below B alone. -/
def LowC {β : Type} (B : Nat) (J : β → World → Prop) : Prop := ∀ s A C, J s A → B ≤ A.heap.size → Below B A C → J s C
/-- What a round keeps: all from B on, and what M names. -/
def KpB (M : Nat → Prop) (B : Nat) (A C : World) : Prop := A.heap.size ≤ C.heap.size ∧ ∀ k, k < A.heap.size → (B ≤ k ∨ M k) → C.heap[k]? = A.heap[k]?
theorem KpB.refl (M : Nat → Prop) (B : Nat) (A : World) : KpB M B A A := ⟨Nat.le_refl _, fun _ _ _ => rfl⟩
theorem KpB.trans {M : Nat → Prop} {B : Nat} {X Y Z : World} (h : KpB M B X Y) (k : KpB M B Y Z) : KpB M B X Z := ⟨Nat.le_trans h.1 k.1, fun i hi hm => (k.2 i (Nat.lt_of_lt_of_le hi h.1) hm).trans (h.2 i hi hm)⟩
theorem KpB.mono {M M' : Nat → Prop} {B B' : Nat} {X Y : World} (h : KpB M B X Y) (hm : ∀ k, B' ≤ k ∨ M' k → B ≤ k ∨ M k) : KpB M' B' X Y := ⟨h.1, fun k hk h' => h.2 k hk (hm k h')⟩
theorem KpB.put {M : Nat → Prop} {B : Nat} (W : World) (l : Nat) (o : Obj) (hB : l < B) (hM : ¬ M l) : KpB M B W (W.putObj l o) :=
  ⟨by simp, fun k _ h => World.putObj_heap_other (by rintro rfl; exact h.elim (fun h => by omega) hM)⟩
theorem KpB.alloc {M : Nat → Prop} {B : Nat} (W : World) (o : Obj) : KpB M B W (W.alloc o) := ⟨by simp, fun k hk _ => Below.heap_alloc _ _ _ hk⟩
theorem KpB.setCell {M : Nat → Prop} {B : Nat} (W : World) (p : Addr) (v : Value) (hB : p.block < B) (hM : ¬ M p.block) : KpB M B W (W.setCell p v) :=
  ⟨(KeepsWalks.setCell W p v).size, fun k _ h => Below.heap_setCell _ _ _ _ (by rintro rfl; exact h.elim (fun h => by omega) hM)⟩
theorem KpB.of_below {M : Nat → Prop} {B : Nat} {W W' : World} (h : Below W.heap.size W W') : KpB M B W W' := ⟨h.size, fun k hk _ => h.block k hk⟩
/-- A step behind an allocation: what is new may be written. -/
theorem KpB.new {M : Nat → Prop} {B : Nat} {W X Y : World} (h : KpB M B W X) (h2 : Below W.heap.size X Y) : KpB M B W Y := ⟨Nat.le_trans h.1 h2.size, fun k hk hm => (h2.block k hk).trans (h.2 k hk hm)⟩
theorem LowC.and {β : Type} {B : Nat} {J K : β → World → Prop} (h : LowC B J) (k : LowC B K) : LowC B (fun s W => J s W ∧ K s W) := fun s A C hs hB hb => ⟨h s A C hs.1 hB hb, k s A C hs.2 hB hb⟩
theorem LowC.mono {β : Type} {B B' : Nat} {J : β → World → Prop} (h : LowC B J) (hB : B ≤ B') : LowC B' J := fun s A C hs hA hb => h s A C hs (Nat.le_trans hB hA) (hb.mono hB)
theorem LowC.pure {β : Type} (B : Nat) (J : β → Prop) : LowC B (fun s _ => J s) := fun _ _ _ h _ _ => h
theorem LowC.block {β : Type} {B k : Nat} (hk : k < B) (o : Obj) : LowC B (fun (_ : β) W => W.heap[k]? = some o) := fun _ _ _ h _ hb => (hb.block k hk).trans h
theorem LowC.size {β : Type} {B n : Nat} : LowC B (fun (_ : β) W => n ≤ W.heap.size) := fun _ _ _ h _ hb => Nat.le_trans h hb.size

/-- What such an iterator promises to whoever ranges over it. -/
def SeqLow {α : Type} (F : Fence) (n : Nat) (P : Program) (g : Nat) (lb : Array Value) (enc : α → Array Value) (M : Nat → Prop) (T : α → World → Prop) (S Sp : List α → Prop) (N : Nat) (w : World) : Prop :=
  ∀ (l : Nat) (J Jx : List α → World → Prop) (W : World), Below w.heap.size w W → LowC W.heap.size J → LowC W.heap.size Jx →
    (∀ pre x A, J pre A → W.heap.size ≤ A.heap.size → pre.length < N → Sp (pre ++ [x]) → T x A → YieldAt F (n - 1) P l (enc x) A fun e A' =>
      (e = .returned (.bool true) ∧ J (pre ++ [x]) A' ∧ KpB M W.heap.size A A') ∨ (e = .returned (.bool false) ∧ Jx (pre ++ [x]) A' ∧ KpB M W.heap.size A A')) →
    J [] W → CallsIn F n P g (#[.func (.yield l) #[] #[]] ++ lb) W fun e W' =>
      (∃ v, e = .returned v) ∧ W.heap.size ≤ W'.heap.size ∧ ((∃ xs, S xs ∧ J xs W') ∨ ∃ pre, Sp pre ∧ Jx pre W')
/-- How the body of a round may be left. -/
def lowPost {α : Type} (B : Nat) (M : Nat → Prop) (I : List α → World → Prop) (Ix : Code → List α → World → Prop) (xs : List α) (W : World) : Exit → Act → World → Prop
  | .normal, _, W' => KpB M B W W' ∧ I xs W'
  | .ret, _, W' => KpB M B W W' ∧ Ix .ret xs W'
  | .exit id, _, W' => KpB M B W W' ∧ Ix (.exit id) xs W'
  | .goto t, _, W' => KpB M B W W' ∧ Ix (.goto t) xs W'
  | .panic _, _, _ => False
  | .outgrown, _, _ => False
section
variable {F : Fence} {n : Nat} {P : Program}
theorem range_low {α ι : Type} {g : Operand} {ps : Array Tmp} {assign body : Code} {Q : Exit → Act → World → Prop} {a : Act} {w : World}
    (hro : F.round = none) (h1 : 1 ≤ n) {gf : Nat} {lb : Array Value} (hg : a.eval g = .func (.func gf) #[] lb) (hF : F.fn gf) (eg : ∀ args w, (callFunc gf args).run P w = .ok (.enter gf args) w)
    {enc : α → Array Value} {M : Nat → Prop} {T : α → World → Prop} {S Sp : List α → Prop} {N : Nat} {w0 : World} (hseq : SeqLow F (n - 1) P gf lb enc M T S Sp N w0)
    (G : α → ι → World → Prop) (hG : ∀ (x : α) (i : ι) (A : World) (l : Nat) (o o' : Obj), A.heap[l]? = some o → o.isCells = false → G x i A → G x i (A.putObj l o'))
    (hM : ∀ k, M k → k < w.heap.size) (hb0 : Below w0.heap.size w0 w) (hps : ∀ x, (enc x).size = ps.size)
    (I : List α → World → Prop) (Ix : Code → List α → World → Prop) (hI : LowC w.heap.size I) (hIx : ∀ c, LowC w.heap.size (Ix c))
    (h0 : I [] w) (a₁ : α → ι → Act)
    (hassign : ∀ (l : Nat) (x : α) (W : World) (K : Act → World → Prop), w.heap.size + 2 ≤ W.heap.size → T x W → (∀ i W', G x i W' → Below W.heap.size W W' → K (a₁ x i) W') →
      assign.wpIn (F.inRound l) (n - 1 - 1) P (Exit.then K fun _ _ _ => False) { tmps := (ps.zip (enc x)).foldl (fun t (p, v) => t.setIfInBounds p v) a.tmps, defers := [] } W)
    (hbody : ∀ (l : Nat) (pre : List α) (x : α) (i : ι) (W : World), I pre W → w.heap.size + 2 ≤ W.heap.size → pre.length < N → Sp (pre ++ [x]) → G x i W → body.wpIn (F.inRound l) (n - 1 - 1) P (lowPost w.heap.size M I Ix (pre ++ [x]) W) (a₁ x i) W)
    (hdone : ∀ (D : Nat) (xs : List α) (W : World), w.heap.size ≤ D → S xs → I xs W → W.heap[D]? = some (.deferred (some [])) → Q .normal { a with defers := { target := .collected D, args := #[] } :: a.defers } W)
    (hstop : ∀ (D : Nat) (c : Code) (pre : List α) (W : World), w.heap.size ≤ D → Sp pre → Ix c pre W → W.heap[D]? = some (.deferred (some [])) → c.wpIn F n P Q { a with defers := { target := .collected D, args := #[] } :: a.defers } W) :
    (Code.rangeFunc g ps assign body).wpIn F n P Q a w := by
  refine wpIn_rangeFunc fun fn hfn => ?_
  rw [hro]
  generalize hrc : (fun (s : LoopState) (j : Option Code) => ({ state := s, pending := j, fn := fn, tmps := a.tmps, params := ps, assign := assign, body := body, defers := w.heap.size } : Loop)) = rc
  obtain ⟨At, hAt⟩ : ∃ At : LoopState → Option Code → World → Prop, At = fun s j W => w.heap.size + 2 ≤ W.heap.size ∧ W.heap[w.heap.size + 1]? = some (.loop (rc s j)) ∧ W.heap[w.heap.size]? = some (.deferred (some [])) := ⟨_, rfl⟩
  have lowed : ∀ s j A C, At s j A → Below (w.heap.size + 2) A C → At s j C := fun s j A C h hb => by
    subst hAt
    exact ⟨Nat.le_trans h.1 hb.size, (hb.block _ (by omega)).trans h.2.1, (hb.block _ (by omega)).trans h.2.2⟩
  have turned : ∀ s j s' j' A, At s j A → At s' j' (A.putObj (w.heap.size + 1) (.loop (rc s' j'))) := fun s j s' j' A h => by
    subst hAt
    exact ⟨by have := h.1; simpa using this, World.putObj_heap_same (Array.getElem?_eq_some_iff.1 h.2.1).1, (World.putObj_heap_other (by omega)).trans h.2.2⟩
  have kept : ∀ s j A C, At s j A → KpB M w.heap.size A C → At s j C := fun s j A C h hk => by
    subst hAt
    exact ⟨Nat.le_trans h.1 hk.1, (hk.2 _ (by have := h.1; omega) (.inl (by omega))).trans h.2.1, (hk.2 _ (by have := h.1; omega) (.inl (Nat.le_refl _))).trans h.2.2⟩
  have sz_at : ∀ s j A, At s j A → w.heap.size + 2 ≤ A.heap.size := fun s j A h => by subst hAt; exact h.1
  have rec_at : ∀ s j A, At s j A → A.heap[w.heap.size + 1]? = some (.loop (rc s j)) := fun s j A h => by subst hAt; exact h.2.1
  have def_at : ∀ s j A, At s j A → A.heap[w.heap.size]? = some (.deferred (some [])) := fun s j A h => by subst hAt; exact h.2.2
  have put : ∀ (β : Type) (K : β → World → Prop) (s : β) st j (o : Obj) A, LowC w.heap.size K → At st j A → K s A → K s (A.putObj (w.heap.size + 1) o) := fun β K s st j o A hK h hs =>
    hK s _ _ hs (by have := sz_at _ _ _ h; omega) ((Below.refl _ A).grown (grownBy_putObj' A _ o) (by have := sz_at _ _ _ h; omega) (fun k e => by cases e; omega))
  obtain ⟨W1, hW1⟩ : ∃ W1, (w.alloc (.deferred (some []))).alloc (.loop (rc .ready none)) = W1 := ⟨_, rfl⟩
  have s1 : W1.heap.size = w.heap.size + 2 := by subst hW1; simp
  have a1 : At .ready none W1 := by
    subst hAt
    refine ⟨by omega, ?_⟩
    subst hW1
    have e := World.alloc_heap_new (w.alloc (.deferred (some []))) (.loop (rc .ready none))
    rw [World.size_alloc] at e
    exact ⟨e, (Below.heap_alloc _ _ _ (by simp)).trans (World.alloc_heap_new w _)⟩
  have bw1 : Below w.heap.size w W1 := by
    subst hW1
    exact ((Below.refl _ w).alloc (Nat.le_refl _) _).alloc (by simp) _
  have i1 : I [] W1 := hI _ _ _ h0 (Nat.le_refl _) bw1
  have b1 : Below w0.heap.size w0 W1 := hb0.trans (bw1.mono hb0.size)
  have en : (Instr.enterLoop fn a.tmps ps assign body none).run P w = .ok (w.heap.size + 1, [{ target := .collected w.heap.size, args := #[] }]) W1 := by
    rw [← hW1, ← hrc]
    exact run_enterLoop_outer _ _ _ _ _
  refine ⟨_, _, W1, { target := .fn (.func gf) lb, args := #[.func (.yield (w.heap.size + 1)) #[] #[]] }, W1, gf, #[.func (.yield (w.heap.size + 1)) #[] #[]] ++ lb, W1, en, ?_, fun f' h => ?_, ?_, fun _ => h1, ?_⟩
  · simp only [resolve, hg]
    simp [go_sem]
  · simp [Target.leads] at h
    subst h
    exact hF
  · simp [invoke, go_sem, eg]
  refine (hseq (w.heap.size + 1) (fun pre W => I pre W ∧ At .ready none W) (fun pre W => ∃ c, Ix c pre W ∧ At .done (some c) W) W1 b1 ?_ ?_ ?_ ⟨i1, a1⟩).mono ?_
  · intro s A C h hB hb
    rw [s1] at hb hB
    exact ⟨hI s A C h.1 (by omega) (hb.mono (by omega)), lowed _ _ A C h.2 hb⟩
  · intro s A C h hB hb
    rw [s1] at hb hB
    obtain ⟨c, hc, ha⟩ := h
    exact ⟨c, hIx c s A C hc (by omega) (hb.mono (by omega)), lowed _ _ A C ha hb⟩
  · rintro pre x W ⟨hi, ha⟩ hsz hlen hsp hTx
    rw [s1]
    have hy := run_yield (P := P) (args := enc x) (rec_at _ _ _ ha) (by rw [← hrc]; exact hps x)
    rw [← hrc] at hy
    refine ⟨fn, _, assign, body, hy, roundIn_of_wpIn hfn (hassign _ x W _ (sz_at _ _ _ ha) hTx fun ii V hGi hWV => ?_)⟩
    have kV : KpB M (w.heap.size + 2) W V := .of_below hWV
    replace hi := hI _ _ _ hi (by have := sz_at _ _ _ ha; omega) (hWV.mono (by have := sz_at _ _ _ ha; omega))
    replace ha := lowed _ _ _ _ ha (hWV.mono (sz_at _ _ _ ha))
    generalize hVW : V = W' at *
    refine ⟨_, run_beginRound (rec_at _ _ _ ha) (by rw [← hrc]), ?_⟩
    have busy : At .busy none (W'.putObj (w.heap.size + 1) (.loop { rc .ready none with state := .busy })) := by
      have := turned _ _ .busy none W' ha
      rw [← hrc] at this ⊢
      exact this
    have hnM : ¬ M (w.heap.size + 1) := fun h => by have := hM _ h; omega
    have kb : KpB M (w.heap.size + 2) W (W'.putObj (w.heap.size + 1) (.loop { rc .ready none with state := .busy })) := kV.trans (KpB.put _ _ _ (by omega) hnM)
    refine wpIn_mono (hbody _ pre x ii _ (put _ I pre _ _ _ W' hI ha hi) (sz_at _ _ _ busy) hlen hsp (hG _ _ _ _ _ _ (rec_at _ _ _ ha) rfl hGi)) fun e a3 W3 hp => ?_
    have fin : ∀ (j : Option Code), KpB M w.heap.size (W'.putObj (w.heap.size + 1) (.loop { rc .ready none with state := .busy })) W3 →
        At .busy none W3 ∧ (Instr.endRound (w.heap.size + 1) j).run P W3 = .ok (.bool j.isNone) (W3.putObj (w.heap.size + 1) (.loop (rc (if j.isNone then .ready else .done) j))) ∧
          KpB M (w.heap.size + 2) W (W3.putObj (w.heap.size + 1) (.loop (rc (if j.isNone then .ready else .done) j))) := fun j hk => by
      have h3 := kept _ _ _ _ busy hk
      have := run_endRound (P := P) j (rec_at _ _ _ h3)
      rw [← hrc] at this ⊢
      exact ⟨h3, this, (kb.trans (hk.mono fun k h => h.imp (fun h => by omega) id)).trans (KpB.put _ _ _ (by omega) hnM)⟩
    have out : ∀ (c : Code), KpB M w.heap.size (W'.putObj (w.heap.size + 1) (.loop { rc .ready none with state := .busy })) W3 → Ix c (pre ++ [x]) W3 →
        ∃ v w', (Instr.endRound (w.heap.size + 1) (some c)).run P W3 = .ok v w' ∧ ((Ending.returned v = .returned (.bool true) ∧ (I (pre ++ [x]) w' ∧ At .ready none w') ∧ KpB M (w.heap.size + 2) W w') ∨ (Ending.returned v = .returned (.bool false) ∧ (∃ c, Ix c (pre ++ [x]) w' ∧ At .done (some c) w') ∧ KpB M (w.heap.size + 2) W w')) := fun c hk hc => by
      obtain ⟨h3, hr, hkk⟩ := fin (some c) hk
      exact ⟨_, _, hr, .inr ⟨rfl, ⟨c, put _ (Ix c) _ _ _ _ W3 (hIx c) h3 hc, turned _ _ _ _ W3 h3⟩, hkk⟩⟩
    cases e with
    | normal =>
      obtain ⟨hk, hi3⟩ := hp
      obtain ⟨h3, hr, hkk⟩ := fin none hk
      exact ⟨_, _, hr, .inl ⟨rfl, ⟨put _ I _ _ _ _ W3 hI h3 hi3, turned _ _ _ _ W3 h3⟩, hkk⟩⟩
    | ret => exact out .ret hp.1 hp.2
    | exit id => exact out (.exit id) hp.1 hp.2
    | goto t => exact out (.goto t) hp.1 hp.2
    | panic c => exact hp.elim
    | outgrown => exact hp.elim
  · rintro e W2 ⟨⟨v, rfl⟩, hs2, h⟩
    have fin : ∀ s j, s ≠ .busy → At s j W2 → (Instr.endLoop (w.heap.size + 1)).run P W2 = .ok j (W2.putObj (w.heap.size + 1) (.loop { rc s j with state := .exhausted })) ∧ (W2.putObj (w.heap.size + 1) (.loop { rc s j with state := .exhausted })).heap[w.heap.size]? = some (.deferred (some [])) := fun s j hs h => by
      have := run_endLoop (P := P) (rec_at _ _ _ h) (by rw [← hrc]; exact hs)
      rw [← hrc] at this ⊢
      exact ⟨this, (World.putObj_heap_other (by omega)).trans (def_at _ _ _ h)⟩
    rcases h with ⟨xs, hS, hi, ha⟩ | ⟨pre, hSp, c, hi, ha⟩
    · obtain ⟨hr, hd⟩ := fin _ _ (by simp) ha
      exact ⟨none, _, hr, hdone _ xs _ (Nat.le_refl _) hS (put _ I _ _ _ _ W2 hI ha hi) hd⟩
    · obtain ⟨hr, hd⟩ := fin _ _ (by simp) ha
      exact ⟨some c, _, hr, hstop _ c pre _ (Nat.le_refl _) hSp (put _ (Ix c) _ _ _ _ W2 (hIx c) ha hi) hd⟩
end
theorem KpB.cell {M : Nat → Prop} {B : Nat} {w w' : World} (h : KpB M B w w') {p : Addr} {v : Value} (hp : B ≤ p.block ∨ M p.block) (hc : w.cell? p = some v) : w'.cell? p = some v := by
  have h1 := h.2 _ (lt_of_cell_some hc) hp
  unfold World.cell? at hc ⊢
  rw [h1]
  exact hc
theorem take_next {l : List Nat} {i : Nat} (h : i < l.length) : l.take (i + 1) = l.take i ++ [l.getD i 0] := by
  rw [List.take_add_one, List.getD_eq_getElem?_getD, List.getElem?_eq_getElem h]
  rfl
theorem round_wide {n n' : Nat} {P : Program} {l l2 : Nat} {f : FuncId} {tmps : Array Value} {assign body : Code} {w : World} {R : Ending → World → Prop} (h : RoundIn Fence.wide n P l f tmps assign body w R) : RoundIn (Fence.wide.inRound l2) n' P l f tmps assign body w R :=
  ⟨trivial, fun c cs _ => h.2 c cs (room_wide _)⟩
theorem prefix_map {α β : Type} {g : α → β} {l : List α} {x : α} {L : List β} (h : l.map g ++ [g x] <+: L) : (l ++ [x]).map g <+: L := by rw [List.map_append]; exact h
theorem wpIn_store_row {F : Fence} {n : Nat} {P : Program} {o : Oper} {a : Act} {w : World} {K : Act → World → Prop} {Q : Exit → Act → World → Prop} (ty : TypeId) (x y : Operand) (ho : o.op = .store ty x y)
    (g : Nat) (cells : Array Value) (hx : a.eval x = .pointer (some ⟨g, 0, none⟩)) (hy : a.eval y = .agg cells)
    (t : TypeId) (old : Array Value) (hg : w.heap[g]? = some (.cells old t (0, 0))) (hi : (P.info? ty).map (·.size) = some cells.size)
    (hold : old.size = cells.size) (h1 : cells.all (·.oneCell') = true)
    (h : K (a.put o.dst undef) (w.setRow g cells)) : o.wpIn F n P a w K Q := by
  refine ⟨fun f hf => ?_, ?_⟩
  · unfold Oper.about at hf
    rw [ho] at hf
    cases hf
  · rw [Oper.semAt_eq _ _ _ (fun c => by rw [ho]; simp)]
    unfold execOp
    simp only [ho, hx, hy, Instr.storeAt, Instr.sureAddr, Sem.run_bind, Sem.run_pure, Result.andThen_ok, run_storeVar_row w g t ty old cells hg hi hold h1]
    exact h
theorem wpListIn_store_row {F : Fence} {n : Nat} {P : Program} {ops : Array Oper} {rest : List Oper} {o : Oper} {a : Act} {w : World} {Q : Exit → Act → World → Prop} (hgd : o.guard = none) (ty : TypeId) (x y : Operand) (ho : o.op = .store ty x y)
    (g : Nat) (cells : Array Value) (hx : a.eval x = .pointer (some ⟨g, 0, none⟩)) (hy : a.eval y = .agg cells)
    (t : TypeId) (old : Array Value) (hg : w.heap[g]? = some (.cells old t (0, 0))) (hi : (P.info? ty).map (·.size) = some cells.size)
    (hold : old.size = cells.size) (h1 : cells.all (·.oneCell') = true)
    (h : wpListIn F n P ops Q rest (a.put o.dst undef) (w.setRow g cells)) : wpListIn F n P ops Q (o :: rest) a w :=
  wpListIn_plain hgd fun _ hK => wpIn_store_row ty x y ho g cells hx hy t old hg hi hold h1 (hK _ _ h)
theorem wpIn_load_row {F : Fence} {n : Nat} {P : Program} {o : Oper} {a : Act} {w : World} {K : Act → World → Prop} {Q : Exit → Act → World → Prop} (ty : TypeId) (x : Operand) (ho : o.op = .load ty x)
    (g : Nat) (hx : a.eval x = .pointer (some ⟨g, 0, none⟩)) (t : TypeId) (cs : Array Value) (fr : Nat × Nat) (d : TypeDesc) (hg : w.heap[g]? = some (.cells cs t fr))
    (hu : P.underlying ty = some d) (hd : (match d with | .struct _ | .array _ _ => true | _ => false) = true) (hi : (P.info? ty).map (·.size) = some cs.size)
    (h : K (a.put o.dst (.agg cs)) w) : o.wpIn F n P a w K Q := by
  refine ⟨fun f hf => ?_, ?_⟩
  · unfold Oper.about at hf
    rw [ho] at hf
    cases hf
  · rw [Oper.semAt_eq _ _ _ (fun c => by rw [ho]; simp)]
    unfold execOp
    simp only [ho, hx, Instr.loadAt, Instr.sureAddr, Sem.run_bind, Sem.run_pure, Result.andThen_ok, run_loadVar_row w g t ty cs fr d hg hu hd hi]
    exact h
end Go.Proofs.Ythnllhfdbnnjhaa
