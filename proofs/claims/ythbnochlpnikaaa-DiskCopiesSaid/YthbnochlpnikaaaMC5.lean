/- Parts: K31 K32 K33 K34 K35 K36 K37. -/
import Derived.Test.YthbnochlpnikaaaMC4
import Derived.RangeFuncNested
import Derived.Stop.RegionWithIn
import Derived.Deep.RegionHeld
namespace Go.Proofs.Ythbnochlpnikaaa
open Go.RowKit Go.Shelf

/-- What is said of a world speaks of what lies below B alone. -/
def LowC {β : Type} (B : Nat) (J : β → World → Prop) : Prop := ∀ s A C, J s A → B ≤ A.heap.size → Below B A C → J s C
/-- What a round keeps: all from B on, and what M names. -/
def KpB (M : Nat → Prop) (B : Nat) (A C : World) : Prop := A.heap.size ≤ C.heap.size ∧ ∀ k, k < A.heap.size → (B ≤ k ∨ M k) → C.heap[k]? = A.heap[k]?
theorem KpB.refl (M : Nat → Prop) (B : Nat) (A : World) : KpB M B A A := ⟨Nat.le_refl _, fun _ _ _ => rfl⟩
theorem KpB.trans {M : Nat → Prop} {B : Nat} {X Y Z : World} (h : KpB M B X Y) (k : KpB M B Y Z) : KpB M B X Z := ⟨Nat.le_trans h.1 k.1, fun i hi hm => (k.2 i (Nat.lt_of_lt_of_le hi h.1) hm).trans (h.2 i hi hm)⟩
theorem KpB.mono {M M' : Nat → Prop} {B B' : Nat} {X Y : World} (h : KpB M B X Y) (hm : ∀ k, B' ≤ k ∨ M' k → B ≤ k ∨ M k) : KpB M' B' X Y := ⟨h.1, fun k hk h' => h.2 k hk (hm k h')⟩
theorem KpB.put {M : Nat → Prop} {B : Nat} (W : World) (l : Nat) (o : Obj) (hB : l < B) (hM : ¬ M l) : KpB M B W (W.putObj l o) :=
  ⟨by simp, fun k _ h => World.putObj_heap_other (by rintro rfl; exact h.elim (fun h => by omega) hM)⟩
theorem KpB.alloc {M : Nat → Prop} {B : Nat} (W : World) (o : Obj) : KpB M B W (W.alloc o) := ⟨by simp, fun k hk _ => Below.heap_alloc _ _ _ hk⟩
theorem KpB.setCell {M : Nat → Prop} {B : Nat} (W : World) (p : Addr) (v : Value) (hB : p.block < B) (hM : ¬ M p.block) : KpB M B W (W.setCell p v) :=
  ⟨(KeepsWalks.setCell W p v).size, fun k _ h => Below.heap_setCell _ _ _ _ (by rintro rfl; exact h.elim (fun h => by omega) hM)⟩
theorem KpB.of_below {M : Nat → Prop} {B : Nat} {W W' : World} (h : Below W.heap.size W W') : KpB M B W W' := ⟨h.size, fun k hk _ => h.block k hk⟩
/-- A step behind an allocation: what is new may be written. -/
theorem KpB.new {M : Nat → Prop} {B : Nat} {W X Y : World} (h : KpB M B W X) (h2 : Below W.heap.size X Y) : KpB M B W Y := ⟨Nat.le_trans h.1 h2.size, fun k hk hm => (h2.block k hk).trans (h.2 k hk hm)⟩
theorem LowC.and {β : Type} {B : Nat} {J K : β → World → Prop} (h : LowC B J) (k : LowC B K) : LowC B (fun s W => J s W ∧ K s W) := fun s A C hs hB hb => ⟨h s A C hs.1 hB hb, k s A C hs.2 hB hb⟩
theorem LowC.mono {β : Type} {B B' : Nat} {J : β → World → Prop} (h : LowC B J) (hB : B ≤ B') : LowC B' J := fun s A C hs hA hb => h s A C hs (Nat.le_trans hB hA) (hb.mono hB)
theorem LowC.pure {β : Type} (B : Nat) (J : β → Prop) : LowC B (fun s _ => J s) := fun _ _ _ h _ _ => h
theorem LowC.block {β : Type} {B k : Nat} (hk : k < B) (o : Obj) : LowC B (fun (_ : β) W => W.heap[k]? = some o) := fun _ _ _ h _ hb => (hb.block k hk).trans h
theorem LowC.size {β : Type} {B n : Nat} : LowC B (fun (_ : β) W => n ≤ W.heap.size) := fun _ _ _ h _ hb => Nat.le_trans h hb.size

/-- What such an iterator promises to whoever ranges over it. -/
def SeqLow {α : Type} (F : Fence) (n : Nat) (P : Program) (g : Nat) (lb : Array Value) (enc : α → Array Value) (M : Nat → Prop) (T : α → World → Prop) (S Sp : List α → Prop) (N : Nat) (w : World) : Prop :=
  ∀ (l : Nat) (J Jx : List α → World → Prop) (W : World), Below w.heap.size w W → LowC W.heap.size J → LowC W.heap.size Jx →
    (∀ pre x A, J pre A → W.heap.size ≤ A.heap.size → pre.length < N → Sp (pre ++ [x]) → T x A → YieldAt F (n - 1) P l (enc x) A fun e A' =>
      (e = .returned (.bool true) ∧ J (pre ++ [x]) A' ∧ KpB M W.heap.size A A') ∨ (e = .returned (.bool false) ∧ Jx (pre ++ [x]) A' ∧ KpB M W.heap.size A A')) →
    J [] W → CallsIn F n P g (#[.func (.yield l) #[] #[]] ++ lb) W fun e W' =>
      (∃ v, e = .returned v) ∧ W.heap.size ≤ W'.heap.size ∧ ((∃ xs, S xs ∧ J xs W') ∨ ∃ pre, Sp pre ∧ Jx pre W')
/-- How the body of a round may be left. -/
def lowPost {α : Type} (B : Nat) (M : Nat → Prop) (I : List α → World → Prop) (Ix : Code → List α → World → Prop) (xs : List α) (W : World) : Exit → Act → World → Prop
  | .normal, _, W' => KpB M B W W' ∧ I xs W'
  | .ret, _, W' => KpB M B W W' ∧ Ix .ret xs W'
  | .exit id, _, W' => KpB M B W W' ∧ Ix (.exit id) xs W'
  | .goto t, _, W' => KpB M B W W' ∧ Ix (.goto t) xs W'
  | .panic _, _, _ => False
  | .outgrown, _, _ => False
section
variable {F : Fence} {n : Nat} {P : Program}
theorem range_low {α ι : Type} {g : Operand} {ps : Array Tmp} {assign body : Code} {Q : Exit → Act → World → Prop} {a : Act} {w : World}
    (hro : F.round = none) (h1 : 1 ≤ n) {gf : Nat} {lb : Array Value} (hg : a.eval g = .func (.func gf) #[] lb) (hF : F.fn gf) (eg : ∀ args w, (callFunc gf args).run P w = .ok (.enter gf args) w)
    {enc : α → Array Value} {M : Nat → Prop} {T : α → World → Prop} {S Sp : List α → Prop} {N : Nat} {w0 : World} (hseq : SeqLow F (n - 1) P gf lb enc M T S Sp N w0)
    (G : α → ι → World → Prop) (hG : ∀ (x : α) (i : ι) (A : World) (l : Nat) (o o' : Obj), A.heap[l]? = some o → o.isCells = false → G x i A → G x i (A.putObj l o'))
    (hM : ∀ k, M k → k < w.heap.size) (hb0 : Below w0.heap.size w0 w) (hps : ∀ x, (enc x).size = ps.size)
    (I : List α → World → Prop) (Ix : Code → List α → World → Prop) (hI : LowC w.heap.size I) (hIx : ∀ c, LowC w.heap.size (Ix c))
    (h0 : I [] w) (a₁ : α → ι → Act)
    (hassign : ∀ (l : Nat) (x : α) (W : World) (K : Act → World → Prop), w.heap.size + 2 ≤ W.heap.size → T x W → (∀ i W', G x i W' → Below W.heap.size W W' → K (a₁ x i) W') →
      assign.wpIn (F.inRound l) (n - 1 - 1) P (Exit.then K fun _ _ _ => False) { tmps := (ps.zip (enc x)).foldl (fun t (p, v) => t.setIfInBounds p v) a.tmps, defers := [] } W)
    (hbody : ∀ (l : Nat) (pre : List α) (x : α) (i : ι) (W : World), I pre W → w.heap.size + 2 ≤ W.heap.size → pre.length < N → Sp (pre ++ [x]) → G x i W → body.wpIn (F.inRound l) (n - 1 - 1) P (lowPost w.heap.size M I Ix (pre ++ [x]) W) (a₁ x i) W)
    (hdone : ∀ (D : Nat) (xs : List α) (W : World), w.heap.size ≤ D → S xs → I xs W → W.heap[D]? = some (.deferred (some [])) → Q .normal { a with defers := { target := .collected D, args := #[] } :: a.defers } W)
    (hstop : ∀ (D : Nat) (c : Code) (pre : List α) (W : World), w.heap.size ≤ D → Sp pre → Ix c pre W → W.heap[D]? = some (.deferred (some [])) → c.wpIn F n P Q { a with defers := { target := .collected D, args := #[] } :: a.defers } W) :
    (Code.rangeFunc g ps assign body).wpIn F n P Q a w := by
  refine wpIn_rangeFunc fun fn hfn => ?_
  rw [hro]
  generalize hrc : (fun (s : LoopState) (j : Option Code) => ({ state := s, pending := j, fn := fn, tmps := a.tmps, params := ps, assign := assign, body := body, defers := w.heap.size } : Loop)) = rc
  obtain ⟨At, hAt⟩ : ∃ At : LoopState → Option Code → World → Prop, At = fun s j W => w.heap.size + 2 ≤ W.heap.size ∧ W.heap[w.heap.size + 1]? = some (.loop (rc s j)) ∧ W.heap[w.heap.size]? = some (.deferred (some [])) := ⟨_, rfl⟩
  have lowed : ∀ s j A C, At s j A → Below (w.heap.size + 2) A C → At s j C := fun s j A C h hb => by
    subst hAt
    exact ⟨Nat.le_trans h.1 hb.size, (hb.block _ (by omega)).trans h.2.1, (hb.block _ (by omega)).trans h.2.2⟩
  have turned : ∀ s j s' j' A, At s j A → At s' j' (A.putObj (w.heap.size + 1) (.loop (rc s' j'))) := fun s j s' j' A h => by
    subst hAt
    exact ⟨by have := h.1; simpa using this, World.putObj_heap_same (Array.getElem?_eq_some_iff.1 h.2.1).1, (World.putObj_heap_other (by omega)).trans h.2.2⟩
  have kept : ∀ s j A C, At s j A → KpB M w.heap.size A C → At s j C := fun s j A C h hk => by
    subst hAt
    exact ⟨Nat.le_trans h.1 hk.1, (hk.2 _ (by have := h.1; omega) (.inl (by omega))).trans h.2.1, (hk.2 _ (by have := h.1; omega) (.inl (Nat.le_refl _))).trans h.2.2⟩
  have sz_at : ∀ s j A, At s j A → w.heap.size + 2 ≤ A.heap.size := fun s j A h => by subst hAt; exact h.1
  have rec_at : ∀ s j A, At s j A → A.heap[w.heap.size + 1]? = some (.loop (rc s j)) := fun s j A h => by subst hAt; exact h.2.1
  have def_at : ∀ s j A, At s j A → A.heap[w.heap.size]? = some (.deferred (some [])) := fun s j A h => by subst hAt; exact h.2.2
  have put : ∀ (β : Type) (K : β → World → Prop) (s : β) st j (o : Obj) A, LowC w.heap.size K → At st j A → K s A → K s (A.putObj (w.heap.size + 1) o) := fun β K s st j o A hK h hs =>
    hK s _ _ hs (by have := sz_at _ _ _ h; omega) ((Below.refl _ A).grown (grownBy_putObj' A _ o) (by have := sz_at _ _ _ h; omega) (fun k e => by cases e; omega))
  obtain ⟨W1, hW1⟩ : ∃ W1, (w.alloc (.deferred (some []))).alloc (.loop (rc .ready none)) = W1 := ⟨_, rfl⟩
  have s1 : W1.heap.size = w.heap.size + 2 := by subst hW1; simp
  have a1 : At .ready none W1 := by
    subst hAt
    refine ⟨by omega, ?_⟩
    subst hW1
    have e := World.alloc_heap_new (w.alloc (.deferred (some []))) (.loop (rc .ready none))
    rw [World.size_alloc] at e
    exact ⟨e, (Below.heap_alloc _ _ _ (by simp)).trans (World.alloc_heap_new w _)⟩
  have bw1 : Below w.heap.size w W1 := by
    subst hW1
    exact ((Below.refl _ w).alloc (Nat.le_refl _) _).alloc (by simp) _
  have i1 : I [] W1 := hI _ _ _ h0 (Nat.le_refl _) bw1
  have b1 : Below w0.heap.size w0 W1 := hb0.trans (bw1.mono hb0.size)
  have en : (Instr.enterLoop fn a.tmps ps assign body none).run P w = .ok (w.heap.size + 1, [{ target := .collected w.heap.size, args := #[] }]) W1 := by
    rw [← hW1, ← hrc]
    exact run_enterLoop_outer _ _ _ _ _
  refine ⟨_, _, W1, { target := .fn (.func gf) lb, args := #[.func (.yield (w.heap.size + 1)) #[] #[]] }, W1, gf, #[.func (.yield (w.heap.size + 1)) #[] #[]] ++ lb, W1, en, ?_, fun f' h => ?_, ?_, fun _ => h1, ?_⟩
  · simp only [resolve, hg]
    simp [go_sem]
  · simp [Target.leads] at h
    subst h
    exact hF
  · simp [invoke, go_sem, eg]
  refine (hseq (w.heap.size + 1) (fun pre W => I pre W ∧ At .ready none W) (fun pre W => ∃ c, Ix c pre W ∧ At .done (some c) W) W1 b1 ?_ ?_ ?_ ⟨i1, a1⟩).mono ?_
  · intro s A C h hB hb
    rw [s1] at hb hB
    exact ⟨hI s A C h.1 (by omega) (hb.mono (by omega)), lowed _ _ A C h.2 hb⟩
  · intro s A C h hB hb
    rw [s1] at hb hB
    obtain ⟨c, hc, ha⟩ := h
    exact ⟨c, hIx c s A C hc (by omega) (hb.mono (by omega)), lowed _ _ A C ha hb⟩
  · rintro pre x W ⟨hi, ha⟩ hsz hlen hsp hTx
    rw [s1]
    have hy := run_yield (P := P) (args := enc x) (rec_at _ _ _ ha) (by rw [← hrc]; exact hps x)
    rw [← hrc] at hy
    refine ⟨fn, _, assign, body, hy, roundIn_of_wpIn hfn (hassign _ x W _ (sz_at _ _ _ ha) hTx fun ii V hGi hWV => ?_)⟩
    have kV : KpB M (w.heap.size + 2) W V := .of_below hWV
    replace hi := hI _ _ _ hi (by have := sz_at _ _ _ ha; omega) (hWV.mono (by have := sz_at _ _ _ ha; omega))
    replace ha := lowed _ _ _ _ ha (hWV.mono (sz_at _ _ _ ha))
    generalize hVW : V = W' at *
    refine ⟨_, run_beginRound (rec_at _ _ _ ha) (by rw [← hrc]), ?_⟩
    have busy : At .busy none (W'.putObj (w.heap.size + 1) (.loop { rc .ready none with state := .busy })) := by
      have := turned _ _ .busy none W' ha
      rw [← hrc] at this ⊢
      exact this
    have hnM : ¬ M (w.heap.size + 1) := fun h => by have := hM _ h; omega
    have kb : KpB M (w.heap.size + 2) W (W'.putObj (w.heap.size + 1) (.loop { rc .ready none with state := .busy })) := kV.trans (KpB.put _ _ _ (by omega) hnM)
    refine wpIn_mono (hbody _ pre x ii _ (put _ I pre _ _ _ W' hI ha hi) (sz_at _ _ _ busy) hlen hsp (hG _ _ _ _ _ _ (rec_at _ _ _ ha) rfl hGi)) fun e a3 W3 hp => ?_
    have fin : ∀ (j : Option Code), KpB M w.heap.size (W'.putObj (w.heap.size + 1) (.loop { rc .ready none with state := .busy })) W3 →
        At .busy none W3 ∧ (Instr.endRound (w.heap.size + 1) j).run P W3 = .ok (.bool j.isNone) (W3.putObj (w.heap.size + 1) (.loop (rc (if j.isNone then .ready else .done) j))) ∧
          KpB M (w.heap.size + 2) W (W3.putObj (w.heap.size + 1) (.loop (rc (if j.isNone then .ready else .done) j))) := fun j hk => by
      have h3 := kept _ _ _ _ busy hk
      have := run_endRound (P := P) j (rec_at _ _ _ h3)
      rw [← hrc] at this ⊢
      exact ⟨h3, this, (kb.trans (hk.mono fun k h => h.imp (fun h => by omega) id)).trans (KpB.put _ _ _ (by omega) hnM)⟩
    have out : ∀ (c : Code), KpB M w.heap.size (W'.putObj (w.heap.size + 1) (.loop { rc .ready none with state := .busy })) W3 → Ix c (pre ++ [x]) W3 →
        ∃ v w', (Instr.endRound (w.heap.size + 1) (some c)).run P W3 = .ok v w' ∧ ((Ending.returned v = .returned (.bool true) ∧ (I (pre ++ [x]) w' ∧ At .ready none w') ∧ KpB M (w.heap.size + 2) W w') ∨ (Ending.returned v = .returned (.bool false) ∧ (∃ c, Ix c (pre ++ [x]) w' ∧ At .done (some c) w') ∧ KpB M (w.heap.size + 2) W w')) := fun c hk hc => by
      obtain ⟨h3, hr, hkk⟩ := fin (some c) hk
      exact ⟨_, _, hr, .inr ⟨rfl, ⟨c, put _ (Ix c) _ _ _ _ W3 (hIx c) h3 hc, turned _ _ _ _ W3 h3⟩, hkk⟩⟩
    cases e with
    | normal =>
      obtain ⟨hk, hi3⟩ := hp
      obtain ⟨h3, hr, hkk⟩ := fin none hk
      exact ⟨_, _, hr, .inl ⟨rfl, ⟨put _ I _ _ _ _ W3 hI h3 hi3, turned _ _ _ _ W3 h3⟩, hkk⟩⟩
    | ret => exact out .ret hp.1 hp.2
    | exit id => exact out (.exit id) hp.1 hp.2
    | goto t => exact out (.goto t) hp.1 hp.2
    | panic c => exact hp.elim
    | outgrown => exact hp.elim
  · rintro e W2 ⟨⟨v, rfl⟩, hs2, h⟩
    have fin : ∀ s j, s ≠ .busy → At s j W2 → (Instr.endLoop (w.heap.size + 1)).run P W2 = .ok j (W2.putObj (w.heap.size + 1) (.loop { rc s j with state := .exhausted })) ∧ (W2.putObj (w.heap.size + 1) (.loop { rc s j with state := .exhausted })).heap[w.heap.size]? = some (.deferred (some [])) := fun s j hs h => by
      have := run_endLoop (P := P) (rec_at _ _ _ h) (by rw [← hrc]; exact hs)
      rw [← hrc] at this ⊢
      exact ⟨this, (World.putObj_heap_other (by omega)).trans (def_at _ _ _ h)⟩
    rcases h with ⟨xs, hS, hi, ha⟩ | ⟨pre, hSp, c, hi, ha⟩
    · obtain ⟨hr, hd⟩ := fin _ _ (by simp) ha
      exact ⟨none, _, hr, hdone _ xs _ (Nat.le_refl _) hS (put _ I _ _ _ _ W2 hI ha hi) hd⟩
    · obtain ⟨hr, hd⟩ := fin _ _ (by simp) ha
      exact ⟨some c, _, hr, hstop _ c pre _ (Nat.le_refl _) hSp (put _ (Ix c) _ _ _ _ W2 (hIx c) ha hi) hd⟩
end
theorem wpIn_scope_wide {n : Nat} {P : Program} {c : Code} {Q : Exit → Act → World → Prop} {a : Act} {w : World} (h : c.wpIn Fence.wide n P (Exit.noGoto Q) a w) : (Code.scope c).wpIn Fence.wide n P Q a w := wpIn_wide.2 (wp_scope_straight (wpIn_wide.1 h))
/-- A range over a function that is left at its end or by a break: one way on. -/
theorem range_norm {F : Fence} {n : Nat} {P : Program} {g : Operand} {ps : Array Tmp} {assign body : Code} {Q : Exit → Act → World → Prop} {a : Act} {w : World} (id : Nat) (R : Nat → World → Prop)
    (hex : ∀ a W, Q .normal a W → Q (.exit id) a W)
    (h : (Code.rangeFunc g ps assign body).wpIn F n P (fun e a' W => (e = .normal ∨ e = .exit id) ∧ ∃ D, a' = { a with defers := { target := .collected D, args := #[] } :: a.defers } ∧ R D W) a w)
    (hfin : ∀ D W, R D W → Q .normal { a with defers := { target := .collected D, args := #[] } :: a.defers } W) :
    (Code.rangeFunc g ps assign body).wpIn F n P Q a w :=
  wpIn_mono h (by
    rintro e a' W ⟨rfl | rfl, D, rfl, hR⟩
    · exact hfin D W hR
    · exact hex _ _ (hfin D W hR))
end Go.Proofs.Ythbnochlpnikaaa
namespace Go.Proofs.Ythbnochlpnikaaa
open Go.RowKit Go.Shelf Go.Maps Go.Sort

/-- The places that do not hold noughts, rising. -/
def keysS (m : Nat) (f : Nat → ByteArray) : List Nat := (List.range m).filter fun k => decide (f k ≠ secS 0)
theorem mem_keysS {m : Nat} {f : Nat → ByteArray} {k : Nat} : k ∈ keysS m f ↔ k < m ∧ f k ≠ secS 0 := by
  unfold keysS
  rw [List.mem_filter, List.mem_range, decide_eq_true_iff]
theorem keysS_rising (m : Nat) (f : Nat → ByteArray) : (keysS m f).Pairwise (· < ·) := List.Pairwise.filter _ List.pairwise_lt_range
theorem keysS_length (m : Nat) (f : Nat → ByteArray) : (keysS m f).length ≤ m := by
  have := List.length_filter_le (fun k => decide (f k ≠ secS 0)) (List.range m)
  rw [List.length_range] at this
  exact this
theorem keys_sorted {w : World} {b n m : Nat} {D : DataW Unit} {f : Nat → ByteArray} (h : w.ownsMap Try.prog 3 secR b n D) (hd : DatIs D m f) {ss : List Int} (hp : ss.Perm (intKeys D)) :
    ss.mergeSort (fun x y => decide (x ≤ y)) = (keysS m f).map fun (k : Nat) => (k : Int) := by
  have hc : CollectedI D (fun _ => false) ((keysS m f).map fun (k : Nat) => (k : Int)) := by
    refine ⟨?_, fun x => ?_⟩
    · refine List.pairwise_map.2 ((keysS_rising m f).imp fun h e => ?_)
      have : ((_ : Nat) : Int) = ((_ : Nat) : Int) := e
      omega
    · rw [List.mem_map]
      constructor
      · rintro ⟨k, hk, rfl⟩
        obtain ⟨hk, hf⟩ := mem_keysS.1 hk
        exact ⟨(hd.has k hk).trans (decide_eq_true hf), rfl⟩
      · rintro ⟨hx, -⟩
        obtain ⟨k, hk, e⟩ := hd.only _ hx
        simp only [kL, Lit.int.injEq, true_and] at e
        subst e
        have := hd.has k hk
        rw [kL, hx] at this
        exact ⟨k, mem_keysS.2 ⟨hk, of_decide_eq_true this.symm⟩, rfl⟩
  have h2 := mergeSort_of_perm_i (hp.trans (hc.perm h law3 Try.underlying3 (fun _ => rfl)).symm)
  rw [show (fun x y : Int => decide (x ≤ y)) = leI from rfl, h2]
  refine List.mergeSort_of_pairwise ?_
  refine List.pairwise_map.2 ((keysS_rising m f).imp fun h => ?_)
  simp only [leI, decide_eq_true_eq]
  omega
theorem dat_size {w : World} {b n : Nat} {D : DataW Unit} (h : w.ownsMap Try.prog 3 secR b n D) : Maps.size D ≤ n := by
  obtain ⟨es, clock, hb, F, hs, hD⟩ := h
  have e1 : es.size = Maps.size D := by rw [hD, Maps.size_eq, length_read]
  omega
theorem sortsA (m : Nat) : AnyZI.SortsIn Try.prog Try.sortedA_ren Fence.wide m :=
  ⟨fun blk off cap ss W hH hblk hsz => callsIn_wide.2 (AnyM.slices_Sort_int Try.sortA blk off cap ss W hH hblk hsz),
   fun p cap W => callsIn_wide.2 (AnyM.slices_Sort_int_none Try.sortA p cap W)⟩
/-- A slice of the sorted keys, in memory from B on. -/
def KeysAt (w : World) (B : Nat) (p : Option Addr) (l : List Nat) : Prop := ∀ i, i < l.length → ∃ gb, p = some ⟨gb, 0, none⟩ ∧ B ≤ gb ∧ w.cell? ⟨gb, i, none⟩ = some (.int .i64 (l.getD i 0 : Nat))
theorem KeysAt.kept {w w' : World} {B : Nat} {p : Option Addr} {l : List Nat} (h : KeysAt w B p l) (hk : ∀ k, B ≤ k → k < w.heap.size → w'.heap[k]? = w.heap[k]?) : KeysAt w' B p l := fun i hi => by
  obtain ⟨gb, e, hB, hc⟩ := h i hi
  refine ⟨gb, e, hB, ?_⟩
  rw [← hc]
  unfold World.cell?
  rw [hk gb hB (lt_of_cell_some hc)]
theorem keys64 (mb : Option Nat) (W : World) : Calls Try.prog 64 #[.map mb] W fun e w' => e = .returned (.func (.func 67) #[] #[.pointer (some ⟨W.heap.size, 0, none⟩)]) ∧ w' = W.alloc (.cells #[.map mb] 57) :=
  (callsIn_wide (n := 5)).1 (AnyZI.keys_in Try.keysA Fence.wide 5 trivial rfl mb W)
theorem sorted63 {w : World} {b m : Nat} {f : Nat → ByteArray} (h : MapIs w b m f) {Bm : Nat} (hm : w.cell? ⟨Bm, 0, none⟩ = some (.map (some b))) :
    Calls Try.prog 63 #[.func (.func 67) #[] #[.pointer (some ⟨Bm, 0, none⟩)]] w fun e w' => ∃ p c, e = .returned (.slice p (keysS m f).length c) ∧ KeysAt w' w.heap.size p (keysS m f) ∧ Below w.heap.size w w' := by
  obtain ⟨D, h1, h2⟩ := h.own
  have hs := dat_size h1
  have hseq : SeqGives Fence.wide 2 Try.prog 67 #[.pointer (some ⟨Bm, 0, none⟩)] encZ (fun ss => ss.Perm (intKeys D)) (Maps.size D) w :=
    AnyZI.keys_gives (ρ := Try.keysA_ren) { Try.keysA with } Fence.wide _ trivial rfl (by omega) Bm b 40000 D w (lt_of_cell_some hm) hm h1
  have cS := AnyZI.sorted_in Try.sortedA Fence.wide 5 trivial trivial trivial trivial rfl (by omega) (sortsA _) (enters_of Try.func66 (by kernel_rfl) rfl) 67 #[.pointer (some ⟨Bm, 0, none⟩)] trivial (enters_of Try.func67 (by kernel_rfl) rfl) _ _ (by unfold maxLen; omega) (by omega) _ hseq
  change CallsIn _ _ Try.prog 63 _ _ _ at cS
  refine (callsIn_wide.1 cS).mono ?_
  rintro e w' ⟨v, ss, rfl, hS, hrow, hnil, hb⟩
  have he := keys_sorted h1 h2 hS
  have hl : ss.length = (keysS m f).length := by
    have := congrArg List.length he
    rw [List.length_mergeSort, List.length_map] at this
    exact this
  rw [he] at hrow
  rw [hl] at hrow
  rcases hrow.2 with ⟨rfl, hz⟩ | ⟨gb, cap, cur, rfl, hbase, hgb, r1, r2, r3, r4⟩
  · refine ⟨none, 0, by rw [show (keysS m f).length = 0 by simpa using hz], fun i hi => ?_, hb⟩
    have : (keysS m f).length = 0 := by simpa using hz
    omega
  · refine ⟨_, _, rfl, fun i hi => ⟨gb, rfl, hbase, ?_⟩, hb⟩
    have h5 : (cur.toList.take (keysS m f).length)[i]? = (((keysS m f).map fun (k : Nat) => (k : Int)).map encZ)[i]? := by
      have := r4
      simp only [Nat.mul_one] at this
      rw [this]
    rw [List.getElem?_take_of_lt hi] at h5
    rw [cell_of_row w' gb i cur _ (0, 0) hgb, ← Array.getElem?_toList, h5]
    simp [hi, List.getD_eq_getElem?_getD]
end Go.Proofs.Ythbnochlpnikaaa
namespace Go.Proofs.Ythbnochlpnikaaa
open Go.RowKit Go.Shelf
attribute [local go_sem] Oper.semAt_some

theorem rising_any (m : Option Nat) (w : World) :
    Calls Try.prog 61 #[.map m] w fun r w' => r = .returned (.func (.func 62) #[] #[.pointer (some ⟨w.heap.size, 0, none⟩)]) ∧ w' = w.alloc (.cells #[.map m] 57) := by
  have hmf : ∀ (fn : Fn) (first cap : Array Value) (w : World), (Instr.makeFunc fn first cap).run Try.prog w = .ok (.func fn first cap) w := fun _ _ _ _ => rfl
  go_enter Try.func61, Try.ntmps61
  go_wp2
  go_ret
  exact ⟨rfl, rfl⟩
abbrev encR (f : Nat → ByteArray) (k : Nat) : Array Value := #[.int .i64 (k : Int), .agg (bV (f k))]
theorem MapIs.kept {w w' : World} {b m : Nat} {f : Nat → ByteArray} {M : Nat → Prop} {B : Nat} (h : MapIs w b m f) (hk : KpB M B w w') (hM : M b) : MapIs w' b m f := h.of_block (hk.2 b h.lt (.inr hM))
theorem KpB.cell {M : Nat → Prop} {B : Nat} {w w' : World} (h : KpB M B w w') {p : Addr} {v : Value} (hp : B ≤ p.block ∨ M p.block) (hc : w.cell? p = some v) : w'.cell? p = some v := by
  have h1 := h.2 _ (lt_of_cell_some hc) hp
  unfold World.cell? at hc ⊢
  rw [h1]
  exact hc
theorem take_next {l : List Nat} {i : Nat} (h : i < l.length) : l.take (i + 1) = l.take i ++ [l.getD i 0] := by
  rw [List.take_add_one, List.getD_eq_getElem?_getD, List.getElem?_eq_getElem h]
  rfl
set_option maxRecDepth 100000 in
set_option maxHeartbeats 4000000 in
theorem rising_low (n : Nat) (hn : 2 ≤ n) {b m Bm : Nat} {f : Nat → ByteArray} {w : World} (h : MapIs w b m f) (hm : w.cell? ⟨Bm, 0, none⟩ = some (.map (some b))) :
    SeqLow Fence.wide n Try.prog 62 #[.pointer (some ⟨Bm, 0, none⟩)] (encR f) (fun k => k = Bm ∨ k = b) (fun k _ => k < m) (fun xs => xs = keysS m f) (fun pre => pre <+: keysS m f) (keysS m f).length w := fun ly J Jx W hW hJ hJx hY h0 => by
  have hcW := (hW.cell (p := ⟨Bm, 0, none⟩) (lt_of_cell_some hm)).trans hm
  have hMW := h.below hW
  have hm4 := h.le
  have S64 := fun W1 (h1 : Hid (MapIs W1 b m f)) (h2 : Hid (W1.cell? ⟨W1.heap.size - 1, 0, none⟩ = some (.map (some b)))) => sorted63 h1.out h2.out
  obtain ⟨L, hL⟩ : ∃ L, L = keysS m f := ⟨_, rfl⟩
  have HLm : Hid (∀ i, i < L.length → L.getD i 0 < m) := Lib.hid fun i hi => by
    have : L.getD i 0 ∈ keysS m f := by
      rw [← hL, List.getD_eq_getElem?_getD, List.getElem?_eq_getElem hi]
      exact List.getElem_mem hi
    exact (mem_keysS.1 this).1
  have hLl : L.length ≤ 40000 := by
    have := keysS_length m f
    rw [hL]
    omega
  rw [← hL] at S64 hY ⊢
  clear hL h hW hm
  have S1 : Hid (MapIs (W.alloc (.cells #[.map (some b)] 57)) b m f) := Lib.hid (hMW.below ((Below.refl _ _).alloc (Nat.le_refl _) _))
  have S2 : Hid ((W.alloc (.cells #[.map (some b)] 57)).cell? ⟨(W.alloc (.cells #[.map (some b)] 57)).heap.size - 1, 0, none⟩ = some (.map (some b))) := Lib.hid (by
    rw [World.size_alloc, Nat.add_sub_cancel]
    rw [World.cell?_alloc_new]; rfl)
  have S3 := Lib.hid (S64 _ S1 S2)
  rw [World.size_alloc, Nat.add_sub_cancel] at S3
  clear S64 S2
  have HJ := Lib.hid hJ
  have HY := Lib.hid hY
  have H0 := Lib.hid h0
  have HM := Lib.hid hMW
  clear hJ hJx hY h0 hMW
  refine callsIn_of_wp Try.func62 rfl trivial ?_ rfl
  simp only [Try.ntmps62, List.size_toArray, List.length_cons, List.length_nil, Nat.reduceAdd, Nat.reduceSub, Array.replicate_succ, Array.replicate_zero, List.push_toArray, List.append_toArray, List.nil_append, List.cons_append]
  gi_wp2_with (first
    | (refine ⟨trivial, fun _ => by omega, (callsIn_wide.2 (keys64 (some b) _)).mono ?_⟩; rintro e w' ⟨rfl, rfl⟩)
    | (refine ⟨trivial, fun _ => by omega, (callsIn_wide.2 S3.out).mono ?_⟩; rintro e w1 ⟨p, c, rfl, hK, hB⟩))
  have hs1 : W.heap.size ≤ w1.heap.size := by have := hB.size; simp only [World.size_alloc] at this; omega
  have HB1 : Below W.heap.size W w1 := ((Below.refl _ W).alloc (Nat.le_refl _) _).trans (hB.mono (by omega))
  have J1 : Hid (J [] w1) := Lib.hid (HJ.out _ _ _ H0.out (Nat.le_refl _) HB1)
  have M1 : Hid (MapIs w1 b m f) := Lib.hid (HM.out.below HB1)
  have C1 : w1.cell? ⟨Bm, 0, none⟩ = some (.map (some b)) := (HB1.cell (p := ⟨Bm, 0, none⟩) (lt_of_cell_some hcW)).trans hcW
  have K1 : Hid (KeysAt w1 W.heap.size p L) := Lib.hid fun i hi => by
    obtain ⟨gb, e, hg, hc⟩ := hK i hi
    exact ⟨gb, e, by omega, hc⟩
  have HS1 := Lib.hid hs1
  clear hK hB HB1 H0 HM hcW S3 S1 hs1
  gi_loopw [9] (fun i wr => ∃ k : Nat, k ≤ L.length ∧ i = .int .i64 k ∧ Hid (J (L.take k) wr) ∧ Hid (MapIs wr b m f) ∧ wr.cell? ⟨Bm, 0, none⟩ = some (.map (some b)) ∧ Hid (KeysAt wr W.heap.size p L) ∧ Hid (W.heap.size ≤ wr.heap.size)) (fun i _ => (L.length - intOf i).toNat)
  case atStart => exact ⟨0, Nat.zero_le _, rfl, by rw [List.take_zero]; exact J1, M1, C1, K1, HS1⟩
  case round =>
    obtain ⟨k, hk, rfl, HJk, HMk, hck, HKk, HSk⟩ := hrel
    by_cases hlt : k < L.length
    · obtain ⟨gb, rfl, hg, hc⟩ := HKk.out k hlt
      have HG := Lib.hid hg
      have hkm := HLm.out k hlt
      have hlk := HMk.out.look hkm
      have hyY := HY.out (L.take k) (L.getD k 0) wr HJk.out HSk.out (by rw [List.length_take]; omega) (by rw [← take_next hlt]; exact List.take_prefix _ _) (HLm.out k hlt)
      rw [← take_next hlt] at hyY
      obtain ⟨x, hx⟩ : ∃ x, x = L.getD k 0 := ⟨_, rfl⟩
      rw [← hx] at hlk hyY hkm hc
      obtain ⟨fn, tmps, assign, body, hy, hYR⟩ := hyY
      clear hg hx
      gi_wp2_with fail
      refine ⟨fun _ => by omega, hYR.mono ?_⟩
      rintro e W3 (⟨rfl, hJ3, hK3⟩ | ⟨rfl, hJx3, hK3⟩)
      · have HJ3 := Lib.hid hJ3
        have HM3 := Lib.hid (HMk.out.kept hK3 (.inr rfl))
        have hc3 := hK3.cell (.inr (.inl rfl)) hck
        have HKs3 := Lib.hid (HKk.out.kept fun k hk hk2 => hK3.2 k hk2 (.inl hk))
        have HS3 : Hid (W.heap.size ≤ W3.heap.size) := Lib.hid (Nat.le_trans HSk.out hK3.1)
        clear hJ3 hK3 hYR hck hlk
        gi_wp2
        go_roundw
        case rel => exact ⟨k + 1, by omega, by go_num, HJ3, HM3, hc3, HKs3, HS3⟩
        case measure => simp [intOf]; omega
      · have HS3 : Hid (W.heap.size ≤ W3.heap.size) := Lib.hid (Nat.le_trans HSk.out hK3.1)
        clear hYR
        gi_wp2
        refine bodyPost_ret (results_none rfl _ _ _) rfl ?_
        exact ⟨⟨_, rfl⟩, HS3.out, .inr ⟨_, List.take_prefix _ _, hJx3⟩⟩
    · obtain rfl : k = L.length := by omega
      gi_wp2
      refine bodyPost_end (results_none rfl _ _ _) rfl ?_
      exact ⟨⟨_, rfl⟩, HSk.out, .inl ⟨_, rfl, by have := HJk.out; rw [List.take_length] at this; exact this⟩⟩
end Go.Proofs.Ythbnochlpnikaaa
namespace Go.Proofs.Ythbnochlpnikaaa
open Go.RowKit Go.Shelf
attribute [local go_sem] Oper.semAt_some

abbrev encA (x : Nat × Nat) : Array Value := #[.int .i64 (x.1 : Int), .slice (some ⟨x.2, 0, none⟩) 64 64]
def TA (f : Nat → ByteArray) (x : Nat × Nat) (A : World) : Prop := A.heap[x.2]? = some (.cells (bV (f x.1)) 76 (0, 0))
theorem round_wide {n n' : Nat} {P : Program} {l l2 : Nat} {f : FuncId} {tmps : Array Value} {assign body : Code} {w : World} {R : Ending → World → Prop} (h : RoundIn Fence.wide n P l f tmps assign body w R) : RoundIn (Fence.wide.inRound l2) n' P l f tmps assign body w R :=
  ⟨trivial, fun c cs _ => h.2 c cs (room_wide _)⟩
theorem prefix_map {α β : Type} {g : α → β} {l : List α} {x : α} {L : List β} (h : l.map g ++ [g x] <+: L) : (l ++ [x]).map g <+: L := by rw [List.map_append]; exact h
theorem wpIn_store_row {F : Fence} {n : Nat} {P : Program} {o : Oper} {a : Act} {w : World} {K : Act → World → Prop} {Q : Exit → Act → World → Prop} (ty : TypeId) (x y : Operand) (ho : o.op = .store ty x y)
    (g : Nat) (cells : Array Value) (hx : a.eval x = .pointer (some ⟨g, 0, none⟩)) (hy : a.eval y = .agg cells)
    (t : TypeId) (old : Array Value) (hg : w.heap[g]? = some (.cells old t (0, 0))) (hi : (P.info? ty).map (·.size) = some cells.size)
    (hold : old.size = cells.size) (h1 : cells.all (·.oneCell') = true)
    (h : K (a.put o.dst undef) (w.setRow g cells)) : o.wpIn F n P a w K Q := by
  refine ⟨fun f hf => ?_, ?_⟩
  · unfold Oper.about at hf
    rw [ho] at hf
    cases hf
  · rw [Oper.semAt_eq _ _ _ (fun c => by rw [ho]; simp)]
    unfold execOp
    simp only [ho, hx, hy, Instr.storeAt, Instr.sureAddr, Sem.run_bind, Sem.run_pure, Result.andThen_ok, run_storeVar_row w g t ty old cells hg hi hold h1]
    exact h
theorem wpListIn_store_row {F : Fence} {n : Nat} {P : Program} {ops : Array Oper} {rest : List Oper} {o : Oper} {a : Act} {w : World} {Q : Exit → Act → World → Prop} (hgd : o.guard = none) (ty : TypeId) (x y : Operand) (ho : o.op = .store ty x y)
    (g : Nat) (cells : Array Value) (hx : a.eval x = .pointer (some ⟨g, 0, none⟩)) (hy : a.eval y = .agg cells)
    (t : TypeId) (old : Array Value) (hg : w.heap[g]? = some (.cells old t (0, 0))) (hi : (P.info? ty).map (·.size) = some cells.size)
    (hold : old.size = cells.size) (h1 : cells.all (·.oneCell') = true)
    (h : wpListIn F n P ops Q rest (a.put o.dst undef) (w.setRow g cells)) : wpListIn F n P ops Q (o :: rest) a w :=
  wpListIn_plain hgd fun _ hK => wpIn_store_row ty x y ho g cells hx hy t old hg hi hold h1 (hK _ _ h)
theorem wpIn_load_row {F : Fence} {n : Nat} {P : Program} {o : Oper} {a : Act} {w : World} {K : Act → World → Prop} {Q : Exit → Act → World → Prop} (ty : TypeId) (x : Operand) (ho : o.op = .load ty x)
    (g : Nat) (hx : a.eval x = .pointer (some ⟨g, 0, none⟩)) (t : TypeId) (cs : Array Value) (fr : Nat × Nat) (d : TypeDesc) (hg : w.heap[g]? = some (.cells cs t fr))
    (hu : P.underlying ty = some d) (hd : (match d with | .struct _ | .array _ _ => true | _ => false) = true) (hi : (P.info? ty).map (·.size) = some cs.size)
    (h : K (a.put o.dst (.agg cs)) w) : o.wpIn F n P a w K Q := by
  refine ⟨fun f hf => ?_, ?_⟩
  · unfold Oper.about at hf
    rw [ho] at hf
    cases hf
  · rw [Oper.semAt_eq _ _ _ (fun c => by rw [ho]; simp)]
    unfold execOp
    simp only [ho, hx, Instr.loadAt, Instr.sureAddr, Sem.run_bind, Sem.run_pure, Result.andThen_ok, run_loadVar_row w g t ty cs fr d hg hu hd hi]
    exact h
set_option maxRecDepth 100000 in
set_option maxHeartbeats 4000000 in
theorem all_low (n : Nat) (hn : 5 ≤ n) {b m Ba : Nat} {f : Nat → ByteArray} {w : World} (h : MapIs w b m f) (hm : w.cell? ⟨Ba, 0, none⟩ = some (.map (some b))) :
    SeqLow Fence.wide n Try.prog 60 #[.pointer (some ⟨Ba, 0, none⟩)] encA (fun k => k = b) (TA f) (fun xs => xs.map (·.1) = keysS m f) (fun pre => pre.map (·.1) <+: keysS m f) (keysS m f).length w := fun ly J Jx W hW hJ hJx hY h0 => by
  have hcW := (hW.cell (p := ⟨Ba, 0, none⟩) (lt_of_cell_some hm)).trans hm
  have HM := Lib.hid (h.below hW)
  have HF := Lib.hid h.size
  have HJ := Lib.hid hJ
  have HJx := Lib.hid hJx
  have HY := Lib.hid hY
  have H0 := Lib.hid h0
  clear hJ hJx hY h0 h hW hm
  refine callsIn_of_wp_marks Try.func60 rfl trivial ?_ rfl
  simp only [Try.ntmps60, List.size_toArray, List.length_cons, List.length_nil, Nat.reduceAdd, Nat.reduceSub, Array.replicate_succ, Array.replicate_zero, List.push_toArray, List.append_toArray, List.nil_append, List.cons_append]
  have C0a : (W.alloc (.cells #[.func (.yield ly) #[] #[]] 105)).cell? ⟨Ba, 0, none⟩ = some (.map (some b)) := (World.cell?_alloc_old _ _ _ (by have := lt_of_cell_some hcW; show Ba ≠ _; simp only at this; omega)).trans hcW
  gi_wp2
  apply wpIn_scope_wide
  gi_wp2
  apply wpIn_label
  gi_wp2_with (refine ⟨trivial, fun _ => by omega, (callsIn_wide.2 (rising_any (some b) _)).mono ?_⟩; rintro e w' ⟨rfl, rfl⟩)
  generalize hW0 : (W.alloc (.cells #[.func (.yield ly) #[] #[]] 105)).alloc (.cells #[.map (some b)] 57) = W0
  have B0 : Below W.heap.size W W0 := by subst hW0; exact ((Below.refl _ _).alloc (Nat.le_refl _) _).alloc (by simp) _
  have S0 : W0.heap.size = W.heap.size + 2 := by subst hW0; simp
  have C0 : W0.heap[W.heap.size]? = some (.cells #[.func (.yield ly) #[] #[]] 105 (0, 0)) := by
    subst hW0
    exact (Below.heap_alloc _ _ _ (by simp)).trans (World.alloc_heap_new W _)
  have C1 : W0.cell? ⟨W.heap.size + 1, 0, none⟩ = some (.map (some b)) := by
    subst hW0
    go_cell
  have M0 : MapIs W0 b m f := HM.out.below B0
  have J0 : J [] W0 := HJ.out _ _ _ H0.out (Nat.le_refl _) B0
  clear hW0 H0 C0a
  refine range_norm 0 (fun D V => V.heap[D]? = some (.deferred (some [])) ∧ W.heap.size ≤ V.heap.size ∧ W.heap.size + 2 ≤ D ∧ ((∃ xs : List (Nat × Nat), xs.map (·.1) = keysS m f ∧ J xs V) ∨ ∃ pre : List (Nat × Nat), pre.map (·.1) <+: keysS m f ∧ Jx pre V)) (fun _ _ h => h) ?_ ?_
  · refine' range_low (n := n) (ι := Nat) rfl (by omega) (gf := 62) (lb := #[.pointer (some ⟨W.heap.size + 1, 0, none⟩)]) rfl trivial (enters_of Try.func62 (by kernel_rfl) rfl)
      (rising_low (n - 1) (by omega) M0 C1) (fun x i V => V.heap[i]? = some (.cells (bV (f x)) 76 (0, 0)) ∧ i < V.heap.size ∧ x < m) (fun x i A l o o' hl hc h => ⟨(World.putObj_heap_other (by rintro rfl; rw [hl] at h; have := h.1; injection this with this; subst this; cases hc)).trans h.1, by simpa using h.2.1, h.2.2⟩)
      (fun k h => h.elim (fun h => by omega) (fun h => h ▸ M0.lt)) (Below.refl _ _) (fun _ => rfl)
      (fun pre V => ((∃ xs : List (Nat × Nat), xs.map (·.1) = pre ∧ J xs V) ∧ V.heap[W.heap.size]? = some (.cells #[.func (.yield ly) #[] #[]] 105 (0, 0))))
      (fun c pre V => c = .exit 0 ∧ W.heap.size ≤ V.heap.size ∧ ∃ xs : List (Nat × Nat), xs.map (·.1) = pre ∧ Jx xs V)
      (fun s A C h hB hb => ⟨by obtain ⟨xs, e, h⟩ := h.1; exact ⟨xs, e, HJ.out _ _ _ h (by omega) (hb.mono (by omega))⟩, (hb.block _ (by omega)).trans h.2⟩)
      (fun c s A C h hB hb => ⟨h.1, by have := hb.size; omega, by obtain ⟨xs, e, h⟩ := h.2.2; exact ⟨xs, e, HJx.out _ _ _ h (by omega) (hb.mono (by omega))⟩⟩)
      ⟨⟨[], rfl, J0⟩, C0⟩
      (fun x i => { tmps := #[.func (.yield ly) #[] #[], .pointer (some ⟨Ba, 0, none⟩), .pointer (some ⟨W.heap.size, 0, none⟩), .int .i64 (x : Int), .pointer (some ⟨i, 0, none⟩), .pointer (some ⟨Ba, 0, none⟩), .map (some b), .func (.func 62) #[] #[.pointer (some ⟨W.heap.size + 1, 0, none⟩)], .int .i64 (x : Int), .agg (bV (f x)), undef, undef, undef, undef, undef, undef], defers := [] }) ?assign ?body ?done ?stop
    case assign =>
      intro ly2 x V K hs hT hK
      apply wpIn_seq_k
      intro K1 hK1
      apply wpIn_region_lit
      refine wpListIn_plain rfl fun K2 hK2 => ?_
      go_simp
      refine hK2 _ _ (wpListIn_nil (hK1 _ _ ?_))
      apply wpIn_region_lit
      refine wpListIn_plain rfl fun K3 hK3 => ?_
      go_simp
      refine hK3 _ _ ?_
      have hsz := HF.out x hT
      refine wpListIn_store_row rfl 76 _ _ rfl V.heap.size (bV (f x)) rfl rfl 76 _ (heap_alloc_new V _) (by rw [bV_size, hsz]; kernel_rfl) (by rw [bV_size, hsz]; kernel_rfl) (bV_one _) ?_
      rw [World.setRow_alloc_new]
      refine wpListIn_nil ?_
      exact hK V.heap.size _ ⟨World.alloc_heap_new _ _, by simp, hT⟩ ((Below.refl _ _).alloc (Nat.le_refl _) _)
    case body =>
      rintro ly2 pre x i V ⟨⟨xs, rfl, hJ⟩, hb⟩ hs hlen hsp ⟨hg, hi, hi2⟩
      have hsz : (f x).size = 64 := HF.out x hi2
      have HJ1 := Lib.hid (HJ.out _ _ (V.alloc (.cells (bV (f x)) 76)).drew hJ (by omega) (((Below.refl _ V).alloc (by omega) _).drew))
      have HT1 : Hid (TA f (x, V.heap.size) (V.alloc (.cells (bV (f x)) 76)).drew) := Lib.hid (World.alloc_heap_new V _)
      have hld : (loadVar 76 ⟨i, 0, none⟩).run Try.prog V.drew = .ok (.agg (bV (f x))) V.drew := run_loadVar_row V.drew i 76 76 _ (0, 0) _ hg Try.underlying76 rfl (by rw [bV_size, hsz]; kernel_rfl)
      have hcy : V.cell? ⟨W.heap.size, 0, none⟩ = some (.func (.yield ly) #[] #[]) := cell_of_row V _ 0 _ 105 (0, 0) hb
      have hyY := HY.out xs (x, V.heap.size) _ HJ1.out (by simp; omega) (by rw [← List.length_map (f := (·.1))]; exact hlen) (prefix_map hsp) HT1.out
      obtain ⟨fn, tmps, assign, body, hy, hYR⟩ := hyY
      have hcy2 : (V.alloc (.cells (bV (f x)) 76)).cell? ⟨W.heap.size, 0, none⟩ = some (.func (.yield ly) #[] #[]) := (World.cell?_alloc_old _ _ _ (by show W.heap.size ≠ _; omega)).trans hcy
      have hb1 : (V.alloc (.cells (bV (f x)) 76)).drew.heap[W.heap.size]? = some (.cells #[.func (.yield ly) #[] #[]] 105 (0, 0)) := (Below.heap_alloc _ _ _ (by omega)).trans hb
      have kb1 : KpB (fun k => k = W.heap.size + 1 ∨ k = b) (W.heap.size + 2) V (V.alloc (.cells (bV (f x)) 76)).drew := KpB.alloc V _
      have hs1 : W.heap.size ≤ (V.alloc (.cells (bV (f x)) 76)).drew.heap.size := by simp; omega
      have HF1 := Lib.hid (And.intro hb1 (And.intro kb1 hs1))
      clear hb1 kb1 hs1 HJ1 HT1
      have wk : ∀ W3, KpB (fun k => k = b) W.heap.size (V.alloc (.cells (bV (f x)) 76)).drew W3 → KpB (fun k => k = W.heap.size + 1 ∨ k = b) (W.heap.size + 2) V W3 := fun W3 hK3 => HF1.out.2.1.trans (hK3.mono fun k h => h.elim (fun h => .inl (by omega)) (fun h => h.elim (fun h => .inl (by omega)) .inr))
      have fin1 : Hid (∀ W3, J (xs ++ [(x, V.heap.size)]) W3 → KpB (fun k => k = b) W.heap.size (V.alloc (.cells (bV (f x)) 76)).drew W3 → KpB (fun k => k = W.heap.size + 1 ∨ k = b) (W.heap.size + 2) V W3 ∧ (∃ xs', List.map (fun x => x.fst) xs' = List.map (fun x => x.fst) xs ++ [x] ∧ J xs' W3) ∧ W3.heap[W.heap.size]? = some (.cells #[.func (.yield ly) #[] #[]] 105 (0, 0))) := Lib.hid fun W3 hJ3 hK3 =>
        ⟨wk W3 hK3, ⟨_, by rw [List.map_append]; rfl, hJ3⟩, (hK3.2 _ (by have := HF1.out.2.2; simp; omega) (.inl (Nat.le_refl _))).trans HF1.out.1⟩
      have fin2 : Hid (∀ W3, Jx (xs ++ [(x, V.heap.size)]) W3 → KpB (fun k => k = b) W.heap.size (V.alloc (.cells (bV (f x)) 76)).drew W3 → KpB (fun k => k = W.heap.size + 1 ∨ k = b) (W.heap.size + 2) V W3 ∧ W.heap.size ≤ W3.heap.size ∧ ∃ xs', List.map (fun x => x.fst) xs' = List.map (fun x => x.fst) xs ++ [x] ∧ Jx xs' W3) := Lib.hid fun W3 hJ3 hK3 =>
        ⟨wk W3 hK3, Nat.le_trans HF1.out.2.2 hK3.1, ⟨_, by rw [List.map_append]; rfl, hJ3⟩⟩
      clear wk
      apply wpIn_block
      apply wpIn_seq_k
      intro K1 hK1
      refine wpIn_region_any (by kernel_rfl) ?_
      try (change wpAnyIn _ _ _ _ _ _ _ _ _ (World.drew _))
      refine wpAnyIn_ready (rs := [0, 1, 2]) (by kernel_rfl) (by simp) ?_
      refine AllReadyIn.cons rfl (fun K hK => ?_) ?_
      · -- 0
        go_simp
        refine hK _ _ ?_
        clear hK K
        try simp only [Act.put, List.setIfInBounds_toArray, List.set_cons_zero, List.set_cons_succ]
        refine wpAnyIn_ready (rs := [1, 2]) (by kernel_rfl) (by simp) ?_
        refine AllReadyIn.cons rfl (fun K hK => ?_) ?_
        · -- 1
          go_simp
          refine hK _ _ ?_
          clear hK K
          try simp only [Act.put, List.setIfInBounds_toArray, List.set_cons_zero, List.set_cons_succ]
          refine wpAnyIn_ready (rs := [2]) (by kernel_rfl) (by simp) ?_
          refine AllReadyIn.cons rfl (fun K hK => ?_) ?_
          · -- 2
            simp only [Region.wanted, if_true]
            refine wpIn_load_row 76 _ rfl i rfl 76 (bV (f x)) (0, 0) _ hg Try.underlying76 rfl (by rw [bV_size, hsz]; kernel_rfl) (hK _ _ ?_)
            clear hK K
            try simp only [Act.put, List.setIfInBounds_toArray, List.set_cons_zero, List.set_cons_succ]
            refine wpAnyIn_ready (rs := [3]) (by kernel_rfl) (by simp) ?_
            refine AllReadyIn.cons rfl (fun K hK => ?_) ?_
            · -- 3
              go_simp
              refine ⟨trivial, fun _ => by omega, CallsIn.inRound ly2 ((callsIn_wide.2 (cut_any (f x) 64 (Nat.le_refl _) _)).mono ?_)⟩
              rintro e w' ⟨rfl, rfl⟩
              refine hK _ _ ?_
              clear hK K
              try simp only [Act.put, List.setIfInBounds_toArray, List.set_cons_zero, List.set_cons_succ]
              refine wpAnyIn_ready (rs := [4]) (by kernel_rfl) (by simp) ?_
              refine AllReadyIn.cons rfl (fun K hK => ?_) ?_
              · -- 4
                go_simp
                refine ⟨fun _ => by omega, (round_wide hYR).mono ?_⟩
                rintro e W3 (⟨rfl, hJ3, hK3⟩ | ⟨rfl, hJx3, hK3⟩)
                · refine hK _ _ ?_
                  clear hK K
                  try simp only [Act.put, List.setIfInBounds_toArray, List.set_cons_zero, List.set_cons_succ]
                  refine wpAnyIn_ready (rs := [5]) (by kernel_rfl) (by simp) ?_
                  refine AllReadyIn.cons rfl (fun K hK => ?_) AllReadyIn.nil
                  go_simp
                  refine hK _ _ (wpAnyIn_done (by kernel_rfl) (hK1 _ _ ?_) _)
                  gi_wp2
                  exact fin1.out W3 hJ3 hK3
                · refine hK _ _ ?_
                  clear hK K
                  try simp only [Act.put, List.setIfInBounds_toArray, List.set_cons_zero, List.set_cons_succ]
                  refine wpAnyIn_ready (rs := [5]) (by kernel_rfl) (by simp) ?_
                  refine AllReadyIn.cons rfl (fun K hK => ?_) AllReadyIn.nil
                  go_simp
                  refine hK _ _ (wpAnyIn_done (by kernel_rfl) (hK1 _ _ ?_) _)
                  gi_wp2
                  exact ⟨(fin2.out W3 hJx3 hK3).1, rfl, (fin2.out W3 hJx3 hK3).2⟩
              exact AllReadyIn.nil
            exact AllReadyIn.nil
          exact AllReadyIn.nil
        refine AllReadyIn.cons rfl (fun K hK => ?_) ?_
        · -- 2
          simp only [Region.wanted, if_true]
          refine wpIn_load_row 76 _ rfl i rfl 76 (bV (f x)) (0, 0) _ hg Try.underlying76 rfl (by rw [bV_size, hsz]; kernel_rfl) (hK _ _ ?_)
          clear hK K
          try simp only [Act.put, List.setIfInBounds_toArray, List.set_cons_zero, List.set_cons_succ]
          refine wpAnyIn_ready (rs := [1, 3]) (by kernel_rfl) (by simp) ?_
          refine AllReadyIn.cons rfl (fun K hK => ?_) ?_
          · -- 1
            go_simp
            refine hK _ _ ?_
            clear hK K
            try simp only [Act.put, List.setIfInBounds_toArray, List.set_cons_zero, List.set_cons_succ]
            refine wpAnyIn_ready (rs := [3]) (by kernel_rfl) (by simp) ?_
            refine AllReadyIn.cons rfl (fun K hK => ?_) ?_
            · -- 3
              go_simp
              refine ⟨trivial, fun _ => by omega, CallsIn.inRound ly2 ((callsIn_wide.2 (cut_any (f x) 64 (Nat.le_refl _) _)).mono ?_)⟩
              rintro e w' ⟨rfl, rfl⟩
              refine hK _ _ ?_
              clear hK K
              try simp only [Act.put, List.setIfInBounds_toArray, List.set_cons_zero, List.set_cons_succ]
              refine wpAnyIn_ready (rs := [4]) (by kernel_rfl) (by simp) ?_
              refine AllReadyIn.cons rfl (fun K hK => ?_) ?_
              · -- 4
                go_simp
                refine ⟨fun _ => by omega, (round_wide hYR).mono ?_⟩
                rintro e W3 (⟨rfl, hJ3, hK3⟩ | ⟨rfl, hJx3, hK3⟩)
                · refine hK _ _ ?_
                  clear hK K
                  try simp only [Act.put, List.setIfInBounds_toArray, List.set_cons_zero, List.set_cons_succ]
                  refine wpAnyIn_ready (rs := [5]) (by kernel_rfl) (by simp) ?_
                  refine AllReadyIn.cons rfl (fun K hK => ?_) AllReadyIn.nil
                  go_simp
                  refine hK _ _ (wpAnyIn_done (by kernel_rfl) (hK1 _ _ ?_) _)
                  gi_wp2
                  exact fin1.out W3 hJ3 hK3
                · refine hK _ _ ?_
                  clear hK K
                  try simp only [Act.put, List.setIfInBounds_toArray, List.set_cons_zero, List.set_cons_succ]
                  refine wpAnyIn_ready (rs := [5]) (by kernel_rfl) (by simp) ?_
                  refine AllReadyIn.cons rfl (fun K hK => ?_) AllReadyIn.nil
                  go_simp
                  refine hK _ _ (wpAnyIn_done (by kernel_rfl) (hK1 _ _ ?_) _)
                  gi_wp2
                  exact ⟨(fin2.out W3 hJx3 hK3).1, rfl, (fin2.out W3 hJx3 hK3).2⟩
              exact AllReadyIn.nil
            exact AllReadyIn.nil
          refine AllReadyIn.cons rfl (fun K hK => ?_) ?_
          · -- 3
            go_simp
            refine ⟨trivial, fun _ => by omega, CallsIn.inRound ly2 ((callsIn_wide.2 (cut_any (f x) 64 (Nat.le_refl _) _)).mono ?_)⟩
            rintro e w' ⟨rfl, rfl⟩
            refine hK _ _ ?_
            clear hK K
            try simp only [Act.put, List.setIfInBounds_toArray, List.set_cons_zero, List.set_cons_succ]
            refine wpAnyIn_ready (rs := [1]) (by kernel_rfl) (by simp) ?_
            refine AllReadyIn.cons rfl (fun K hK => ?_) ?_
            · -- 1
              go_simp
              refine hK _ _ ?_
              clear hK K
              try simp only [Act.put, List.setIfInBounds_toArray, List.set_cons_zero, List.set_cons_succ]
              refine wpAnyIn_ready (rs := [4]) (by kernel_rfl) (by simp) ?_
              refine AllReadyIn.cons rfl (fun K hK => ?_) ?_
              · -- 4
                go_simp
                refine ⟨fun _ => by omega, (round_wide hYR).mono ?_⟩
                rintro e W3 (⟨rfl, hJ3, hK3⟩ | ⟨rfl, hJx3, hK3⟩)
                · refine hK _ _ ?_
                  clear hK K
                  try simp only [Act.put, List.setIfInBounds_toArray, List.set_cons_zero, List.set_cons_succ]
                  refine wpAnyIn_ready (rs := [5]) (by kernel_rfl) (by simp) ?_
                  refine AllReadyIn.cons rfl (fun K hK => ?_) AllReadyIn.nil
                  go_simp
                  refine hK _ _ (wpAnyIn_done (by kernel_rfl) (hK1 _ _ ?_) _)
                  gi_wp2
                  exact fin1.out W3 hJ3 hK3
                · refine hK _ _ ?_
                  clear hK K
                  try simp only [Act.put, List.setIfInBounds_toArray, List.set_cons_zero, List.set_cons_succ]
                  refine wpAnyIn_ready (rs := [5]) (by kernel_rfl) (by simp) ?_
                  refine AllReadyIn.cons rfl (fun K hK => ?_) AllReadyIn.nil
                  go_simp
                  refine hK _ _ (wpAnyIn_done (by kernel_rfl) (hK1 _ _ ?_) _)
                  gi_wp2
                  exact ⟨(fin2.out W3 hJx3 hK3).1, rfl, (fin2.out W3 hJx3 hK3).2⟩
              exact AllReadyIn.nil
            exact AllReadyIn.nil
          exact AllReadyIn.nil
        exact AllReadyIn.nil
      refine AllReadyIn.cons rfl (fun K hK => ?_) ?_
      · -- 1
        go_simp
        refine hK _ _ ?_
        clear hK K
        try simp only [Act.put, List.setIfInBounds_toArray, List.set_cons_zero, List.set_cons_succ]
        refine wpAnyIn_ready (rs := [0, 2]) (by kernel_rfl) (by simp) ?_
        refine AllReadyIn.cons rfl (fun K hK => ?_) ?_
        · -- 0
          go_simp
          refine hK _ _ ?_
          clear hK K
          try simp only [Act.put, List.setIfInBounds_toArray, List.set_cons_zero, List.set_cons_succ]
          refine wpAnyIn_ready (rs := [2]) (by kernel_rfl) (by simp) ?_
          refine AllReadyIn.cons rfl (fun K hK => ?_) ?_
          · -- 2
            simp only [Region.wanted, if_true]
            refine wpIn_load_row 76 _ rfl i rfl 76 (bV (f x)) (0, 0) _ hg Try.underlying76 rfl (by rw [bV_size, hsz]; kernel_rfl) (hK _ _ ?_)
            clear hK K
            try simp only [Act.put, List.setIfInBounds_toArray, List.set_cons_zero, List.set_cons_succ]
            refine wpAnyIn_ready (rs := [3]) (by kernel_rfl) (by simp) ?_
            refine AllReadyIn.cons rfl (fun K hK => ?_) ?_
            · -- 3
              go_simp
              refine ⟨trivial, fun _ => by omega, CallsIn.inRound ly2 ((callsIn_wide.2 (cut_any (f x) 64 (Nat.le_refl _) _)).mono ?_)⟩
              rintro e w' ⟨rfl, rfl⟩
              refine hK _ _ ?_
              clear hK K
              try simp only [Act.put, List.setIfInBounds_toArray, List.set_cons_zero, List.set_cons_succ]
              refine wpAnyIn_ready (rs := [4]) (by kernel_rfl) (by simp) ?_
              refine AllReadyIn.cons rfl (fun K hK => ?_) ?_
              · -- 4
                go_simp
                refine ⟨fun _ => by omega, (round_wide hYR).mono ?_⟩
                rintro e W3 (⟨rfl, hJ3, hK3⟩ | ⟨rfl, hJx3, hK3⟩)
                · refine hK _ _ ?_
                  clear hK K
                  try simp only [Act.put, List.setIfInBounds_toArray, List.set_cons_zero, List.set_cons_succ]
                  refine wpAnyIn_ready (rs := [5]) (by kernel_rfl) (by simp) ?_
                  refine AllReadyIn.cons rfl (fun K hK => ?_) AllReadyIn.nil
                  go_simp
                  refine hK _ _ (wpAnyIn_done (by kernel_rfl) (hK1 _ _ ?_) _)
                  gi_wp2
                  exact fin1.out W3 hJ3 hK3
                · refine hK _ _ ?_
                  clear hK K
                  try simp only [Act.put, List.setIfInBounds_toArray, List.set_cons_zero, List.set_cons_succ]
                  refine wpAnyIn_ready (rs := [5]) (by kernel_rfl) (by simp) ?_
                  refine AllReadyIn.cons rfl (fun K hK => ?_) AllReadyIn.nil
                  go_simp
                  refine hK _ _ (wpAnyIn_done (by kernel_rfl) (hK1 _ _ ?_) _)
                  gi_wp2
                  exact ⟨(fin2.out W3 hJx3 hK3).1, rfl, (fin2.out W3 hJx3 hK3).2⟩
              exact AllReadyIn.nil
            exact AllReadyIn.nil
          exact AllReadyIn.nil
        refine AllReadyIn.cons rfl (fun K hK => ?_) ?_
        · -- 2
          simp only [Region.wanted, if_true]
          refine wpIn_load_row 76 _ rfl i rfl 76 (bV (f x)) (0, 0) _ hg Try.underlying76 rfl (by rw [bV_size, hsz]; kernel_rfl) (hK _ _ ?_)
          clear hK K
          try simp only [Act.put, List.setIfInBounds_toArray, List.set_cons_zero, List.set_cons_succ]
          refine wpAnyIn_ready (rs := [0, 3]) (by kernel_rfl) (by simp) ?_
          refine AllReadyIn.cons rfl (fun K hK => ?_) ?_
          · -- 0
            go_simp
            refine hK _ _ ?_
            clear hK K
            try simp only [Act.put, List.setIfInBounds_toArray, List.set_cons_zero, List.set_cons_succ]
            refine wpAnyIn_ready (rs := [3]) (by kernel_rfl) (by simp) ?_
            refine AllReadyIn.cons rfl (fun K hK => ?_) ?_
            · -- 3
              go_simp
              refine ⟨trivial, fun _ => by omega, CallsIn.inRound ly2 ((callsIn_wide.2 (cut_any (f x) 64 (Nat.le_refl _) _)).mono ?_)⟩
              rintro e w' ⟨rfl, rfl⟩
              refine hK _ _ ?_
              clear hK K
              try simp only [Act.put, List.setIfInBounds_toArray, List.set_cons_zero, List.set_cons_succ]
              refine wpAnyIn_ready (rs := [4]) (by kernel_rfl) (by simp) ?_
              refine AllReadyIn.cons rfl (fun K hK => ?_) ?_
              · -- 4
                go_simp
                refine ⟨fun _ => by omega, (round_wide hYR).mono ?_⟩
                rintro e W3 (⟨rfl, hJ3, hK3⟩ | ⟨rfl, hJx3, hK3⟩)
                · refine hK _ _ ?_
                  clear hK K
                  try simp only [Act.put, List.setIfInBounds_toArray, List.set_cons_zero, List.set_cons_succ]
                  refine wpAnyIn_ready (rs := [5]) (by kernel_rfl) (by simp) ?_
                  refine AllReadyIn.cons rfl (fun K hK => ?_) AllReadyIn.nil
                  go_simp
                  refine hK _ _ (wpAnyIn_done (by kernel_rfl) (hK1 _ _ ?_) _)
                  gi_wp2
                  exact fin1.out W3 hJ3 hK3
                · refine hK _ _ ?_
                  clear hK K
                  try simp only [Act.put, List.setIfInBounds_toArray, List.set_cons_zero, List.set_cons_succ]
                  refine wpAnyIn_ready (rs := [5]) (by kernel_rfl) (by simp) ?_
                  refine AllReadyIn.cons rfl (fun K hK => ?_) AllReadyIn.nil
                  go_simp
                  refine hK _ _ (wpAnyIn_done (by kernel_rfl) (hK1 _ _ ?_) _)
                  gi_wp2
                  exact ⟨(fin2.out W3 hJx3 hK3).1, rfl, (fin2.out W3 hJx3 hK3).2⟩
              exact AllReadyIn.nil
            exact AllReadyIn.nil
          refine AllReadyIn.cons rfl (fun K hK => ?_) ?_
          · -- 3
            go_simp
            refine ⟨trivial, fun _ => by omega, CallsIn.inRound ly2 ((callsIn_wide.2 (cut_any (f x) 64 (Nat.le_refl _) _)).mono ?_)⟩
            rintro e w' ⟨rfl, rfl⟩
            refine hK _ _ ?_
            clear hK K
            try simp only [Act.put, List.setIfInBounds_toArray, List.set_cons_zero, List.set_cons_succ]
            refine wpAnyIn_ready (rs := [0]) (by kernel_rfl) (by simp) ?_
            refine AllReadyIn.cons rfl (fun K hK => ?_) ?_
            · -- 0
              go_simp
              refine hK _ _ ?_
              clear hK K
              try simp only [Act.put, List.setIfInBounds_toArray, List.set_cons_zero, List.set_cons_succ]
              refine wpAnyIn_ready (rs := [4]) (by kernel_rfl) (by simp) ?_
              refine AllReadyIn.cons rfl (fun K hK => ?_) ?_
              · -- 4
                go_simp
                refine ⟨fun _ => by omega, (round_wide hYR).mono ?_⟩
                rintro e W3 (⟨rfl, hJ3, hK3⟩ | ⟨rfl, hJx3, hK3⟩)
                · refine hK _ _ ?_
                  clear hK K
                  try simp only [Act.put, List.setIfInBounds_toArray, List.set_cons_zero, List.set_cons_succ]
                  refine wpAnyIn_ready (rs := [5]) (by kernel_rfl) (by simp) ?_
                  refine AllReadyIn.cons rfl (fun K hK => ?_) AllReadyIn.nil
                  go_simp
                  refine hK _ _ (wpAnyIn_done (by kernel_rfl) (hK1 _ _ ?_) _)
                  gi_wp2
                  exact fin1.out W3 hJ3 hK3
                · refine hK _ _ ?_
                  clear hK K
                  try simp only [Act.put, List.setIfInBounds_toArray, List.set_cons_zero, List.set_cons_succ]
                  refine wpAnyIn_ready (rs := [5]) (by kernel_rfl) (by simp) ?_
                  refine AllReadyIn.cons rfl (fun K hK => ?_) AllReadyIn.nil
                  go_simp
                  refine hK _ _ (wpAnyIn_done (by kernel_rfl) (hK1 _ _ ?_) _)
                  gi_wp2
                  exact ⟨(fin2.out W3 hJx3 hK3).1, rfl, (fin2.out W3 hJx3 hK3).2⟩
              exact AllReadyIn.nil
            exact AllReadyIn.nil
          exact AllReadyIn.nil
        exact AllReadyIn.nil
      refine AllReadyIn.cons rfl (fun K hK => ?_) ?_
      · -- 2
        simp only [Region.wanted, if_true]
        refine wpIn_load_row 76 _ rfl i rfl 76 (bV (f x)) (0, 0) _ hg Try.underlying76 rfl (by rw [bV_size, hsz]; kernel_rfl) (hK _ _ ?_)
        clear hK K
        try simp only [Act.put, List.setIfInBounds_toArray, List.set_cons_zero, List.set_cons_succ]
        refine wpAnyIn_ready (rs := [0, 1, 3]) (by kernel_rfl) (by simp) ?_
        refine AllReadyIn.cons rfl (fun K hK => ?_) ?_
        · -- 0
          go_simp
          refine hK _ _ ?_
          clear hK K
          try simp only [Act.put, List.setIfInBounds_toArray, List.set_cons_zero, List.set_cons_succ]
          refine wpAnyIn_ready (rs := [1, 3]) (by kernel_rfl) (by simp) ?_
          refine AllReadyIn.cons rfl (fun K hK => ?_) ?_
          · -- 1
            go_simp
            refine hK _ _ ?_
            clear hK K
            try simp only [Act.put, List.setIfInBounds_toArray, List.set_cons_zero, List.set_cons_succ]
            refine wpAnyIn_ready (rs := [3]) (by kernel_rfl) (by simp) ?_
            refine AllReadyIn.cons rfl (fun K hK => ?_) ?_
            · -- 3
              go_simp
              refine ⟨trivial, fun _ => by omega, CallsIn.inRound ly2 ((callsIn_wide.2 (cut_any (f x) 64 (Nat.le_refl _) _)).mono ?_)⟩
              rintro e w' ⟨rfl, rfl⟩
              refine hK _ _ ?_
              clear hK K
              try simp only [Act.put, List.setIfInBounds_toArray, List.set_cons_zero, List.set_cons_succ]
              refine wpAnyIn_ready (rs := [4]) (by kernel_rfl) (by simp) ?_
              refine AllReadyIn.cons rfl (fun K hK => ?_) ?_
              · -- 4
                go_simp
                refine ⟨fun _ => by omega, (round_wide hYR).mono ?_⟩
                rintro e W3 (⟨rfl, hJ3, hK3⟩ | ⟨rfl, hJx3, hK3⟩)
                · refine hK _ _ ?_
                  clear hK K
                  try simp only [Act.put, List.setIfInBounds_toArray, List.set_cons_zero, List.set_cons_succ]
                  refine wpAnyIn_ready (rs := [5]) (by kernel_rfl) (by simp) ?_
                  refine AllReadyIn.cons rfl (fun K hK => ?_) AllReadyIn.nil
                  go_simp
                  refine hK _ _ (wpAnyIn_done (by kernel_rfl) (hK1 _ _ ?_) _)
                  gi_wp2
                  exact fin1.out W3 hJ3 hK3
                · refine hK _ _ ?_
                  clear hK K
                  try simp only [Act.put, List.setIfInBounds_toArray, List.set_cons_zero, List.set_cons_succ]
                  refine wpAnyIn_ready (rs := [5]) (by kernel_rfl) (by simp) ?_
                  refine AllReadyIn.cons rfl (fun K hK => ?_) AllReadyIn.nil
                  go_simp
                  refine hK _ _ (wpAnyIn_done (by kernel_rfl) (hK1 _ _ ?_) _)
                  gi_wp2
                  exact ⟨(fin2.out W3 hJx3 hK3).1, rfl, (fin2.out W3 hJx3 hK3).2⟩
              exact AllReadyIn.nil
            exact AllReadyIn.nil
          refine AllReadyIn.cons rfl (fun K hK => ?_) ?_
          · -- 3
            go_simp
            refine ⟨trivial, fun _ => by omega, CallsIn.inRound ly2 ((callsIn_wide.2 (cut_any (f x) 64 (Nat.le_refl _) _)).mono ?_)⟩
            rintro e w' ⟨rfl, rfl⟩
            refine hK _ _ ?_
            clear hK K
            try simp only [Act.put, List.setIfInBounds_toArray, List.set_cons_zero, List.set_cons_succ]
            refine wpAnyIn_ready (rs := [1]) (by kernel_rfl) (by simp) ?_
            refine AllReadyIn.cons rfl (fun K hK => ?_) ?_
            · -- 1
              go_simp
              refine hK _ _ ?_
              clear hK K
              try simp only [Act.put, List.setIfInBounds_toArray, List.set_cons_zero, List.set_cons_succ]
              refine wpAnyIn_ready (rs := [4]) (by kernel_rfl) (by simp) ?_
              refine AllReadyIn.cons rfl (fun K hK => ?_) ?_
              · -- 4
                go_simp
                refine ⟨fun _ => by omega, (round_wide hYR).mono ?_⟩
                rintro e W3 (⟨rfl, hJ3, hK3⟩ | ⟨rfl, hJx3, hK3⟩)
                · refine hK _ _ ?_
                  clear hK K
                  try simp only [Act.put, List.setIfInBounds_toArray, List.set_cons_zero, List.set_cons_succ]
                  refine wpAnyIn_ready (rs := [5]) (by kernel_rfl) (by simp) ?_
                  refine AllReadyIn.cons rfl (fun K hK => ?_) AllReadyIn.nil
                  go_simp
                  refine hK _ _ (wpAnyIn_done (by kernel_rfl) (hK1 _ _ ?_) _)
                  gi_wp2
                  exact fin1.out W3 hJ3 hK3
                · refine hK _ _ ?_
                  clear hK K
                  try simp only [Act.put, List.setIfInBounds_toArray, List.set_cons_zero, List.set_cons_succ]
                  refine wpAnyIn_ready (rs := [5]) (by kernel_rfl) (by simp) ?_
                  refine AllReadyIn.cons rfl (fun K hK => ?_) AllReadyIn.nil
                  go_simp
                  refine hK _ _ (wpAnyIn_done (by kernel_rfl) (hK1 _ _ ?_) _)
                  gi_wp2
                  exact ⟨(fin2.out W3 hJx3 hK3).1, rfl, (fin2.out W3 hJx3 hK3).2⟩
              exact AllReadyIn.nil
            exact AllReadyIn.nil
          exact AllReadyIn.nil
        refine AllReadyIn.cons rfl (fun K hK => ?_) ?_
        · -- 1
          go_simp
          refine hK _ _ ?_
          clear hK K
          try simp only [Act.put, List.setIfInBounds_toArray, List.set_cons_zero, List.set_cons_succ]
          refine wpAnyIn_ready (rs := [0, 3]) (by kernel_rfl) (by simp) ?_
          refine AllReadyIn.cons rfl (fun K hK => ?_) ?_
          · -- 0
            go_simp
            refine hK _ _ ?_
            clear hK K
            try simp only [Act.put, List.setIfInBounds_toArray, List.set_cons_zero, List.set_cons_succ]
            refine wpAnyIn_ready (rs := [3]) (by kernel_rfl) (by simp) ?_
            refine AllReadyIn.cons rfl (fun K hK => ?_) ?_
            · -- 3
              go_simp
              refine ⟨trivial, fun _ => by omega, CallsIn.inRound ly2 ((callsIn_wide.2 (cut_any (f x) 64 (Nat.le_refl _) _)).mono ?_)⟩
              rintro e w' ⟨rfl, rfl⟩
              refine hK _ _ ?_
              clear hK K
              try simp only [Act.put, List.setIfInBounds_toArray, List.set_cons_zero, List.set_cons_succ]
              refine wpAnyIn_ready (rs := [4]) (by kernel_rfl) (by simp) ?_
              refine AllReadyIn.cons rfl (fun K hK => ?_) ?_
              · -- 4
                go_simp
                refine ⟨fun _ => by omega, (round_wide hYR).mono ?_⟩
                rintro e W3 (⟨rfl, hJ3, hK3⟩ | ⟨rfl, hJx3, hK3⟩)
                · refine hK _ _ ?_
                  clear hK K
                  try simp only [Act.put, List.setIfInBounds_toArray, List.set_cons_zero, List.set_cons_succ]
                  refine wpAnyIn_ready (rs := [5]) (by kernel_rfl) (by simp) ?_
                  refine AllReadyIn.cons rfl (fun K hK => ?_) AllReadyIn.nil
                  go_simp
                  refine hK _ _ (wpAnyIn_done (by kernel_rfl) (hK1 _ _ ?_) _)
                  gi_wp2
                  exact fin1.out W3 hJ3 hK3
                · refine hK _ _ ?_
                  clear hK K
                  try simp only [Act.put, List.setIfInBounds_toArray, List.set_cons_zero, List.set_cons_succ]
                  refine wpAnyIn_ready (rs := [5]) (by kernel_rfl) (by simp) ?_
                  refine AllReadyIn.cons rfl (fun K hK => ?_) AllReadyIn.nil
                  go_simp
                  refine hK _ _ (wpAnyIn_done (by kernel_rfl) (hK1 _ _ ?_) _)
                  gi_wp2
                  exact ⟨(fin2.out W3 hJx3 hK3).1, rfl, (fin2.out W3 hJx3 hK3).2⟩
              exact AllReadyIn.nil
            exact AllReadyIn.nil
          refine AllReadyIn.cons rfl (fun K hK => ?_) ?_
          · -- 3
            go_simp
            refine ⟨trivial, fun _ => by omega, CallsIn.inRound ly2 ((callsIn_wide.2 (cut_any (f x) 64 (Nat.le_refl _) _)).mono ?_)⟩
            rintro e w' ⟨rfl, rfl⟩
            refine hK _ _ ?_
            clear hK K
            try simp only [Act.put, List.setIfInBounds_toArray, List.set_cons_zero, List.set_cons_succ]
            refine wpAnyIn_ready (rs := [0]) (by kernel_rfl) (by simp) ?_
            refine AllReadyIn.cons rfl (fun K hK => ?_) ?_
            · -- 0
              go_simp
              refine hK _ _ ?_
              clear hK K
              try simp only [Act.put, List.setIfInBounds_toArray, List.set_cons_zero, List.set_cons_succ]
              refine wpAnyIn_ready (rs := [4]) (by kernel_rfl) (by simp) ?_
              refine AllReadyIn.cons rfl (fun K hK => ?_) ?_
              · -- 4
                go_simp
                refine ⟨fun _ => by omega, (round_wide hYR).mono ?_⟩
                rintro e W3 (⟨rfl, hJ3, hK3⟩ | ⟨rfl, hJx3, hK3⟩)
                · refine hK _ _ ?_
                  clear hK K
                  try simp only [Act.put, List.setIfInBounds_toArray, List.set_cons_zero, List.set_cons_succ]
                  refine wpAnyIn_ready (rs := [5]) (by kernel_rfl) (by simp) ?_
                  refine AllReadyIn.cons rfl (fun K hK => ?_) AllReadyIn.nil
                  go_simp
                  refine hK _ _ (wpAnyIn_done (by kernel_rfl) (hK1 _ _ ?_) _)
                  gi_wp2
                  exact fin1.out W3 hJ3 hK3
                · refine hK _ _ ?_
                  clear hK K
                  try simp only [Act.put, List.setIfInBounds_toArray, List.set_cons_zero, List.set_cons_succ]
                  refine wpAnyIn_ready (rs := [5]) (by kernel_rfl) (by simp) ?_
                  refine AllReadyIn.cons rfl (fun K hK => ?_) AllReadyIn.nil
                  go_simp
                  refine hK _ _ (wpAnyIn_done (by kernel_rfl) (hK1 _ _ ?_) _)
                  gi_wp2
                  exact ⟨(fin2.out W3 hJx3 hK3).1, rfl, (fin2.out W3 hJx3 hK3).2⟩
              exact AllReadyIn.nil
            exact AllReadyIn.nil
          exact AllReadyIn.nil
        refine AllReadyIn.cons rfl (fun K hK => ?_) ?_
        · -- 3
          go_simp
          refine ⟨trivial, fun _ => by omega, CallsIn.inRound ly2 ((callsIn_wide.2 (cut_any (f x) 64 (Nat.le_refl _) _)).mono ?_)⟩
          rintro e w' ⟨rfl, rfl⟩
          refine hK _ _ ?_
          clear hK K
          try simp only [Act.put, List.setIfInBounds_toArray, List.set_cons_zero, List.set_cons_succ]
          refine wpAnyIn_ready (rs := [0, 1]) (by kernel_rfl) (by simp) ?_
          refine AllReadyIn.cons rfl (fun K hK => ?_) ?_
          · -- 0
            go_simp
            refine hK _ _ ?_
            clear hK K
            try simp only [Act.put, List.setIfInBounds_toArray, List.set_cons_zero, List.set_cons_succ]
            refine wpAnyIn_ready (rs := [1]) (by kernel_rfl) (by simp) ?_
            refine AllReadyIn.cons rfl (fun K hK => ?_) ?_
            · -- 1
              go_simp
              refine hK _ _ ?_
              clear hK K
              try simp only [Act.put, List.setIfInBounds_toArray, List.set_cons_zero, List.set_cons_succ]
              refine wpAnyIn_ready (rs := [4]) (by kernel_rfl) (by simp) ?_
              refine AllReadyIn.cons rfl (fun K hK => ?_) ?_
              · -- 4
                go_simp
                refine ⟨fun _ => by omega, (round_wide hYR).mono ?_⟩
                rintro e W3 (⟨rfl, hJ3, hK3⟩ | ⟨rfl, hJx3, hK3⟩)
                · refine hK _ _ ?_
                  clear hK K
                  try simp only [Act.put, List.setIfInBounds_toArray, List.set_cons_zero, List.set_cons_succ]
                  refine wpAnyIn_ready (rs := [5]) (by kernel_rfl) (by simp) ?_
                  refine AllReadyIn.cons rfl (fun K hK => ?_) AllReadyIn.nil
                  go_simp
                  refine hK _ _ (wpAnyIn_done (by kernel_rfl) (hK1 _ _ ?_) _)
                  gi_wp2
                  exact fin1.out W3 hJ3 hK3
                · refine hK _ _ ?_
                  clear hK K
                  try simp only [Act.put, List.setIfInBounds_toArray, List.set_cons_zero, List.set_cons_succ]
                  refine wpAnyIn_ready (rs := [5]) (by kernel_rfl) (by simp) ?_
                  refine AllReadyIn.cons rfl (fun K hK => ?_) AllReadyIn.nil
                  go_simp
                  refine hK _ _ (wpAnyIn_done (by kernel_rfl) (hK1 _ _ ?_) _)
                  gi_wp2
                  exact ⟨(fin2.out W3 hJx3 hK3).1, rfl, (fin2.out W3 hJx3 hK3).2⟩
              exact AllReadyIn.nil
            exact AllReadyIn.nil
          refine AllReadyIn.cons rfl (fun K hK => ?_) ?_
          · -- 1
            go_simp
            refine hK _ _ ?_
            clear hK K
            try simp only [Act.put, List.setIfInBounds_toArray, List.set_cons_zero, List.set_cons_succ]
            refine wpAnyIn_ready (rs := [0]) (by kernel_rfl) (by simp) ?_
            refine AllReadyIn.cons rfl (fun K hK => ?_) ?_
            · -- 0
              go_simp
              refine hK _ _ ?_
              clear hK K
              try simp only [Act.put, List.setIfInBounds_toArray, List.set_cons_zero, List.set_cons_succ]
              refine wpAnyIn_ready (rs := [4]) (by kernel_rfl) (by simp) ?_
              refine AllReadyIn.cons rfl (fun K hK => ?_) ?_
              · -- 4
                go_simp
                refine ⟨fun _ => by omega, (round_wide hYR).mono ?_⟩
                rintro e W3 (⟨rfl, hJ3, hK3⟩ | ⟨rfl, hJx3, hK3⟩)
                · refine hK _ _ ?_
                  clear hK K
                  try simp only [Act.put, List.setIfInBounds_toArray, List.set_cons_zero, List.set_cons_succ]
                  refine wpAnyIn_ready (rs := [5]) (by kernel_rfl) (by simp) ?_
                  refine AllReadyIn.cons rfl (fun K hK => ?_) AllReadyIn.nil
                  go_simp
                  refine hK _ _ (wpAnyIn_done (by kernel_rfl) (hK1 _ _ ?_) _)
                  gi_wp2
                  exact fin1.out W3 hJ3 hK3
                · refine hK _ _ ?_
                  clear hK K
                  try simp only [Act.put, List.setIfInBounds_toArray, List.set_cons_zero, List.set_cons_succ]
                  refine wpAnyIn_ready (rs := [5]) (by kernel_rfl) (by simp) ?_
                  refine AllReadyIn.cons rfl (fun K hK => ?_) AllReadyIn.nil
                  go_simp
                  refine hK _ _ (wpAnyIn_done (by kernel_rfl) (hK1 _ _ ?_) _)
                  gi_wp2
                  exact ⟨(fin2.out W3 hJx3 hK3).1, rfl, (fin2.out W3 hJx3 hK3).2⟩
              exact AllReadyIn.nil
            exact AllReadyIn.nil
          exact AllReadyIn.nil
        exact AllReadyIn.nil
      exact AllReadyIn.nil
    case done =>
      rintro D ys V hD rfl ⟨⟨xs, e, hJ⟩, hb⟩ hK
      exact ⟨.inl rfl, D, rfl, hK, by have := (Array.getElem?_eq_some_iff.1 hb).1; omega, by omega, .inl ⟨xs, e, hJ⟩⟩
    case stop =>
      rintro D c pre V hD hsp ⟨rfl, hs, xs, rfl, hJ⟩ hK
      gi_wp2
      all_goals first | exact (by omega) | exact .inr ⟨xs, hsp, hJ⟩ | exact ⟨by omega, .inr ⟨xs, hsp, hJ⟩⟩ | exact hs
  · rintro D V ⟨hK, hs, hD, hJ⟩
    gi_wp2
    refine ⟨by simp, .inl ⟨_, _, rfl, run_takeDeferred hK, ?_⟩⟩
    refine ⟨_, results_none rfl _ _ _, ⟨_, rfl⟩, by simpa using hs, ?_⟩
    have hp : Below W.heap.size V (V.putObj D (.deferred none)) := belowK_b (w := W0) (by omega) V D _ (.deferred none) (by omega) hK rfl rfl
    rcases hJ with ⟨xs, e, h⟩ | ⟨pre, e, h⟩
    · exact .inl ⟨xs, e, HJ.out _ _ _ h hs hp⟩
    · exact .inr ⟨pre, e, HJx.out _ _ _ h hs hp⟩
end Go.Proofs.Ythbnochlpnikaaa
namespace Go.Proofs.Ythbnochlpnikaaa
open Go.RowKit Go.Shelf

theorem all_any (m : Option Nat) (w : World) :
    Calls Try.prog 53 #[.agg #[.map m]] w fun r w' => r = .returned (.func (.func 60) #[] #[.pointer (some ⟨w.heap.size, 0, none⟩)]) ∧ w' = w.alloc (.cells #[.map m] 59) := by
  have hmf : ∀ (fn : Fn) (first cap : Array Value) (w : World), (Instr.makeFunc fn first cap).run Try.prog w = .ok (.func fn first cap) w := fun _ _ _ _ => rfl
  go_enter Try.func53, Try.ntmps53
  go_wp2
  go_ret
  exact ⟨rfl, rfl⟩
/-- A disk's sectors are told as they are now, by a copy. -/
theorem dAll_any {w : World} {B b1 b2 : Nat} {v : Value} {s : DS} (h : DiskAt w B b1 b2 v s) (hm : 1 ≤ s.many) :
    Calls Try.prog 32 #[.pointer (some ⟨B, 0, none⟩)] w fun r w' => ∃ Ba b, r = .returned (.func (.func 60) #[] #[.pointer (some ⟨Ba, 0, none⟩)]) ∧ w.heap.size ≤ Ba ∧ w'.cell? ⟨Ba, 0, none⟩ = some (.map (some b)) ∧ w.heap.size ≤ b ∧ MapIs w' b s.many (sectorS s) ∧ Below w.heap.size w w' := by
  obtain ⟨c0, -, c2, -, -, -⟩ := h.cell
  have C := none_any c2 (by omega)
  have D := Lib.hid (clone_any h.now)
  go_enter Try.func32, Try.ntmps32
  go_wp2_with (first
    | (go_at_call 28; refine C.mono ?_; rintro e w' ⟨rfl, rfl⟩)
    | (go_at_call 29; refine D.out.mono ?_; rintro e w1 ⟨b', rfl, hb, hM, hB⟩)
    | (go_at_call 53; refine (all_any _ _).mono ?_; rintro e w' ⟨rfl, rfl⟩))
  go_ret
  exact ⟨_, _, rfl, hB.size, by rw [World.cell?_alloc_new]; rfl, hb, hM.below ((Below.refl _ _).alloc (Nat.le_refl _) _), hB.alloc hB.size _⟩
end Go.Proofs.Ythbnochlpnikaaa
namespace Go.Proofs.Ythbnochlpnikaaa
open Go.RowKit Go.Shelf

theorem upon_inRound {P : Program} {o : Oper} {a : Act} {next next' : Act → World → Prop} {Q : Exit → Act → World → Prop} (l n : Nat) (hn : ∀ a w, next a w → next' a w) {r : Result Next} (h : o.upon P a next Q r) :
    o.uponIn (Fence.wide.inRound l) n P a next' Q r := by
  cases r with
  | ok x w' =>
    cases x with
    | value v => exact hn _ _ h
    | skip => exact hn _ _ h
    | defer d => exact hn _ _ h
    | enter f args =>
      refine ⟨fun e => by simp [Fence.wide] at e, CallsIn.inRound l (callsIn_wide.2 (Calls.mono h ?_))⟩
      rintro (v | c | _) w'' hR
      · exact hn _ _ hR
      · exact hR
      · exact hR
    | row rw args =>
      refine ⟨fun e => by simp [Fence.wide] at e, fun c cs _ => ?_⟩
      obtain ⟨v, w'', r, s⟩ := h c cs
      exact ⟨v, w'', hn _ _ r, stepsIn_wide.2 s⟩
    | _ => exact h.elim
  | halt x w' =>
    cases x with
    | panic v => exact h
    | _ => exact h.elim
theorem ops_inRound {P : Program} {ops : Array Oper} {Q : Exit → Act → World → Prop} (lr n : Nat) (hQ : ¬ LetsOut Q) (hd : ∀ (i : Nat) (o : Oper), ops[i]? = some o → ∀ c, o.op ≠ .defer c) :
    ∀ (l : List Nat) (a : Act) (w : World), wpOps P ops Q l a w → wpOpsIn (Fence.wide.inRound lr) n P ops Q l a w
  | [], _, _, h => h
  | i :: rest, a, w, h => by
    unfold wpOps at h
    unfold wpOpsIn
    cases ho : ops[i]? with
    | none =>
      simp only [ho] at h ⊢
      exact ops_inRound lr n hQ hd rest a w h
    | some o =>
      simp only [ho] at h ⊢
      by_cases hw : Region.wanted o (yielded ops a.tmps) = true
      · rw [if_pos hw] at h ⊢
        rcases h with h | h
        · refine ⟨fun _ _ => trivial, ?_⟩
          rw [Oper.semAt_eq _ _ _ (hd i o ho)]
          exact upon_inRound lr n (fun a w h => ops_inRound lr n hQ hd rest a w h) h
        · exact absurd h.2 hQ
      · rw [if_neg hw] at h ⊢
        exact ⟨fun _ _ => trivial, ops_inRound lr n hQ hd rest _ _ h⟩
def noDefer (ops : Array Oper) : Bool := ops.all fun o => match o.op with | .defer _ => false | _ => true
theorem noDefer_spec {ops : Array Oper} (h : noDefer ops = true) (i : Nat) (o : Oper) (ho : ops[i]? = some o) : ∀ c, o.op ≠ .defer c := fun c e => by
  have := (Array.all_eq_true_iff_forall_mem.1 h) o (Array.mem_of_getElem? ho)
  rw [e] at this
  cases this
/-- A drawn region inside a round goes as one outside. -/
theorem region_inRound {P : Program} {ops : Array Oper} {Q : Exit → Act → World → Prop} {S : World → Prop} (lr n : Nat) {id : Nat} {a : Act} {w : World} (hQ : ¬ LetsOut Q) (hm : P.follows .mixedOrders = true) (hd : noDefer ops = true) (hS : S w.drew)
    (h : S w.drew → wpAnyH P .any ops Q S ops.size (Array.replicate ops.size false) a w.drew) : (Code.region id ops true).wpIn (Fence.wide.inRound lr) n P Q a w :=
  wpIn_region_draw fun t => ops_inRound lr n hQ (noDefer_spec hd) _ _ _ (by
    simp only [Region.schedule, hm, Bool.true_or, if_true]
    exact wpAny_sound ops.size t _ a _ (wpAny_of_held _ _ _ _ (h hS)))
/-- Neither a panic nor the room's end. -/
def calmX (Q : Exit → Act → World → Prop) : Exit → Act → World → Prop
  | .panic _, _, _ => False
  | .outgrown, _, _ => False
  | e, a, w => Q e a w
theorem calmX_out {Q : Exit → Act → World → Prop} : ∀ (e : Exit) (a : Act) (w : World), calmX Q e a w → Q e a w
  | .normal, _, _, h => h
  | .ret, _, _, h => h
  | .exit _, _, _, h => h
  | .goto _, _, _, h => h
  | .panic _, _, _, h => h.elim
  | .outgrown, _, _, h => h.elim
theorem calmX_in {Q : Exit → Act → World → Prop} {a : Act} {w : World} (h : Q .normal a w) : calmX Q .normal a w := h
theorem calmX_lets {Q : Exit → Act → World → Prop} : ¬ LetsOut (calmX Q) := fun ⟨_, _, h⟩ => h
theorem wp_calm {P : Program} {c : Code} {Q : Exit → Act → World → Prop} {a : Act} {w : World} (h : c.wp P (calmX Q) a w) : c.wp P Q a w := wp_mono h calmX_out
theorem wpIn_calm {F : Fence} {n : Nat} {P : Program} {c : Code} {Q : Exit → Act → World → Prop} {a : Act} {w : World} (h : c.wpIn F n P (calmX Q) a w) : c.wpIn F n P Q a w := wpIn_mono h calmX_out
theorem eqi83 (f : Fn) (a b : Array Value) (w : World) (d : Nat) : (Op.equalIn (d + 1) 83 (.func f a b) .nilFunc).run Try.prog w = .ok false w := by
  unfold Op.equalIn
  simp [go_sem]
/-- A function that was made is not nil. -/
theorem eq83 (f : Fn) (a b : Array Value) (w : World) : (binOp .eql 83 (.func f a b) .nilFunc).run Try.prog w = .ok (.bool false) w := by
  have e : (Op.equalIn Op.maxDepth 83 (.func f a b) .nilFunc).run Try.prog w = .ok false w := eqi83 f a b w 9999
  simp [binOp, Op.equal, go_sem, e]
def unB (b : ByteArray) : List Nat := b.data.toList.map (·.toNat)
theorem unB_str (b : ByteArray) : strOf (unB b) = b := by
  obtain ⟨⟨l⟩⟩ := b
  simp only [strOf, unB, List.map_map]
  congr 2
  rw [show (UInt8.ofNat ∘ fun x : UInt8 => x.toNat) = id from funext fun x => by simp, List.map_id]
theorem conv_sec {w : World} {g : Nat} {b : ByteArray} (hb : b.size = 64) (h : w.heap[g]? = some (.cells (bV b) 76 (0, 0))) :
    (convert 47 9 (.slice (some ⟨g, 0, none⟩) 64 64)).run Try.prog w = .ok (.string b) w := by
  have hl : (unB b).length = 64 := by simp only [unB, List.length_map, Array.length_toList]; exact hb
  have := conv_at w (some ⟨g, 0, none⟩) 64 (unB b) (fun x hx => by
    simp only [unB, List.mem_map] at hx
    obtain ⟨u, -, rfl⟩ := hx
    exact u.toNat_lt) (fun i hi => ⟨g, 0, rfl, by
    rw [Nat.zero_add, cell_of_row w g i _ 76 (0, 0) h]
    have hi' : i < b.data.toList.length := by rw [Array.length_toList]; rw [hl] at hi; exact Nat.lt_of_lt_of_eq hi hb.symm
    simp [bV, bL, unB, List.getD_eq_getElem?_getD, List.getElem?_eq_getElem hi']
    ⟩)
  rw [hl, unB_str] at this
  exact this
def lastOf (pre : List (Nat × Nat)) : Int := match pre.getLast? with | none => -1 | some y => (y.1 : Int)
theorem lastOf_snoc (pre : List (Nat × Nat)) (x : Nat × Nat) : lastOf (pre ++ [x]) = (x.1 : Int) := by simp [lastOf]
theorem last_lt {pre : List (Nat × Nat)} {x : Nat × Nat} {L : List Nat} (h : (pre ++ [x]).map (·.1) <+: L) (hL : L.Pairwise (· < ·)) : lastOf pre < (x.1 : Int) := by
  have hp := hL.sublist h.sublist
  rw [List.map_append, List.pairwise_append] at hp
  unfold lastOf
  cases he : pre.getLast? with
  | none => simp only; omega
  | some y =>
    have := hp.2.2 y.1 (List.mem_map.2 ⟨y, List.mem_of_getLast? he, rfl⟩) x.1 (by simp)
    simp only
    omega
/-- What a round finds: the cells of the walk's own, how many have come, the last. -/
structure IsNow (w W : World) (A : Nat) (s : DS) (p : Option Addr) (c : Nat) (q : Option Addr) (d : Nat) (many cnt last : Int) : Prop where
  x : BoxAt W w.heap.size (.int .i64 s.many) (.slice p s.sync.length c) (.slice q s.loose.length d) (.int .i64 s.left)
  y : W.cell? ⟨w.heap.size + 1, 0, none⟩ = some (.int .i64 many)
  r : W.cell? ⟨w.heap.size + 1 + 1, 0, none⟩ = some (.bool false)
  f : W.frozen? ⟨w.heap.size + 1 + 1, 0, none⟩ = false
  a : W.cell? ⟨A, 0, none⟩ = some (.int .i64 cnt)
  b : W.cell? ⟨A + 1, 0, none⟩ = some (.int .i64 last)
  fa : W.frozen? ⟨A, 0, none⟩ = false
  fb : W.frozen? ⟨A + 1, 0, none⟩ = false
  B : Below w.heap.size w W
theorem BoxAt.asItIs {w w' : World} {A : Nat} {a b c d : Value} (h : BoxAt w A a b c d) (e : w'.heap[A]? = w.heap[A]?) : BoxAt w' A a b c d :=
  ⟨(World.cell?_of_block (a := ⟨A, 0, none⟩) e).trans h.x0, (World.cell?_of_block (a := ⟨A, 1, none⟩) e).trans h.x1, (World.cell?_of_block (a := ⟨A, 2, none⟩) e).trans h.x2, (World.cell?_of_block (a := ⟨A, 3, none⟩) e).trans h.x3,
    (World.frozen?_of_block (a := ⟨A, 0, none⟩) e).trans h.f0, (World.frozen?_of_block (a := ⟨A, 1, none⟩) e).trans h.f1, (World.frozen?_of_block (a := ⟨A, 2, none⟩) e).trans h.f2, (World.frozen?_of_block (a := ⟨A, 3, none⟩) e).trans h.f3⟩
theorem IsNow.low {w W W' : World} {A Bd : Nat} {s : DS} {p : Option Addr} {c : Nat} {q : Option Addr} {d : Nat} {many cnt last : Int} (h : IsNow w W A s p c q d many cnt last) (hA : A + 2 ≤ Bd) (hw : w.heap.size + 3 ≤ A) (hb : Below Bd W W') : IsNow w W' A s p c q d many cnt last :=
  have e := fun k (hk : k < Bd) => hb.block k hk
  ⟨h.x.asItIs (e _ (by omega)), (World.cell?_of_block (e _ (by show w.heap.size + 1 < Bd; omega))).trans h.y, (World.cell?_of_block (e _ (by show w.heap.size + 1 + 1 < Bd; omega))).trans h.r, (World.frozen?_of_block (e _ (by show w.heap.size + 1 + 1 < Bd; omega))).trans h.f,
    (World.cell?_of_block (e _ (by show A < Bd; omega))).trans h.a, (World.cell?_of_block (e _ (by show A + 1 < Bd; omega))).trans h.b, (World.frozen?_of_block (e _ (by show A < Bd; omega))).trans h.fa, (World.frozen?_of_block (e _ (by show A + 1 < Bd; omega))).trans h.fb, h.B.trans (hb.mono (by omega))⟩
theorem IsNow.step {w W : World} {A : Nat} {s : DS} {p : Option Addr} {c : Nat} {q : Option Addr} {d : Nat} {many cnt last : Int} (h : IsNow w W A s p c q d many cnt last) (hw : w.heap.size + 3 ≤ A) (l' n' : Int) :
    IsNow w ((W.setCell ⟨A + 1, 0, none⟩ (.int .i64 l')).setCell ⟨A, 0, none⟩ (.int .i64 n')) A s p c q d many n' l' := by
  have e : ∀ k, k ≠ A → k ≠ A + 1 → ((W.setCell ⟨A + 1, 0, none⟩ (.int .i64 l')).setCell ⟨A, 0, none⟩ (.int .i64 n')).heap[k]? = W.heap[k]? := fun k h1 h2 => (Below.heap_setCell _ _ _ _ h1).trans (Below.heap_setCell _ _ _ _ h2)
  obtain ⟨x, y, r, f, a, b, fa, fb, B⟩ := h
  refine ⟨x.asItIs (e _ (by omega) (by omega)), (World.cell?_of_block (e _ (by show w.heap.size + 1 ≠ A; omega) (by show w.heap.size + 1 ≠ A + 1; omega))).trans y, (World.cell?_of_block (e _ (by show w.heap.size + 1 + 1 ≠ A; omega) (by show w.heap.size + 1 + 1 ≠ A + 1; omega))).trans r,
    (World.frozen?_of_block (e _ (by show w.heap.size + 1 + 1 ≠ A; omega) (by show w.heap.size + 1 + 1 ≠ A + 1; omega))).trans f, by go_cell, by go_cell, by go_simp, by go_simp, (B.setCell (by show w.heap.size ≤ A + 1; omega) _).setCell (by show w.heap.size ≤ A; omega) _⟩
end Go.Proofs.Ythbnochlpnikaaa
namespace Go.Proofs.Ythbnochlpnikaaa
open Go.RowKit Go.Shelf
attribute [local go_sem] Oper.semAt_some

theorem keysS_next {f : Nat → ByteArray} (k : Nat) : (keysS (k + 1) f).length = if f k = secS 0 then (keysS k f).length else (keysS k f).length + 1 := by
  unfold keysS
  rw [List.range_succ, List.filter_append, List.length_append]
  by_cases h : f k = secS 0
  · simp [h]
  · simp [h]
/-- What is held ahead of the walk: the document's disk, how many, the answer. -/
structure IsBox (W : World) (A : Nat) (s : DS) (p : Option Addr) (c : Nat) (q : Option Addr) (d : Nat) (many : Int) : Prop where
  x : BoxAt W A (.int .i64 s.many) (.slice p s.sync.length c) (.slice q s.loose.length d) (.int .i64 s.left)
  y : W.cell? ⟨A + 1, 0, none⟩ = some (.int .i64 many)
  r : W.cell? ⟨A + 2, 0, none⟩ = some (.bool false)
  f : W.frozen? ⟨A + 2, 0, none⟩ = false
  R : RefAt W s p c q d
theorem BoxAt.asIs {w w' : World} {A : Nat} {a b c d : Value} (h : BoxAt w A a b c d) (e : w'.heap[A]? = w.heap[A]?) : BoxAt w' A a b c d :=
  ⟨(World.cell?_of_block (a := ⟨A, 0, none⟩) e).trans h.x0, (World.cell?_of_block (a := ⟨A, 1, none⟩) e).trans h.x1, (World.cell?_of_block (a := ⟨A, 2, none⟩) e).trans h.x2, (World.cell?_of_block (a := ⟨A, 3, none⟩) e).trans h.x3,
    (World.frozen?_of_block (a := ⟨A, 0, none⟩) e).trans h.f0, (World.frozen?_of_block (a := ⟨A, 1, none⟩) e).trans h.f1, (World.frozen?_of_block (a := ⟨A, 2, none⟩) e).trans h.f2, (World.frozen?_of_block (a := ⟨A, 3, none⟩) e).trans h.f3⟩
theorem IsBox.below {W W' : World} {A : Nat} {s : DS} {p : Option Addr} {c : Nat} {q : Option Addr} {d : Nat} {many : Int} (h : IsBox W A s p c q d many) (hb : Below W.heap.size W W') : IsBox W' A s p c q d many :=
  ⟨h.x.asIs (hb.block A (lt_of_cell_some h.x.x0)), below_kept hb _ _ h.y, below_kept hb _ _ h.r, (World.frozen?_of_block (a := ⟨A + 2, 0, none⟩) (hb.block _ (lt_of_cell_some h.r))).trans h.f, h.R.below hb⟩
set_option maxRecDepth 100000 in
set_option maxHeartbeats 4000000 in
theorem is_any {w : World} {B b1 b2 : Nat} {v : Value} {s : DS} (h : DiskAt w B b1 b2 v s) (hW : Whole s) (hF : Few s) (p : Option Addr) (c : Nat) (q : Option Addr) (d : Nat) (R : Hid (RefAt w s p c q d)) (many : Int) :
    Calls Try.prog 13 #[.pointer (some ⟨B, 0, none⟩), refV s p c q d, .int .i64 many] w fun r w' => r = .returned (.bool true) ∧ Below w.heap.size w w' := by
  have hm1 := hW.many.1
  have hm2 := hW.many.2
  obtain ⟨w0, hw0⟩ : ∃ w0, w0 = ((w.alloc (.cells #[.int .i64 s.many, .slice p s.sync.length c, .slice q s.loose.length d, .int .i64 s.left] 35)).alloc (.cells #[.int .i64 many] 3)).alloc (.cells #[.bool false] 4) := ⟨_, rfl⟩
  have B0 : Below w.heap.size w w0 := by subst hw0; exact (((Below.refl _ _).alloc (Nat.le_refl _) _).alloc (by simp) _).alloc (by simp; omega) _
  have I0 : IsBox w0 w.heap.size s p c q d many := ⟨by subst hw0; constructor <;> first | go_cell | go_simp, by subst hw0; go_cell, by subst hw0; go_cell, by subst hw0; go_simp, R.out.below B0⟩
  have S0 : Hid (w0.heap.size = w.heap.size + 3) := Lib.hid (by subst hw0; simp)
  have HA := Lib.hid (dAll_any (h.below B0) hm1)
  have HD := Lib.hid h
  have HWh := Lib.hid hW
  have HFw := Lib.hid hF
  clear h hF
  unfold refV
  refine (callsIn_wide (n := 9)).1 ?_
  refine callsIn_of_wp_marks Try.func13 rfl trivial ?_ rfl
  refine wpIn_wide.2 ?_
  simp only [Try.ntmps13, List.size_toArray, List.length_cons, List.length_nil, Nat.reduceAdd, Nat.reduceSub, Array.replicate_succ, Array.replicate_zero, List.push_toArray, List.append_toArray, List.nil_append, List.cons_append]
  go_wp2_with (first
    | (rw [← hw0]; go_at_call 32; refine HA.out.mono ?_; rintro e w1 ⟨Ba, b, rfl, hBa, hca, hb, hM, HB1⟩)
    | fail)
  have I1 := Lib.hid (I0.below HB1)
  have hnil := fun w => eq83 (.func 60) #[] #[.pointer (some ⟨Ba, 0, none⟩)] w
  have D1 := (HD.out.below B0).below HB1
  have LEN := Lib.hid (dlen_any (D1.below (Below.refl _ _).drew) hm1)
  have LOO := Lib.hid (dloose_any (D1.below (Below.refl _ _).drew) hm1)
  have STO := Lib.hid (dstopped_any (D1.below (Below.refl _ _).drew) hm1)
  have S1 : Hid (w0.heap.size ≤ w1.heap.size) := Lib.hid HB1.size
  have HB := Lib.hid (B0.trans (HB1.mono B0.size))
  have HM := Lib.hid hM
  have HCA := Lib.hid hca
  have HBA := Lib.hid (And.intro hBa hb)
  obtain ⟨⟨x0, x1, x2, x3, f0, f1, f2, f3⟩, y, r, f, RR⟩ := I1.out
  clear I0 HB1 D1 hM hca hBa hb hw0 RR f0 f1 f2 f3 f r
  have hbl : (s.left == (0 : Int)) = decide (s.left = 0) := by by_cases h : s.left = 0 <;> simp [h]
  refine wp_calm ?_
  refine wp_region_held_drew (S := fun w' => w' = w1.drew) (by kernel_rfl) rfl (fun H0 => ?_)
  refine wpAnyH_take (i := 0) (oi := { dst := some 16, op := Go.Op.move (Go.Operand.tmp 7), type := 83, pos := "law.go:79", after := #[], guard := none }) (v := ?_) rfl (by kernel_rfl) (by kernel_rfl) (by kernel_rfl) (fun _ _ _ h => h) (Or.inl ⟨by rfl, ?_⟩) H0 ?_
  rotate_left
  focus (intro w' hSw; (try dsimp only at hSw); subst hSw; go_simp; (try with_reducible rfl))
  simp only [Act.put, List.setIfInBounds_toArray, List.set_cons_zero, List.set_cons_succ]
  refine wpAnyH_take (i := 1) (oi := { dst := some 17, op := Go.Op.binOp Go.BinOp.eql 83 (Go.Operand.tmp 16) (Go.Operand.const Go.Value.nilFunc) 83, type := 4, pos := "law.go:79", after := #[{ on := 0, ground := Go.Ground.data }], guard := none }) (v := ?_) rfl (by kernel_rfl) (by kernel_rfl) (by kernel_rfl) (fun _ _ _ h => h) (Or.inl ⟨by rfl, ?_⟩) H0 ?_
  rotate_left
  focus (intro w' hSw; (try dsimp only at hSw); subst hSw; go_simp; (try with_reducible rfl))
  simp only [Act.put, List.setIfInBounds_toArray, List.set_cons_zero, List.set_cons_succ]
  refine wpAnyH_take (i := 2) (oi := { dst := some 18, op := Go.Op.move (Go.Operand.tmp 17), type := 4, pos := "law.go:79", after := #[{ on := 1, ground := Go.Ground.data }], guard := none }) (v := ?_) rfl (by kernel_rfl) (by kernel_rfl) (by kernel_rfl) (fun _ _ _ h => h) (Or.inl ⟨by rfl, ?_⟩) H0 ?_
  rotate_left
  focus (intro w' hSw; (try dsimp only at hSw); subst hSw; go_simp; (try with_reducible rfl))
  simp only [Act.put, List.setIfInBounds_toArray, List.set_cons_zero, List.set_cons_succ]
  refine wpAnyH_take (i := 3) (oi := { dst := some 19, op := Go.Op.move (Go.Operand.tmp 0), type := 29, pos := "law.go:79", after := #[{ on := 2, ground := Go.Ground.guard }], guard := some (2, false) }) (v := ?_) rfl (by kernel_rfl) (by kernel_rfl) (by kernel_rfl) (fun _ _ _ h => h) (Or.inl ⟨by rfl, ?_⟩) H0 ?_
  rotate_left
  focus (intro w' hSw; (try dsimp only at hSw); subst hSw; go_simp; (try with_reducible rfl))
  simp only [Act.put, List.setIfInBounds_toArray, List.set_cons_zero, List.set_cons_succ]
  refine wpAnyH_take (i := 5) (oi := { dst := some 21, op := Go.Op.fieldAddr 35 (Go.Operand.tmp 4) 0, type := 0, pos := "law.go:79", after := #[{ on := 2, ground := Go.Ground.guard }], guard := some (2, false) }) (v := ?_) rfl (by kernel_rfl) (by kernel_rfl) (by kernel_rfl) (fun _ _ _ h => h) (Or.inl ⟨by rfl, ?_⟩) H0 ?_
  rotate_left
  focus (intro w' hSw; (try dsimp only at hSw); subst hSw; go_simp; (try with_reducible rfl))
  simp only [Act.put, List.setIfInBounds_toArray, List.set_cons_zero, List.set_cons_succ]
  refine wpAnyH_take (i := 6) (oi := { dst := some 22, op := Go.Op.load 3 (Go.Operand.tmp 21), type := 3, pos := "law.go:79", after := #[{ on := 5, ground := Go.Ground.data }, { on := 2, ground := Go.Ground.guard }], guard := some (2, false) }) (v := ?_) rfl (by kernel_rfl) (by kernel_rfl) (by kernel_rfl) (fun _ _ _ h => h) (Or.inl ⟨by rfl, ?_⟩) H0 ?_
  rotate_left
  focus (intro w' hSw; (try dsimp only at hSw); subst hSw; go_simp; (try with_reducible rfl))
  simp only [Act.put, List.setIfInBounds_toArray, List.set_cons_zero, List.set_cons_succ]
  refine wpAnyH_ready (rs := [4]) (by kernel_rfl) (by simp) ?_
  refine AllReadyH.cons (o := { dst := some 20, op := Go.Op.call { callee := Go.Callee.value (Go.Operand.func 33), args := #[Go.Operand.tmp 19], argTypes := #[29] }, type := 3, pos := "law.go:79", after := #[{ on := 3, ground := Go.Ground.data }, { on := 2, ground := Go.Ground.chain }, { on := 2, ground := Go.Ground.guard }], guard := some (2, false) }) rfl (fun K hK => ?_) ?_
  rotate_left
  exact AllReadyH.nil
  go_simp
  (go_at_call 33; (with_reducible refine LEN.out.mono ?_); rintro e wa ⟨rfl, rfl⟩)
  try go_wp2_with fail
  refine hK.out _ _ rfl (fun H1 => ?_)
  clear hK K
  try simp only [Act.put, List.setIfInBounds_toArray, List.set_cons_zero, List.set_cons_succ]
  refine wpAnyH_take (i := 7) (oi := { dst := some 23, op := Go.Op.binOp Go.BinOp.neq 3 (Go.Operand.tmp 20) (Go.Operand.tmp 22) 3, type := 4, pos := "law.go:79", after := #[{ on := 4, ground := Go.Ground.data }, { on := 6, ground := Go.Ground.data }, { on := 2, ground := Go.Ground.guard }], guard := some (2, false) }) (v := ?_) rfl (by kernel_rfl) (by kernel_rfl) (by kernel_rfl) (fun _ _ _ h => h) (Or.inl ⟨by rfl, ?_⟩) H1 ?_
  rotate_left
  focus (intro w' hSw; (try dsimp only at hSw); subst hSw; go_simp; (try with_reducible rfl))
  simp only [Act.put, List.setIfInBounds_toArray, List.set_cons_zero, List.set_cons_succ]
  refine wpAnyH_take (i := 8) (oi := { dst := some 24, op := Go.Op.pick (Go.Operand.tmp 18) (Go.Operand.const (Go.Value.bool true)) (Go.Operand.tmp 23), type := 4, pos := "law.go:79", after := #[{ on := 2, ground := Go.Ground.data }, { on := 7, ground := Go.Ground.data }], guard := none }) (v := ?_) rfl (by kernel_rfl) (by kernel_rfl) (by kernel_rfl) (fun _ _ _ h => h) (Or.inl ⟨by rfl, ?_⟩) H1 ?_
  rotate_left
  focus (intro w' hSw; (try dsimp only at hSw); subst hSw; go_simp; (try with_reducible rfl))
  simp only [Act.put, List.setIfInBounds_toArray, List.set_cons_zero, List.set_cons_succ]
  refine wpAnyH_take (i := 9) (oi := { dst := some 25, op := Go.Op.move (Go.Operand.tmp 24), type := 4, pos := "law.go:79", after := #[{ on := 8, ground := Go.Ground.data }, { on := 4, ground := Go.Ground.chain }], guard := none }) (v := ?_) rfl (by kernel_rfl) (by kernel_rfl) (by kernel_rfl) (fun _ _ _ h => h) (Or.inl ⟨by rfl, ?_⟩) H1 ?_
  rotate_left
  focus (intro w' hSw; (try dsimp only at hSw); subst hSw; go_simp; (try with_reducible rfl))
  simp only [Act.put, List.setIfInBounds_toArray, List.set_cons_zero, List.set_cons_succ]
  refine wpAnyH_take (i := 10) (oi := { dst := some 26, op := Go.Op.move (Go.Operand.tmp 0), type := 29, pos := "law.go:79", after := #[{ on := 9, ground := Go.Ground.guard }], guard := some (9, false) }) (v := ?_) rfl (by kernel_rfl) (by kernel_rfl) (by kernel_rfl) (fun _ _ _ h => h) (Or.inl ⟨by rfl, ?_⟩) H1 ?_
  rotate_left
  focus (intro w' hSw; (try dsimp only at hSw); subst hSw; go_simp; (try with_reducible rfl))
  simp only [Act.put, List.setIfInBounds_toArray, List.set_cons_zero, List.set_cons_succ]
  refine wpAnyH_take (i := 12) (oi := { dst := some 28, op := Go.Op.fieldAddr 35 (Go.Operand.tmp 4) 2, type := 0, pos := "law.go:79", after := #[{ on := 9, ground := Go.Ground.guard }], guard := some (9, false) }) (v := ?_) rfl (by kernel_rfl) (by kernel_rfl) (by kernel_rfl) (fun _ _ _ h => h) (Or.inl ⟨by rfl, ?_⟩) H1 ?_
  rotate_left
  focus (intro w' hSw; (try dsimp only at hSw); subst hSw; go_simp; (try with_reducible rfl))
  simp only [Act.put, List.setIfInBounds_toArray, List.set_cons_zero, List.set_cons_succ]
  refine wpAnyH_take (i := 13) (oi := { dst := some 29, op := Go.Op.load 33 (Go.Operand.tmp 28), type := 33, pos := "law.go:79", after := #[{ on := 12, ground := Go.Ground.data }, { on := 9, ground := Go.Ground.guard }], guard := some (9, false) }) (v := ?_) rfl (by kernel_rfl) (by kernel_rfl) (by kernel_rfl) (fun _ _ _ h => h) (Or.inl ⟨by rfl, ?_⟩) H1 ?_
  rotate_left
  focus (intro w' hSw; (try dsimp only at hSw); subst hSw; go_simp; (try with_reducible rfl))
  simp only [Act.put, List.setIfInBounds_toArray, List.set_cons_zero, List.set_cons_succ]
  refine wpAnyH_take (i := 14) (oi := { dst := some 30, op := Go.Op.call { callee := Go.Callee.builtin Go.Builtin.len, args := #[Go.Operand.tmp 29], argTypes := #[33] }, type := 3, pos := "law.go:79", after := #[{ on := 13, ground := Go.Ground.data }, { on := 9, ground := Go.Ground.guard }], guard := some (9, false) }) (v := ?_) rfl (by kernel_rfl) (by kernel_rfl) (by kernel_rfl) (fun _ _ _ h => h) (Or.inl ⟨by rfl, ?_⟩) H1 ?_
  rotate_left
  focus (intro w' hSw; (try dsimp only at hSw); subst hSw; go_simp; (try with_reducible rfl))
  simp only [Act.put, List.setIfInBounds_toArray, List.set_cons_zero, List.set_cons_succ]
  refine wpAnyH_ready (rs := [11]) (by kernel_rfl) (by simp) ?_
  refine AllReadyH.cons (o := { dst := some 27, op := Go.Op.call { callee := Go.Callee.value (Go.Operand.func 34), args := #[Go.Operand.tmp 26], argTypes := #[29] }, type := 3, pos := "law.go:79", after := #[{ on := 10, ground := Go.Ground.data }, { on := 9, ground := Go.Ground.chain }, { on := 9, ground := Go.Ground.guard }], guard := some (9, false) }) rfl (fun K hK => ?_) ?_
  rotate_left
  exact AllReadyH.nil
  go_simp
  (go_at_call 34; (with_reducible refine LOO.out.mono ?_); rintro e wa ⟨rfl, rfl⟩)
  try go_wp2_with fail
  refine hK.out _ _ rfl (fun H2 => ?_)
  clear hK K
  try simp only [Act.put, List.setIfInBounds_toArray, List.set_cons_zero, List.set_cons_succ]
  refine wpAnyH_take (i := 15) (oi := { dst := some 31, op := Go.Op.binOp Go.BinOp.neq 3 (Go.Operand.tmp 27) (Go.Operand.tmp 30) 3, type := 4, pos := "law.go:79", after := #[{ on := 11, ground := Go.Ground.data }, { on := 14, ground := Go.Ground.data }, { on := 9, ground := Go.Ground.guard }], guard := some (9, false) }) (v := ?_) rfl (by kernel_rfl) (by kernel_rfl) (by kernel_rfl) (fun _ _ _ h => h) (Or.inl ⟨by rfl, ?_⟩) H2 ?_
  rotate_left
  focus (intro w' hSw; (try dsimp only at hSw); subst hSw; go_simp; (try with_reducible rfl))
  simp only [Act.put, List.setIfInBounds_toArray, List.set_cons_zero, List.set_cons_succ]
  refine wpAnyH_take (i := 16) (oi := { dst := some 32, op := Go.Op.pick (Go.Operand.tmp 25) (Go.Operand.const (Go.Value.bool true)) (Go.Operand.tmp 31), type := 4, pos := "law.go:79", after := #[{ on := 9, ground := Go.Ground.data }, { on := 15, ground := Go.Ground.data }], guard := none }) (v := ?_) rfl (by kernel_rfl) (by kernel_rfl) (by kernel_rfl) (fun _ _ _ h => h) (Or.inl ⟨by rfl, ?_⟩) H2 ?_
  rotate_left
  focus (intro w' hSw; (try dsimp only at hSw); subst hSw; go_simp; (try with_reducible rfl))
  simp only [Act.put, List.setIfInBounds_toArray, List.set_cons_zero, List.set_cons_succ]
  refine wpAnyH_take (i := 17) (oi := { dst := some 33, op := Go.Op.move (Go.Operand.tmp 32), type := 4, pos := "law.go:79", after := #[{ on := 16, ground := Go.Ground.data }, { on := 11, ground := Go.Ground.chain }], guard := none }) (v := ?_) rfl (by kernel_rfl) (by kernel_rfl) (by kernel_rfl) (fun _ _ _ h => h) (Or.inl ⟨by rfl, ?_⟩) H2 ?_
  rotate_left
  focus (intro w' hSw; (try dsimp only at hSw); subst hSw; go_simp; (try with_reducible rfl))
  simp only [Act.put, List.setIfInBounds_toArray, List.set_cons_zero, List.set_cons_succ]
  refine wpAnyH_take (i := 18) (oi := { dst := some 34, op := Go.Op.move (Go.Operand.tmp 0), type := 29, pos := "law.go:79", after := #[{ on := 17, ground := Go.Ground.guard }], guard := some (17, false) }) (v := ?_) rfl (by kernel_rfl) (by kernel_rfl) (by kernel_rfl) (fun _ _ _ h => h) (Or.inl ⟨by rfl, ?_⟩) H2 ?_
  rotate_left
  focus (intro w' hSw; (try dsimp only at hSw); subst hSw; go_simp; (try with_reducible rfl))
  simp only [Act.put, List.setIfInBounds_toArray, List.set_cons_zero, List.set_cons_succ]
  refine wpAnyH_take (i := 20) (oi := { dst := some 36, op := Go.Op.fieldAddr 35 (Go.Operand.tmp 4) 3, type := 0, pos := "law.go:79", after := #[{ on := 17, ground := Go.Ground.guard }], guard := some (17, false) }) (v := ?_) rfl (by kernel_rfl) (by kernel_rfl) (by kernel_rfl) (fun _ _ _ h => h) (Or.inl ⟨by rfl, ?_⟩) H2 ?_
  rotate_left
  focus (intro w' hSw; (try dsimp only at hSw); subst hSw; go_simp; (try with_reducible rfl))
  simp only [Act.put, List.setIfInBounds_toArray, List.set_cons_zero, List.set_cons_succ]
  refine wpAnyH_take (i := 21) (oi := { dst := some 37, op := Go.Op.load 3 (Go.Operand.tmp 36), type := 3, pos := "law.go:79", after := #[{ on := 20, ground := Go.Ground.data }, { on := 17, ground := Go.Ground.guard }], guard := some (17, false) }) (v := ?_) rfl (by kernel_rfl) (by kernel_rfl) (by kernel_rfl) (fun _ _ _ h => h) (Or.inl ⟨by rfl, ?_⟩) H2 ?_
  rotate_left
  focus (intro w' hSw; (try dsimp only at hSw); subst hSw; go_simp; (try with_reducible rfl))
  simp only [Act.put, List.setIfInBounds_toArray, List.set_cons_zero, List.set_cons_succ]
  refine wpAnyH_take (i := 22) (oi := { dst := some 38, op := Go.Op.binOp Go.BinOp.eql 3 (Go.Operand.tmp 37) (Go.Operand.const (Go.Value.int Go.IntKind.i64 0)) 3, type := 4, pos := "law.go:79", after := #[{ on := 21, ground := Go.Ground.data }, { on := 17, ground := Go.Ground.guard }], guard := some (17, false) }) (v := ?_) rfl (by kernel_rfl) (by kernel_rfl) (by kernel_rfl) (fun _ _ _ h => h) (Or.inl ⟨by rfl, ?_⟩) H2 ?_
  rotate_left
  focus (intro w' hSw; (try dsimp only at hSw); subst hSw; go_simp; (try with_reducible rfl))
  simp only [Act.put, List.setIfInBounds_toArray, List.set_cons_zero, List.set_cons_succ]
  refine wpAnyH_ready (rs := [19]) (by kernel_rfl) (by simp) ?_
  refine AllReadyH.cons (o := { dst := some 35, op := Go.Op.call { callee := Go.Callee.value (Go.Operand.func 35), args := #[Go.Operand.tmp 34], argTypes := #[29] }, type := 4, pos := "law.go:79", after := #[{ on := 18, ground := Go.Ground.data }, { on := 17, ground := Go.Ground.chain }, { on := 17, ground := Go.Ground.guard }], guard := some (17, false) }) rfl (fun K hK => ?_) ?_
  rotate_left
  exact AllReadyH.nil
  go_simp
  (go_at_call 35; (with_reducible refine STO.out.mono ?_); rintro e wa ⟨rfl, rfl⟩)
  try go_wp2_with fail
  refine hK.out _ _ rfl (fun H3 => ?_)
  clear hK K
  try simp only [Act.put, List.setIfInBounds_toArray, List.set_cons_zero, List.set_cons_succ]
  refine wpAnyH_take (i := 23) (oi := { dst := some 39, op := Go.Op.binOp Go.BinOp.neq 4 (Go.Operand.tmp 35) (Go.Operand.tmp 38) 4, type := 4, pos := "law.go:79", after := #[{ on := 19, ground := Go.Ground.data }, { on := 22, ground := Go.Ground.data }, { on := 17, ground := Go.Ground.guard }], guard := some (17, false) }) (v := ?_) rfl (by kernel_rfl) (by kernel_rfl) (by kernel_rfl) (fun _ _ _ h => h) (Or.inl ⟨by rfl, ?_⟩) H3 ?_
  rotate_left
  focus (intro w' hSw; (try dsimp only at hSw); subst hSw; go_simp; (try with_reducible rfl))
  simp only [Act.put, List.setIfInBounds_toArray, List.set_cons_zero, List.set_cons_succ]
  refine wpAnyH_take (i := 24) (oi := { dst := some 40, op := Go.Op.pick (Go.Operand.tmp 33) (Go.Operand.const (Go.Value.bool true)) (Go.Operand.tmp 39), type := 4, pos := "law.go:79", after := #[{ on := 17, ground := Go.Ground.data }, { on := 23, ground := Go.Ground.data }], guard := none }) (v := ?_) rfl (by kernel_rfl) (by kernel_rfl) (by kernel_rfl) (fun _ _ _ h => h) (Or.inl ⟨by rfl, ?_⟩) H3 ?_
  rotate_left
  focus (intro w' hSw; (try dsimp only at hSw); subst hSw; go_simp; (try with_reducible rfl))
  simp only [Act.put, List.setIfInBounds_toArray, List.set_cons_zero, List.set_cons_succ]
  refine wpAnyH_done (by kernel_rfl) (calmX_in ?_) _
  clear H0 H1 H2 H3
  clear LEN LOO STO hnil x0 x1 x2 x3 y
  go_wp2_with fail
  go_loopw [8, 9] (fun n i wr => ∃ k : Nat, k ≤ s.many ∧ i = .int .i64 k ∧ n = .int .i64 ((keysS k (sectorS s)).length : Nat) ∧ Hid (Below w1.heap.size w1 wr)) (fun _ i _ => (s.many - intOf i).toNat)
  case atStart => exact ⟨0, Nat.zero_le _, rfl, rfl, Lib.hid (Below.refl _ _).drew⟩
  case round =>
    obtain ⟨k, hk, rfl, rfl, HBr⟩ := hrel
    have Ir := I1.out.below HBr.out
    obtain ⟨⟨x0, x1, x2, x3, f0, f1, f2, f3⟩, y, r, f, RR⟩ := Ir
    have IR := Lib.hid (I1.out.below HBr.out)
    clear f0 f1 f2 f3 f r RR y
    by_cases hlt : k < s.many
    · have hg : (k : Int) < (s.many : Int) := by omega
      have SECT : Hid (∀ w', Below wr.heap.size wr w' → Calls Try.prog 36 #[.agg #[.int .i64 s.many, .slice p s.sync.length c, .slice q s.loose.length d, .int .i64 s.left], .int .i64 k] w' fun r w2 => r = .returned (.string (sectorS s k)) ∧ Below w'.heap.size w' w2) := Lib.hid fun w' hb => sector_any s p c q d k w' (by have := HFw.out.1; omega) (by have := HFw.out.2; omega) (Lib.hid (IR.out.R.below hb))
      have K8 : Hid (∀ w', Below wr.heap.size wr w' → w'.cell? ⟨w.heap.size, 0, none⟩ = some (.int .i64 s.many) ∧ w'.cell? ⟨w.heap.size, 1, none⟩ = some (.slice p s.sync.length c) ∧ w'.cell? ⟨w.heap.size, 2, none⟩ = some (.slice q s.loose.length d) ∧ w'.cell? ⟨w.heap.size, 3, none⟩ = some (.int .i64 s.left)) := Lib.hid fun w' hb => by
        have h := (IR.out.below hb).x
        exact ⟨h.x0, h.x1, h.x2, h.x3⟩
      have C64 : Hid (∀ (w' : World) (g : Nat), BytesAt w' (some ⟨g, 0, none⟩) (List.replicate 64 0) → (convert 47 9 (.slice (some ⟨g, 0, none⟩) 64 64)).run Try.prog w' = .ok (.string (secS 0)) w') := Lib.hid fun w' g hb => by
        have := conv_at w' (some ⟨g, 0, none⟩) 64 (List.replicate 64 0) (fun b hb => by rw [List.mem_replicate] at hb; omega) hb
        rw [List.length_replicate] at this
        exact this
      have hn := Lib.hid (keysS_next (f := sectorS s) k)
      by_cases hz : sectorS s k = secS 0
      · have hz1 : ((sectorS s k).toList == (secS 0).toList) = true := by rw [str_beq, decide_eq_true hz]
        have hz2 : ((sectorS s k).toList != (secS 0).toList) = false := by rw [bne, hz1]; rfl
        rw [if_pos hz] at hn
        have HZ := Lib.hid hz
        clear hz
        generalize sectorS s k = sk at SECT hz1 hz2
        go_wp2_with fail
        refine wp_calm ?_
        refine wp_region_held_drew (S := fun w' => Below wr.heap.size wr w') (by kernel_rfl) (Below.refl _ _).drew (fun H0 => ?_)
        refine wpAnyH_take (i := 0) (oi := { dst := some 47, op := Go.Op.load 35 (Go.Operand.tmp 4), type := 35, pos := "law.go:84", after := #[], guard := none }) (v := ?_) rfl (by kernel_rfl) (by kernel_rfl) (by kernel_rfl) (fun _ _ _ h => h) (Or.inl ⟨by rfl, ?_⟩) H0 ?_
        rotate_left
        focus (intro w' hSw; (try dsimp only at hSw); obtain ⟨z0, z1, z2, z3⟩ := K8.out _ hSw; go_simp; (try with_reducible rfl))
        simp only [Act.put, List.setIfInBounds_toArray, List.set_cons_zero, List.set_cons_succ]
        refine wpAnyH_take (i := 1) (oi := { dst := some 48, op := Go.Op.move (Go.Operand.tmp 9), type := 3, pos := "law.go:84", after := #[], guard := none }) (v := ?_) rfl (by kernel_rfl) (by kernel_rfl) (by kernel_rfl) (fun _ _ _ h => h) (Or.inl ⟨by rfl, ?_⟩) H0 ?_
        rotate_left
        focus (intro w' hSw; (try dsimp only at hSw); go_simp; (try with_reducible rfl))
        simp only [Act.put, List.setIfInBounds_toArray, List.set_cons_zero, List.set_cons_succ]
        refine wpAnyH_ready (rs := [2, 3]) (by kernel_rfl) (by simp) ?_
        refine AllReadyH.cons (o := { dst := some 49, op := Go.Op.call { callee := Go.Callee.value (Go.Operand.func 36), args := #[Go.Operand.tmp 47, Go.Operand.tmp 48], argTypes := #[35, 3] }, type := 9, pos := "law.go:84", after := #[{ on := 0, ground := Go.Ground.data }, { on := 1, ground := Go.Ground.data }], guard := none }) rfl (fun K hK => ?_) ?_
        focus
          go_simp
          (go_at_call 36; (with_reducible refine (SECT.out _ H0).mono ?_); rintro e wa ⟨rfl, Ba'⟩)
          try go_wp2_with fail
          refine hK.out _ _ (kbP H0 Ba') (fun H1 => ?_)
          clear hK K
          try simp only [Act.put, List.setIfInBounds_toArray, List.set_cons_zero, List.set_cons_succ]
          refine wpAnyH_ready (rs := [3]) (by kernel_rfl) (by simp) ?_
          refine AllReadyH.cons (o := { dst := some 50, op := Go.Op.makeSlice 47 (Go.Operand.const (Go.Value.int Go.IntKind.i64 64)) (Go.Operand.const (Go.Value.int Go.IntKind.i64 64)), type := 47, pos := "law.go:84", after := #[], guard := none }) rfl (fun K hK => ?_) ?_
          rotate_left
          exact AllReadyH.nil
          have hmk := make64 wa
          go_simp
          try go_wp2_with fail
          refine hK.out _ _ (kbP H1 ((Below.refl _ _).alloc (Nat.le_refl _) _)) (fun Gm => ?_)
          clear hK K
          try simp only [Act.put, List.setIfInBounds_toArray, List.set_cons_zero, List.set_cons_succ]
          clear hmk
          generalize hwm : wa.alloc (.cells (madeCells #[.int .u8 0] 64) 5) = wm at *
          have BM : Hid (BytesAt wm (some ⟨wa.heap.size, 0, none⟩) (List.replicate 64 0)) := Lib.hid (by rw [← hwm]; exact bytes64 wa)
          clear hwm
          refine wpAnyH_turn (S' := fun w' => Below wm.heap.size wm w') (fun w' h => kbP Gm h) _ _ _ _ ?_
          have Hm := Below.refl wm.heap.size wm
          refine wpAnyH_take (i := 4) (oi := { dst := some 51, op := Go.Op.convert 47 9 (Go.Operand.tmp 50), type := 9, pos := "law.go:84", after := #[{ on := 3, ground := Go.Ground.data }], guard := none }) (v := ?_) rfl (by kernel_rfl) (by kernel_rfl) (by kernel_rfl) (fun _ _ _ h => h) (Or.inl ⟨by rfl, ?_⟩) Hm ?_
          rotate_left
          focus (intro w' hSw; (try dsimp only at hSw); have hv := C64.out _ _ (bytesAt_below BM.out hSw); go_simp; (try with_reducible rfl))
          simp only [Act.put, List.setIfInBounds_toArray, List.set_cons_zero, List.set_cons_succ]
          refine wpAnyH_take (i := 5) (oi := { dst := some 52, op := Go.Op.binOp Go.BinOp.neq 9 (Go.Operand.tmp 49) (Go.Operand.tmp 51) 9, type := 4, pos := "law.go:84", after := #[{ on := 2, ground := Go.Ground.data }, { on := 4, ground := Go.Ground.data }], guard := none }) (v := ?_) rfl (by kernel_rfl) (by kernel_rfl) (by kernel_rfl) (fun _ _ _ h => h) (Or.inl ⟨by rfl, ?_⟩) Hm ?_
          rotate_left
          focus (intro w' hSw; (try dsimp only at hSw); go_simp; (try with_reducible rfl))
          simp only [Act.put, List.setIfInBounds_toArray, List.set_cons_zero, List.set_cons_succ]
          refine wpAnyH_done (by kernel_rfl) (calmX_in ?_) _
          have BZ := Lib.hid Gm
          go_wp2_with fail
          go_roundw
          case rel => exact ⟨k + 1, hlt, by first | rfl | go_num, by rw [hn.out], Lib.hid (below_any HBr.out BZ.out)⟩
          case measure => simp [intOf]; omega
        refine AllReadyH.cons (o := { dst := some 50, op := Go.Op.makeSlice 47 (Go.Operand.const (Go.Value.int Go.IntKind.i64 64)) (Go.Operand.const (Go.Value.int Go.IntKind.i64 64)), type := 47, pos := "law.go:84", after := #[], guard := none }) rfl (fun K hK => ?_) ?_
        focus
          have hmk := make64 wr.drew
          go_simp
          try go_wp2_with fail
          refine hK.out _ _ (((Below.refl _ wr).alloc (Nat.le_refl _) _).drew) (fun Gm => ?_)
          clear hK K
          try simp only [Act.put, List.setIfInBounds_toArray, List.set_cons_zero, List.set_cons_succ]
          clear hmk
          generalize hwm : (wr.alloc (.cells (madeCells #[.int .u8 0] 64) 5)).drew = wm at *
          have BM : Hid (BytesAt wm (some ⟨wr.heap.size, 0, none⟩) (List.replicate 64 0)) := Lib.hid (by rw [← hwm]; exact bytes64 wr)
          clear hwm
          refine wpAnyH_turn (S' := fun w' => Below wm.heap.size wm w') (fun w' h => kbP Gm h) _ _ _ _ ?_
          have Hm := Below.refl wm.heap.size wm
          refine wpAnyH_take (i := 4) (oi := { dst := some 51, op := Go.Op.convert 47 9 (Go.Operand.tmp 50), type := 9, pos := "law.go:84", after := #[{ on := 3, ground := Go.Ground.data }], guard := none }) (v := ?_) rfl (by kernel_rfl) (by kernel_rfl) (by kernel_rfl) (fun _ _ _ h => h) (Or.inl ⟨by rfl, ?_⟩) Hm ?_
          rotate_left
          focus (intro w' hSw; (try dsimp only at hSw); have hv := C64.out _ _ (bytesAt_below BM.out hSw); go_simp; (try with_reducible rfl))
          simp only [Act.put, List.setIfInBounds_toArray, List.set_cons_zero, List.set_cons_succ]
          refine wpAnyH_ready (rs := [2]) (by kernel_rfl) (by simp) ?_
          refine AllReadyH.cons (o := { dst := some 49, op := Go.Op.call { callee := Go.Callee.value (Go.Operand.func 36), args := #[Go.Operand.tmp 47, Go.Operand.tmp 48], argTypes := #[35, 3] }, type := 9, pos := "law.go:84", after := #[{ on := 0, ground := Go.Ground.data }, { on := 1, ground := Go.Ground.data }], guard := none }) rfl (fun K hK => ?_) ?_
          rotate_left
          exact AllReadyH.nil
          go_simp
          (go_at_call 36; (with_reducible refine (SECT.out _ Gm).mono ?_); rintro e wa ⟨rfl, Ba'⟩)
          try go_wp2_with fail
          refine hK.out _ _ Ba' (fun H1 => ?_)
          clear hK K
          try simp only [Act.put, List.setIfInBounds_toArray, List.set_cons_zero, List.set_cons_succ]
          refine wpAnyH_take (i := 5) (oi := { dst := some 52, op := Go.Op.binOp Go.BinOp.neq 9 (Go.Operand.tmp 49) (Go.Operand.tmp 51) 9, type := 4, pos := "law.go:84", after := #[{ on := 2, ground := Go.Ground.data }, { on := 4, ground := Go.Ground.data }], guard := none }) (v := ?_) rfl (by kernel_rfl) (by kernel_rfl) (by kernel_rfl) (fun _ _ _ h => h) (Or.inl ⟨by rfl, ?_⟩) H1 ?_
          rotate_left
          focus (intro w' hSw; (try dsimp only at hSw); go_simp; (try with_reducible rfl))
          simp only [Act.put, List.setIfInBounds_toArray, List.set_cons_zero, List.set_cons_succ]
          refine wpAnyH_done (by kernel_rfl) (calmX_in ?_) _
          have BZ := Lib.hid (kbP Gm Ba')
          go_wp2_with fail
          go_roundw
          case rel => exact ⟨k + 1, hlt, by first | rfl | go_num, by rw [hn.out], Lib.hid (below_any HBr.out BZ.out)⟩
          case measure => simp [intOf]; omega
        exact AllReadyH.nil
      · have hz1 : ((sectorS s k).toList == (secS 0).toList) = false := by rw [str_beq, decide_eq_false hz]
        have hz2 : ((sectorS s k).toList != (secS 0).toList) = true := by rw [bne, hz1]; rfl
        rw [if_neg hz] at hn
        have HZ := Lib.hid hz
        clear hz
        have hl40 : (keysS k (sectorS s)).length ≤ 40000 := Nat.le_trans (keysS_length _ _) (by have := HWh.out.many.2; omega)
        generalize hkl : (keysS k (sectorS s)).length = cnt at *
        generalize sectorS s k = sk at SECT hz1 hz2
        go_wp2_with fail
        refine wp_calm ?_
        refine wp_region_held_drew (S := fun w' => Below wr.heap.size wr w') (by kernel_rfl) (Below.refl _ _).drew (fun H0 => ?_)
        refine wpAnyH_take (i := 0) (oi := { dst := some 47, op := Go.Op.load 35 (Go.Operand.tmp 4), type := 35, pos := "law.go:84", after := #[], guard := none }) (v := ?_) rfl (by kernel_rfl) (by kernel_rfl) (by kernel_rfl) (fun _ _ _ h => h) (Or.inl ⟨by rfl, ?_⟩) H0 ?_
        rotate_left
        focus (intro w' hSw; (try dsimp only at hSw); obtain ⟨z0, z1, z2, z3⟩ := K8.out _ hSw; go_simp; (try with_reducible rfl))
        simp only [Act.put, List.setIfInBounds_toArray, List.set_cons_zero, List.set_cons_succ]
        refine wpAnyH_take (i := 1) (oi := { dst := some 48, op := Go.Op.move (Go.Operand.tmp 9), type := 3, pos := "law.go:84", after := #[], guard := none }) (v := ?_) rfl (by kernel_rfl) (by kernel_rfl) (by kernel_rfl) (fun _ _ _ h => h) (Or.inl ⟨by rfl, ?_⟩) H0 ?_
        rotate_left
        focus (intro w' hSw; (try dsimp only at hSw); go_simp; (try with_reducible rfl))
        simp only [Act.put, List.setIfInBounds_toArray, List.set_cons_zero, List.set_cons_succ]
        refine wpAnyH_ready (rs := [2, 3]) (by kernel_rfl) (by simp) ?_
        refine AllReadyH.cons (o := { dst := some 49, op := Go.Op.call { callee := Go.Callee.value (Go.Operand.func 36), args := #[Go.Operand.tmp 47, Go.Operand.tmp 48], argTypes := #[35, 3] }, type := 9, pos := "law.go:84", after := #[{ on := 0, ground := Go.Ground.data }, { on := 1, ground := Go.Ground.data }], guard := none }) rfl (fun K hK => ?_) ?_
        focus
          go_simp
          (go_at_call 36; (with_reducible refine (SECT.out _ H0).mono ?_); rintro e wa ⟨rfl, Ba'⟩)
          try go_wp2_with fail
          refine hK.out _ _ (kbP H0 Ba') (fun H1 => ?_)
          clear hK K
          try simp only [Act.put, List.setIfInBounds_toArray, List.set_cons_zero, List.set_cons_succ]
          refine wpAnyH_ready (rs := [3]) (by kernel_rfl) (by simp) ?_
          refine AllReadyH.cons (o := { dst := some 50, op := Go.Op.makeSlice 47 (Go.Operand.const (Go.Value.int Go.IntKind.i64 64)) (Go.Operand.const (Go.Value.int Go.IntKind.i64 64)), type := 47, pos := "law.go:84", after := #[], guard := none }) rfl (fun K hK => ?_) ?_
          rotate_left
          exact AllReadyH.nil
          have hmk := make64 wa
          go_simp
          try go_wp2_with fail
          refine hK.out _ _ (kbP H1 ((Below.refl _ _).alloc (Nat.le_refl _) _)) (fun Gm => ?_)
          clear hK K
          try simp only [Act.put, List.setIfInBounds_toArray, List.set_cons_zero, List.set_cons_succ]
          clear hmk
          generalize hwm : wa.alloc (.cells (madeCells #[.int .u8 0] 64) 5) = wm at *
          have BM : Hid (BytesAt wm (some ⟨wa.heap.size, 0, none⟩) (List.replicate 64 0)) := Lib.hid (by rw [← hwm]; exact bytes64 wa)
          clear hwm
          refine wpAnyH_turn (S' := fun w' => Below wm.heap.size wm w') (fun w' h => kbP Gm h) _ _ _ _ ?_
          have Hm := Below.refl wm.heap.size wm
          refine wpAnyH_take (i := 4) (oi := { dst := some 51, op := Go.Op.convert 47 9 (Go.Operand.tmp 50), type := 9, pos := "law.go:84", after := #[{ on := 3, ground := Go.Ground.data }], guard := none }) (v := ?_) rfl (by kernel_rfl) (by kernel_rfl) (by kernel_rfl) (fun _ _ _ h => h) (Or.inl ⟨by rfl, ?_⟩) Hm ?_
          rotate_left
          focus (intro w' hSw; (try dsimp only at hSw); have hv := C64.out _ _ (bytesAt_below BM.out hSw); go_simp; (try with_reducible rfl))
          simp only [Act.put, List.setIfInBounds_toArray, List.set_cons_zero, List.set_cons_succ]
          refine wpAnyH_take (i := 5) (oi := { dst := some 52, op := Go.Op.binOp Go.BinOp.neq 9 (Go.Operand.tmp 49) (Go.Operand.tmp 51) 9, type := 4, pos := "law.go:84", after := #[{ on := 2, ground := Go.Ground.data }, { on := 4, ground := Go.Ground.data }], guard := none }) (v := ?_) rfl (by kernel_rfl) (by kernel_rfl) (by kernel_rfl) (fun _ _ _ h => h) (Or.inl ⟨by rfl, ?_⟩) Hm ?_
          rotate_left
          focus (intro w' hSw; (try dsimp only at hSw); go_simp; (try with_reducible rfl))
          simp only [Act.put, List.setIfInBounds_toArray, List.set_cons_zero, List.set_cons_succ]
          refine wpAnyH_done (by kernel_rfl) (calmX_in ?_) _
          have BZ := Lib.hid Gm
          go_wp2_with fail
          go_roundw
          case rel => exact ⟨k + 1, hlt, by first | rfl | go_num, by rw [hn.out]; first | rfl | go_num, Lib.hid (below_any HBr.out BZ.out)⟩
          case measure => simp [intOf]; omega
        refine AllReadyH.cons (o := { dst := some 50, op := Go.Op.makeSlice 47 (Go.Operand.const (Go.Value.int Go.IntKind.i64 64)) (Go.Operand.const (Go.Value.int Go.IntKind.i64 64)), type := 47, pos := "law.go:84", after := #[], guard := none }) rfl (fun K hK => ?_) ?_
        focus
          have hmk := make64 wr.drew
          go_simp
          try go_wp2_with fail
          refine hK.out _ _ (((Below.refl _ wr).alloc (Nat.le_refl _) _).drew) (fun Gm => ?_)
          clear hK K
          try simp only [Act.put, List.setIfInBounds_toArray, List.set_cons_zero, List.set_cons_succ]
          clear hmk
          generalize hwm : (wr.alloc (.cells (madeCells #[.int .u8 0] 64) 5)).drew = wm at *
          have BM : Hid (BytesAt wm (some ⟨wr.heap.size, 0, none⟩) (List.replicate 64 0)) := Lib.hid (by rw [← hwm]; exact bytes64 wr)
          clear hwm
          refine wpAnyH_turn (S' := fun w' => Below wm.heap.size wm w') (fun w' h => kbP Gm h) _ _ _ _ ?_
          have Hm := Below.refl wm.heap.size wm
          refine wpAnyH_take (i := 4) (oi := { dst := some 51, op := Go.Op.convert 47 9 (Go.Operand.tmp 50), type := 9, pos := "law.go:84", after := #[{ on := 3, ground := Go.Ground.data }], guard := none }) (v := ?_) rfl (by kernel_rfl) (by kernel_rfl) (by kernel_rfl) (fun _ _ _ h => h) (Or.inl ⟨by rfl, ?_⟩) Hm ?_
          rotate_left
          focus (intro w' hSw; (try dsimp only at hSw); have hv := C64.out _ _ (bytesAt_below BM.out hSw); go_simp; (try with_reducible rfl))
          simp only [Act.put, List.setIfInBounds_toArray, List.set_cons_zero, List.set_cons_succ]
          refine wpAnyH_ready (rs := [2]) (by kernel_rfl) (by simp) ?_
          refine AllReadyH.cons (o := { dst := some 49, op := Go.Op.call { callee := Go.Callee.value (Go.Operand.func 36), args := #[Go.Operand.tmp 47, Go.Operand.tmp 48], argTypes := #[35, 3] }, type := 9, pos := "law.go:84", after := #[{ on := 0, ground := Go.Ground.data }, { on := 1, ground := Go.Ground.data }], guard := none }) rfl (fun K hK => ?_) ?_
          rotate_left
          exact AllReadyH.nil
          go_simp
          (go_at_call 36; (with_reducible refine (SECT.out _ Gm).mono ?_); rintro e wa ⟨rfl, Ba'⟩)
          try go_wp2_with fail
          refine hK.out _ _ Ba' (fun H1 => ?_)
          clear hK K
          try simp only [Act.put, List.setIfInBounds_toArray, List.set_cons_zero, List.set_cons_succ]
          refine wpAnyH_take (i := 5) (oi := { dst := some 52, op := Go.Op.binOp Go.BinOp.neq 9 (Go.Operand.tmp 49) (Go.Operand.tmp 51) 9, type := 4, pos := "law.go:84", after := #[{ on := 2, ground := Go.Ground.data }, { on := 4, ground := Go.Ground.data }], guard := none }) (v := ?_) rfl (by kernel_rfl) (by kernel_rfl) (by kernel_rfl) (fun _ _ _ h => h) (Or.inl ⟨by rfl, ?_⟩) H1 ?_
          rotate_left
          focus (intro w' hSw; (try dsimp only at hSw); go_simp; (try with_reducible rfl))
          simp only [Act.put, List.setIfInBounds_toArray, List.set_cons_zero, List.set_cons_succ]
          refine wpAnyH_done (by kernel_rfl) (calmX_in ?_) _
          have BZ := Lib.hid (kbP Gm Ba')
          go_wp2_with fail
          go_roundw
          case rel => exact ⟨k + 1, hlt, by first | rfl | go_num, by rw [hn.out]; first | rfl | go_num, Lib.hid (below_any HBr.out BZ.out)⟩
          case measure => simp [intOf]; omega
        exact AllReadyH.nil
    · obtain rfl : k = s.many := by omega
      have hwr : w.heap.size + 3 ≤ wr.heap.size := by
        have h1 := S1.out
        have h2 := HBr.out.size
        have h3 := S0.out
        omega
      have MR := HM.out.below HBr.out
      have CR : wr.cell? ⟨Ba, 0, none⟩ = some (.map (some b)) := (HBr.out.cell (p := ⟨Ba, 0, none⟩) (lt_of_cell_some HCA.out)).trans HCA.out
      have hBar := lt_of_cell_some CR
      simp only at hBar
      have hbr := MR.lt
      have B3 : Below wr.heap.size wr ((wr.alloc (.cells #[.int .i64 0] 3)).alloc (.cells #[.int .i64 (-1)] 3)) := ((Below.refl _ _).alloc (Nat.le_refl _) _).alloc (by simp) _
      have N0 : IsNow w ((wr.alloc (.cells #[.int .i64 0] 3)).alloc (.cells #[.int .i64 (-1)] 3)) wr.heap.size s p c q d many 0 (-1) := by
        have X := IR.out.below B3
        exact ⟨X.x, X.y, X.r, X.f, by go_cell, by go_cell, by go_simp, by go_simp, (HB.out.trans (HBr.out.mono HB.out.size)).trans (B3.mono (by omega))⟩
      go_wp2_with fail
      have M3 := MR.below B3
      have C3 := (B3.cell (p := ⟨Ba, 0, none⟩) hBar).trans CR
      have S3 : ((wr.alloc (.cells #[.int .i64 0] 3)).alloc (.cells #[.int .i64 (-1)] 3)).heap.size = wr.heap.size + 2 := by simp
      generalize ((wr.alloc (.cells #[.int .i64 0] 3)).alloc (.cells #[.int .i64 (-1)] 3)) = W3 at *
      have HS3 := Lib.hid S3
      have HMx := Lib.hid HWh.out
      have Hwr := Lib.hid hwr
      have Hbr := Lib.hid hbr
      clear hk
      refine (wpIn_wide (n := 9)).1 ?_
      refine range_norm 2 (fun D V => V.heap[D]? = some (.deferred (some [])) ∧ wr.heap.size + 2 ≤ D ∧ ∃ (cnt : Nat) (last : Int), IsNow w V wr.heap.size s p c q d many cnt last ∧ ((cnt : Int) = min ((keysS s.many (sectorS s)).length : Int) (max 1 many))) (fun _ _ h => h) ?_ ?_
      · refine' range_low (n := 9) (ι := Unit) rfl (by decide) (gf := 60) (lb := #[.pointer (some ⟨Ba, 0, none⟩)]) rfl trivial (enters_of Try.func60 (by kernel_rfl) rfl)
          (all_low (9 - 1) (by decide) M3 C3) (fun x _ V => TA (sectorS s) x V) (fun x i A l o o' hl hc h => (World.putObj_heap_other (by rintro rfl; unfold TA at h; rw [hl] at h; injection h with h; subst h; cases hc)).trans h)
          (fun k h => h ▸ M3.lt) (Below.refl _ _) (fun _ => rfl)
          (fun pre V => IsNow w V wr.heap.size s p c q d many (pre.length : Nat) (lastOf pre) ∧ (pre = [] ∨ ((pre.length : Nat) : Int) < many))
          (fun c' pre V => c' = .exit 2 ∧ IsNow w V wr.heap.size s p c q d many (pre.length : Nat) (lastOf pre) ∧ many ≤ ((pre.length : Nat) : Int) ∧ 0 < pre.length ∧ (pre.length = 1 ∨ ((pre.length : Nat) : Int) - 1 < many))
          (fun s A C h hB hb => ⟨h.1.low (by omega) (by omega) hb, h.2⟩)
          (fun c s A C h hB hb => ⟨h.1, h.2.1.low (by omega) (by omega) hb, h.2.2⟩)
          ⟨N0, .inl rfl⟩
          (fun x _ => { tmps := #[Value.pointer (some { block := B, off := 0 }), Value.agg #[Value.int IntKind.i64 ↑s.many, Value.slice p s.sync.length c, Value.slice q s.loose.length d, Value.int IntKind.i64 s.left], Value.int IntKind.i64 many, undef, Value.pointer (some { block := w.heap.size, off := 0 }), Value.pointer (some { block := w.heap.size + 1, off := 0 }), Value.pointer (some { block := w.heap.size + 1 + 1, off := 0 }), Value.func (Fn.func 60) #[] #[Value.pointer (some { block := Ba, off := 0 })], Value.int IntKind.i64 ↑(keysS s.many (sectorS s)).length, Value.int IntKind.i64 ↑s.many, Value.pointer (some { block := wr.heap.size, off := 0 }), Value.pointer (some { block := wr.heap.size + 1, off := 0 }), .int .i64 (x.1 : Int), .slice (some ⟨x.2, 0, none⟩) 64 64, Value.pointer (some { block := B, off := 0 }), Value.func (Fn.func 60) #[] #[Value.pointer (some { block := Ba, off := 0 })], Value.func (Fn.func 60) #[] #[Value.pointer (some { block := Ba, off := 0 })], Value.bool false, Value.bool false, Value.pointer (some { block := B, off := 0 }), Value.int IntKind.i64 ↑s.many, Value.pointer (some { block := w.heap.size, off := 0 }), Value.int IntKind.i64 ↑s.many, Value.bool false, Value.bool false, Value.bool false, Value.pointer (some { block := B, off := 0 }), Value.int IntKind.i64 ↑s.loose.length, Value.pointer (some { block := w.heap.size, off := 2 }), Value.slice q s.loose.length d, Value.int IntKind.i64 ↑s.loose.length, Value.bool false, Value.bool false, Value.bool false, Value.pointer (some { block := B, off := 0 }), Value.bool (decide (s.left = 0)), Value.pointer (some { block := w.heap.size, off := 3 }), Value.int IntKind.i64 s.left, Value.bool (decide (s.left = 0)), Value.bool false, Value.bool false, Value.int IntKind.i64 ↑s.many, Value.pointer (some { block := w.heap.size, off := 0 }), Value.int IntKind.i64 ↑s.many, Value.bool false, u45, u46, u47, u48, u49, u50, u51, u52, u53, u54, Value.func (Fn.func 60) #[] #[Value.pointer (some { block := Ba, off := 0 })], .int .i64 (x.1 : Int), .slice (some ⟨x.2, 0, none⟩) 64 64, undef, undef, undef, undef, undef, undef, undef, undef, undef, undef, undef, undef, undef, undef, undef, undef, undef, undef, undef, undef, undef, undef, undef, undef, undef, undef, undef, undef, undef], defers := [] }) ?assign ?body ?done ?stop
        case assign =>
          intro ly x V K hs hT hK
          gi_wp2
          exact hK () _ hT (Below.refl _ _)
        case body =>
          rintro ly pre x _ V ⟨hN, hpre⟩ hs hlen hsp hG
          have hlast := last_lt hsp (keysS_rising _ _)
          have hxm : x.1 < s.many ∧ sectorS s x.1 ≠ secS 0 := mem_keysS.1 (hsp.subset (by simp))
          have hg1 : ¬ ((x.1 : Int) ≤ lastOf pre) := by omega
          have hg2 : (x.1 : Int) < (s.many : Int) := by omega
          have hd1 : decide ((x.1 : Int) ≤ lastOf pre) = false := decide_eq_false hg1
          have hd2 : decide ((s.many : Int) ≤ (x.1 : Int)) = false := decide_eq_false (by omega)
          have hd3 : ¬ s.many ≤ x.1 := by omega
          have SECT : Hid (∀ w', Below V.heap.size V w' → Calls Try.prog 36 #[.agg #[.int .i64 s.many, .slice p s.sync.length c, .slice q s.loose.length d, .int .i64 s.left], .int .i64 x.1] w' fun r w2 => r = .returned (.string (sectorS s x.1)) ∧ Below w'.heap.size w' w2) := Lib.hid fun w' hb => sector_any s p c q d x.1 w' (by have := HFw.out.1; omega) (by have := HFw.out.2; omega) (Lib.hid (R.out.below (hN.B.trans (hb.mono hN.B.size))))
          have CV : Hid (∀ w', Below V.heap.size V w' → (convert 47 9 (.slice (some ⟨x.2, 0, none⟩) 64 64)).run Try.prog w' = .ok (.string (sectorS s x.1)) w') := Lib.hid fun w' hb => conv_sec (M3.size _ hxm.1) ((hb.block _ (lt_of_heap hG)).trans hG)
          have K14 : Hid (∀ w', Below V.heap.size V w' → w'.cell? ⟨w.heap.size, 0, none⟩ = some (.int .i64 s.many) ∧ w'.cell? ⟨w.heap.size, 1, none⟩ = some (.slice p s.sync.length c) ∧ w'.cell? ⟨w.heap.size, 2, none⟩ = some (.slice q s.loose.length d) ∧ w'.cell? ⟨w.heap.size, 3, none⟩ = some (.int .i64 s.left) ∧ w'.cell? ⟨wr.heap.size, 0, none⟩ = some (.int .i64 (pre.length : Nat)) ∧ w'.cell? ⟨wr.heap.size + 1, 0, none⟩ = some (.int .i64 (lastOf pre))) := Lib.hid fun w' hb => by
            have h := hN.low (Bd := V.heap.size) (by omega) (by omega) hb
            exact ⟨h.x.x0, h.x.x1, h.x.x2, h.x.x3, h.a, h.b⟩
          have HN := Lib.hid hN
          have HX := Lib.hid hxm
          have hlk : pre.length < 40000 := Nat.lt_of_lt_of_le hlen (Nat.le_trans (keysS_length _ _) HMx.out.many.2)
          have HP := Lib.hid hpre
          have HS := Lib.hid hs
          have HM3 := Lib.hid M3
          have HB3 := Lib.hid B3
          clear hN hG hxm hpre hs M3 B3 hlen hsp N0 C3 MR CR hBar hbr hwr x0 x1 x2 x3
          generalize sectorS s x.1 = sk at SECT CV
          have hsk : (sk.toList == sk.toList) = true := by simp
          gi_wp2_with fail
          refine wpIn_calm ?_
          refine region_inRound (S := fun w' => Below V.heap.size V w') ly _ calmX_lets (by kernel_rfl) (by kernel_rfl) (Below.refl _ _).drew (fun H0 => ?_)
          refine wpAnyH_take (i := 0) (oi := { dst := some 58, op := Go.Op.move (Go.Operand.tmp 12), type := 3, pos := "law.go:90", after := #[], guard := none }) (v := ?_) rfl (by kernel_rfl) (by kernel_rfl) (by kernel_rfl) (fun _ _ _ h => h) (Or.inl ⟨by rfl, ?_⟩) H0 ?_
          rotate_left
          focus (intro w' hSw; (try dsimp only at hSw); go_simp; (try with_reducible rfl))
          simp only [Act.put, List.setIfInBounds_toArray, List.set_cons_zero, List.set_cons_succ]
          refine wpAnyH_take (i := 1) (oi := { dst := some 59, op := Go.Op.load 3 (Go.Operand.tmp 11), type := 3, pos := "law.go:90", after := #[], guard := none }) (v := ?_) rfl (by kernel_rfl) (by kernel_rfl) (by kernel_rfl) (fun _ _ _ h => h) (Or.inl ⟨by rfl, ?_⟩) H0 ?_
          rotate_left
          focus (intro w' hSw; (try dsimp only at hSw); obtain ⟨z0, z1, z2, z3, za, zb⟩ := K14.out _ hSw; go_simp; (try with_reducible rfl))
          simp only [Act.put, List.setIfInBounds_toArray, List.set_cons_zero, List.set_cons_succ]
          refine wpAnyH_take (i := 2) (oi := { dst := some 60, op := Go.Op.binOp Go.BinOp.leq 3 (Go.Operand.tmp 58) (Go.Operand.tmp 59) 3, type := 4, pos := "law.go:90", after := #[{ on := 0, ground := Go.Ground.data }, { on := 1, ground := Go.Ground.data }], guard := none }) (v := ?_) rfl (by kernel_rfl) (by kernel_rfl) (by kernel_rfl) (fun _ _ _ h => h) (Or.inl ⟨by rfl, ?_⟩) H0 ?_
          rotate_left
          focus (intro w' hSw; (try dsimp only at hSw); go_simp; (try with_reducible rfl))
          simp only [Act.put, List.setIfInBounds_toArray, List.set_cons_zero, List.set_cons_succ]
          refine wpAnyH_take (i := 3) (oi := { dst := some 61, op := Go.Op.move (Go.Operand.tmp 60), type := 4, pos := "law.go:90", after := #[{ on := 2, ground := Go.Ground.data }], guard := none }) (v := ?_) rfl (by kernel_rfl) (by kernel_rfl) (by kernel_rfl) (fun _ _ _ h => h) (Or.inl ⟨by rfl, ?_⟩) H0 ?_
          rotate_left
          focus (intro w' hSw; (try dsimp only at hSw); go_simp; (try with_reducible rfl))
          simp only [Act.put, List.setIfInBounds_toArray, List.set_cons_zero, List.set_cons_succ]
          refine wpAnyH_take (i := 4) (oi := { dst := some 62, op := Go.Op.move (Go.Operand.tmp 12), type := 3, pos := "law.go:90", after := #[{ on := 3, ground := Go.Ground.guard }], guard := some (3, false) }) (v := ?_) rfl (by kernel_rfl) (by kernel_rfl) (by kernel_rfl) (fun _ _ _ h => h) (Or.inl ⟨by rfl, ?_⟩) H0 ?_
          rotate_left
          focus (intro w' hSw; (try dsimp only at hSw); go_simp; (try with_reducible rfl))
          simp only [Act.put, List.setIfInBounds_toArray, List.set_cons_zero, List.set_cons_succ]
          refine wpAnyH_take (i := 5) (oi := { dst := some 63, op := Go.Op.fieldAddr 35 (Go.Operand.tmp 4) 0, type := 0, pos := "law.go:90", after := #[{ on := 3, ground := Go.Ground.guard }], guard := some (3, false) }) (v := ?_) rfl (by kernel_rfl) (by kernel_rfl) (by kernel_rfl) (fun _ _ _ h => h) (Or.inl ⟨by rfl, ?_⟩) H0 ?_
          rotate_left
          focus (intro w' hSw; (try dsimp only at hSw); go_simp; (try with_reducible rfl))
          simp only [Act.put, List.setIfInBounds_toArray, List.set_cons_zero, List.set_cons_succ]
          refine wpAnyH_take (i := 6) (oi := { dst := some 64, op := Go.Op.load 3 (Go.Operand.tmp 63), type := 3, pos := "law.go:90", after := #[{ on := 5, ground := Go.Ground.data }, { on := 3, ground := Go.Ground.guard }], guard := some (3, false) }) (v := ?_) rfl (by kernel_rfl) (by kernel_rfl) (by kernel_rfl) (fun _ _ _ h => h) (Or.inl ⟨by rfl, ?_⟩) H0 ?_
          rotate_left
          focus (intro w' hSw; (try dsimp only at hSw); obtain ⟨z0, z1, z2, z3, za, zb⟩ := K14.out _ hSw; go_simp; (try with_reducible rfl))
          simp only [Act.put, List.setIfInBounds_toArray, List.set_cons_zero, List.set_cons_succ]
          refine wpAnyH_take (i := 7) (oi := { dst := some 65, op := Go.Op.binOp Go.BinOp.geq 3 (Go.Operand.tmp 62) (Go.Operand.tmp 64) 3, type := 4, pos := "law.go:90", after := #[{ on := 4, ground := Go.Ground.data }, { on := 6, ground := Go.Ground.data }, { on := 3, ground := Go.Ground.guard }], guard := some (3, false) }) (v := ?_) rfl (by kernel_rfl) (by kernel_rfl) (by kernel_rfl) (fun _ _ _ h => h) (Or.inl ⟨by rfl, ?_⟩) H0 ?_
          rotate_left
          focus (intro w' hSw; (try dsimp only at hSw); go_simp; (try with_reducible rfl))
          simp only [Act.put, List.setIfInBounds_toArray, List.set_cons_zero, List.set_cons_succ]
          refine wpAnyH_take (i := 8) (oi := { dst := some 66, op := Go.Op.pick (Go.Operand.tmp 61) (Go.Operand.const (Go.Value.bool true)) (Go.Operand.tmp 65), type := 4, pos := "law.go:90", after := #[{ on := 3, ground := Go.Ground.data }, { on := 7, ground := Go.Ground.data }], guard := none }) (v := ?_) rfl (by kernel_rfl) (by kernel_rfl) (by kernel_rfl) (fun _ _ _ h => h) (Or.inl ⟨by rfl, ?_⟩) H0 ?_
          rotate_left
          focus (intro w' hSw; (try dsimp only at hSw); go_simp; (try with_reducible rfl))
          simp only [Act.put, List.setIfInBounds_toArray, List.set_cons_zero, List.set_cons_succ]
          refine wpAnyH_take (i := 9) (oi := { dst := some 67, op := Go.Op.move (Go.Operand.tmp 66), type := 4, pos := "law.go:90", after := #[{ on := 8, ground := Go.Ground.data }, { on := 3, ground := Go.Ground.chain }], guard := none }) (v := ?_) rfl (by kernel_rfl) (by kernel_rfl) (by kernel_rfl) (fun _ _ _ h => h) (Or.inl ⟨by rfl, ?_⟩) H0 ?_
          rotate_left
          focus (intro w' hSw; (try dsimp only at hSw); go_simp; (try with_reducible rfl))
          simp only [Act.put, List.setIfInBounds_toArray, List.set_cons_zero, List.set_cons_succ]
          refine wpAnyH_take (i := 10) (oi := { dst := some 68, op := Go.Op.move (Go.Operand.tmp 13), type := 47, pos := "law.go:90", after := #[{ on := 9, ground := Go.Ground.guard }], guard := some (9, false) }) (v := ?_) rfl (by kernel_rfl) (by kernel_rfl) (by kernel_rfl) (fun _ _ _ h => h) (Or.inl ⟨by rfl, ?_⟩) H0 ?_
          rotate_left
          focus (intro w' hSw; (try dsimp only at hSw); go_simp; (try with_reducible rfl))
          simp only [Act.put, List.setIfInBounds_toArray, List.set_cons_zero, List.set_cons_succ]
          refine wpAnyH_take (i := 11) (oi := { dst := some 69, op := Go.Op.convert 47 9 (Go.Operand.tmp 68), type := 9, pos := "law.go:90", after := #[{ on := 10, ground := Go.Ground.data }, { on := 9, ground := Go.Ground.guard }], guard := some (9, false) }) (v := ?_) rfl (by kernel_rfl) (by kernel_rfl) (by kernel_rfl) (fun _ _ _ h => h) (Or.inl ⟨by rfl, ?_⟩) H0 ?_
          rotate_left
          focus (intro w' hSw; (try dsimp only at hSw); have hv := CV.out _ hSw; go_simp; (try with_reducible rfl))
          simp only [Act.put, List.setIfInBounds_toArray, List.set_cons_zero, List.set_cons_succ]
          refine wpAnyH_take (i := 12) (oi := { dst := some 70, op := Go.Op.load 35 (Go.Operand.tmp 4), type := 35, pos := "law.go:90", after := #[{ on := 9, ground := Go.Ground.guard }], guard := some (9, false) }) (v := ?_) rfl (by kernel_rfl) (by kernel_rfl) (by kernel_rfl) (fun _ _ _ h => h) (Or.inl ⟨by rfl, ?_⟩) H0 ?_
          rotate_left
          focus (intro w' hSw; (try dsimp only at hSw); obtain ⟨z0, z1, z2, z3, za, zb⟩ := K14.out _ hSw; go_simp; (try with_reducible rfl))
          simp only [Act.put, List.setIfInBounds_toArray, List.set_cons_zero, List.set_cons_succ]
          refine wpAnyH_take (i := 13) (oi := { dst := some 71, op := Go.Op.move (Go.Operand.tmp 12), type := 3, pos := "law.go:90", after := #[{ on := 9, ground := Go.Ground.guard }], guard := some (9, false) }) (v := ?_) rfl (by kernel_rfl) (by kernel_rfl) (by kernel_rfl) (fun _ _ _ h => h) (Or.inl ⟨by rfl, ?_⟩) H0 ?_
          rotate_left
          focus (intro w' hSw; (try dsimp only at hSw); go_simp; (try with_reducible rfl))
          simp only [Act.put, List.setIfInBounds_toArray, List.set_cons_zero, List.set_cons_succ]
          refine wpAnyH_ready (rs := [14]) (by kernel_rfl) (by simp) ?_
          refine AllReadyH.cons (o := { dst := some 72, op := Go.Op.call { callee := Go.Callee.value (Go.Operand.func 36), args := #[Go.Operand.tmp 70, Go.Operand.tmp 71], argTypes := #[35, 3] }, type := 9, pos := "law.go:90", after := #[{ on := 12, ground := Go.Ground.data }, { on := 13, ground := Go.Ground.data }, { on := 9, ground := Go.Ground.chain }, { on := 9, ground := Go.Ground.guard }], guard := some (9, false) }) rfl (fun K hK => ?_) ?_
          rotate_left
          exact AllReadyH.nil
          go_simp
          (go_at_call 36; (with_reducible refine (SECT.out _ H0).mono ?_); rintro e wa ⟨rfl, Ba'⟩)
          try go_wp2_with fail
          refine hK.out _ _ (kbP H0 Ba') (fun H1 => ?_)
          clear hK K
          try simp only [Act.put, List.setIfInBounds_toArray, List.set_cons_zero, List.set_cons_succ]
          refine wpAnyH_take (i := 15) (oi := { dst := some 73, op := Go.Op.binOp Go.BinOp.neq 9 (Go.Operand.tmp 69) (Go.Operand.tmp 72) 9, type := 4, pos := "law.go:90", after := #[{ on := 11, ground := Go.Ground.data }, { on := 14, ground := Go.Ground.data }, { on := 9, ground := Go.Ground.guard }], guard := some (9, false) }) (v := ?_) rfl (by kernel_rfl) (by kernel_rfl) (by kernel_rfl) (fun _ _ _ h => h) (Or.inl ⟨by rfl, ?_⟩) H1 ?_
          rotate_left
          focus (intro w' hSw; (try dsimp only at hSw); go_simp; (try with_reducible rfl))
          simp only [Act.put, List.setIfInBounds_toArray, List.set_cons_zero, List.set_cons_succ]
          refine wpAnyH_take (i := 16) (oi := { dst := some 74, op := Go.Op.pick (Go.Operand.tmp 67) (Go.Operand.const (Go.Value.bool true)) (Go.Operand.tmp 73), type := 4, pos := "law.go:90", after := #[{ on := 9, ground := Go.Ground.data }, { on := 15, ground := Go.Ground.data }], guard := none }) (v := ?_) rfl (by kernel_rfl) (by kernel_rfl) (by kernel_rfl) (fun _ _ _ h => h) (Or.inl ⟨by rfl, ?_⟩) H1 ?_
          rotate_left
          focus (intro w' hSw; (try dsimp only at hSw); go_simp; (try with_reducible rfl))
          simp only [Act.put, List.setIfInBounds_toArray, List.set_cons_zero, List.set_cons_succ]
          refine wpAnyH_done (by kernel_rfl) (calmX_in ?_) _
          have HNa := Lib.hid (HN.out.low (Bd := V.heap.size) (by have := HS.out; omega) (by have := Hwr.out; omega) H1)
          have kV : KpB (fun k => k = b) W3.heap.size V wa := .of_below H1
          have HKf : Hid (KpB (fun k => k = b) W3.heap.size V ((wa.setCell ⟨wr.heap.size + 1, 0, none⟩ (.int .i64 (x.1 : Int))).setCell ⟨wr.heap.size, 0, none⟩ (.int .i64 ((pre.length : Int) + 1)))) := Lib.hid ((kV.trans (KpB.setCell _ _ _ (by show wr.heap.size + 1 < _; have := HS3.out; omega) (fun e => by have := Hbr.out; simp only at e; omega))).trans (KpB.setCell _ _ _ (by show wr.heap.size < _; have := HS3.out; omega) (fun e => by have := Hbr.out; simp only at e; omega)))
          have HNf : Hid (IsNow w ((wa.setCell ⟨wr.heap.size + 1, 0, none⟩ (.int .i64 (x.1 : Int))).setCell ⟨wr.heap.size, 0, none⟩ (.int .i64 ((pre.length : Int) + 1))) wr.heap.size s p c q d many ((pre ++ [x]).length : Nat) (lastOf (pre ++ [x]))) := Lib.hid (by
            have := HNa.out.step Hwr.out (x.1 : Int) ((pre.length : Int) + 1)
            rw [lastOf_snoc, List.length_append, List.length_singleton]
            exact this)
          have HL : Hid (((pre ++ [x]).length : Int) = (pre.length : Int) + 1) := Lib.hid (by simp)
          clear kV
          obtain ⟨-, y, -, -, ca, cb, fa, fb, -⟩ := HNa.out
          have e1 : ¬ wr.heap.size = w.heap.size + 1 := by have := Hwr.out; omega
          have e2 : ¬ w.heap.size + 1 = wr.heap.size := by have := Hwr.out; omega
          have e3 : ¬ wr.heap.size = w.heap.size := by have := Hwr.out; omega
          have e4 : ¬ w.heap.size = wr.heap.size := by have := Hwr.out; omega
          by_cases hge : many ≤ (pre.length : Int) + 1
          · gi_wp2_with fail
            refine ⟨HKf.out, rfl, HNf.out, ?_, ?_, ?_⟩
            · rw [HL.out]; exact hge
            · simp
            · rw [HL.out]
              rcases HP.out with rfl | h
              · exact .inl rfl
              · exact .inr (by omega)
          · gi_wp2_with fail
            exact ⟨HS3.out ▸ HKf.out, HNf.out, .inr (by rw [HL.out]; omega)⟩
        case done =>
          rintro D xs V hD hxs ⟨hN, hpre⟩ hK
          have hl : xs.length = (keysS s.many (sectorS s)).length := by rw [← hxs, List.length_map]
          refine ⟨.inl rfl, D, rfl, hK, by omega, xs.length, lastOf xs, hN, ?_⟩
          rcases hpre with rfl | h
          · rw [← hl]
            simp
            omega
          · rw [← hl]
            omega
        case stop =>
          rintro D c' pre V hD hsp ⟨rfl, hN, hge, hpos, hor⟩ hK
          have hl : pre.length ≤ (keysS s.many (sectorS s)).length := by
            have := hsp.length_le
            rw [List.length_map] at this
            exact this
          refine wpIn_exit ?_
          exact ⟨.inr rfl, D, rfl, hK, by omega, pre.length, lastOf pre, hN, by omega⟩
      · rintro D V ⟨hK, hD, cnt, last, hN, hcnt⟩
        have HNv := Lib.hid hN
        have HCN := Lib.hid hcnt
        obtain ⟨-, y, hr, hf, ca, cb, fa, fb, -⟩ := hN
        have hl40 : (keysS s.many (sectorS s)).length ≤ 40000 := Nat.le_trans (keysS_length _ _) HMx.out.many.2
        have HDD := Lib.hid hD
        clear hcnt hD
        generalize (keysS s.many (sectorS s)).length = all at *
        go_wp2_with fail
        have hmm : ((cnt : Int) == min (all : Int) (max 1 many)) = true := by rw [← HCN.out]; simp
        rw [hmm]
        have hDne : D ≠ w.heap.size + 1 + 1 := by have := HDD.out; have := Hwr.out; omega
        have hKs : (V.setCell ⟨w.heap.size + 1 + 1, 0, none⟩ (.bool true)).heap[D]? = some (.deferred (some [])) := (Below.heap_setCell _ _ _ _ hDne).trans hK
        have hc : ((V.setCell ⟨w.heap.size + 1 + 1, 0, none⟩ (.bool true)).putObj D (.deferred none)).cell? ⟨w.heap.size + 1 + 1, 0, none⟩ = some (.bool true) :=
          (World.cell?_of_block (World.putObj_heap_other (fun e => hDne e.symm))).trans (World.cell?_setCell_same' _ _ _ (by rw [hr]; rfl))
        have hDw : w.heap.size ≤ D := by have := HDD.out; have := Hwr.out; omega
        refine ⟨by simp, .inl ⟨_, _, rfl, run_takeDeferred hKs, ?_⟩⟩
        refine ⟨.bool true, ?_, rfl, (HNv.out.B.setCell (p := ⟨w.heap.size + 1 + 1, 0, none⟩) (by show w.heap.size ≤ w.heap.size + 1 + 1; omega) _).trans (belowK_b (w := w) (Nat.le_refl _) _ D _ (.deferred none) hDw hKs rfl rfl)⟩
        clear hmm hDne hKs hDw
        simp [results, Try.results13, go_sem, hc]
end Go.Proofs.Ythbnochlpnikaaa
