import Derived.Test.YthnllhfdbnnjhaaO18
namespace Go.Proofs.Ythnllhfdbnnjhaa
open Go.RowKit Go.Shelf
attribute [local go_sem] Oper.semAt_some

/-- Numbers one behind the other: where each begins, and what it is. -/
def numsA : Nat → Nat → List Nat → List (Nat × Nat)
  | 0, _, _ => []
  | f + 1, a, l => if (readE l).2.2 = 0 then (a, (readE l).1) :: numsA f (a + (readE l).2.1) (l.drop (readE l).2.1) else []
def numsE (l : List Nat) : List (Nat × Nat) := numsA l.length 0 l
theorem numsA_none {f a : Nat} {l : List Nat} (h : (readE l).2.2 ≠ 0) : numsA f a l = [] := by
  cases f with
  | zero => rfl
  | succ f => unfold numsA; rw [if_neg h]
theorem numsA_some {f a : Nat} {l : List Nat} (h : (readE l).2.2 = 0) : numsA (f + 1) a l = (a, (readE l).1) :: numsA f (a + (readE l).2.1) (l.drop (readE l).2.1) := by
  rw [numsA, if_pos h]
theorem numsA_length (f : Nat) : ∀ (a : Nat) (l : List Nat), (numsA f a l).length ≤ f := by
  induction f with
  | zero => intro a l; simp [numsA]
  | succ f ih =>
    intro a l
    unfold numsA
    split
    · have := ih (a + (readE l).2.1) (l.drop (readE l).2.1)
      simp only [List.length_cons]
      omega
    · simp
abbrev nenc (x : Nat × Nat) : Array Value := #[.int .i64 x.1, .int .u64 x.2]
/-- What a round that goes on keeps: the cells of some blocks. -/
def KpS (S : Nat → Prop) (W W' : World) : Prop := W.heap.size ≤ W'.heap.size ∧ ∀ (k : Nat) (o : Obj), S k → W.heap[k]? = some o → o.isCells = true → W'.heap[k]? = some o
theorem KpS.refl (S : Nat → Prop) (W : World) : KpS S W W := ⟨Nat.le_refl _, fun _ _ _ h _ => h⟩
theorem KpS.trans {S : Nat → Prop} {A B C : World} (h : KpS S A B) (k : KpS S B C) : KpS S A C := ⟨Nat.le_trans h.1 k.1, fun i o hi ho hc => k.2 i o hi (h.2 i o hi ho hc) hc⟩
theorem KpS.put {S : Nat → Prop} (W : World) (l : Nat) (o o' : Obj) (h : W.heap[l]? = some o) (hc : o.isCells = false) : KpS S W (W.putObj l o') :=
  ⟨by simp, fun k q _ hq hqc => by
    by_cases e : k = l
    · subst e; rw [h] at hq; injection hq with hq; subst hq; rw [hc] at hqc; cases hqc
    · exact (World.putObj_heap_other e).trans hq⟩
theorem KpS.cell {S : Nat → Prop} {W W' : World} (h : KpS S W W') {p : Addr} (hp : S p.block) {v : Value} (c : W.cell? p = some v) : W'.cell? p = some v := by
  obtain ⟨o, ho, hc⟩ := cells_of_cell c
  have := h.2 _ _ hp ho hc
  unfold World.cell? at c ⊢
  rw [this]
  rw [ho] at c
  exact c
theorem KpS.frozen {S : Nat → Prop} {W W' : World} (h : KpS S W W') {p : Addr} (hp : S p.block) {v : Value} (c : W.cell? p = some v) : W'.frozen? p = W.frozen? p := by
  obtain ⟨o, ho, hc⟩ := cells_of_cell c
  have := h.2 _ _ hp ho hc
  unfold World.frozen?
  rw [this, ho]
theorem RestP.kept {S T : Nat → Prop} {W W' : World} {P : Nat} {p : Option Addr} {c : Nat} {v : List Nat} (R : RestP T W P p c v) (h : KpS S W W') (hP : S P) (hT : ∀ b, T b → S b) : RestP T W' P p c v := by
  refine ⟨h.cell hP R.cell, R.cap, (h.frozen hP R.cell).trans R.fz, R.ne, fun i hi => ?_⟩
  obtain ⟨B, off, e, ht, c⟩ := R.bytes i hi
  exact ⟨B, off, e, ht, h.cell (hT _ ht) c⟩
theorem Calm.only {β : Type} {B : Nat} {J : β → World → Prop} (h : Calm B J) {s : β} {A C : World} (ho : Only B A C) (hs : J s A) : J s C := by
  induction ho with
  | refl => exact hs
  | step _ v ih => exact h.2 s _ v ih
/-- The blocks that a round keeps: those that the iterator reads. -/
def ReadB (n bb : Nat) (p : Option Addr) (k : Nat) : Prop := n ≤ k ∨ k = bb ∨ ∃ off, p = some ⟨k, off, none⟩
end Go.Proofs.Ythnllhfdbnnjhaa
