import Derived.Test.YtgadmbgnkccooaaO18
namespace Go.Proofs.Ytgadmbgnkccooaa
open Go.RowKit Go.Shelf
attribute [local go_sem] Oper.semAt_some

/-- Numbers one behind the other: where each begins, and what it is. -/
def numsA : Nat → Nat → List Nat → List (Nat × Nat)
  | 0, _, _ => []
  | f + 1, a, l => if (readE l).2.2 = 0 then (a, (readE l).1) :: numsA f (a + (readE l).2.1) (l.drop (readE l).2.1) else []
def numsE (l : List Nat) : List (Nat × Nat) := numsA l.length 0 l
theorem numsA_none {f a : Nat} {l : List Nat} (h : (readE l).2.2 ≠ 0) : numsA f a l = [] := by
  cases f with
  | zero => rfl
  | succ f => unfold numsA; rw [if_neg h]
theorem numsA_some {f a : Nat} {l : List Nat} (h : (readE l).2.2 = 0) : numsA (f + 1) a l = (a, (readE l).1) :: numsA f (a + (readE l).2.1) (l.drop (readE l).2.1) := by
  rw [numsA, if_pos h]
theorem numsA_length (f : Nat) : ∀ (a : Nat) (l : List Nat), (numsA f a l).length ≤ f := by
  induction f with
  | zero => intro a l; simp [numsA]
  | succ f ih =>
    intro a l
    unfold numsA
    split
    · have := ih (a + (readE l).2.1) (l.drop (readE l).2.1)
      simp only [List.length_cons]
      omega
    · simp
abbrev nenc (x : Nat × Nat) : Array Value := #[.int .i64 x.1, .int .u64 x.2]
/-- What a round that goes on keeps: the cells of some blocks. -/
def KpS (S : Nat → Prop) (W W' : World) : Prop := W.heap.size ≤ W'.heap.size ∧ ∀ (k : Nat) (o : Obj), S k → W.heap[k]? = some o → o.isCells = true → W'.heap[k]? = some o
theorem KpS.refl (S : Nat → Prop) (W : World) : KpS S W W := ⟨Nat.le_refl _, fun _ _ _ h _ => h⟩
theorem KpS.trans {S : Nat → Prop} {A B C : World} (h : KpS S A B) (k : KpS S B C) : KpS S A C := ⟨Nat.le_trans h.1 k.1, fun i o hi ho hc => k.2 i o hi (h.2 i o hi ho hc) hc⟩
theorem KpS.put {S : Nat → Prop} (W : World) (l : Nat) (o o' : Obj) (h : W.heap[l]? = some o) (hc : o.isCells = false) : KpS S W (W.putObj l o') :=
  ⟨by simp, fun k q _ hq hqc => by
    by_cases e : k = l
    · subst e; rw [h] at hq; injection hq with hq; subst hq; rw [hc] at hqc; cases hqc
    · exact (World.putObj_heap_other e).trans hq⟩
theorem KpS.cell {S : Nat → Prop} {W W' : World} (h : KpS S W W') {p : Addr} (hp : S p.block) {v : Value} (c : W.cell? p = some v) : W'.cell? p = some v := by
  obtain ⟨o, ho, hc⟩ := cells_of_cell c
  have := h.2 _ _ hp ho hc
  unfold World.cell? at c ⊢
  rw [this]
  rw [ho] at c
  exact c
theorem KpS.frozen {S : Nat → Prop} {W W' : World} (h : KpS S W W') {p : Addr} (hp : S p.block) {v : Value} (c : W.cell? p = some v) : W'.frozen? p = W.frozen? p := by
  obtain ⟨o, ho, hc⟩ := cells_of_cell c
  have := h.2 _ _ hp ho hc
  unfold World.frozen?
  rw [this, ho]
theorem RestP.kept {S T : Nat → Prop} {W W' : World} {P : Nat} {p : Option Addr} {c : Nat} {v : List Nat} (R : RestP T W P p c v) (h : KpS S W W') (hP : S P) (hT : ∀ b, T b → S b) : RestP T W' P p c v := by
  refine ⟨h.cell hP R.cell, R.cap, (h.frozen hP R.cell).trans R.fz, R.ne, fun i hi => ?_⟩
  obtain ⟨B, off, e, ht, c⟩ := R.bytes i hi
  exact ⟨B, off, e, ht, h.cell (hT _ ht) c⟩
theorem Calm.only {β : Type} {B : Nat} {J : β → World → Prop} (h : Calm B J) {s : β} {A C : World} (ho : Only B A C) (hs : J s A) : J s C := by
  induction ho with
  | refl => exact hs
  | step _ v ih => exact h.2 s _ v ih
/-- The blocks that a round keeps: those that the iterator reads. -/
def ReadB (n bb : Nat) (p : Option Addr) (k : Nat) : Prop := n ≤ k ∨ k = bb ∨ ∃ off, p = some ⟨k, off, none⟩
set_option maxRecDepth 100000 in
set_option maxHeartbeats 4000000 in
theorem numbers_own (n : Nat) (hn : 2 ≤ n) (l : List Nat) (p : Option Addr) (cap bb : Nat) (w : World) (hl : l.length ≤ 100000) (hcap : l.length ≤ cap) (hc0 : cap ≤ 9223372036854775807) (hb : ∀ b ∈ l, b < 256) (hbb : bb < w.heap.size)
    (hc : w.cell? ⟨bb, 0, none⟩ = some (.slice p l.length cap)) (hbytes : BytesAt w p l) :
    SeqOwn Fence.wide n Try.prog 40 #[.pointer (some ⟨bb, 0, none⟩)] nenc (KpS (ReadB w.heap.size bb p)) (fun xs => xs = numsE l) (fun pre => pre <+: numsE l) (numsE l).length w := fun ly J Jx W hW hJ hJx hY h0 => by
  refine callsIn_of_wp Try.func40 rfl trivial ?_ rfl
  simp only [Try.ntmps40, List.size_toArray, List.length_cons, List.length_nil, Nat.reduceAdd, Nat.reduceSub, Array.replicate_succ, Array.replicate_zero, List.push_toArray, List.append_toArray, List.nil_append, List.cons_append]
  have hWs := hW.size
  have hcW := (hW.cell (p := ⟨bb, 0, none⟩) hbb).trans hc
  have hbW : BytesAt W p l := bytesAt_below hbytes hW
  obtain ⟨T, hTd⟩ : ∃ T : Nat → Prop, T = fun k => k ≠ W.heap.size ∧ ∃ off, p = some ⟨k, off, none⟩ := ⟨_, rfl⟩
  have R0 : Hid (RestP T (W.alloc (.cells #[.slice p l.length cap] 68)) W.heap.size p cap l) :=
    Lib.hid (rest_new _ W p cap l _ hcap hbW (fun B off e h => by rw [hTd]; exact ⟨by omega, off, e⟩) (fun h => by rw [hTd] at h; exact h.1 rfl))
  have HT : Hid ((∀ b, T b → ReadB w.heap.size bb p b) ∧ ReadB w.heap.size bb p bb ∧ ReadB w.heap.size bb p W.heap.size) := Lib.hid ⟨fun b h => by rw [hTd] at h; exact .inr (.inr h.2), .inr (.inl rfl), .inl hWs⟩
  have J0 : Hid (J [] (W.alloc (.cells #[.slice p l.length cap] 68))) := Lib.hid (hJ.1 _ _ _ none h0 (World.grownBy_alloc W _ none) (fun r e => by cases e))
  have C0 : (W.alloc (.cells #[.slice p l.length cap] 68)).cell? ⟨bb, 0, none⟩ = some (.slice p l.length cap) := (World.cell?_alloc_old _ _ _ (by show bb ≠ _; omega)).trans hcW
  have HB := Lib.hid hb
  have HJ := Lib.hid hJ
  have HJx := Lib.hid hJx
  have HY := Lib.hid hY
  clear hTd hb hJ hJx hY h0 hW hc hbytes hbW
  gi_wp2
  gi_loopw [4, 5, 6] (fun _ _ _ wr => ∃ a f p' c' pre, a ≤ l.length ∧ c' ≤ cap ∧ Hid (J pre wr) ∧ wr.cell? ⟨bb, 0, none⟩ = some (.slice p l.length cap) ∧ Hid (RestP T wr W.heap.size p' c' (l.drop a)) ∧ Hid (l.length - a ≤ f ∧ pre ++ numsA f a (l.drop a) = numsE l)) (fun _ _ _ wr => match wr.cell? ⟨W.heap.size, 0, none⟩ with | some (.slice _ n _) => n | _ => 0)
  case atStart => exact ⟨0, l.length, p, cap, [], Nat.zero_le _, Nat.le_refl _, J0, C0, R0, Lib.hid ⟨Nat.le_refl _, rfl⟩⟩
  case round =>
    obtain ⟨a, f, p', c', pre, ha, hcc, HJp, hcb, HR, HF⟩ := hrel
    have hcR := HR.out.cell
    rw [List.length_drop] at hcR
    have HC := Lib.hid (readNumber_rest (l.drop a) p' c' W.heap.size wr (by rw [List.length_drop]; omega) (by omega) (fun b hb => HB.out b (List.mem_of_mem_drop hb)) HR)
    unfold numPost at HC
    have hRng := readE_range (l.drop a) (fun b hb => HB.out b (List.mem_of_mem_drop hb))
    by_cases he : (readE (l.drop a)).2.2 = 0
    · obtain ⟨-, h64, hk0, hkl, -⟩ := hRng.resolve_right (fun h => by rw [h] at he; simp at he)
      rw [List.length_drop] at hkl
      have hf := HF.out.1
      have EA : Hid ((l.length : Int) - ((l.length - a : Nat) : Int) = (a : Int)) := Lib.hid (by omega)
      have hN := numsA_some (f := f - 1) (a := a) he
      rw [show f - 1 + 1 = f by omega] at hN
      have HP := HF.out.2
      rw [hN] at HP
      rw [decide_eq_true he] at HC
      have hlen : pre.length < (numsE l).length := by rw [← HP]; simp
      have HN := Lib.hid HP
      generalize hr : readE (l.drop a) = R at *
      obtain ⟨N, k, e⟩ := R
      simp only at *
      clear HP hN hRng hr
      gi_wp2_with fail
      refine ⟨trivial, fun _ => by omega, (callsIn_wide.2 HC.out).mono ?_⟩
      rintro e w1 ⟨rfl, ho, hR⟩
      obtain ⟨p2, c2, hc2, hR2⟩ := hR he
      rw [List.drop_drop] at hR2
      have HR2 := Lib.hid hR2
      have hJ1 := HJ.out.only ho HJp.out
      have hyY : YieldAt Fence.wide (n - 1) Try.prog ly #[.int .i64 ((l.length : Int) - ((l.length - a : Nat) : Int)), .int .u64 N] w1 fun e A' =>
          e = Ending.returned (Value.bool true) ∧ J (pre ++ [(a, N)]) A' ∧ KpS (ReadB w.heap.size bb p) w1 A' ∨ e = Ending.returned (Value.bool false) ∧ Jx (pre ++ [(a, N)]) A' := by
        rw [EA.out]
        exact HY.out pre (a, N) w1 hJ1 hlen (by rw [← HN.out]; exact ⟨_, by rw [List.append_assoc]; rfl⟩)
      obtain ⟨fn, tmps, assign, body, hy, hYR⟩ := hyY
      have hcb1 := (ho.cell (p := ⟨bb, 0, none⟩) (by show bb ≠ _; omega)).trans hcb
      clear hR hR2 hJ1 ho
      gi_wp2
      refine ⟨fun _ => by omega, hYR.mono ?_⟩
      rintro e W3 (⟨rfl, hJ3, hK3⟩ | ⟨rfl, hJx3⟩)
      · have hc3 := hK3.cell (p := ⟨bb, 0, none⟩) HT.out.2.1 hcb1
        have HR3 := Lib.hid (HR2.out.kept hK3 HT.out.2.2 HT.out.1)
        have HJ3 := Lib.hid hJ3
        have hR3 := HR3.out.cell
        rw [List.length_drop] at hR3
        clear hJ3 hK3 hYR
        gi_wp2
        refine ⟨⟨a + k, f - 1, p2, c2, pre ++ [(a, N)], by omega, by omega, HJ3, hc3, HR3, Lib.hid ⟨by omega, by rw [← HN.out, List.drop_drop, List.append_assoc]; rfl⟩⟩, ?_⟩
        rw [hR3, hcR]
        show l.length - (a + k) < l.length - a
        omega
      · clear hYR
        gi_wp2
        refine bodyPost_ret (results_none rfl _ _ _) rfl ?_
        exact ⟨⟨_, rfl⟩, .inr ⟨_, by rw [← HN.out]; exact ⟨_, by rw [List.append_assoc]; rfl⟩, hJx3⟩⟩
    · have hN := numsA_none (f := f) (a := a) he
      rw [decide_eq_false he] at HC
      have HP := HF.out.2
      rw [hN, List.append_nil] at HP
      have HS := Lib.hid HP
      clear hRng hN HP he
      gi_wp2_with (refine ⟨trivial, fun _ => by omega, (callsIn_wide.2 HC.out).mono ?_⟩; rintro e w1 ⟨rfl, ho, -⟩)
      refine ⟨fun f h => (by cases h), ?_⟩
      gi_wp2
      refine bodyPost_ret (results_none rfl _ _ _) rfl ?_
      exact ⟨⟨_, rfl⟩, .inl ⟨_, rfl, by rw [← HS.out]; exact HJ.out.only ho HJp.out⟩⟩
end Go.Proofs.Ytgadmbgnkccooaa
