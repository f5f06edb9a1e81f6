/- DiskHolds, without memory: what was written last; disks beside blocks of the call's own. -/
import Derived.Test.YthbnochlpnikaaaQ14
namespace Go.Proofs.Ythbnochlpnikaaa
open Go.RowKit Go.Shelf

def valN (l : List (Nat × Nat)) (j : Nat) : Nat := l.foldl (fun v x => if x.1 = j then x.2 else v) 0
theorem valN_snoc (l : List (Nat × Nat)) (x : Nat × Nat) (j : Nat) : valN (l ++ [x]) j = if x.1 = j then x.2 else valN l j := by
  unfold valN; rw [List.foldl_append]; rfl
theorem valN_next {l : List (Nat × Nat)} {i : Nat} {x : Nat × Nat} (h : l[i]? = some x) (j : Nat) : valN (l.take (i + 1)) j = if x.1 = j then x.2 else valN (l.take i) j := by
  rw [List.take_add_one, h, Option.toList_some, valN_snoc]
def wrs (l : List (Nat × Nat)) : List (Nat × ByteArray) := l.map fun x => (x.1, secS x.2)
theorem wrs_next {l : List (Nat × Nat)} {i : Nat} {x : Nat × Nat} (h : l[i]? = some x) : wrs (l.take (i + 1)) = wrs (l.take i) ++ [(x.1, secS x.2)] := by
  unfold wrs
  rw [List.take_add_one, h, Option.toList_some, List.map_append]
  rfl
theorem wrs_append (l m : List (Nat × Nat)) : wrs (l ++ m) = wrs l ++ wrs m := List.map_append
theorem lastS_wrs (l : List (Nat × Nat)) (j : Nat) : lastS (wrs l) j = secS (valN l j) := by
  unfold lastS wrs valN
  rw [List.foldl_map]
  suffices ∀ (l : List (Nat × Nat)) (v : Nat), List.foldl (fun s (x : Nat × Nat) => if x.1 = j then secS x.2 else s) (secS v) l = secS (List.foldl (fun v (x : Nat × Nat) => if x.1 = j then x.2 else v) v l) from this l 0
  intro l
  induction l with
  | nil => intro v; rfl
  | cons x l ih =>
    intro v
    rw [List.foldl_cons, List.foldl_cons]
    by_cases h : x.1 = j
    · rw [if_pos h, if_pos h]; exact ih _
    · rw [if_neg h, if_neg h]; exact ih _
theorem valN_byte {l : List (Nat × Nat)} (h : ∀ x ∈ l, x.2 < 256) (j : Nat) : valN l j < 256 := by
  unfold valN
  suffices ∀ (l : List (Nat × Nat)) (v : Nat), v < 256 → (∀ x ∈ l, x.2 < 256) → List.foldl (fun v (x : Nat × Nat) => if x.1 = j then x.2 else v) v l < 256 from this l 0 (by omega) h
  intro l
  induction l with
  | nil => intro v hv _; exact hv
  | cons x l ih =>
    intro v hv hl
    rw [List.foldl_cons]
    refine ih _ ?_ (fun y hy => hl y (by simp [hy]))
    split
    · exact hl x (by simp)
    · exact hv
/-- Was one of the first so many writes to sector j kept? -/
def keptB (l : List (Nat × Nat)) (keep : List Bool) (j : Nat) : Nat → Bool
  | 0 => false
  | i + 1 => keptB l keep j i || (decide ((l.getD i (0, 0)).1 = j) && keep.getD i false)
theorem keptB_none {l : List (Nat × Nat)} {keep : List Bool} {j : Nat} : ∀ {n : Nat}, keptB l keep j n = false → ∀ i, i < n → keep.getD i false = true → (l.getD i (0, 0)).1 ≠ j
  | 0, _, i, hi, _ => by omega
  | n + 1, h, i, hi, hk => by
    unfold keptB at h
    rw [Bool.or_eq_false_iff] at h
    by_cases e : i = n
    · subst e
      intro e2
      have := h.2
      rw [hk, e2] at this
      simp at this
    · exact keptB_none h.1 i (by omega) hk
theorem wrs_getD (l : List (Nat × Nat)) (i : Nat) (h : i < l.length) : ((wrs l).getD i (0, secS 0)).1 = (l.getD i (0, 0)).1 := by
  unfold wrs
  rw [List.getD_eq_getElem?_getD, List.getD_eq_getElem?_getD, List.getElem?_map, List.getElem?_eq_getElem h]
  rfl
theorem wrs_length (l : List (Nat × Nat)) : (wrs l).length = l.length := by unfold wrs; simp
/-- The disk behind its crash, where nothing was kept. -/
theorem read_kept {n : Nat} {A0 A1 : List (Nat × Nat)} {keep : List Bool} (hk : keep.length ≤ 63) {j : Nat} (hj : j < n) (hn : keptB A1 keep j A1.length = false) :
    readS (crashS ⟨n, wrs A0, wrs A1, -1⟩ keep.length keep).1 j = (secS (valN A0 j), 0) := by
  rw [crashS_ok hk, readS_ok (by simp only; omega) (by simp)]
  have hT := tornS_range ⟨n, wrs A0, wrs A1, -1⟩ keep
  unfold sectorS
  simp only [List.append_nil]
  rw [crashF_apart keep (wrs A1) (wrs A0) keep.length j _ _ (fun i hi hki => by
    have h1 : i < A1.length := by
      have := hT.2.1
      simp only [wrs_length] at this
      omega
    rw [wrs_getD A1 i h1]
    exact keptB_none hn i h1 hki), lastS_wrs]
theorem crash_err {s : DS} {keep : List Bool} (hk : keep.length ≤ 63) : (crashS s keep.length keep).2 = 0 := by rw [crashS_ok hk]
theorem read_any {n : Nat} {A0 A1 : List (Nat × Nat)} {keep : List Bool} (hk : keep.length ≤ 63) {j : Nat} (hj : j < n) : (readS (crashS ⟨n, wrs A0, wrs A1, -1⟩ keep.length keep).1 j).2 = 0 := by
  rw [crashS_ok hk, readS_ok (by simp only; omega) (by simp)]
/-- The copy behind its own, which keeps all. -/
theorem read_all {n : Nat} {A0 A1 : List (Nat × Nat)} {j : Nat} (hj : j < n) :
    readS (crashS ⟨n, wrs A0, wrs A1, -1⟩ 0 (List.replicate A1.length true)).1 j = (secS (valN (A0 ++ A1) j), 0) := by
  have := crash_all ⟨n, wrs A0, wrs A1, -1⟩
  simp only [wrs_length] at this
  rw [this, readS_ok (by simp only; omega) (by simp)]
  unfold sectorS
  simp only [List.append_nil]
  rw [← wrs_append, lastS_wrs]
theorem crash_all_err {n : Nat} {A0 A1 : List (Nat × Nat)} : (crashS ⟨n, wrs A0, wrs A1, -1⟩ 0 (List.replicate A1.length true)).2 = 0 := by
  have := crash_all ⟨n, wrs A0, wrs A1, -1⟩
  simp only [wrs_length] at this
  rw [this]

/-- A disk that was made since w0, beside the blocks X. -/
def HeldX (Rep : DiskRep) (w0 : World) (X : Nat → Prop) (w : World) (d : Value) (s : DS) : Prop := ∃ F, Rep w d s F ∧ ∀ k, F k → w0.heap.size ≤ k ∧ ¬ X k
section
variable {Rep : DiskRep}
theorem HeldX.kept (S : DiskOk Rep) {w0 w w' : World} {X : Nat → Prop} {d : Value} {s : DS} (h : HeldX Rep w0 X w d s) (hs : w.heap.size ≤ w'.heap.size) (b : ∀ k, k < w.heap.size → ¬ X k → w0.heap.size ≤ k → w'.heap[k]? = w.heap[k]?) : HeldX Rep w0 X w' d s := by
  obtain ⟨F, h, hF⟩ := h
  exact ⟨F, S.keep _ _ _ _ _ h hs (fun k hk => b k (S.low _ _ _ _ h k hk) (hF k hk).2 (hF k hk).1), hF⟩
theorem HeldX.below (S : DiskOk Rep) {w0 w w' : World} {X : Nat → Prop} {d : Value} {s : DS} (h : HeldX Rep w0 X w d s) (b : Below w.heap.size w w') : HeldX Rep w0 X w' d s := h.kept S b.size (fun k hk _ _ => b.block k hk)
theorem HeldX.wide (S : DiskOk Rep) {w0 w : World} {X Y : Nat → Prop} {d : Value} {s : DS} (h : HeldX Rep w0 X w d s) (hY : ∀ k, Y k → X k ∨ w.heap.size ≤ k ∨ k < w0.heap.size) : HeldX Rep w0 Y w d s := by
  obtain ⟨F, h, hF⟩ := h
  exact ⟨F, h, fun k hk => ⟨(hF k hk).1, fun y => by
    have h1 := hF k hk
    have h2 := S.low _ _ _ _ h k hk
    rcases hY k y with h | h | h
    · exact h1.2 h
    · omega
    · omega⟩⟩
/-- What a call that changes a disk leaves. -/
structure Behind (Rep : DiskRep) (w0 : World) (X : Nat → Prop) (d : Value) (s : DS) (w w' : World) : Prop where
  held : HeldX Rep w0 X w' d s
  below : Below w0.heap.size w0 w'
  size : w.heap.size ≤ w'.heap.size
  same : ∀ k, X k → w'.heap[k]? = w.heap[k]?
theorem HeldX.goes (S : DiskOk Rep) {w0 w w' : World} {X : Nat → Prop} {d : Value} {s : DS} {F : Nat → Prop} (hF : ∀ k, F k → w0.heap.size ≤ k ∧ ¬ X k) (hX : ∀ k, X k → k < w.heap.size) (hb : Below w0.heap.size w0 w) (h : Goes Rep d s F w w') : Behind Rep w0 X d s w w' := by
  obtain ⟨F', hR, h1, h2⟩ := h
  refine ⟨⟨F', hR, fun k hk => ?_⟩, h2.below hb (fun k hk => (hF k hk).1), h2.size, fun k hk => h2.block k (hX k hk) (fun f => (hF k f).2 hk)⟩
  rcases h1 k hk with h | h
  · exact hF k h
  · exact ⟨Nat.le_trans hb.size h, fun x => by have := hX k x; omega⟩
theorem heldX_write (S : DiskOk Rep) {w0 wb w : World} {X : Nat → Prop} {d : Value} {s : DS} (k : Int) (c : Nat) (h : HeldX Rep w0 X wb d s) (hbw : Below wb.heap.size wb w) (hX : ∀ k, X k → k < wb.heap.size) (hb : Below w0.heap.size w0 wb) (hw : Whole s) (hf : Few s) (hc : c < 256) (hR : BytesAt w (some ⟨wb.heap.size, 0, none⟩) (List.replicate 64 c)) :
    Calls Try.prog 15 #[d, .int .i64 k, .slice (some ⟨wb.heap.size, 0, none⟩) 64 64] w fun r w' => r = .returned (.int .i64 (writeS s k (secS c)).2) ∧ Behind Rep w0 X d (writeS s k (secS c)).1 w w' := by
  obtain ⟨F, h, hF⟩ := h
  have hk := S.keep _ _ _ _ _ h hbw.size (fun k hk => hbw.block k (S.low _ _ _ _ h k hk))
  have := S.write w d s F k (some ⟨wb.heap.size, 0, none⟩) (List.replicate 64 c) 64 hk hw hf (by simp) ⟨hR, fun b hb => by rw [List.mem_replicate] at hb; omega, fun e => (by cases e), by simp, fun _ B' off e => by injection e with e; injection e with e1 e2; subst e1; exact fun f => by have := S.low _ _ _ _ h _ f; omega⟩
  rw [List.length_replicate] at this
  refine this.mono ?_
  rintro e w' ⟨rfl, hg⟩
  exact ⟨rfl, HeldX.goes S hF (fun k hk => Nat.lt_of_lt_of_le (hX k hk) hbw.size) (below_any hb hbw) hg⟩
theorem heldX_sync (S : DiskOk Rep) {w0 w : World} {X : Nat → Prop} {d : Value} {s : DS} (h : HeldX Rep w0 X w d s) (hX : ∀ k, X k → k < w.heap.size) (hb : Below w0.heap.size w0 w) (hw : Whole s) (hf : Few s) :
    Calls Try.prog 17 #[d] w fun r w' => r = .returned (.int .i64 (syncS s).2) ∧ Behind Rep w0 X d (syncS s).1 w w' := by
  obtain ⟨F, h, hF⟩ := h
  refine (S.sync w d s F h hw hf).mono ?_
  rintro e w' ⟨rfl, hg⟩
  exact ⟨rfl, HeldX.goes S hF hX hb hg⟩
theorem heldX_crash (S : DiskOk Rep) {w0 w : World} {X : Nat → Prop} {d : Value} {s : DS} (tear : Int) (p : Option Addr) (keep : List Bool) (cap : Nat) (h : HeldX Rep w0 X w d s) (hX : ∀ k, X k → k < w.heap.size) (hb : Below w0.heap.size w0 w) (hw : Whole s) (hf : Few s) (hk : keep.length ≤ 1000) (hB : BoolsAt w p keep) (hn : p = none → cap = 0) (hc : keep.length ≤ cap ∧ cap ≤ 9223372036854775807) (hp : keep ≠ [] → ∀ B off, p = some ⟨B, off, none⟩ → B < w0.heap.size ∨ X B) :
    Calls Try.prog 18 #[d, .int .i64 tear, .slice p keep.length cap] w fun r w' => r = .returned (.int .i64 (crashS s tear keep).2) ∧ Behind Rep w0 X d (crashS s tear keep).1 w w' := by
  obtain ⟨F, h, hF⟩ := h
  refine (S.crash w d s F tear p keep cap h hw hf hk ⟨hB, hn, hc, fun ne B off e f => by
    have h1 := hF _ f
    rcases hp ne B off e with h | h
    · omega
    · exact h1.2 h⟩).mono ?_
  rintro e w' ⟨rfl, hg⟩
  exact ⟨rfl, HeldX.goes S hF hX hb hg⟩
theorem heldX_read (S : DiskOk Rep) {w0 w : World} {X : Nat → Prop} {d : Value} {s : DS} (k : Int) (h : HeldX Rep w0 X w d s) (hw : Whole s) (hf : Few s) :
    Calls Try.prog 19 #[d, .int .i64 k] w fun r w' => ∃ t l, r = .returned (.tuple #[t, .int .i64 (readS s k).2]) ∧ TellB w l t w' ∧ (∀ b ∈ l, b < 256) ∧ strOf l = (readS s k).1 := by
  obtain ⟨F, h, hF⟩ := h
  exact S.read w d s F k h hw hf
theorem heldX_new (S : DiskOk Rep) (n : Nat) (w : World) (hn : 1 ≤ n ∧ n ≤ 40000) : Calls Try.prog 7 #[.int .i64 n] w fun r w' => ∃ d, r = .returned (.tuple #[d, .int .i64 0]) ∧ HeldX Rep w (fun _ => False) w' d (newS n) ∧ Below w.heap.size w w' := by
  refine (S.new n w hn).mono ?_
  rintro e w' ⟨d, F, rfl, hR, hF, hb⟩
  exact ⟨d, rfl, ⟨F, hR, fun k hk => ⟨hF k hk, fun h => h⟩⟩, hb⟩
end
end Go.Proofs.Ythbnochlpnikaaa
