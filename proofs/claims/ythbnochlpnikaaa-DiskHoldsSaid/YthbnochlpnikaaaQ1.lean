/- What a disk is, as plain data: no program is spoken of. -/
namespace Go.Proofs.Ythbnochlpnikaaa

def strOf (l : List Nat) : ByteArray := ⟨(l.map UInt8.ofNat).toArray⟩
theorem strOf_size (l : List Nat) : (strOf l).size = l.length := by simp [strOf, ByteArray.size]
def secS (c : Nat) : ByteArray := strOf (List.replicate 64 c)
theorem secS_size (c : Nat) : (secS c).size = 64 := by unfold secS; rw [strOf_size]; simp

/-- How many sectors there are, what was synced, what is loose; a stop behind so many operations (-1: none). -/
structure DS where
  many : Nat
  sync : List (Nat × ByteArray)
  loose : List (Nat × ByteArray)
  left : Int

def lastS (l : List (Nat × ByteArray)) (k : Nat) : ByteArray := l.foldl (fun s w => if w.1 = k then w.2 else s) (secS 0)
theorem lastS_nil (k : Nat) : lastS [] k = secS 0 := rfl
theorem lastS_snoc (l : List (Nat × ByteArray)) (w : Nat × ByteArray) (k : Nat) : lastS (l ++ [w]) k = if w.1 = k then w.2 else lastS l k := by
  unfold lastS; rw [List.foldl_append]; rfl
theorem lastS_next {l : List (Nat × ByteArray)} {i : Nat} {w : Nat × ByteArray} (h : l[i]? = some w) (k : Nat) : lastS (l.take (i + 1)) k = if w.1 = k then w.2 else lastS (l.take i) k := by
  rw [List.take_add_one, h, Option.toList_some, lastS_snoc]
theorem lastS_size {l : List (Nat × ByteArray)} (h : ∀ w ∈ l, w.2.size = 64) (k : Nat) : (lastS l k).size = 64 := by
  unfold lastS
  suffices ∀ (l : List (Nat × ByteArray)) (s : ByteArray), s.size = 64 → (∀ w ∈ l, w.2.size = 64) → (l.foldl (fun s w => if w.1 = k then w.2 else s) s).size = 64 from this l _ (secS_size 0) h
  intro l
  induction l with
  | nil => intro s hs _; exact hs
  | cons w l ih =>
    intro s hs hl
    rw [List.foldl_cons]
    refine ih _ ?_ (fun x hx => hl x (by simp [hx]))
    split
    · exact hl w (by simp)
    · exact hs
/-- Writes that are not to a sector do not change what was written there last. -/
theorem lastS_apart (l m : List (Nat × ByteArray)) (k : Nat) (h : ∀ w ∈ m, w.1 ≠ k) : lastS (l ++ m) k = lastS l k := by
  unfold lastS
  rw [List.foldl_append]
  generalize List.foldl (fun s w => if w.1 = k then w.2 else s) (secS 0) l = s
  induction m generalizing s with
  | nil => rfl
  | cons w m ih =>
    rw [List.foldl_cons, if_neg (h w (by simp))]
    exact ih (fun x hx => h x (by simp [hx])) s

def doneL (left : Int) : Int := if 0 < left then left - 1 else left
def newS (n : Nat) : DS := ⟨n, [], [], -1⟩
def writeS (s : DS) (k : Int) (b : ByteArray) : DS × Int :=
  if b.size ≠ 64 then (s, 2) else if k < 0 ∨ (s.many : Int) ≤ k then (s, 4) else if s.left = 0 then (s, 140) else (⟨s.many, s.sync, s.loose ++ [(k.toNat, b)], doneL s.left⟩, 0)
def syncS (s : DS) : DS × Int := if s.left = 0 then (s, 140) else (⟨s.many, s.sync ++ s.loose, [], doneL s.left⟩, 0)
def stopS (s : DS) (n : Int) : DS × Int := if n < 0 then (s, 2) else (⟨s.many, s.sync, s.loose, n⟩, 0)
def sectorS (s : DS) (k : Nat) : ByteArray := lastS (s.sync ++ s.loose) k
def readS (s : DS) (k : Int) : ByteArray × Int := if k < 0 ∨ (s.many : Int) ≤ k then (⟨#[]⟩, 4) else if s.left = 0 then (⟨#[]⟩, 140) else (sectorS s k.toNat, 0)
/-- The last of the first so many that is kept; -1: none. -/
def tornF (keep : List Bool) : Nat → Int
  | 0 => -1
  | i + 1 => if keep.getD i false then (i : Int) else tornF keep i
theorem tornF_range (keep : List Bool) : ∀ n, -1 ≤ tornF keep n ∧ tornF keep n < n
  | 0 => by simp [tornF]
  | n + 1 => by
    have := tornF_range keep n
    unfold tornF
    split <;> omega
def tornB (tear : Nat) (b old : ByteArray) : ByteArray := b.extract 0 tear ++ old.extract tear 64
/-- What is synced behind a crash, when the first so many were looked at. -/
def crashF (keep : List Bool) (loose : List (Nat × ByteArray)) (tear : Nat) (torn : Int) (sync : List (Nat × ByteArray)) : Nat → List (Nat × ByteArray)
  | 0 => sync
  | i + 1 =>
    if keep.getD i false then crashF keep loose tear torn sync i ++ [((loose.getD i (0, secS 0)).1, if (i : Int) = torn ∧ 0 < tear then tornB tear (loose.getD i (0, secS 0)).2 (lastS (crashF keep loose tear torn sync i) (loose.getD i (0, secS 0)).1) else (loose.getD i (0, secS 0)).2)]
    else crashF keep loose tear torn sync i
def tornS (s : DS) (keep : List Bool) : Int := tornF keep (min s.loose.length keep.length)
def crashS (s : DS) (tear : Int) (keep : List Bool) : DS × Int :=
  if tear < 0 ∨ 63 < tear then (s, 2) else (⟨s.many, crashF keep s.loose tear.toNat (tornS s keep) s.sync (tornS s keep + 1).toNat, [], -1⟩, 0)
def sameS (a b : DS) : Prop := a.many = b.many ∧ a.left = b.left ∧ a.loose = b.loose ∧ ∀ k, lastS a.sync k = lastS b.sync k

/-- All that was written are sectors of the disk. -/
structure Whole (s : DS) : Prop where
  many : 1 ≤ s.many ∧ s.many ≤ 40000
  left : -1 ≤ s.left
  sync : ∀ w ∈ s.sync, w.1 < s.many ∧ w.2.size = 64
  loose : ∀ w ∈ s.loose, w.1 < s.many ∧ w.2.size = 64
theorem doneL_ok {n : Int} (h : -1 ≤ n) : -1 ≤ doneL n := by unfold doneL; split <;> omega
theorem Whole.new {n : Nat} (h : 1 ≤ n ∧ n ≤ 40000) : Whole (newS n) := ⟨h, by simp [newS], fun _ h => (by cases h), fun _ h => (by cases h)⟩
theorem Whole.write {s : DS} (h : Whole s) (k : Int) (b : ByteArray) : Whole (writeS s k b).1 := by
  unfold writeS
  split
  · exact h
  · split
    · exact h
    · split
      · exact h
      · refine ⟨h.many, doneL_ok h.left, h.sync, fun w hw => ?_⟩
        rcases List.mem_append.1 hw with hw | hw
        · exact h.loose w hw
        · simp at hw
          subst hw
          simp only
          omega
theorem Whole.sync' {s : DS} (h : Whole s) : Whole (syncS s).1 := by
  unfold syncS
  split
  · exact h
  · refine ⟨h.many, doneL_ok h.left, fun w hw => ?_, fun _ h => (by cases h)⟩
    rcases List.mem_append.1 hw with hw | hw
    · exact h.sync w hw
    · exact h.loose w hw
theorem Whole.stop {s : DS} (h : Whole s) (n : Int) : Whole (stopS s n).1 := by
  unfold stopS
  split
  · exact h
  · exact ⟨h.many, by simp only; omega, h.sync, h.loose⟩
theorem tornB_size {tear : Nat} {b old : ByteArray} (ht : tear ≤ 63) (hb : b.size = 64) (ho : old.size = 64) : (tornB tear b old).size = 64 := by
  unfold tornB
  rw [ByteArray.size_append, ByteArray.size_extract, ByteArray.size_extract]
  omega
theorem getD_mem {α : Type} {l : List α} {i : Nat} {d : α} (h : i < l.length) : l.getD i d ∈ l := by
  rw [List.getD_eq_getElem?_getD, List.getElem?_eq_getElem h]
  exact List.getElem_mem h
theorem crashF_whole {keep : List Bool} {loose sync : List (Nat × ByteArray)} {tear m : Nat} {torn : Int} (ht : tear ≤ 63) (hs : ∀ w ∈ sync, w.1 < m ∧ w.2.size = 64) (hl : ∀ w ∈ loose, w.1 < m ∧ w.2.size = 64) :
    ∀ i, i ≤ loose.length → ∀ w ∈ crashF keep loose tear torn sync i, w.1 < m ∧ w.2.size = 64
  | 0, _ => hs
  | i + 1, hi => by
    have ih := crashF_whole (keep := keep) (tear := tear) (torn := torn) ht hs hl i (by omega)
    have hm := hl _ (getD_mem (d := (0, secS 0)) (show i < loose.length by omega))
    unfold crashF
    split
    · intro w hw
      rcases List.mem_append.1 hw with hw | hw
      · exact ih w hw
      · simp only [List.mem_singleton] at hw
        subst hw
        refine ⟨hm.1, ?_⟩
        simp only
        split
        · exact tornB_size ht hm.2 (lastS_size (fun w hw => (ih w hw).2) _)
        · exact hm.2
    · exact ih
theorem tornS_range (s : DS) (keep : List Bool) : -1 ≤ tornS s keep ∧ (tornS s keep + 1).toNat ≤ s.loose.length ∧ (tornS s keep + 1).toNat ≤ keep.length := by
  have := tornF_range keep (min s.loose.length keep.length)
  unfold tornS
  omega
theorem Whole.crash {s : DS} (h : Whole s) (tear : Int) (keep : List Bool) : Whole (crashS s tear keep).1 := by
  unfold crashS
  split
  · exact h
  · exact ⟨h.many, by simp, crashF_whole (by omega) h.sync h.loose _ (tornS_range s keep).2.1, fun _ h => (by cases h)⟩

/-- What was synced is there, but where a loose write to the same sector was kept. -/
theorem crashF_apart (keep : List Bool) (loose sync : List (Nat × ByteArray)) (tear k : Nat) (torn : Int) : ∀ i, (∀ j, j < i → keep.getD j false = true → (loose.getD j (0, secS 0)).1 ≠ k) → lastS (crashF keep loose tear torn sync i) k = lastS sync k
  | 0, _ => rfl
  | i + 1, h => by
    have ih := crashF_apart keep loose sync tear k torn i (fun j hj => h j (by omega))
    unfold crashF
    split
    · rename_i hk
      rw [lastS_snoc, if_neg (h i (by omega) hk)]
      exact ih
    · exact ih
/-- A crash that keeps all, and tears none. -/
theorem crashF_all (loose sync : List (Nat × ByteArray)) (torn : Int) (m : Nat) : ∀ i, i ≤ loose.length → i ≤ m → crashF (List.replicate m true) loose 0 torn sync i = sync ++ loose.take i
  | 0, _, _ => by simp [crashF]
  | i + 1, hi, hm => by
    have ih := crashF_all loose sync torn m i (by omega) (by omega)
    have hk : (List.replicate m true).getD i false = true := by
      rw [List.getD_eq_getElem?_getD, List.getElem?_replicate, if_pos (by omega)]; rfl
    unfold crashF
    rw [if_pos hk, ih, List.append_assoc]
    congr 1
    have hg := List.getElem?_eq_getElem (show i < loose.length by omega)
    rw [List.take_add_one, hg]
    simp only [Option.toList_some, List.getD_eq_getElem?_getD, hg, Option.getD_some]
    rw [if_neg (by omega)]
theorem tornF_all (m : Nat) : ∀ n, n ≤ m → tornF (List.replicate m true) n = (n : Int) - 1
  | 0, _ => by simp [tornF]
  | n + 1, h => by
    have hk : (List.replicate m true).getD n false = true := by
      rw [List.getD_eq_getElem?_getD, List.getElem?_replicate, if_pos (by omega)]; rfl
    unfold tornF
    rw [if_pos hk]
    omega
theorem crash_all (s : DS) : crashS s 0 (List.replicate s.loose.length true) = (⟨s.many, s.sync ++ s.loose, [], -1⟩, 0) := by
  have e : tornS s (List.replicate s.loose.length true) = (s.loose.length : Int) - 1 := by
    unfold tornS
    rw [List.length_replicate, Nat.min_self]
    exact tornF_all _ _ (Nat.le_refl _)
  unfold crashS
  rw [if_neg (by omega), e]
  have h := crashF_all s.loose s.sync ((s.loose.length : Int) - 1) s.loose.length s.loose.length (Nat.le_refl _) (Nat.le_refl _)
  rw [List.take_length] at h
  rw [show ((s.loose.length : Int) - 1 + 1).toNat = s.loose.length by omega]
  simp [h]
end Go.Proofs.Ythbnochlpnikaaa
