/- Parts: Q1 Q2 Q3 Q4 Q5 Q6 Q7 Q8 Q9 Q11 Q10 Q12 Q13 Q14 Q15 Q22 C1. -/
import Derived.Deep.CutRange
import Derived.Laws.Bits64
import Derived.Test.YthbnochlpnikaaaRows
import Derived.WalkKit
import Derived.WalkSpells
import Derived.WalkLawsBesides
import Derived.Handy
import Derived.Outline
import Derived.Deep.RegionHeld3
import Derived.Sort.Walk0
import Derived.Laws.StructEq
import Derived.RangeFuncNested
import Derived.RangeFuncBound
import Derived.RangeFuncCalls
import Derived.RangeFuncLeaves
import Derived.Shelf.Abstract
import Derived.OwnWalkIn
import Derived.TacticsInMore
import Derived.LoopNIn
import Derived.LoopIn
import Derived.WalkMore
import Derived.Lib.Hide
import Derived.Deep.OwnRows
import Derived.Laws.AppendOwnNone
import Derived.Deep.RegionLaw
import Derived.Deep.QuietTactic
import Derived.BigQuiet
namespace Go.Proofs.Ythbnochlpnikaaa

def strOf (l : List Nat) : ByteArray := ⟨(l.map UInt8.ofNat).toArray⟩
theorem strOf_size (l : List Nat) : (strOf l).size = l.length := by simp [strOf, ByteArray.size]
def secS (c : Nat) : ByteArray := strOf (List.replicate 64 c)
theorem secS_size (c : Nat) : (secS c).size = 64 := by unfold secS; rw [strOf_size]; simp

/-- How many sectors there are, what was synced, what is loose; a stop behind so many operations (-1: none). -/
structure DS where
  many : Nat
  sync : List (Nat × ByteArray)
  loose : List (Nat × ByteArray)
  left : Int

def lastS (l : List (Nat × ByteArray)) (k : Nat) : ByteArray := l.foldl (fun s w => if w.1 = k then w.2 else s) (secS 0)
theorem lastS_nil (k : Nat) : lastS [] k = secS 0 := rfl
theorem lastS_snoc (l : List (Nat × ByteArray)) (w : Nat × ByteArray) (k : Nat) : lastS (l ++ [w]) k = if w.1 = k then w.2 else lastS l k := by
  unfold lastS; rw [List.foldl_append]; rfl
theorem lastS_next {l : List (Nat × ByteArray)} {i : Nat} {w : Nat × ByteArray} (h : l[i]? = some w) (k : Nat) : lastS (l.take (i + 1)) k = if w.1 = k then w.2 else lastS (l.take i) k := by
  rw [List.take_add_one, h, Option.toList_some, lastS_snoc]
theorem lastS_size {l : List (Nat × ByteArray)} (h : ∀ w ∈ l, w.2.size = 64) (k : Nat) : (lastS l k).size = 64 := by
  unfold lastS
  suffices ∀ (l : List (Nat × ByteArray)) (s : ByteArray), s.size = 64 → (∀ w ∈ l, w.2.size = 64) → (l.foldl (fun s w => if w.1 = k then w.2 else s) s).size = 64 from this l _ (secS_size 0) h
  intro l
  induction l with
  | nil => intro s hs _; exact hs
  | cons w l ih =>
    intro s hs hl
    rw [List.foldl_cons]
    refine ih _ ?_ (fun x hx => hl x (by simp [hx]))
    split
    · exact hl w (by simp)
    · exact hs
/-- Writes that are not to a sector do not change what was written there last. -/
theorem lastS_apart (l m : List (Nat × ByteArray)) (k : Nat) (h : ∀ w ∈ m, w.1 ≠ k) : lastS (l ++ m) k = lastS l k := by
  unfold lastS
  rw [List.foldl_append]
  generalize List.foldl (fun s w => if w.1 = k then w.2 else s) (secS 0) l = s
  induction m generalizing s with
  | nil => rfl
  | cons w m ih =>
    rw [List.foldl_cons, if_neg (h w (by simp))]
    exact ih (fun x hx => h x (by simp [hx])) s

def doneL (left : Int) : Int := if 0 < left then left - 1 else left
def newS (n : Nat) : DS := ⟨n, [], [], -1⟩
def writeS (s : DS) (k : Int) (b : ByteArray) : DS × Int :=
  if b.size ≠ 64 then (s, 2) else if k < 0 ∨ (s.many : Int) ≤ k then (s, 4) else if s.left = 0 then (s, 140) else (⟨s.many, s.sync, s.loose ++ [(k.toNat, b)], doneL s.left⟩, 0)
def syncS (s : DS) : DS × Int := if s.left = 0 then (s, 140) else (⟨s.many, s.sync ++ s.loose, [], doneL s.left⟩, 0)
def stopS (s : DS) (n : Int) : DS × Int := if n < 0 then (s, 2) else (⟨s.many, s.sync, s.loose, n⟩, 0)
def sectorS (s : DS) (k : Nat) : ByteArray := lastS (s.sync ++ s.loose) k
def readS (s : DS) (k : Int) : ByteArray × Int := if k < 0 ∨ (s.many : Int) ≤ k then (⟨#[]⟩, 4) else if s.left = 0 then (⟨#[]⟩, 140) else (sectorS s k.toNat, 0)
/-- The last of the first so many that is kept; -1: none. -/
def tornF (keep : List Bool) : Nat → Int
  | 0 => -1
  | i + 1 => if keep.getD i false then (i : Int) else tornF keep i
theorem tornF_range (keep : List Bool) : ∀ n, -1 ≤ tornF keep n ∧ tornF keep n < n
  | 0 => by simp [tornF]
  | n + 1 => by
    have := tornF_range keep n
    unfold tornF
    split <;> omega
def tornB (tear : Nat) (b old : ByteArray) : ByteArray := b.extract 0 tear ++ old.extract tear 64
/-- What is synced behind a crash, when the first so many were looked at. -/
def crashF (keep : List Bool) (loose : List (Nat × ByteArray)) (tear : Nat) (torn : Int) (sync : List (Nat × ByteArray)) : Nat → List (Nat × ByteArray)
  | 0 => sync
  | i + 1 =>
    if keep.getD i false then crashF keep loose tear torn sync i ++ [((loose.getD i (0, secS 0)).1, if (i : Int) = torn ∧ 0 < tear then tornB tear (loose.getD i (0, secS 0)).2 (lastS (crashF keep loose tear torn sync i) (loose.getD i (0, secS 0)).1) else (loose.getD i (0, secS 0)).2)]
    else crashF keep loose tear torn sync i
def tornS (s : DS) (keep : List Bool) : Int := tornF keep (min s.loose.length keep.length)
def crashS (s : DS) (tear : Int) (keep : List Bool) : DS × Int :=
  if tear < 0 ∨ 63 < tear then (s, 2) else (⟨s.many, crashF keep s.loose tear.toNat (tornS s keep) s.sync (tornS s keep + 1).toNat, [], -1⟩, 0)
def sameS (a b : DS) : Prop := a.many = b.many ∧ a.left = b.left ∧ a.loose = b.loose ∧ ∀ k, lastS a.sync k = lastS b.sync k

/-- All that was written are sectors of the disk. -/
structure Whole (s : DS) : Prop where
  many : 1 ≤ s.many ∧ s.many ≤ 40000
  left : -1 ≤ s.left
  sync : ∀ w ∈ s.sync, w.1 < s.many ∧ w.2.size = 64
  loose : ∀ w ∈ s.loose, w.1 < s.many ∧ w.2.size = 64
theorem doneL_ok {n : Int} (h : -1 ≤ n) : -1 ≤ doneL n := by unfold doneL; split <;> omega
theorem Whole.new {n : Nat} (h : 1 ≤ n ∧ n ≤ 40000) : Whole (newS n) := ⟨h, by simp [newS], fun _ h => (by cases h), fun _ h => (by cases h)⟩
theorem Whole.write {s : DS} (h : Whole s) (k : Int) (b : ByteArray) : Whole (writeS s k b).1 := by
  unfold writeS
  split
  · exact h
  · split
    · exact h
    · split
      · exact h
      · refine ⟨h.many, doneL_ok h.left, h.sync, fun w hw => ?_⟩
        rcases List.mem_append.1 hw with hw | hw
        · exact h.loose w hw
        · simp at hw
          subst hw
          simp only
          omega
theorem Whole.sync' {s : DS} (h : Whole s) : Whole (syncS s).1 := by
  unfold syncS
  split
  · exact h
  · refine ⟨h.many, doneL_ok h.left, fun w hw => ?_, fun _ h => (by cases h)⟩
    rcases List.mem_append.1 hw with hw | hw
    · exact h.sync w hw
    · exact h.loose w hw
theorem Whole.stop {s : DS} (h : Whole s) (n : Int) : Whole (stopS s n).1 := by
  unfold stopS
  split
  · exact h
  · exact ⟨h.many, by simp only; omega, h.sync, h.loose⟩
theorem tornB_size {tear : Nat} {b old : ByteArray} (ht : tear ≤ 63) (hb : b.size = 64) (ho : old.size = 64) : (tornB tear b old).size = 64 := by
  unfold tornB
  rw [ByteArray.size_append, ByteArray.size_extract, ByteArray.size_extract]
  omega
theorem getD_mem {α : Type} {l : List α} {i : Nat} {d : α} (h : i < l.length) : l.getD i d ∈ l := by
  rw [List.getD_eq_getElem?_getD, List.getElem?_eq_getElem h]
  exact List.getElem_mem h
theorem crashF_whole {keep : List Bool} {loose sync : List (Nat × ByteArray)} {tear m : Nat} {torn : Int} (ht : tear ≤ 63) (hs : ∀ w ∈ sync, w.1 < m ∧ w.2.size = 64) (hl : ∀ w ∈ loose, w.1 < m ∧ w.2.size = 64) :
    ∀ i, i ≤ loose.length → ∀ w ∈ crashF keep loose tear torn sync i, w.1 < m ∧ w.2.size = 64
  | 0, _ => hs
  | i + 1, hi => by
    have ih := crashF_whole (keep := keep) (tear := tear) (torn := torn) ht hs hl i (by omega)
    have hm := hl _ (getD_mem (d := (0, secS 0)) (show i < loose.length by omega))
    unfold crashF
    split
    · intro w hw
      rcases List.mem_append.1 hw with hw | hw
      · exact ih w hw
      · simp only [List.mem_singleton] at hw
        subst hw
        refine ⟨hm.1, ?_⟩
        simp only
        split
        · exact tornB_size ht hm.2 (lastS_size (fun w hw => (ih w hw).2) _)
        · exact hm.2
    · exact ih
theorem tornS_range (s : DS) (keep : List Bool) : -1 ≤ tornS s keep ∧ (tornS s keep + 1).toNat ≤ s.loose.length ∧ (tornS s keep + 1).toNat ≤ keep.length := by
  have := tornF_range keep (min s.loose.length keep.length)
  unfold tornS
  omega
theorem Whole.crash {s : DS} (h : Whole s) (tear : Int) (keep : List Bool) : Whole (crashS s tear keep).1 := by
  unfold crashS
  split
  · exact h
  · exact ⟨h.many, by simp, crashF_whole (by omega) h.sync h.loose _ (tornS_range s keep).2.1, fun _ h => (by cases h)⟩

/-- What was synced is there, but where a loose write to the same sector was kept. -/
theorem crashF_apart (keep : List Bool) (loose sync : List (Nat × ByteArray)) (tear k : Nat) (torn : Int) : ∀ i, (∀ j, j < i → keep.getD j false = true → (loose.getD j (0, secS 0)).1 ≠ k) → lastS (crashF keep loose tear torn sync i) k = lastS sync k
  | 0, _ => rfl
  | i + 1, h => by
    have ih := crashF_apart keep loose sync tear k torn i (fun j hj => h j (by omega))
    unfold crashF
    split
    · rename_i hk
      rw [lastS_snoc, if_neg (h i (by omega) hk)]
      exact ih
    · exact ih
/-- A crash that keeps all, and tears none. -/
theorem crashF_all (loose sync : List (Nat × ByteArray)) (torn : Int) (m : Nat) : ∀ i, i ≤ loose.length → i ≤ m → crashF (List.replicate m true) loose 0 torn sync i = sync ++ loose.take i
  | 0, _, _ => by simp [crashF]
  | i + 1, hi, hm => by
    have ih := crashF_all loose sync torn m i (by omega) (by omega)
    have hk : (List.replicate m true).getD i false = true := by
      rw [List.getD_eq_getElem?_getD, List.getElem?_replicate, if_pos (by omega)]; rfl
    unfold crashF
    rw [if_pos hk, ih, List.append_assoc]
    congr 1
    have hg := List.getElem?_eq_getElem (show i < loose.length by omega)
    rw [List.take_add_one, hg]
    simp only [Option.toList_some, List.getD_eq_getElem?_getD, hg, Option.getD_some]
    rw [if_neg (by omega)]
theorem tornF_all (m : Nat) : ∀ n, n ≤ m → tornF (List.replicate m true) n = (n : Int) - 1
  | 0, _ => by simp [tornF]
  | n + 1, h => by
    have hk : (List.replicate m true).getD n false = true := by
      rw [List.getD_eq_getElem?_getD, List.getElem?_replicate, if_pos (by omega)]; rfl
    unfold tornF
    rw [if_pos hk]
    omega
theorem crash_all (s : DS) : crashS s 0 (List.replicate s.loose.length true) = (⟨s.many, s.sync ++ s.loose, [], -1⟩, 0) := by
  have e : tornS s (List.replicate s.loose.length true) = (s.loose.length : Int) - 1 := by
    unfold tornS
    rw [List.length_replicate, Nat.min_self]
    exact tornF_all _ _ (Nat.le_refl _)
  unfold crashS
  rw [if_neg (by omega), e]
  have h := crashF_all s.loose s.sync ((s.loose.length : Int) - 1) s.loose.length s.loose.length (Nat.le_refl _) (Nat.le_refl _)
  rw [List.take_length] at h
  rw [show ((s.loose.length : Int) - 1 + 1).toNat = s.loose.length by omega]
  simp [h]
end Go.Proofs.Ythbnochlpnikaaa
namespace Go.Proofs.Ythbnochlpnikaaa
open Go.RowKit Go.Shelf

/-- A slice of bytes. -/
abbrev BytesAt (w : World) (p : Option Addr) (l : List Nat) : Prop := ∀ i, i < l.length → ∃ B off, p = some ⟨B, off, none⟩ ∧ w.cell? ⟨B, off + i, none⟩ = some (.int .u8 (l.getD i 0))
theorem info5 : (Try.prog.info? 5).map (fun i => (i.zero, i.size, i.bytes)) = some (some (.int .u8 0), 1, 1) := by kernel_rfl
theorem info_parts {P : Program} {t : TypeId} {z : Value} {n k : Nat} (h : (P.info? t).map (fun i => (i.zero, i.size, i.bytes)) = some (some z, n, k)) :
    ∃ j, P.info? t = some j ∧ j.zero = some z ∧ j.size = n ∧ j.bytes = k := by
  cases hi : P.info? t with
  | none => rw [hi] at h; cases h
  | some j =>
    rw [hi] at h
    simp only [Option.map_some, Option.some.injEq, Prod.mk.injEq] at h
    exact ⟨j, rfl, h.1, h.2.1, h.2.2⟩
/-- Bytes in a slice of the call's own. -/
def RowB (w0 : World) (l : List Nat) (t : Value) (wr : World) : Prop := wr.ownsRow w0.heap.size 5 1 t l.length (l.map fun (v : Nat) => Value.int .u8 (v : Int)) ∧ Below w0.heap.size w0 wr
/-- A store into a slice of the call's own. -/
theorem ownsRow_set {w : World} {base : Nat} {e : TypeId} {g n cap i : Nat} {xs : List Value} (h : w.ownsRow base e 1 (.slice (some ⟨g, 0, none⟩) n cap) n xs) (v : Value) :
    (w.setCell ⟨g, i, none⟩ v).ownsRow base e 1 (.slice (some ⟨g, 0, none⟩) n cap) n (xs.set i v) := by
  obtain ⟨hx, h⟩ := h
  rcases h with ⟨e0, _⟩ | ⟨g', cap', cur, e0, hb, hg, hn, hm, hs, ht⟩
  · cases e0
  · injection e0 with e1 _ e3
    injection e1 with e1
    injection e1 with e1
    subst e1; subst e3
    refine ⟨by simpa using hx, .inr ⟨g, cap, cur.setIfInBounds i v, rfl, hb, ?_, hn, hm, by simpa using hs, ?_⟩⟩
    · simp [World.setCell, Array.getElem?_modify, hg]
    · rw [Array.toList_setIfInBounds, ← ht, List.take_set]
theorem ownsRow_is {w : World} {base : Nat} {e : TypeId} {v : Value} {n : Nat} {xs : List Value} (h : w.ownsRow base e 1 v n xs) (hn : 0 < n) : ∃ g cap, v = .slice (some ⟨g, 0, none⟩) n cap ∧ base ≤ g ∧ ∀ i, i < n → (∃ y, w.cell? ⟨g, i, none⟩ = some y) ∧ w.frozen? ⟨g, i, none⟩ = false := by
  obtain ⟨hx, h⟩ := h
  rcases h with ⟨_, h0⟩ | ⟨g, cap, cur, e0, hb, hg, hn', hm, hs, ht⟩
  · omega
  · refine ⟨g, cap, e0, hb, fun i hi => ⟨?_, by simp [World.frozen?, hg]⟩⟩
    have hi' : i < cur.size := by omega
    exact ⟨cur[i], by simp [World.cell?, hg, hi']⟩
def u8s (l : List Nat) : List Value := l.map fun (v : Nat) => Value.int .u8 (v : Int)
theorem addr_plain (B off j : Nat) : (⟨B, off, none⟩ : Addr).add j = ⟨B, off + j, none⟩ := by
  by_cases h : j = 0 <;> simp [Addr.add, h]
theorem conv_bytes (w : World) (B off cap n : Nat) (l : List Nat) (hn : l.length = n) (hb : ∀ b ∈ l, b < 256) (hc : ∀ j, j < l.length → w.cell? ⟨B, off + j, none⟩ = some (.int .u8 (l.getD j 0 : Nat))) :
    (convert 47 9 (.slice (some ⟨B, off, none⟩) n cap)).run Try.prog w = .ok (.string (strOf l)) w := by
  subst hn
  have := run_convert_bytes_back (P := Try.prog) w 47 9 5 ⟨B, off, none⟩ cap (l.map UInt8.ofNat) Try.underlying47 Try.underlying5 Try.underlying9 (fun j hj => by
    have hj' : j < l.length := by simpa using hj
    have h := hc j hj'
    have hlt : l[j] < 256 := hb _ (List.getElem_mem hj')
    rw [List.getD_eq_getElem?_getD, List.getElem?_eq_getElem hj'] at h
    rw [addr_plain, h]
    simp
    omega)
  simpa [strOf] using this
theorem lt_of_cell_some {w : World} {p : Addr} {v : Value} (h : w.cell? p = some v) : p.block < w.heap.size := by
  rcases Nat.lt_or_ge p.block w.heap.size with h1 | h1
  · exact h1
  · simp [World.cell?, Array.getElem?_eq_none h1] at h
theorem rowB_of_is {w w' : World} {n : Nat} {f : Nat → Value} {l : List Nat} (h : w'.rowIs w.heap.size 5 n f) (hn : l.length = n) (hm : n ≤ maxLen) (hf : ∀ i, i < n → f i = .int .u8 (l.getD i 0 : Nat)) (hb : Below w.heap.size w w') :
    RowB w l (.slice (some ⟨w.heap.size, 0, none⟩) n n) w' := by
  obtain ⟨c, hc, hs, hv⟩ := h
  subst hn
  refine ⟨⟨by simp, .inr ⟨w.heap.size, l.length, c, rfl, Nat.le_refl _, hc, Nat.le_refl _, hm, by simpa using hs, ?_⟩⟩, hb⟩
  apply List.ext_getElem
  · simp [hs]
  · intro i h1 h2
    simp at h1 h2
    have h3 := hv i (by omega)
    rw [hf i (by omega)] at h3
    have h4 : i < c.size := by omega
    rw [Array.getElem?_eq_getElem h4] at h3
    injection h3 with h3
    simp [h3, List.getD_eq_getElem?_getD, h2]
/-- Bytes of a call's own, seen from an older world. -/
theorem RowB.grow {w w1 w' : World} {l : List Nat} {t : Value} (h : RowB w1 l t w') (b : Below w.heap.size w w1) : RowB w l t w' := by
  obtain ⟨⟨h0, h1⟩, h2⟩ := h
  refine ⟨⟨h0, ?_⟩, b.trans (h2.mono b.size)⟩
  rcases h1 with h1 | ⟨g, cap, cur, e, hg, r⟩
  · exact .inl h1
  · exact .inr ⟨g, cap, cur, e, Nat.le_trans b.size hg, r⟩
/-- A string made of bytes that are there. -/
theorem conv_at (w : World) (p : Option Addr) (cap : Nat) (l : List Nat) (hb : ∀ b ∈ l, b < 256) (hc : BytesAt w p l) :
    (convert 47 9 (.slice p l.length cap)).run Try.prog w = .ok (.string (strOf l)) w := by
  cases l with
  | nil =>
    cases p with
    | none =>
      show (convert 47 9 (.slice none 0 cap)).run Try.prog w = _
      rw [run_convert_bytes_string w 47 9 5 none 0 cap Try.underlying47 Try.underlying5 Try.underlying9]
      rfl
    | some a =>
      have := run_convert_bytes_back (P := Try.prog) w 47 9 5 a cap [] Try.underlying47 Try.underlying5 Try.underlying9 (fun j hj => absurd hj (Nat.not_lt_zero j))
      simpa [strOf] using this
  | cons b l =>
    obtain ⟨B, off, rfl, -⟩ := hc 0 (by simp)
    refine conv_bytes w B off cap _ (b :: l) rfl hb fun j hj => ?_
    obtain ⟨B', off', e, c⟩ := hc j hj
    injection e with e
    injection e with e1 e2
    subst e1 e2
    exact c
theorem bytesAt_lt {w : World} {p : Option Addr} {l : List Nat} (hc : BytesAt w p l) (hne : l ≠ []) : ∃ B off, p = some ⟨B, off, none⟩ ∧ ∀ i, i < l.length → w.cell? ⟨B, off + i, none⟩ = some (.int .u8 (l.getD i 0 : Nat)) := by
  obtain ⟨B, off, rfl, -⟩ := hc 0 (List.length_pos_iff.2 hne)
  refine ⟨B, off, rfl, fun i hi => ?_⟩
  obtain ⟨B', off', e, c⟩ := hc i hi
  injection e with e
  injection e with e1 e2
  subst e1 e2
  exact c
theorem bytesAt_kept {w w' : World} {p : Option Addr} {l : List Nat} (hc : BytesAt w p l) (h : ∀ a v, w.cell? a = some v → w'.cell? a = w.cell? a) : BytesAt w' p l := by
  intro i hi
  obtain ⟨B, off, rfl, c⟩ := hc i hi
  exact ⟨B, off, rfl, (h _ _ c).trans c⟩
theorem bytesAt_below {w w' : World} {p : Option Addr} {l : List Nat} (hc : BytesAt w p l) (h : Below w.heap.size w w') : BytesAt w' p l :=
  bytesAt_kept hc fun _ _ c => h.cell (lt_of_cell_some c)
/-- Bytes of a call's own, as bytes in a slice. -/
theorem RowB.at' {w w' : World} {l : List Nat} {t : Value} (h : RowB w l t w') :
    ∃ p cap, t = .slice p l.length cap ∧ l.length ≤ cap ∧ cap ≤ maxLen ∧ BytesAt w' p l ∧ ∀ a, p = some a → w.heap.size ≤ a.block := by
  obtain ⟨⟨h0, h1⟩, hB⟩ := h
  rcases h1 with ⟨rfl, hn⟩ | ⟨g, cap, cur, rfl, hg, hh, hc, hm, hs, hx⟩
  · have : l = [] := List.eq_nil_of_length_eq_zero hn
    subst this
    exact ⟨none, 0, rfl, Nat.le_refl _, by unfold maxLen; omega, fun i hi => absurd hi (Nat.not_lt_zero i), fun a e => by cases e⟩
  · refine ⟨_, cap, rfl, hc, hm, fun i hi => ⟨g, 0, rfl, ?_⟩, fun a e => by injection e with e; subst e; exact hg⟩
    have hw : w'.ownsRow w.heap.size 5 1 (.slice (some ⟨g, 0, none⟩) l.length cap) l.length (l.map fun (v : Nat) => Value.int .u8 (v : Int)) := ⟨h0, .inr ⟨g, cap, cur, rfl, hg, hh, hc, hm, hs, hx⟩⟩
    have := hw.cellAt i (by omega)
    rw [Nat.zero_add, this]
    simp [List.getD_eq_getElem?_getD, hi]
/-- Bytes in a new block. -/
theorem bytesAt_new (w : World) (l : List Nat) (t : TypeId) : BytesAt (w.alloc (.cells (l.map fun (v : Nat) => Value.int .u8 (v : Int)).toArray t)) (some ⟨w.heap.size, 0, none⟩) l := by
  intro i hi
  refine ⟨_, _, rfl, ?_⟩
  rw [World.cell?_alloc_new]
  simp [List.getD_eq_getElem?_getD, hi]
theorem kbA {w w1 : World} {o : Obj} (h1 : Below (w.alloc o).heap.size (w.alloc o) w1) : Below w.heap.size w w1 := ((Below.refl _ _).alloc (Nat.le_refl _) o).trans (h1.mono (by simp))
theorem kbT {w w1 w2 : World} (h1 : Below w.heap.size w w1) (h2 : Below w1.heap.size w1 w2) : Below w.heap.size w w2 := h1.trans (h2.mono h1.size)
theorem kbS {w w1 : World} {o o' : Obj} (h1 : Below ((w.alloc o).heap.size + 1) ((w.alloc o).alloc o') w1) : Below w.heap.size w w1 := (((Below.refl _ _).alloc (Nat.le_refl _) o).alloc (by simp) o').trans (h1.mono (by simp; omega))
theorem bytesAt_mark (w : World) (l : List Nat) (t : TypeId) (fr : Nat × Nat) : BytesAt (w.alloc (.cells (l.map fun (v : Nat) => Value.int .u8 (v : Int)).toArray t fr)) (some ⟨w.heap.size, 0, none⟩) l := by
  intro i hi
  refine ⟨_, _, rfl, ?_⟩
  rw [World.cell?_alloc_mark]
  simp [List.getD_eq_getElem?_getD, hi]
theorem strOf_inj {l m : List Nat} (hl : ∀ b ∈ l, b < 256) (hm : ∀ b ∈ m, b < 256) (h : strOf l = strOf m) : l = m := by
  unfold strOf at h
  injection h with h
  have h2 := congrArg Array.toList h
  simp only at h2
  have inj : ∀ (x y : List Nat), (∀ b ∈ x, b < 256) → (∀ b ∈ y, b < 256) → x.map UInt8.ofNat = y.map UInt8.ofNat → x = y := by
    intro x
    induction x with
    | nil => intro y _ _ e; cases y with
      | nil => rfl
      | cons b t => simp at e
    | cons a x ih =>
      intro y hx hy e
      cases y with
      | nil => simp at e
      | cons b y =>
        simp only [List.map_cons, List.cons.injEq] at e
        have h1 := congrArg UInt8.toNat e.1
        have ha := hx a (by simp)
        have hb := hy b (by simp)
        simp only [UInt8.toNat_ofNat'] at h1
        rw [Nat.mod_eq_of_lt ha, Nat.mod_eq_of_lt hb] at h1
        rw [h1, ih y (fun b hb => hx b (by simp [hb])) (fun b hb => hy b (by simp [hb])) e.2]
  exact inj l m hl hm (by simpa using h2)
theorem bytesAt_take {w : World} {p : Option Addr} {l : List Nat} (h : BytesAt w p l) (n : Nat) : BytesAt w p (l.take n) := by
  intro i hi
  rw [List.length_take] at hi
  obtain ⟨B, off, e, c⟩ := h i (by omega)
  exact ⟨B, off, e, by rw [c]; simp [List.getD_eq_getElem?_getD, List.getElem?_take, show i < n by omega]⟩
theorem kbD {w w1 : World} (h : Below w.drew.heap.size w.drew w1) : Below w.heap.size w w1 := ((Below.refl _ _).drew).trans h
theorem bytesAt_drewN {w : World} {p : Option Addr} {l : List Nat} (h : BytesAt w p l) (n : Nat) : BytesAt (w.drewN n) p l := fun i hi => by
  obtain ⟨B, off, e, c⟩ := h i hi
  exact ⟨B, off, e, by rw [← c]; simp⟩
theorem str_beq (s t : ByteArray) : (s.toList == t.toList) = decide (s = t) := by
  rw [ByteArray.toList_eq, ByteArray.toList_eq]
  by_cases h : s = t
  · subst h; simp
  · rw [decide_eq_false h]
    apply Bool.eq_false_iff.2
    intro e
    have e2 := eq_of_beq e
    apply h
    cases s; cases t
    simp only [ByteArray.mk.injEq]
    exact Array.toList_inj.1 e2
theorem below_any {w w1 w2 : World} (h1 : Below w.heap.size w w1) (h2 : Below w1.heap.size w1 w2) : Below w.heap.size w w2 := h1.trans (h2.mono h1.size)
theorem wrap_u64 (n : Int) (h0 : 0 ≤ n) (h : n < 18446744073709551616) : IntKind.u64.wrap n = n := by
  simp [IntKind.wrap, IntKind.signed, IntKind.bits]; omega
theorem wrap_u32 (n : Int) : IntKind.u32.wrap n = n % 4294967296 := by
  simp [IntKind.wrap, IntKind.signed, IntKind.bits]
theorem wpAnyH_turn {P : Program} {md : Region.Mode} {ops : Array Oper} {Q : Exit → Act → World → Prop} {S S' : World → Prop} (hi : ∀ w, S' w → S w) : ∀ (fuel : Nat) (listed : Array Bool) (a : Act) (w : World), wpAnyH P md ops Q S' fuel listed a w → wpAnyH P md ops Q S fuel listed a w
  | 0, _, _, _, h => h
  | fuel + 1, _, _, _, h => ⟨h.1, fun i hm => wpOp_mono (fun a' w' h' => ⟨hi _ h'.1, wpAnyH_turn hi fuel _ a' w' h'.2⟩) (h.2 i hm)⟩
theorem conv_later {w w' : World} {l : List Nat} {p : Option Addr} (h : BytesAt w p l) (hb : ∀ b ∈ l, b < 256) (hB : Below w.heap.size w w') (cap : Nat) :
    (convert 47 9 (.slice p l.length cap)).run Try.prog w' = .ok (.string (strOf l)) w' := conv_at w' p cap l hb (bytesAt_below h hB)
end Go.Proofs.Ythbnochlpnikaaa
namespace Go.Proofs.Ythbnochlpnikaaa
open Go.RowKit Go.Shelf

def wcells : List (Nat × ByteArray) → List Value
  | [] => []
  | x :: l => .int .i64 x.1 :: .string x.2 :: wcells l
theorem wcells_length (l : List (Nat × ByteArray)) : (wcells l).length = l.length * 2 := by
  induction l with
  | nil => rfl
  | cons x l ih => simp only [wcells, List.length_cons, ih]; omega
theorem wcells_append (l m : List (Nat × ByteArray)) : wcells (l ++ m) = wcells l ++ wcells m := by
  induction l with
  | nil => rfl
  | cons x l ih => simp only [wcells, List.cons_append, ih]
theorem wcells_get (l : List (Nat × ByteArray)) : ∀ (i : Nat) (x : Nat × ByteArray), l[i]? = some x → (wcells l)[2 * i]? = some (.int .i64 x.1) ∧ (wcells l)[2 * i + 1]? = some (.string x.2) := by
  induction l with
  | nil => intro i x h; cases h
  | cons y l ih =>
    intro i x h
    cases i with
    | zero => simp at h; subst h; exact ⟨rfl, rfl⟩
    | succ i =>
      have := ih i x (by simpa using h)
      rw [show 2 * (i + 1) = 2 * i + 1 + 1 by omega]
      exact this
theorem wcells_one (l : List (Nat × ByteArray)) : ∀ u ∈ wcells l, u.oneCell' = true := by
  induction l with
  | nil => intro u hu; cases hu
  | cons x l ih =>
    intro u hu
    simp only [wcells, List.mem_cons] at hu
    rcases hu with rfl | rfl | hu
    · rfl
    · rfl
    · exact ih u hu
/-- A slice of writes. -/
def WritesAt (w : World) (p : Option Addr) (l : List (Nat × ByteArray)) : Prop := ∀ i x, l[i]? = some x → ∃ B off, p = some ⟨B, off, none⟩ ∧ w.cell? ⟨B, off + 2 * i, none⟩ = some (.int .i64 x.1) ∧ w.cell? ⟨B, off + (2 * i + 1), none⟩ = some (.string x.2)
theorem WritesAt.nil (w : World) (p : Option Addr) : WritesAt w p [] := fun i x h => by cases h
theorem WritesAt.kept {w w' : World} {p : Option Addr} {l : List (Nat × ByteArray)} (h : WritesAt w p l) (hk : ∀ a v, w.cell? a = some v → w'.cell? a = some v) : WritesAt w' p l := fun i x hx => by
  obtain ⟨B, off, e, c, d⟩ := h i x hx
  exact ⟨B, off, e, hk _ _ c, hk _ _ d⟩
theorem below_kept {w w' : World} (h : Below w.heap.size w w') : ∀ a v, w.cell? a = some v → w'.cell? a = some v := fun a v c => (h.cell (lt_of_cell_some c)).trans c
theorem WritesAt.below {w w' : World} {p : Option Addr} {l : List (Nat × ByteArray)} (h : WritesAt w p l) (hb : Below w.heap.size w w') : WritesAt w' p l := h.kept (below_kept hb)
theorem WritesAt.drew {w : World} {p : Option Addr} {l : List (Nat × ByteArray)} (h : WritesAt w p l) : WritesAt w.drew p l := h.below ((Below.refl _ _).drew)
theorem WritesAt.news {w : World} {ad : Addr} : ∀ {l : List (Nat × ByteArray)}, WritesAt w (some ad) l → ∀ (j : Nat) (u : Value), (wcells l)[j]? = some u → w.cell? (ad.add j) = some u := by
  intro l h j u hu
  have hj : j < l.length * 2 := by
    rw [← wcells_length]
    exact (List.getElem?_eq_some_iff.1 hu).1
  obtain ⟨x, hx⟩ : ∃ x, l[j / 2]? = some x := ⟨_, List.getElem?_eq_getElem (by omega)⟩
  obtain ⟨B, off, e, c, d⟩ := h _ x hx
  obtain ⟨g1, g2⟩ := wcells_get l _ x hx
  injection e with e
  subst e
  rw [addr_plain]
  rcases Nat.mod_two_eq_zero_or_one j with hm | hm
  · rw [show 2 * (j / 2) = j by omega] at c g1
    rw [g1] at hu
    rw [c, hu]
  · rw [show 2 * (j / 2) + 1 = j by omega] at d g2
    rw [g2] at hu
    rw [d, hu]
/-- Writes in a slice of the call's own. -/
def RowW (w0 : World) (l : List (Nat × ByteArray)) (t : Value) (wr : World) : Prop := wr.ownsRow w0.heap.size 80 2 t l.length (wcells l) ∧ Below w0.heap.size w0 wr
theorem RowW.at' {w w' : World} {l : List (Nat × ByteArray)} {t : Value} (h : RowW w l t w') :
    ∃ p cap, t = .slice p l.length cap ∧ l.length ≤ cap ∧ cap ≤ maxLen ∧ WritesAt w' p l ∧ (p = none → cap = 0) ∧ (∀ B off, p = some ⟨B, off, none⟩ → w.heap.size ≤ B ∧ B < w'.heap.size) := by
  obtain ⟨⟨h0, h1⟩, hB⟩ := h
  rcases h1 with ⟨rfl, hn⟩ | ⟨g, cap, cur, rfl, hg, hh, h2, h3, h4, h5⟩
  · refine ⟨none, 0, by rw [hn], by omega, by unfold maxLen; omega, ?_, fun _ => rfl, (fun B off e => by cases e)⟩
    have : l = [] := List.eq_nil_of_length_eq_zero hn
    subst this
    exact WritesAt.nil _ _
  · refine ⟨some ⟨g, 0, none⟩, cap, rfl, h2, h3, fun i x hx => ?_, (fun e => by cases e), (fun B off e => by injection e with e; injection e with e1 e2; subst e1; exact ⟨hg, (Array.getElem?_eq_some_iff.1 hh).1⟩)⟩
    have hil : i < l.length := (List.getElem?_eq_some_iff.1 hx).1
    obtain ⟨g1, g2⟩ := wcells_get l i x hx
    rw [← h5] at g1 g2
    rw [List.getElem?_take, if_pos (by omega)] at g1 g2
    refine ⟨g, 0, rfl, ?_, ?_⟩
    · simp only [World.cell?, hh, Nat.zero_add]
      simpa using g1
    · simp only [World.cell?, hh, Nat.zero_add]
      simpa using g2
theorem RowW.grow {w w1 w' : World} {l : List (Nat × ByteArray)} {t : Value} (h : RowW w1 l t w') (b : Below w.heap.size w w1) : RowW w l t w' := by
  obtain ⟨⟨h0, h1⟩, hB⟩ := h
  refine ⟨⟨h0, ?_⟩, below_any b hB⟩
  rcases h1 with h1 | ⟨g, cap, cur, e, hg, rest⟩
  · exact .inl h1
  · exact .inr ⟨g, cap, cur, e, Nat.le_trans b.size hg, rest⟩
theorem infoW : (Try.prog.info? 80).map (fun i => (i.zero, i.size, i.bytes)) = some (some (.agg #[.int .i64 0, .string ⟨#[]⟩]), 2, 24) := by kernel_rfl
theorem RowW.empty (w : World) : RowW w [] (.slice (some ⟨w.heap.size, 0, none⟩) 0 0) (w.alloc (.cells #[] 80)) :=
  ⟨⟨rfl, .inr ⟨w.heap.size, 0, #[], rfl, Nat.le_refl _, heap_alloc_new _ _, Nat.le_refl _, by unfold maxLen; omega, rfl, rfl⟩⟩, (Below.refl _ _).alloc (Nat.le_refl _) _⟩
set_option maxRecDepth 100000 in
/-- Writes are appended to the call's own. -/
theorem wpList_append_writes {ops : Array Oper} {rest : List Oper} {o : Oper} {a : Act} {w : World} {Q : Exit → Act → World → Prop} (hgd : o.guard = none) (s x : Operand)
    (ho : o.op = .call { callee := .builtin .append, args := #[s, x], argTypes := #[33, 33] })
    {w0 : World} {l m : List (Nat × ByteArray)} {v : Value} {q : Option Addr} {c : Nat} (hs : a.eval s = v) (hR : RowW w0 l v w) (hx : a.eval x = .slice q m.length c) (hq : q = none → c = 0) (hm : WritesAt w q m) (hb : l.length + m.length ≤ 100000)
    (h : ∀ v' w', RowW w0 (l ++ m) v' w' → wpList Try.prog ops Q rest (a.put o.dst v') w') : wpList Try.prog ops Q (o :: rest) a w := by
  obtain ⟨j0, hj, hz0, hz1, hz2⟩ := info_parts infoW
  have hown := hR.1
  have hbs := hR.2.size
  cases q with
  | none =>
    have hm0 : m = [] := by
      cases m with
      | nil => rfl
      | cons b t => obtain ⟨B, off, e, -⟩ := hm 0 b rfl; cases e
    subst hm0
    have hc := hq rfl
    subst hc
    refine wpList_append_own_none hgd s x _ ho w0.heap.size 80 j0 2 Try.underlying33 hj v _ _ hs hown hx ?_
    refine h v w ?_
    rw [List.append_nil]
    exact hR
  | some ad =>
    refine wpList_append_own w hgd s x _ ho w0.heap.size 80 j0 (.agg #[.int .i64 0, .string ⟨#[]⟩]) 2 24 Try.underlying33 hj hz0 hz1 hz2 rfl (by decide) v _ _ hs hown ad m.length c (wcells m) hx (wcells_length m) hm.news (wcells_one m) (by unfold maxLen; omega) (by omega) hbs ?_
    intro v' w' h1 h2 _
    have hB' := hR.2.grown h2 hbs (fun j hj => (hown.lt j hj).1)
    refine h v' w' ⟨?_, hB'⟩
    rw [List.length_append, wcells_append]
    exact h1
end Go.Proofs.Ythbnochlpnikaaa
namespace Go.Proofs.Ythbnochlpnikaaa
open Go.RowKit Go.Shelf

theorem replicate_getD (n i : Nat) : (List.replicate n 0).getD i 0 = 0 := by
  rw [List.getD_eq_getElem?_getD, List.getElem?_replicate]
  split <;> rfl
theorem make64 (w : World) : (Instr.makeSlice 47 (.int .i64 64) (.int .i64 64)).run Try.prog w = .ok (.slice (some ⟨w.heap.size, 0, none⟩) 64 64) (w.alloc (.cells (madeCells #[.int .u8 0] 64) 5)) :=
  run_make_row' (P := Try.prog) 47 5 (.int .u8 0) 1 Try.underlying47 info5 rfl .i64 .i64 64 (by omega) (by omega) w
theorem bytes64 (w : World) : BytesAt (w.alloc (.cells (madeCells #[.int .u8 0] 64) 5)) (some ⟨w.heap.size, 0, none⟩) (List.replicate 64 0) := fun i hi => by
  have hi' : i < 64 := by simpa using hi
  refine ⟨w.heap.size, 0, rfl, ?_⟩
  rw [Nat.zero_add, (World.rowIs_made w (.int .u8 0) 64 5).cell hi']
  rw [replicate_getD]
  rfl
theorem conv64 (w : World) : (convert 47 9 (.slice (some ⟨w.heap.size, 0, none⟩) 64 64)).run Try.prog (w.alloc (.cells (madeCells #[.int .u8 0] 64) 5)) = .ok (.string (secS 0)) (w.alloc (.cells (madeCells #[.int .u8 0] 64) 5)) := by
  have := conv_at (w.alloc (.cells (madeCells #[.int .u8 0] 64) 5)) (some ⟨w.heap.size, 0, none⟩) 64 (List.replicate 64 0) (fun b hb => by rw [List.mem_replicate] at hb; omega) (bytes64 w)
  rw [List.length_replicate] at this
  exact this
set_option maxRecDepth 100000 in
set_option maxHeartbeats 1000000 in
theorem last_any (l : List (Nat × ByteArray)) (p : Option Addr) (cap k : Nat) (w : World) (hl : l.length ≤ 100000) (hc : Hid (WritesAt w p l)) :
    Calls Try.prog 31 #[.slice p l.length cap, .int .i64 k] w fun r w' => r = .returned (.string (lastS l k)) ∧ Below w.heap.size w w' := by
  have hmk := make64 w
  have hcv := conv64 w
  have B0 : Below w.heap.size w (w.alloc (.cells (madeCells #[.int .u8 0] 64) 5)) := (Below.refl _ _).alloc (Nat.le_refl _) _
  have C0 := Lib.hid (hc.out.below B0)
  go_enter Try.func31, Try.ntmps31
  go_wp2
  generalize w.alloc (.cells (madeCells #[.int .u8 0] 64) 5) = w1 at *
  clear hmk hcv
  have HB := Lib.hid B0
  clear B0
  go_loop [5, 6] (fun s i => ∃ n : Nat, n ≤ l.length ∧ i = .int .i64 n ∧ s = .string (lastS (l.take n) k)) (fun _ i => (l.length - intOf i).toNat)
  case atStart => exact ⟨0, Nat.zero_le _, by first | rfl | go_num, rfl⟩
  case round =>
    obtain ⟨n, hn, rfl, rfl⟩ := hrel
    by_cases hlt : n < l.length
    · obtain ⟨x, hx⟩ : ∃ x, l[n]? = some x := ⟨_, List.getElem?_eq_getElem hlt⟩
      obtain ⟨B, off, rfl, c1, c2⟩ := C0.out n x hx
      have hnx := Lib.hid (lastS_next hx k)
      clear hx
      have e1 : off + 2 * n = off + n * 2 := by omega
      have e2 : off + (2 * n + 1) = off + n * 2 + 1 := by omega
      rw [e1] at c1
      rw [e2] at c2
      clear e1 e2
      by_cases hk : x.1 = k
      · have hk2 : ((x.1 : Int) == (k : Int)) = true := by rw [hk]; simp
        have hs := hnx.out
        rw [if_pos hk] at hs
        have HS := Lib.hid hs
        clear hs hnx
        clear hk
        go_wp2
        go_round
        case rel => exact ⟨n + 1, hlt, by first | rfl | go_num, by rw [HS.out]⟩
        case measure => simp [intOf]; omega
      · have hk2 : ((x.1 : Int) == (k : Int)) = false := by simp only [beq_eq_false_iff_ne, ne_eq]; omega
        have hs := hnx.out
        rw [if_neg hk] at hs
        have HS := Lib.hid hs
        clear hs hnx
        clear hk
        go_wp2
        go_round
        case rel => exact ⟨n + 1, hlt, by first | rfl | go_num, by rw [HS.out]⟩
        case measure => simp [intOf]; omega
    · obtain rfl : n = l.length := by omega
      go_wp2
      go_ret
      exact ⟨rfl, HB.out⟩
end Go.Proofs.Ythbnochlpnikaaa
namespace Go.Proofs.Ythbnochlpnikaaa
open Go.RowKit Go.Shelf

/-- The four words of a disk. -/
structure RefAt (w : World) (s : DS) (p : Option Addr) (c : Nat) (q : Option Addr) (d : Nat) : Prop where
  pc : p = none → c = 0
  qd : q = none → d = 0
  cl : s.sync.length ≤ c ∧ c ≤ 9223372036854775807
  dl : s.loose.length ≤ d ∧ d ≤ 9223372036854775807
  sync : WritesAt w p s.sync
  loose : WritesAt w q s.loose
def refV (s : DS) (p : Option Addr) (c : Nat) (q : Option Addr) (d : Nat) : Value := .agg #[.int .i64 s.many, .slice p s.sync.length c, .slice q s.loose.length d, .int .i64 s.left]
theorem RefAt.below {w w' : World} {s : DS} {p : Option Addr} {c : Nat} {q : Option Addr} {d : Nat} (h : RefAt w s p c q d) (hb : Below w.heap.size w w') : RefAt w' s p c q d :=
  ⟨h.pc, h.qd, h.cl, h.dl, h.sync.below hb, h.loose.below hb⟩
def RefD (w : World) (v : Value) (s : DS) : Prop := ∃ p c q d, v = refV s p c q d ∧ RefAt w s p c q d
theorem RefD.below {w w' : World} {v : Value} {s : DS} (h : RefD w v s) (hb : Below w.heap.size w w') : RefD w' v s := by
  obtain ⟨p, c, q, d, e, h⟩ := h
  exact ⟨p, c, q, d, e, h.below hb⟩
set_option maxRecDepth 100000 in
/-- Writes are appended to the call's own, as one step of a region that draws. -/
theorem step_append_writes {ops : Array Oper} {o : Oper} {a : Act} {w : World} {K : Act → World → Prop} {Q : Exit → Act → World → Prop} {E : Prop} (hgd : o.guard = none) (s x : Operand)
    (ho : o.op = .call { callee := .builtin .append, args := #[s, x], argTypes := #[33, 33] })
    {w0 : World} {l m : List (Nat × ByteArray)} {v : Value} {q : Option Addr} {c : Nat} (hs : a.eval s = v) (hR : RowW w0 l v w) (hx : a.eval x = .slice q m.length c) (hq : q = none → c = 0) (hm : WritesAt w q m) (hb : l.length + m.length ≤ 100000)
    (h : ∀ v' w', RowW w0 (l ++ m) v' w' → K (a.put o.dst v') w') : if Region.wanted o (yielded ops a.tmps) = true then Oper.wp Try.prog o a w K Q else E := by
  have hw : Region.wanted o (yielded ops a.tmps) = true := by simp [Region.wanted, hgd]
  rw [if_pos hw]
  obtain ⟨j0, hj, hz0, hz1, hz2⟩ := info_parts infoW
  have hown := hR.1
  have hbs := hR.2.size
  cases q with
  | none =>
    have hm0 : m = [] := by
      cases m with
      | nil => rfl
      | cons b t => obtain ⟨B, off, e, -⟩ := hm 0 b rfl; cases e
    subst hm0
    have hc := hq rfl
    subst hc
    have hrun := run_append_owned_none (P := Try.prog) (w := w) w0.heap.size 33 o.type 80 j0 2 Try.underlying33 hj v _ _ hown
    unfold Oper.wp
    have hx' : a.eval x = .slice none 0 0 := hx
    simp [execOp, ho, resolve, invoke, builtin, hs, hx', hrun, Result.andThen]
    refine h v w ?_
    rw [List.append_nil]
    exact hR
  | some ad =>
    refine wp_append_own w s x _ ho w0.heap.size 80 j0 (.agg #[.int .i64 0, .string ⟨#[]⟩]) 2 24 Try.underlying33 hj hz0 hz1 hz2 rfl (by decide) v _ _ hs hown ad m.length c (wcells m) hx (wcells_length m) hm.news (wcells_one m) (by unfold maxLen; omega) (by omega) hbs ?_
    intro v' w' h1 h2 _
    refine h v' w' ⟨?_, hR.2.grown h2 hbs (fun j hj => (hown.lt j hj).1)⟩
    rw [List.length_append, wcells_append]
    exact h1
theorem kbX {w w1 : World} {o : Obj} (h : Below (w.alloc o).drew.heap.size (w.alloc o).drew w1) : Below w.heap.size w w1 :=
  (((Below.refl _ _).alloc (Nat.le_refl _) o).drew).trans (h.mono (by simp))
set_option maxRecDepth 100000 in
set_option maxHeartbeats 300000 in
theorem sector_any (s : DS) (p : Option Addr) (c : Nat) (q : Option Addr) (d : Nat) (k : Nat) (w : World) (hn : s.sync.length ≤ 50000) (hm : s.loose.length ≤ 50000) (R : Hid (RefAt w s p c q d)) :
    Calls Try.prog 36 #[refV s p c q d, .int .i64 k] w fun r w' => r = .returned (.string (sectorS s k)) ∧ Below w.heap.size w w' := by
  unfold refV
  generalize hW0 : w.alloc (.cells #[.int .i64 s.many, .slice p s.sync.length c, .slice q s.loose.length d, .int .i64 s.left] 35) = w0
  have B0 : Below w.heap.size w w0.drew := by subst hW0; exact ((Below.refl _ _).alloc (Nat.le_refl _) _).drew
  have RS := Lib.hid (R.out.sync.below B0)
  have RL := Lib.hid (R.out.loose.below B0)
  have hq1 := Lib.hid R.out.pc
  have hq2 := Lib.hid R.out.qd
  have hw0 : w.heap.size + 1 = w0.heap.size := by subst hW0; simp
  have HW := Lib.hid hw0
  have RowE : Hid (RowW w0.drew [] (.slice (some ⟨w0.heap.size, 0, none⟩) 0 0) (w0.alloc (.cells #[] 80)).drew) := Lib.hid (RowW.empty w0.drew)
  have x1 : w0.cell? ⟨w.heap.size, 1, none⟩ = some (.slice p s.sync.length c) := by subst hW0; go_cell
  have x2 : w0.cell? ⟨w.heap.size, 2, none⟩ = some (.slice q s.loose.length d) := by subst hW0; go_cell
  clear hw0
  have MK : Hid (∀ w', Below w0.drew.heap.size w0.drew w' → w'.cell? ⟨w.heap.size, 1, none⟩ = some (.slice p s.sync.length c) ∧ w'.cell? ⟨w.heap.size, 2, none⟩ = some (.slice q s.loose.length d) ∧ Below w0.drew.heap.size w0.drew w') := Lib.hid fun w' h => by
    have := HW.out
    exact ⟨(h.cell (p := ⟨w.heap.size, 1, none⟩) (by simp; omega)).trans (by simpa using x1), (h.cell (p := ⟨w.heap.size, 2, none⟩) (by simp; omega)).trans (by simpa using x2), h⟩
  go_enter Try.func36, Try.ntmps36
  go_wp2
  clear hW0 x1 x2
  have HBx : Hid (Below w0.drew.heap.size w0.drew (w0.alloc (.cells #[] 80)).drew) := Lib.hid RowE.out.2
  go_region_held3 (fun w' => w'.cell? ⟨w.heap.size, 1, none⟩ = some (.slice p s.sync.length c) ∧ w'.cell? ⟨w.heap.size, 2, none⟩ = some (.slice q s.loose.length d) ∧ Below w0.drew.heap.size w0.drew w')
    (first
      | assumption
      | (with_reducible exact MK.out _ (Below.refl _ _))
      | (with_reducible exact MK.out _ HBx.out))
    (first
      | (refine step_append_writes rfl (.tmp 5) (.tmp 7) rfl rfl RowE.out rfl hq1.out (RS.out.below HBx.out) (by simp; omega) ?_; intro v1 w1 hR1; have HBx := Lib.hid hR1.2; have RowB1 := Lib.hid hR1; clear hR1)
      | (refine step_append_writes rfl (.tmp 8) (.tmp 10) rfl rfl RowB1.out rfl hq2.out (RL.out.below HBx.out) (by simp; omega) ?_; intro v2 w2 hR2; have HBx := Lib.hid hR2.2; obtain ⟨p2, c2, rfl, -, -, hw2, -, -⟩ := hR2.at'; have LA := Lib.hid (last_any ([] ++ s.sync ++ s.loose) p2 c2 k _ (by simp; omega) (Lib.hid hw2)); simp only [List.nil_append, List.length_append] at LA; clear hw2 hR2)
      | (go_at_call 31; (with_reducible refine LA.out.mono ?_); rintro e w3 ⟨rfl, hb3⟩; have HBx := Lib.hid (below_any HBx.out hb3); clear hb3))
  go_wp2
  go_ret
  exact ⟨rfl, below_any B0 HBx.out⟩
end Go.Proofs.Ythbnochlpnikaaa
namespace Go.Proofs.Ythbnochlpnikaaa
open Go.RowKit Go.Shelf

theorem refAt_new (w : World) (n : Nat) : RefAt w (newS n) none 0 none 0 := ⟨fun _ => rfl, fun _ => rfl, ⟨Nat.le_refl _, by omega⟩, ⟨Nat.le_refl _, by omega⟩, WritesAt.nil _ _, WritesAt.nil _ _⟩
set_option maxRecDepth 100000 in
theorem refNew_any (n : Nat) (w : World) :
    Calls Try.prog 8 #[.int .i64 n] w fun r w' => r = .returned (refV (newS n) none 0 none 0) ∧ Below w.heap.size w w' := by
  go_enter Try.func8, Try.ntmps8
  go_wp2
  refine bodyPost_ret (v := refV (newS n) none 0 none 0) ?_ rfl ⟨rfl, ?_⟩
  · simp [results, Try.results8, go_sem, refV, newS]
  · go_grown
set_option maxRecDepth 100000 in
theorem refDone_any (m : Nat) (p : Option Addr) (n c : Nat) (q : Option Addr) (o d : Nat) (left : Int) (hl : -1 ≤ left ∧ left ≤ 9223372036854775807) (w : World) :
    Calls Try.prog 51 #[.agg #[.int .i64 m, .slice p n c, .slice q o d, .int .i64 left]] w fun r w' => r = .returned (.agg #[.int .i64 m, .slice p n c, .slice q o d, .int .i64 (doneL left)]) ∧ Below w.heap.size w w' := by
  by_cases h : 0 < left
  · have e : doneL left = left - 1 := by unfold doneL; rw [if_pos h]
    rw [e]
    clear e
    go_enter Try.func51, Try.ntmps51
    go_wp2
    refine bodyPost_ret (v := .agg #[.int .i64 m, .slice p n c, .slice q o d, .int .i64 (left - 1)]) ?_ rfl ⟨rfl, ?_⟩
    · simp [results, Try.results51, go_sem]
    · go_grown
  · have e : doneL left = left := by unfold doneL; rw [if_neg h]
    rw [e]
    clear e
    go_enter Try.func51, Try.ntmps51
    go_wp2
    refine bodyPost_ret (v := .agg #[.int .i64 m, .slice p n c, .slice q o d, .int .i64 left]) ?_ rfl ⟨rfl, ?_⟩
    · simp [results, Try.results51, go_sem]
    · go_grown
/-- A list of writes lies where one of two lay, or in new memory. -/
def From (w w' : World) (p q p' : Option Addr) : Prop := ∀ B off, p' = some ⟨B, off, none⟩ → p = some ⟨B, off, none⟩ ∨ q = some ⟨B, off, none⟩ ∨ (w.heap.size ≤ B ∧ B < w'.heap.size)
theorem From.left {w w' : World} {p q : Option Addr} : From w w' p q p := fun _ _ h => .inl h
theorem From.right {w w' : World} {p q : Option Addr} : From w w' p q q := fun _ _ h => .inr (.inl h)
theorem From.none {w w' : World} {p q : Option Addr} : From w w' p q none := fun _ _ h => by cases h
/-- What an answer of a disk and an error says. -/
def RefPost (w : World) (p q : Option Addr) (s : DS × Int) (r : Ending) (w' : World) : Prop := ∃ p' c' q' d', r = .returned (.tuple #[refV s.1 p' c' q' d', .int .i64 s.2]) ∧ RefAt w' s.1 p' c' q' d' ∧ From w w' p q p' ∧ From w w' p q q' ∧ Below w.heap.size w w'
theorem refAt_same {w : World} {s t : DS} {p : Option Addr} {c : Nat} {q : Option Addr} {d : Nat} (h : RefAt w s p c q d) (h1 : t.sync = s.sync) (h2 : t.loose = s.loose) : RefAt w t p c q d :=
  ⟨h.pc, h.qd, by rw [h1]; exact h.cl, by rw [h2]; exact h.dl, by rw [h1]; exact h.sync, by rw [h2]; exact h.loose⟩
theorem stopS_neg {s : DS} {n : Int} (h : n < 0) : stopS s n = (s, 2) := by unfold stopS; rw [if_pos h]
theorem stopS_pos {s : DS} {n : Int} (h : ¬ n < 0) : stopS s n = (⟨s.many, s.sync, s.loose, n⟩, 0) := by unfold stopS; rw [if_neg h]
set_option maxRecDepth 100000 in
theorem refStop_any (s : DS) (p : Option Addr) (c : Nat) (q : Option Addr) (d : Nat) (n : Int) (w : World) (R : Hid (RefAt w s p c q d)) :
    Calls Try.prog 25 #[refV s p c q d, .int .i64 n] w (RefPost w p q (stopS s n)) := by
  by_cases h : n < 0
  · rw [stopS_neg h]
    unfold refV
    go_enter Try.func25, Try.ntmps25
    go_wp2
    refine bodyPost_ret (v := .tuple #[refV s p c q d, .int .i64 2]) ?_ rfl ⟨p, c, q, d, rfl, R.out.below ?_, .left, .right, ?_⟩
    · simp [results, Try.results25, go_sem, refV]
    · go_grown
    · go_grown
  · rw [stopS_pos h]
    unfold refV
    go_enter Try.func25, Try.ntmps25
    go_wp2
    refine bodyPost_ret (v := .tuple #[refV ⟨s.many, s.sync, s.loose, n⟩ p c q d, .int .i64 0]) ?_ rfl ⟨p, c, q, d, rfl, refAt_same (R.out.below ?_) rfl rfl, .left, .right, ?_⟩
    · simp [results, Try.results25, go_sem, refV]
    · go_grown
    · go_grown
end Go.Proofs.Ythbnochlpnikaaa
namespace Go.Proofs.Ythbnochlpnikaaa
open Go.RowKit Go.Shelf

def Few (s : DS) : Prop := s.sync.length ≤ 30000 ∧ s.loose.length ≤ 20000
theorem readS_low {s : DS} {k : Int} (h : k < 0) : readS s k = (⟨#[]⟩, 4) := by unfold readS; rw [if_pos (.inl h)]
theorem readS_high {s : DS} {k : Int} (h : (s.many : Int) ≤ k) : readS s k = (⟨#[]⟩, 4) := by unfold readS; rw [if_pos (.inr h)]
theorem readS_stop {s : DS} {k : Int} (h0 : ¬ k < 0) (h1 : ¬ (s.many : Int) ≤ k) (h2 : s.left = 0) : readS s k = (⟨#[]⟩, 140) := by unfold readS; rw [if_neg (by omega), if_pos h2]
theorem readS_ok {s : DS} {k : Nat} (h1 : ¬ s.many ≤ k) (h2 : ¬ s.left = 0) : readS s k = (sectorS s k, 0) := by unfold readS; rw [if_neg (by omega), if_neg h2]; rfl
set_option maxRecDepth 100000 in
theorem refRead_any (s : DS) (p : Option Addr) (c : Nat) (q : Option Addr) (d : Nat) (k : Int) (w : World) (hf : Few s) (R : Hid (RefAt w s p c q d)) :
    Calls Try.prog 27 #[refV s p c q d, .int .i64 k] w fun r w' => r = .returned (.tuple #[.string (readS s k).1, .int .i64 (readS s k).2]) ∧ Below w.heap.size w w' := by
  obtain ⟨hf1, hf2⟩ := hf
  have SA : Hid (∀ (j : Nat) w', Below w.heap.size w w' → Calls Try.prog 36 #[.agg #[.int .i64 s.many, .slice p s.sync.length c, .slice q s.loose.length d, .int .i64 s.left], .int .i64 j] w' fun r w2 => r = .returned (.string (sectorS s j)) ∧ Below w'.heap.size w' w2) :=
    Lib.hid fun j w' hb => sector_any s p c q d j w' (by omega) (by omega) (Lib.hid (R.out.below hb))
  clear R
  by_cases h0 : k < 0
  · rw [readS_low h0]
    unfold refV
    go_enter Try.func27, Try.ntmps27
    go_wp2
    go_ret2
    exact ⟨rfl, by go_grown⟩
  by_cases h1 : (s.many : Int) ≤ k
  · rw [readS_high h1]
    unfold refV
    go_enter Try.func27, Try.ntmps27
    go_wp2
    go_ret2
    exact ⟨rfl, by go_grown⟩
  obtain ⟨k, rfl⟩ := Int.eq_ofNat_of_zero_le (show 0 ≤ k by omega)
  by_cases h2 : s.left = 0
  · rw [readS_stop h0 h1 h2]
    have hz : (s.left == 0) = true := by rw [h2]; rfl
    clear h2
    unfold refV
    go_enter Try.func27, Try.ntmps27
    go_wp2
    go_ret2
    exact ⟨rfl, by go_grown⟩
  · rw [readS_ok (by omega) h2]
    have hz : (s.left == 0) = false := by simpa using h2
    clear h2
    unfold refV
    go_enter Try.func27, Try.ntmps27
    go_wp2_with fail
    refine (SA.out k _ ((Below.refl _ _).alloc (Nat.le_refl _) _)).mono ?_
    rintro e w2 ⟨rfl, hb⟩
    go_wp2
    go_ret2
    exact ⟨rfl, kbA hb⟩
end Go.Proofs.Ythbnochlpnikaaa
namespace Go.Proofs.Ythbnochlpnikaaa
open Go.RowKit Go.Shelf

/-- A block of four words that may be written. -/
structure BoxAt (w : World) (A : Nat) (a b c d : Value) : Prop where
  x0 : w.cell? ⟨A, 0, none⟩ = some a
  x1 : w.cell? ⟨A, 1, none⟩ = some b
  x2 : w.cell? ⟨A, 2, none⟩ = some c
  x3 : w.cell? ⟨A, 3, none⟩ = some d
  f0 : w.frozen? ⟨A, 0, none⟩ = false
  f1 : w.frozen? ⟨A, 1, none⟩ = false
  f2 : w.frozen? ⟨A, 2, none⟩ = false
  f3 : w.frozen? ⟨A, 3, none⟩ = false
theorem BoxAt.lt {w : World} {A : Nat} {a b c d : Value} (h : BoxAt w A a b c d) : A < w.heap.size := lt_of_cell_some h.x0
theorem BoxAt.below {w w' : World} {A : Nat} {a b c d : Value} (h : BoxAt w A a b c d) (hb : Below w.heap.size w w') : BoxAt w' A a b c d :=
  have l := h.lt
  ⟨(hb.cell (p := ⟨A, 0, none⟩) l).trans h.x0, (hb.cell (p := ⟨A, 1, none⟩) l).trans h.x1, (hb.cell (p := ⟨A, 2, none⟩) l).trans h.x2, (hb.cell (p := ⟨A, 3, none⟩) l).trans h.x3,
    (hb.frozen (p := ⟨A, 0, none⟩) l).trans h.f0, (hb.frozen (p := ⟨A, 1, none⟩) l).trans h.f1, (hb.frozen (p := ⟨A, 2, none⟩) l).trans h.f2, (hb.frozen (p := ⟨A, 3, none⟩) l).trans h.f3⟩
theorem BoxAt.new (w : World) (a b c d : Value) (t : TypeId) : BoxAt (w.alloc (.cells #[a, b, c, d] t)) w.heap.size a b c d :=
  ⟨by go_cell, by go_cell, by go_cell, by go_cell, by go_cell, by go_cell, by go_cell, by go_cell⟩
theorem syncS_stop {s : DS} (h : s.left = 0) : syncS s = (s, 140) := by unfold syncS; rw [if_pos h]
theorem syncS_ok {s : DS} (h : ¬ s.left = 0) : syncS s = (⟨s.many, s.sync ++ s.loose, [], doneL s.left⟩, 0) := by unfold syncS; rw [if_neg h]
theorem WritesAt.set {w : World} {p : Option Addr} {l : List (Nat × ByteArray)} (h : WritesAt w p l) {g : Nat} (hg : ∀ B off, p = some ⟨B, off, none⟩ → B ≠ g) (i : Nat) (v : Value) : WritesAt (w.setCell ⟨g, i, none⟩ v) p l := fun j x hx => by
  obtain ⟨B, off, e, c1, c2⟩ := h j x hx
  have hb := hg B off e
  refine ⟨B, off, e, ?_, ?_⟩
  · exact (World.cell?_setCell_other _ _ _ _ (by simp <;> omega)).trans c1
  · exact (World.cell?_setCell_other _ _ _ _ (by simp <;> omega)).trans c2
set_option maxRecDepth 100000 in
set_option maxHeartbeats 1000000 in
theorem refSync_any (s : DS) (p : Option Addr) (c : Nat) (q : Option Addr) (d : Nat) (w : World) (hf : Few s) (hl : -1 ≤ s.left ∧ s.left ≤ 9223372036854775807) (R : Hid (RefAt w s p c q d)) :
    Calls Try.prog 24 #[refV s p c q d] w (RefPost w p q (syncS s)) := by
  obtain ⟨hf1, hf2⟩ := hf
  by_cases h : s.left = 0
  · rw [syncS_stop h]
    have hz : (s.left == 0) = true := by rw [h]; rfl
    clear h
    unfold refV
    go_enter Try.func24, Try.ntmps24
    go_wp2
    refine bodyPost_ret (v := .tuple #[refV s p c q d, .int .i64 140]) ?_ rfl ⟨p, c, q, d, rfl, R.out.below ?_, .left, .right, ?_⟩
    · simp [results, Try.results24, go_sem, refV]
    · go_grown
    · go_grown
  · rw [syncS_ok h]
    have hz : (s.left == 0) = false := by simpa using h
    clear h
    unfold refV
    have D : Hid (∀ (p : Option Addr) (n c : Nat) w, Calls Try.prog 51 #[.agg #[.int .i64 s.many, .slice p n c, .slice none 0 0, .int .i64 s.left]] w fun r w' => r = .returned (.agg #[.int .i64 s.many, .slice p n c, .slice none 0 0, .int .i64 (doneL s.left)]) ∧ Below w.heap.size w w') := Lib.hid fun p n c w => refDone_any s.many p n c none 0 0 s.left hl w
    clear hl
    generalize hW0 : (w.alloc (.cells #[.int .i64 s.many, .slice p s.sync.length c, .slice q s.loose.length d, .int .i64 s.left] 35)).alloc (.cells #[.int .i64 0, .slice none 0 0, .slice none 0 0, .int .i64 0] 35) = w0
    have B0 : Below w.heap.size w w0.drew := by subst hW0; exact (((Below.refl _ _).alloc (Nat.le_refl _) _).alloc (by simp) _).drew
    have BA : BoxAt w0 w.heap.size (.int .i64 s.many) (.slice p s.sync.length c) (.slice q s.loose.length d) (.int .i64 s.left) := by
      subst hW0
      exact (BoxAt.new w _ _ _ _ _).below ((Below.refl _ _).alloc (Nat.le_refl _) _)
    have BR : BoxAt w0 (w.heap.size + 1) (.int .i64 0) (.slice none 0 0) (.slice none 0 0) (.int .i64 0) := by
      subst hW0
      have e : (w.alloc (.cells #[.int .i64 s.many, .slice p s.sync.length c, .slice q s.loose.length d, .int .i64 s.left] 35)).heap.size = w.heap.size + 1 := by simp
      have := BoxAt.new (w.alloc (.cells #[.int .i64 s.many, .slice p s.sync.length c, .slice q s.loose.length d, .int .i64 s.left] 35)) (.int .i64 0) (.slice none 0 0) (.slice none 0 0) (.int .i64 0) 35
      rw [e] at this
      exact this
    have hsz : w.heap.size + 1 < w0.heap.size := by subst hW0; simp
    have RS := Lib.hid (R.out.sync.below B0)
    have RL := Lib.hid (R.out.loose.below B0)
    have hq1 := Lib.hid R.out.pc
    have hq2 := Lib.hid R.out.qd
    have RowE : Hid (RowW w0.drew [] (.slice (some ⟨w0.heap.size, 0, none⟩) 0 0) (w0.alloc (.cells #[] 80)).drew) := Lib.hid (RowW.empty w0.drew)
    have KA : Hid (∀ w', Below w0.drew.heap.size w0.drew w' → BoxAt w' w.heap.size (.int .i64 s.many) (.slice p s.sync.length c) (.slice q s.loose.length d) (.int .i64 s.left)) := Lib.hid fun w' h => (BA.below (w' := w0.drew) (Below.refl _ _).drew).below h
    have KR : Hid (∀ w', Below w0.drew.heap.size w0.drew w' → BoxAt w' (w.heap.size + 1) (.int .i64 0) (.slice none 0 0) (.slice none 0 0) (.int .i64 0)) := Lib.hid fun w' h => (BR.below (w' := w0.drew) (Below.refl _ _).drew).below h
    obtain ⟨x0, x1, x2, x3, f0, f1, f2, f3⟩ := BA
    have z1 : (w0.alloc (.cells #[] 80)).cell? ⟨w.heap.size, 1, none⟩ = some (.slice p s.sync.length c) := (KA.out _ RowE.out.2).x1
    have z2 : (w0.alloc (.cells #[] 80)).cell? ⟨w.heap.size, 2, none⟩ = some (.slice q s.loose.length d) := (KA.out _ RowE.out.2).x2
    clear BR
    have HB0 := Lib.hid B0
    clear B0
    have HN : Hid (([] ++ s.sync ++ s.loose).length = s.sync.length + s.loose.length) := Lib.hid (by simp)
    go_enter Try.func24, Try.ntmps24
    go_wp2
    clear hW0
    go_region_law ((first
      | (refine step_append_writes rfl (.tmp 8) (.tmp 10) rfl rfl RowE.out rfl hq1.out (RS.out.below RowE.out.2) (by simp; omega) ?_; intro v1 w1 hR1; obtain ⟨x0, x1, x2, x3, f0, f1, f2, f3⟩ := KA.out _ hR1.2; have RowB1 := Lib.hid hR1; clear hR1)
      | (refine step_append_writes rfl (.tmp 11) (.tmp 13) rfl rfl RowB1.out rfl hq2.out (RL.out.below RowB1.out.2) (by simp; omega) ?_; intro v2 w2 hR2; obtain ⟨x0, x1, x2, x3, f0, f1, f2, f3⟩ := KA.out _ hR2.2; obtain ⟨y0, y1, y2, y3, g0, g1, g2, g3⟩ := KR.out _ hR2.2; have HBx := Lib.hid hR2.2; obtain ⟨p2, c2, rfl, hl2, hm2, hw2, hn2, hge⟩ := hR2.at'; rw [HN.out]; rw [HN.out] at hl2; have Y4 : Hid (BoxAt ((w2.setCell ⟨w.heap.size, 1, none⟩ (.slice p2 (s.sync.length + s.loose.length) c2)).setCell ⟨w.heap.size, 2, none⟩ (.slice none 0 0)) (w.heap.size + 1) (.int .i64 0) (.slice none 0 0) (.slice none 0 0) (.int .i64 0)) := Lib.hid ⟨by go_cell, by go_cell, by go_cell, by go_cell, by go_cell, by go_cell, by go_cell, by go_cell⟩; have HG2 : Hid (∀ B off, p2 = some ⟨B, off, none⟩ → B ≠ w.heap.size ∧ B ≠ w.heap.size + 1 ∧ w.heap.size ≤ B ∧ B < w2.heap.size) := Lib.hid (fun B off e => by have := hge B off e; simp at this; omega); have HW4 : Hid (WritesAt ((w2.setCell ⟨w.heap.size, 1, none⟩ (.slice p2 (s.sync.length + s.loose.length) c2)).setCell ⟨w.heap.size, 2, none⟩ (.slice none 0 0)) p2 (s.sync ++ s.loose)) := Lib.hid ((WritesAt.set hw2 (fun B off e => (HG2.out B off e).1) _ _).set (fun B off e => (HG2.out B off e).1) _ _); have HB4 : Hid (Below w.heap.size w ((w2.setCell ⟨w.heap.size, 1, none⟩ (.slice p2 (s.sync.length + s.loose.length) c2)).setCell ⟨w.heap.size, 2, none⟩ (.slice none 0 0))) := Lib.hid (((below_any HB0.out HBx.out).setCell (Nat.le_refl _) _).setCell (Nat.le_refl _) _); clear hw2 hge hR2)))
    all_goals (
      go_wp2_with (go_at_call 51; (with_reducible refine (D.out _ _ _ _).mono ?_); rintro e w3 ⟨rfl, hb3⟩; obtain ⟨y0, y1, y2, y3, g0, g1, g2, g3⟩ := Y4.out.below hb3; have HW5 := Lib.hid (HW4.out.below hb3); have HB5 := Lib.hid (below_any HB4.out hb3); have HSZ := Lib.hid hb3.size; clear hb3)
      refine bodyPost_ret (v := .tuple #[.agg #[.int .i64 s.many, .slice p2 (s.sync.length + s.loose.length) c2, .slice none 0 0, .int .i64 (doneL s.left)], .int .i64 0]) ?_ rfl ⟨p2, c2, none, 0, ?_, ?_, fun B off e => .inr (.inr ⟨(HG2.out B off e).2.2.1, by have h1 := (HG2.out B off e).2.2.2; have h2 := HSZ.out; simp only [World.size_setCell] at h2 ⊢; omega⟩), .none, ?_⟩
      focus simp [results, Try.results24, go_sem, y0, y1, y2, y3]
      focus (unfold refV; simp)
      focus exact ⟨hn2, fun _ => rfl, by unfold maxLen at hm2; simp only [List.length_append]; omega, by simp, (((HW5.out.set (fun B off e => (HG2.out B off e).2.1) _ _).set (fun B off e => (HG2.out B off e).2.1) _ _).set (fun B off e => (HG2.out B off e).2.1) _ _).set (fun B off e => (HG2.out B off e).2.1) _ _, WritesAt.nil _ _⟩
      focus exact (((HB5.out.setCell (by simp) _).setCell (by simp) _).setCell (by simp) _).setCell (by simp) _)
end Go.Proofs.Ythbnochlpnikaaa
namespace Go.Proofs.Ythbnochlpnikaaa
open Go.RowKit Go.Shelf

theorem writeS_arg {s : DS} {k : Int} {b : ByteArray} (h : b.size ≠ 64) : writeS s k b = (s, 2) := by unfold writeS; rw [if_pos h]
theorem writeS_low {s : DS} {k : Int} {b : ByteArray} (h : b.size = 64) (h1 : k < 0) : writeS s k b = (s, 4) := by unfold writeS; rw [if_neg (by omega), if_pos (.inl h1)]
theorem writeS_high {s : DS} {k : Int} {b : ByteArray} (h : b.size = 64) (h1 : (s.many : Int) ≤ k) : writeS s k b = (s, 4) := by unfold writeS; rw [if_neg (by omega), if_pos (.inr h1)]
theorem writeS_stop {s : DS} {k : Int} {b : ByteArray} (h : b.size = 64) (h0 : ¬ k < 0) (h1 : ¬ (s.many : Int) ≤ k) (h2 : s.left = 0) : writeS s k b = (s, 140) := by unfold writeS; rw [if_neg (by omega), if_neg (by omega), if_pos h2]
theorem writeS_ok {s : DS} {k : Nat} {b : ByteArray} (h : b.size = 64) (h1 : ¬ s.many ≤ k) (h2 : ¬ s.left = 0) : writeS s k b = (⟨s.many, s.sync, s.loose ++ [(k, b)], doneL s.left⟩, 0) := by
  unfold writeS; rw [if_neg (by omega), if_neg (by omega), if_neg h2]; rfl
theorem writesAt_one (w : World) (k : Nat) (b : ByteArray) (t : TypeId) : WritesAt (w.alloc (.cells #[.int .i64 k, .string b] t)) (some ⟨w.heap.size, 0, none⟩) [(k, b)] := fun i x hx => by
  cases i with
  | zero => simp at hx; subst hx; exact ⟨w.heap.size, 0, rfl, by go_cell, by go_cell⟩
  | succ i => simp at hx
set_option maxRecDepth 100000 in
set_option maxHeartbeats 1000000 in
theorem refWrite_any (s : DS) (p : Option Addr) (c : Nat) (q : Option Addr) (d : Nat) (k : Int) (b : ByteArray) (w : World) (hb : b.size ≤ 100000) (hf : Few s) (hl : -1 ≤ s.left ∧ s.left ≤ 9223372036854775807) (R : Hid (RefAt w s p c q d)) :
    Calls Try.prog 23 #[refV s p c q d, .int .i64 k, .string b] w (RefPost w p q (writeS s k b)) := by
  obtain ⟨hf1, hf2⟩ := hf
  have fin : ∀ (e : Int) (w' : World), Below w.heap.size w w' → RefPost w p q (s, e) (.returned (.tuple #[refV s p c q d, .int .i64 e])) w' := fun e w' hb => ⟨p, c, q, d, rfl, R.out.below hb, .left, .right, hb⟩
  by_cases h : b.size = 64
  case neg =>
    rw [writeS_arg h]
    have hz : ((b.size : Int) != 64) = true := by simp; omega
    clear h
    unfold refV at fin ⊢
    have FIN := Lib.hid fin
    clear fin
    go_enter Try.func23, Try.ntmps23
    go_wp2
    refine bodyPost_ret (v := .tuple #[_, .int .i64 2]) ?_ rfl (FIN.out 2 _ ?_)
    · simp [results, Try.results23, go_sem]
    · go_grown
  have hz : ((b.size : Int) != 64) = false := by simp; omega
  by_cases h0 : k < 0
  · rw [writeS_low h h0]
    clear h
    unfold refV at fin ⊢
    have FIN := Lib.hid fin
    clear fin
    go_enter Try.func23, Try.ntmps23
    go_wp2
    refine bodyPost_ret (v := .tuple #[_, .int .i64 4]) ?_ rfl (FIN.out 4 _ ?_)
    · simp [results, Try.results23, go_sem]
    · go_grown
  by_cases h1 : (s.many : Int) ≤ k
  · rw [writeS_high h h1]
    clear h
    unfold refV at fin ⊢
    have FIN := Lib.hid fin
    clear fin
    go_enter Try.func23, Try.ntmps23
    go_wp2
    refine bodyPost_ret (v := .tuple #[_, .int .i64 4]) ?_ rfl (FIN.out 4 _ ?_)
    · simp [results, Try.results23, go_sem]
    · go_grown
  obtain ⟨k, rfl⟩ := Int.eq_ofNat_of_zero_le (show 0 ≤ k by omega)
  by_cases h2 : s.left = 0
  · rw [writeS_stop h h0 h1 h2]
    have hy : (s.left == 0) = true := by rw [h2]; rfl
    clear h h2
    unfold refV at fin ⊢
    have FIN := Lib.hid fin
    clear fin
    go_enter Try.func23, Try.ntmps23
    go_wp2
    refine bodyPost_ret (v := .tuple #[_, .int .i64 140]) ?_ rfl (FIN.out 140 _ ?_)
    · simp [results, Try.results23, go_sem]
    · go_grown
  rw [writeS_ok h (by omega) h2]
  have hy : (s.left == 0) = false := by simpa using h2
  clear h h2 fin
  unfold refV
  have D : Hid (∀ (q : Option Addr) (n d : Nat) w, Calls Try.prog 51 #[.agg #[.int .i64 s.many, .slice p s.sync.length c, .slice q n d, .int .i64 s.left]] w fun r w' => r = .returned (.agg #[.int .i64 s.many, .slice p s.sync.length c, .slice q n d, .int .i64 (doneL s.left)]) ∧ Below w.heap.size w w') := Lib.hid fun q n d w => refDone_any s.many p s.sync.length c q n d s.left hl w
  clear hl
  generalize hW0 : (w.alloc (.cells #[.int .i64 s.many, .slice p s.sync.length c, .slice q s.loose.length d, .int .i64 s.left] 35)).alloc (.cells #[.int .i64 0, .slice none 0 0, .slice none 0 0, .int .i64 0] 35) = w0
  have B0 : Below w.heap.size w w0 := by subst hW0; exact ((Below.refl _ _).alloc (Nat.le_refl _) _).alloc (by simp) _
  have BA : BoxAt w0 w.heap.size (.int .i64 s.many) (.slice p s.sync.length c) (.slice q s.loose.length d) (.int .i64 s.left) := by
    subst hW0
    exact (BoxAt.new w _ _ _ _ _).below ((Below.refl _ _).alloc (Nat.le_refl _) _)
  have BR : BoxAt w0 (w.heap.size + 1) (.int .i64 0) (.slice none 0 0) (.slice none 0 0) (.int .i64 0) := by
    subst hW0
    have e : (w.alloc (.cells #[.int .i64 s.many, .slice p s.sync.length c, .slice q s.loose.length d, .int .i64 s.left] 35)).heap.size = w.heap.size + 1 := by simp
    have := BoxAt.new (w.alloc (.cells #[.int .i64 s.many, .slice p s.sync.length c, .slice q s.loose.length d, .int .i64 s.left] 35)) (.int .i64 0) (.slice none 0 0) (.slice none 0 0) (.int .i64 0) 35
    rw [e] at this
    exact this
  have hsz : w.heap.size + 1 < w0.heap.size := by subst hW0; simp
  have RowE : Hid (RowW w0 [] (.slice (some ⟨w0.heap.size, 0, none⟩) 0 0) (w0.alloc (.cells #[] 80))) := Lib.hid (RowW.empty w0)
  have KA : Hid (∀ w', Below w0.heap.size w0 w' → BoxAt w' w.heap.size (.int .i64 s.many) (.slice p s.sync.length c) (.slice q s.loose.length d) (.int .i64 s.left)) := Lib.hid fun w' h => BA.below h
  have KR : Hid (∀ w', Below w0.heap.size w0 w' → BoxAt w' (w.heap.size + 1) (.int .i64 0) (.slice none 0 0) (.slice none 0 0) (.int .i64 0)) := Lib.hid fun w' h => BR.below h
  have RL := Lib.hid (R.out.loose.below B0)
  have HS := Lib.hid R.out.sync
  have hq2 := Lib.hid R.out.qd
  have hq1 := Lib.hid R.out.pc
  have hcl := Lib.hid R.out.cl
  obtain ⟨x0, x1, x2, x3, f0, f1, f2, f3⟩ := BA
  clear BR R
  have z2 : (w0.alloc (.cells #[] 80)).cell? ⟨w.heap.size, 2, none⟩ = some (.slice q s.loose.length d) := (KA.out _ RowE.out.2).x2
  have HB0 := Lib.hid B0
  clear B0
  go_enter Try.func23, Try.ntmps23
  go_wp2_with (at_builtin; refine wpList_append_writes rfl (.tmp 25) (.tmp 27) rfl rfl RowE.out rfl hq2.out (RL.out.below RowE.out.2) ?c1 ?_)
  case c1 => first | omega | (simp; omega)
  intro v1 w1 hR1
  clear hW0
  obtain ⟨x0, x1, x2, x3, f0, f1, f2, f3⟩ := KA.out _ hR1.2
  have hs1 := hR1.2.size
  have O1 := Lib.hid (writesAt_one w1 k b 80)
  have hR1' : RowW w0 s.loose v1 (w1.alloc (.cells #[.int .i64 k, .string b] 80)) := ⟨hR1.1.alloc _, hR1.2.alloc hs1 _⟩
  have HR1 := Lib.hid hR1'
  clear hR1 hR1'
  go_wp2_with (at_builtin; refine wpList_append_writes rfl (.tmp 28) (.tmp 32) rfl rfl HR1.out rfl (fun e => by cases e) O1.out ?c2 ?_)
  case c2 => first | omega | (simp; omega)
  intro v2 w2 hR2
  obtain ⟨x0, x1, x2, x3, f0, f1, f2, f3⟩ := KA.out _ hR2.2
  have HBx := Lib.hid hR2.2
  obtain ⟨p2, c2, rfl, hl2, hm2, hw2, hn2, hge⟩ := hR2.at'
  have HN : (s.loose ++ [(k, b)]).length = s.loose.length + 1 := by simp
  rw [HN]
  rw [HN] at hl2
  clear HN
  have HG2 : Hid (∀ B off, p2 = some ⟨B, off, none⟩ → B ≠ w.heap.size ∧ B ≠ w.heap.size + 1 ∧ w.heap.size ≤ B ∧ B < w2.heap.size) := Lib.hid (fun B off e => by have := hge B off e; omega)
  have Y4 : Hid (BoxAt (w2.setCell ⟨w.heap.size, 2, none⟩ (.slice p2 (s.loose.length + 1) c2)) (w.heap.size + 1) (.int .i64 0) (.slice none 0 0) (.slice none 0 0) (.int .i64 0)) := by
    obtain ⟨y0, y1, y2, y3, g0, g1, g2, g3⟩ := KR.out _ hR2.2
    exact Lib.hid ⟨by go_cell, by go_cell, by go_cell, by go_cell, by go_cell, by go_cell, by go_cell, by go_cell⟩
  have HW4 : Hid (WritesAt (w2.setCell ⟨w.heap.size, 2, none⟩ (.slice p2 (s.loose.length + 1) c2)) p2 (s.loose ++ [(k, b)])) := Lib.hid (WritesAt.set hw2 (fun B off e => (HG2.out B off e).1) _ _)
  have HB4 : Hid (Below w.heap.size w (w2.setCell ⟨w.heap.size, 2, none⟩ (.slice p2 (s.loose.length + 1) c2))) := Lib.hid ((below_any HB0.out HBx.out).setCell (Nat.le_refl _) _)
  clear hw2 hge hR2
  go_wp2_with (go_at_call 51; (with_reducible refine (D.out _ _ _ _).mono ?_); rintro e w3 ⟨rfl, hb3⟩; obtain ⟨y0, y1, y2, y3, g0, g1, g2, g3⟩ := Y4.out.below hb3; have HW5 := Lib.hid (HW4.out.below hb3); have HB5 := Lib.hid (below_any HB4.out hb3); have HSZ := Lib.hid hb3.size; clear hb3)
  refine bodyPost_ret (v := .tuple #[.agg #[.int .i64 s.many, .slice p s.sync.length c, .slice p2 (s.loose.length + 1) c2, .int .i64 (doneL s.left)], .int .i64 0]) ?_ rfl ⟨p, c, p2, c2, ?_, ?_, .left, fun B off e => .inr (.inr ⟨(HG2.out B off e).2.2.1, by have h1 := (HG2.out B off e).2.2.2; have h2 := HSZ.out; simp only [World.size_setCell] at h2 ⊢; omega⟩), ?_⟩
  focus simp [results, Try.results23, go_sem, y0, y1, y2, y3]
  focus (unfold refV; simp)
  focus exact ⟨hq1.out, hn2, hcl.out, by unfold maxLen at hm2; simp only [List.length_append, List.length_singleton]; omega, HS.out.below ((((HB5.out.setCell (by simp) _).setCell (by simp) _).setCell (by simp) _).setCell (by simp) _), (((HW5.out.set (fun B off e => (HG2.out B off e).2.1) _ _).set (fun B off e => (HG2.out B off e).2.1) _ _).set (fun B off e => (HG2.out B off e).2.1) _ _).set (fun B off e => (HG2.out B off e).2.1) _ _⟩
  focus exact (((HB5.out.setCell (by simp) _).setCell (by simp) _).setCell (by simp) _).setCell (by simp) _
end Go.Proofs.Ythbnochlpnikaaa
namespace Go.Proofs.Ythbnochlpnikaaa
open Go.RowKit Go.Shelf

/-- Do two disks stand alike? -/
noncomputable def sameB (a b : DS) : Bool := by
  classical exact decide (sameS a b)
theorem sameB_true {a b : DS} (h : sameS a b) : sameB a b = true := by unfold sameB; simp [h]
theorem sameB_false {a b : DS} (h : ¬ sameS a b) : sameB a b = false := by unfold sameB; simp [h]
theorem lastS_none {l : List (Nat × ByteArray)} {k : Nat} (h : ∀ w ∈ l, w.1 ≠ k) : lastS l k = secS 0 := lastS_apart [] l k h
/-- It is enough to look at the sectors that were written. -/
theorem same_enough {l m : List (Nat × ByteArray)} (h : ∀ w ∈ l ++ m, lastS l w.1 = lastS m w.1) (k : Nat) : lastS l k = lastS m k := by
  by_cases hk : ∃ w ∈ l ++ m, w.1 = k
  · obtain ⟨w, hw, rfl⟩ := hk
    exact h w hw
  · have hn : ∀ w ∈ l ++ m, w.1 ≠ k := fun w hw e => hk ⟨w, hw, e⟩
    rw [lastS_none (fun w hw => hn w (List.mem_append.2 (.inl hw))), lastS_none (fun w hw => hn w (List.mem_append.2 (.inr hw)))]
theorem eqW (x y : Nat × ByteArray) (w : World) : (binOp .neq 80 (.agg #[.int .i64 x.1, .string x.2]) (.agg #[.int .i64 y.1, .string y.2])).run Try.prog w = .ok (.bool (!decide (x = y))) w := by
  go_simp
  by_cases h : x = y
  · subst h; simp
  · rw [decide_eq_false h]
    by_cases h1 : (x.1 : Int) = (y.1 : Int)
    · rw [if_pos h1]
      have h2 : ¬ x.2.toList = y.2.toList := fun e => h (Prod.ext (by omega) (by
        have := str_beq x.2 y.2
        rw [e] at this
        simpa using this.symm))
      rw [if_neg h2]
      rfl
    · rw [if_neg h1]
      rfl
theorem same_prefix {l m : List (Nat × ByteArray)} {n : Nat} (hl : l.length = m.length) (hn : l.length ≤ n) (h : ∀ j, j < n → l[j]? = m[j]?) : l = m := by
  apply List.ext_getElem?
  intro j
  by_cases hj : j < n
  · exact h j hj
  · rw [List.getElem?_eq_none (by omega), List.getElem?_eq_none (by omega)]
set_option maxRecDepth 100000 in
set_option maxHeartbeats 2000000 in
theorem refSame_any (a b : DS) (p : Option Addr) (c : Nat) (q : Option Addr) (d : Nat) (p2 : Option Addr) (c2 : Nat) (q2 : Option Addr) (d2 : Nat) (w : World) (hfa : Few a) (hfb : Few b) (R : Hid (RefAt w a p c q d)) (R2 : Hid (RefAt w b p2 c2 q2 d2)) :
    Calls Try.prog 11 #[refV a p c q d, refV b p2 c2 q2 d2] w fun r w' => r = .returned (.bool (sameB a b)) ∧ Below w.heap.size w w' := by
  unfold refV
  by_cases h1 : a.many = b.many
  case neg =>
    rw [sameB_false (fun h => h1 h.1)]
    have hz : ((a.many : Int) != (b.many : Int)) = true := by simp; omega
    clear h1
    go_enter Try.func11, Try.ntmps11
    go_wp2
    go_ret
    exact ⟨rfl, by go_grown⟩
  have hz : ((a.many : Int) != (b.many : Int)) = false := by simp; omega
  by_cases h2 : a.left = b.left
  case neg =>
    rw [sameB_false (fun h => h2 h.2.1)]
    have hy : (a.left != b.left) = true := by simpa using h2
    clear h1 h2
    go_enter Try.func11, Try.ntmps11
    go_wp2
    go_ret
    exact ⟨rfl, by go_grown⟩
  have hy : (a.left != b.left) = false := by simpa using h2
  by_cases h3 : a.loose.length = b.loose.length
  case neg =>
    rw [sameB_false (fun h => h3 (by rw [h.2.2.1]))]
    have hx : ((a.loose.length : Int) != (b.loose.length : Int)) = true := by simp; omega
    clear h1 h2 h3
    go_enter Try.func11, Try.ntmps11
    go_wp2
    go_ret
    exact ⟨rfl, by go_grown⟩
  have hx : ((a.loose.length : Int) != (b.loose.length : Int)) = false := by simp; omega
  have H1 := Lib.hid h1
  have H2 := Lib.hid h2
  have H3 := Lib.hid h3
  have hle : a.loose.length ≤ b.loose.length := by omega
  clear h1 h2 h3
  obtain ⟨hfa1, hfa2⟩ := hfa
  obtain ⟨hfb1, hfb2⟩ := hfb
  generalize hW0 : (w.alloc (.cells #[.int .i64 a.many, .slice p a.sync.length c, .slice q a.loose.length d, .int .i64 a.left] 35)).alloc (.cells #[.int .i64 b.many, .slice p2 b.sync.length c2, .slice q2 b.loose.length d2, .int .i64 b.left] 35) = w0
  have B0 : Below w.heap.size w w0 := by subst hW0; exact ((Below.refl _ _).alloc (Nat.le_refl _) _).alloc (by simp) _
  have BA : BoxAt w0 w.heap.size (.int .i64 a.many) (.slice p a.sync.length c) (.slice q a.loose.length d) (.int .i64 a.left) := by
    subst hW0
    exact (BoxAt.new w _ _ _ _ _).below ((Below.refl _ _).alloc (Nat.le_refl _) _)
  have BB : BoxAt w0 (w.heap.size + 1) (.int .i64 b.many) (.slice p2 b.sync.length c2) (.slice q2 b.loose.length d2) (.int .i64 b.left) := by
    subst hW0
    have e : (w.alloc (.cells #[.int .i64 a.many, .slice p a.sync.length c, .slice q a.loose.length d, .int .i64 a.left] 35)).heap.size = w.heap.size + 1 := by simp
    have := BoxAt.new (w.alloc (.cells #[.int .i64 a.many, .slice p a.sync.length c, .slice q a.loose.length d, .int .i64 a.left] 35)) (.int .i64 b.many) (.slice p2 b.sync.length c2) (.slice q2 b.loose.length d2) (.int .i64 b.left) 35
    rw [e] at this
    exact this
  have hsz : w.heap.size + 1 < w0.heap.size := by subst hW0; simp
  have KA : Hid (∀ w', Below w0.heap.size w0 w' → BoxAt w' w.heap.size (.int .i64 a.many) (.slice p a.sync.length c) (.slice q a.loose.length d) (.int .i64 a.left)) := Lib.hid fun w' h => BA.below h
  have KB : Hid (∀ w', Below w0.heap.size w0 w' → BoxAt w' (w.heap.size + 1) (.int .i64 b.many) (.slice p2 b.sync.length c2) (.slice q2 b.loose.length d2) (.int .i64 b.left)) := Lib.hid fun w' h => BB.below h
  have LA := Lib.hid (R.out.loose.below B0)
  have LB := Lib.hid (R2.out.loose.below B0)
  have SA := Lib.hid (R.out.sync.below B0)
  have SB := Lib.hid (R2.out.sync.below B0)
  have hq1 := Lib.hid R.out.pc
  have hq2 := Lib.hid R2.out.pc
  have HB0 := Lib.hid B0
  clear B0 R R2
  obtain ⟨x0, x1, x2, x3, f0, f1, f2, f3⟩ := BA
  obtain ⟨y0, y1, y2, y3, g0, g1, g2, g3⟩ := BB
  go_enter Try.func11, Try.ntmps11
  go_wp2
  clear hW0
  go_loopw [5] (fun i wr => ∃ n : Nat, n ≤ a.loose.length ∧ i = .int .i64 n ∧ Hid (∀ j, j < n → a.loose[j]? = b.loose[j]?) ∧ Hid (Below w0.heap.size w0 wr)) (fun i _ => (a.loose.length - intOf i).toNat)
  case atStart => exact ⟨0, Nat.zero_le _, by first | rfl | go_num, Lib.hid (fun j hj => by omega), Lib.hid (Below.refl _ _)⟩
  case round =>
    obtain ⟨n, hn, rfl, HP, HBr⟩ := hrel
    clear x0 x1 x2 x3 f0 f1 f2 f3 y0 y1 y2 y3 g0 g1 g2 g3
    obtain ⟨x0, x1, x2, x3, f0, f1, f2, f3⟩ := KA.out _ HBr.out
    obtain ⟨y0, y1, y2, y3, g0, g1, g2, g3⟩ := KB.out _ HBr.out
    by_cases hlt : n < a.loose.length
    · obtain ⟨x, hxx⟩ : ∃ x, a.loose[n]? = some x := ⟨_, List.getElem?_eq_getElem hlt⟩
      obtain ⟨y, hyy⟩ : ∃ y, b.loose[n]? = some y := ⟨_, List.getElem?_eq_getElem (by omega)⟩
      obtain ⟨B, off, rfl, c1, e1⟩ := LA.out.below HBr.out n x hxx
      obtain ⟨B2, off2, rfl, c3, e3⟩ := LB.out.below HBr.out n y hyy
      have HXX := Lib.hid hxx
      have HYY := Lib.hid hyy
      clear hxx hyy
      rw [show off + 2 * n = off + n * 2 by omega] at c1
      rw [show off + (2 * n + 1) = off + n * 2 + 1 by omega] at e1
      rw [show off2 + 2 * n = off2 + n * 2 by omega] at c3
      rw [show off2 + (2 * n + 1) = off2 + n * 2 + 1 by omega] at e3
      have hlt2 : n < b.loose.length := by omega
      have hi1 : (0 : Int) ≤ (n : Int) := by omega
      have hi2 : (n : Int) < (a.loose.length : Int) := by omega
      have hi3 : (n : Int) < (b.loose.length : Int) := by omega
      by_cases hxy : x = y
      · have HE : Hid (x = y) := Lib.hid hxy
        have hq : ∀ w : World, (binOp .neq 80 (.agg #[.int .i64 x.1, .string x.2]) (.agg #[.int .i64 y.1, .string y.2])).run Try.prog w = .ok (.bool false) w := fun w => by rw [eqW, hxy]; simp
        clear hxy
        go_wp2_with fail
        go_quiet (fail)
        go_wp2_with fail
        go_roundw
        case rel => exact ⟨n + 1, hlt, by first | rfl | go_num, Lib.hid (fun j hj => by
            rcases Nat.lt_succ_iff_lt_or_eq.1 hj with h | h
            · exact HP.out j h
            · rw [h, HXX.out, HYY.out, HE.out]), Lib.hid (HBr.out.trans ⟨rfl, rfl, rfl, Nat.le_refl _, fun _ _ => rfl⟩)⟩
        case measure => simp [intOf]; omega
      · have hq : ∀ w : World, (binOp .neq 80 (.agg #[.int .i64 x.1, .string x.2]) (.agg #[.int .i64 y.1, .string y.2])).run Try.prog w = .ok (.bool true) w := fun w => by rw [eqW, decide_eq_false hxy]; rfl
        have HS : Hid (sameB a b = false) := Lib.hid (sameB_false (fun h => by
          have e := HXX.out
          rw [h.2.2.1, HYY.out] at e
          injection e with e
          exact hxy e.symm))
        clear hxy
        go_wp2_with fail
        go_quiet (fail)
        go_wp2_with fail
        go_ret
        exact ⟨by rw [HS.out]; rfl, below_any HB0.out (HBr.out.trans ⟨rfl, rfl, rfl, Nat.le_refl _, fun _ _ => rfl⟩)⟩
    · have HEL : Hid (a.loose = b.loose) := Lib.hid (same_prefix H3.out (by omega) HP.out)
      have RowE : Hid (RowW wr.drew [] (.slice (some ⟨wr.heap.size, 0, none⟩) 0 0) (wr.alloc (.cells #[] 80)).drew) := Lib.hid (RowW.empty wr.drew)
      have hbd : Below w0.heap.size w0 wr.drew := HBr.out.drew
      have HBD := Lib.hid hbd
      clear hbd
      have KS : Hid (∀ w', Below wr.drew.heap.size wr.drew w' → w'.cell? ⟨w.heap.size, 1, none⟩ = some (.slice p a.sync.length c) ∧ w'.cell? ⟨w.heap.size + 1, 1, none⟩ = some (.slice p2 b.sync.length c2) ∧ Below wr.drew.heap.size wr.drew w') := Lib.hid fun w' h =>
        ⟨(KA.out w' (HBD.out.trans (h.mono HBD.out.size))).x1, (KB.out w' (HBD.out.trans (h.mono HBD.out.size))).x1, h⟩
      have HN : Hid (([] ++ a.sync ++ b.sync).length = a.sync.length + b.sync.length) := Lib.hid (by simp)
      have HBx : Hid (Below wr.drew.heap.size wr.drew (wr.alloc (.cells #[] 80)).drew) := Lib.hid RowE.out.2
      go_wp2_with fail
      go_region_held3 (fun w' => w'.cell? ⟨w.heap.size, 1, none⟩ = some (.slice p a.sync.length c) ∧ w'.cell? ⟨w.heap.size + 1, 1, none⟩ = some (.slice p2 b.sync.length c2) ∧ Below wr.drew.heap.size wr.drew w')
        (first
          | assumption
          | (with_reducible exact KS.out _ (Below.refl _ _))
          | (with_reducible exact KS.out _ HBx.out))
        (first
          | (refine step_append_writes rfl (.tmp 47) (.tmp 49) rfl rfl RowE.out rfl hq1.out (SA.out.below (HBD.out.trans (HBx.out.mono HBD.out.size))) (by simp; omega) ?_; intro v1 w1 hR1; have HBx := Lib.hid hR1.2; have RowB1 := Lib.hid hR1; clear hR1)
          | (refine step_append_writes rfl (.tmp 50) (.tmp 52) rfl rfl RowB1.out rfl hq2.out (SB.out.below (HBD.out.trans (HBx.out.mono HBD.out.size))) (by simp; omega) ?_; intro v2 w2 hR2; have HBx := Lib.hid hR2.2; obtain ⟨pa, ca, rfl, hla, hma, hwa, hna, -⟩ := hR2.at'; rw [HN.out]; rw [HN.out] at hla; have HWA := Lib.hid hwa; clear hwa hR2))
      have HB2 := Lib.hid (HBD.out.trans (HBx.out.mono HBD.out.size))
      clear HBx
      have HAL : Hid ([] ++ a.sync ++ b.sync = a.sync ++ b.sync) := Lib.hid rfl
      rw [HAL.out] at HWA
      generalize hall : a.sync ++ b.sync = all at *
      have Hall := Lib.hid hall
      have hal : all.length ≤ 100000 := by rw [← hall]; simp; omega
      clear hall
      have hal2 : all.length = a.sync.length + b.sync.length := by rw [← Hall.out]; simp
      have Hal := Lib.hid hal2
      clear hal2
      go_wp2_with fail
      go_loopw [7] (fun i wr => ∃ m : Nat, m ≤ a.sync.length + b.sync.length ∧ i = .int .i64 m ∧ Hid (∀ j x, j < m → all[j]? = some x → lastS a.sync x.1 = lastS b.sync x.1) ∧ Hid (Below w2.heap.size w2 wr)) (fun i _ => (a.sync.length + b.sync.length - intOf i).toNat)
      case atStart => exact ⟨0, Nat.zero_le _, by first | rfl | go_num, Lib.hid (fun j x hj => by omega), Lib.hid (Below.refl _ _)⟩
      case round =>
        clear RowB1 RowE KS
        rename World => wy
        obtain ⟨m, hm, rfl, HPm, HBm⟩ := hrel
        have HBW := Lib.hid (HB2.out.trans (HBm.out.mono HB2.out.size))
        by_cases hltm : m < a.sync.length + b.sync.length
        · obtain ⟨x, hxx⟩ : ∃ x, all[m]? = some x := ⟨_, List.getElem?_eq_getElem (by have := Hal.out; omega)⟩
          obtain ⟨B, off, rfl, c1, -⟩ := HWA.out.below HBm.out m x hxx
          have HXX := Lib.hid hxx
          clear hxx
          rw [show off + 2 * m = off + m * 2 by omega] at c1
          have hi1 : (0 : Int) ≤ (m : Int) := by omega
          have hi2 : (m : Int) < ((a.sync.length + b.sync.length : Nat) : Int) := by omega
          have hi3 : (m : Int) < (a.sync.length : Int) + (b.sync.length : Int) := by omega
          have CA : Hid (∀ w', Below wy.heap.size wy w' → Calls Try.prog 31 #[.slice p a.sync.length c, .int .i64 x.1] w' fun r w2 => r = .returned (.string (lastS a.sync x.1)) ∧ Below w'.heap.size w' w2) := Lib.hid fun w' h => last_any a.sync p c x.1 w' (by omega) (Lib.hid (SA.out.below (HBW.out.trans (h.mono HBW.out.size))))
          have CB : Hid (∀ w', Below wy.heap.size wy w' → Calls Try.prog 31 #[.slice p2 b.sync.length c2, .int .i64 x.1] w' fun r w2 => r = .returned (.string (lastS b.sync x.1)) ∧ Below w'.heap.size w' w2) := Lib.hid fun w' h => last_any b.sync p2 c2 x.1 w' (by omega) (Lib.hid (SB.out.below (HBW.out.trans (h.mono HBW.out.size))))
          have hcs := lt_of_cell_some c1
          have KS : Hid (∀ w', Below wy.heap.size wy w' → w'.cell? ⟨w.heap.size, 1, none⟩ = some (.slice p a.sync.length c) ∧ w'.cell? ⟨w.heap.size + 1, 1, none⟩ = some (.slice p2 b.sync.length c2) ∧ w'.cell? ⟨B, off + m * 2, none⟩ = some (.int .i64 x.1) ∧ Below wy.heap.size wy w') := Lib.hid fun w' h =>
            ⟨(KA.out w' (HBW.out.trans (h.mono HBW.out.size))).x1, (KB.out w' (HBW.out.trans (h.mono HBW.out.size))).x1, (h.cell (p := ⟨B, off + m * 2, none⟩) hcs).trans c1, h⟩
          have HBx : Hid (Below wy.heap.size wy wy.drew) := Lib.hid (Below.refl _ _).drew
          by_cases hE : lastS a.sync x.1 = lastS b.sync x.1
          · have HE := Lib.hid hE
            rw [← hE] at CB
            clear hE
            go_wp2_with fail
            go_region_held3 (fun w' => w'.cell? ⟨w.heap.size, 1, none⟩ = some (.slice p a.sync.length c) ∧ w'.cell? ⟨w.heap.size + 1, 1, none⟩ = some (.slice p2 b.sync.length c2) ∧ w'.cell? ⟨B, off + m * 2, none⟩ = some (.int .i64 x.1) ∧ Below wy.heap.size wy w')
              (first
                | assumption
                | (with_reducible exact KS.out _ HBx.out))
              (first
                | (go_at_call 31; (with_reducible refine (CA.out _ HBx.out).mono ?_); rintro e w3 ⟨rfl, hb3⟩; have HBx := Lib.hid (below_any HBx.out hb3); clear hb3)
                | (go_at_call 31; (with_reducible refine (CB.out _ HBx.out).mono ?_); rintro e w4 ⟨rfl, hb4⟩; have HBx := Lib.hid (below_any HBx.out hb4); clear hb4))
            go_wp2_with fail
            go_roundw
            case rel => exact ⟨m + 1, hltm, by first | rfl | go_num, Lib.hid (fun j z hj hz => by
                rcases Nat.lt_succ_iff_lt_or_eq.1 hj with h | h
                · exact HPm.out j z h hz
                · subst h
                  rw [HXX.out] at hz
                  injection hz with hz
                  subst hz
                  exact HE.out), Lib.hid (HBm.out.trans (HBx.out.mono HBm.out.size))⟩
            case measure => simp [intOf]; omega
          · have HS : Hid (sameB a b = false) := Lib.hid (sameB_false (fun h => hE (h.2.2.2 x.1)))
            have hs1 : ((lastS a.sync x.1).toList == (lastS b.sync x.1).toList) = false := by rw [str_beq, decide_eq_false hE]
            have hs2 : ((lastS a.sync x.1).toList != (lastS b.sync x.1).toList) = true := by unfold bne; rw [hs1]; rfl
            clear hE
            generalize lastS a.sync x.1 = S1 at *
            generalize lastS b.sync x.1 = S2 at *
            go_wp2_with fail
            go_region_held3 (fun w' => w'.cell? ⟨w.heap.size, 1, none⟩ = some (.slice p a.sync.length c) ∧ w'.cell? ⟨w.heap.size + 1, 1, none⟩ = some (.slice p2 b.sync.length c2) ∧ w'.cell? ⟨B, off + m * 2, none⟩ = some (.int .i64 x.1) ∧ Below wy.heap.size wy w')
              (first
                | assumption
                | (with_reducible exact KS.out _ HBx.out))
              (first
                | (go_at_call 31; (with_reducible refine (CA.out _ HBx.out).mono ?_); rintro e w3 ⟨rfl, hb3⟩; have HBx := Lib.hid (below_any HBx.out hb3); clear hb3)
                | (go_at_call 31; (with_reducible refine (CB.out _ HBx.out).mono ?_); rintro e w4 ⟨rfl, hb4⟩; have HBx := Lib.hid (below_any HBx.out hb4); clear hb4))
            go_wp2_with fail
            go_ret
            exact ⟨by rw [HS.out]; rfl, below_any HB0.out (HBW.out.trans (HBx.out.mono HBW.out.size))⟩
        · have HS : Hid (sameB a b = true) := Lib.hid (sameB_true ⟨H1.out, H2.out, HEL.out, same_enough (fun x hx => by
            rw [Hall.out] at hx
            obtain ⟨j, hj, e⟩ := List.mem_iff_getElem.1 hx
            exact HPm.out j x (by have := Hal.out; omega) (by rw [List.getElem?_eq_getElem hj, e]))⟩)
          go_wp2_with fail
          go_ret
          exact ⟨by rw [HS.out]; rfl, below_any HB0.out HBW.out⟩
end Go.Proofs.Ythbnochlpnikaaa
namespace Go.Proofs.Ythbnochlpnikaaa
open Go.RowKit Go.Shelf

/-- A slice of truths. -/
def BoolsAt (w : World) (p : Option Addr) (l : List Bool) : Prop := ∀ i b, l[i]? = some b → ∃ B off, p = some ⟨B, off, none⟩ ∧ w.cell? ⟨B, off + i, none⟩ = some (.bool b)
theorem BoolsAt.below {w w' : World} {p : Option Addr} {l : List Bool} (h : BoolsAt w p l) (hb : Below w.heap.size w w') : BoolsAt w' p l := fun i b hi => by
  obtain ⟨B, off, e, c⟩ := h i b hi
  exact ⟨B, off, e, below_kept hb _ _ c⟩
theorem tornF_next {keep : List Bool} {n : Nat} {b : Bool} (h : keep[n]? = some b) : tornF keep (n + 1) = if b = true then (n : Int) else tornF keep n := by
  show (if keep.getD n false then _ else _) = _
  rw [List.getD_eq_getElem?_getD, h]
  rfl
theorem crashF_no {keep : List Bool} {loose sync : List (Nat × ByteArray)} {tear n : Nat} {torn : Int} (h : keep[n]? = some false) : crashF keep loose tear torn sync (n + 1) = crashF keep loose tear torn sync n := by
  show (if keep.getD n false then _ else _) = _
  rw [List.getD_eq_getElem?_getD, h]
  rfl
theorem crashF_yes {keep : List Bool} {loose sync : List (Nat × ByteArray)} {tear n : Nat} {torn : Int} {x : Nat × ByteArray} (h : keep[n]? = some true) (hx : loose[n]? = some x) :
    crashF keep loose tear torn sync (n + 1) = crashF keep loose tear torn sync n ++ [(x.1, if (n : Int) = torn ∧ 0 < tear then tornB tear x.2 (lastS (crashF keep loose tear torn sync n) x.1) else x.2)] := by
  show (if keep.getD n false then _ else _) = _
  rw [List.getD_eq_getElem?_getD, h, List.getD_eq_getElem?_getD, hx]
  rfl
theorem crashF_length (keep : List Bool) (loose sync : List (Nat × ByteArray)) (tear : Nat) (torn : Int) : ∀ n, (crashF keep loose tear torn sync n).length ≤ sync.length + n
  | 0 => Nat.le_refl _
  | n + 1 => by
    have := crashF_length keep loose sync tear torn n
    unfold crashF
    split
    · simp; omega
    · omega
theorem crashS_arg {s : DS} {tear : Int} {keep : List Bool} (h : tear < 0 ∨ 63 < tear) : crashS s tear keep = (s, 2) := by unfold crashS; rw [if_pos h]
theorem crashS_ok {s : DS} {tear : Nat} {keep : List Bool} (h : tear ≤ 63) : crashS s tear keep = (⟨s.many, crashF keep s.loose tear (tornS s keep) s.sync (tornS s keep + 1).toNat, [], -1⟩, 0) := by
  unfold crashS; rw [if_neg (by omega)]; rfl
set_option maxRecDepth 100000 in
set_option maxHeartbeats 1000000 in
theorem refCrash_arg (s : DS) (p : Option Addr) (c : Nat) (q : Option Addr) (d : Nat) (tear : Int) (kv : Value) (ht : tear < 0 ∨ 63 < tear) (w : World) (R : Hid (RefAt w s p c q d)) :
    Calls Try.prog 26 #[refV s p c q d, .int .i64 tear, kv] w (RefPost w p q (s, 2)) := by
  have fin : ∀ (e : Int) (w' : World), Below w.heap.size w w' → RefPost w p q (s, e) (.returned (.tuple #[refV s p c q d, .int .i64 e])) w' := fun e w' hb => ⟨p, c, q, d, rfl, R.out.below hb, .left, .right, hb⟩
  unfold refV at fin ⊢
  have FIN := Lib.hid fin
  clear fin R
  rcases (show tear < 0 ∨ (¬ tear < 0 ∧ 63 < tear) by omega) with h | ⟨h, h2⟩
  all_goals
    clear ht
    go_enter Try.func26, Try.ntmps26
    go_wp2
    refine bodyPost_ret (v := .tuple #[_, .int .i64 2]) ?_ rfl (FIN.out 2 _ ?_)
    · simp [results, Try.results26, go_sem]
    · go_grown
theorem RowW.keep {w0 wr w' : World} {l : List (Nat × ByteArray)} {t : Value} (h : RowW w0 l t wr) (hb : Below wr.heap.size wr w') : RowW w0 l t w' := by
  obtain ⟨⟨h0, h1⟩, hB⟩ := h
  refine ⟨⟨h0, ?_⟩, hB.trans (hb.mono hB.size)⟩
  rcases h1 with h1 | ⟨g, cap, cur, e, hg, hh, rest⟩
  · exact .inl h1
  · have hgl : g < wr.heap.size := (Array.getElem?_eq_some_iff.1 hh).1
    exact .inr ⟨g, cap, cur, e, hg, (hb.block g hgl).trans hh, rest⟩
theorem torn_parts (x L : ByteArray) (t : Nat) (ht : t ≤ 63) (hx : x.size = 64) (hL : L.size = 64) :
    ∃ P1 P2 : ByteArray, (∀ w, (Instr.slice 9 (.string x) none (some (.int .i64 t)) none).run Try.prog w = .ok (.string P1) w) ∧ (∀ w, (Instr.slice 9 (.string L) (some (.int .i64 t)) none none).run Try.prog w = .ok (.string P2) w) ∧
      ¬ 9223372036854775807 < P1.size + P2.size ∧ P1 ++ P2 = tornB t x L := by
  have h1 : t ≤ x.size := by omega
  have h2 : t ≤ L.size := by omega
  refine ⟨x.extract 0 t, L.extract t L.size, fun w => by clear hx hL; go_simp, fun w => by clear hx hL; go_simp, ?_, by unfold tornB; rw [hL]⟩
  rw [ByteArray.size_extract, ByteArray.size_extract]
  omega
set_option maxRecDepth 100000 in
set_option maxHeartbeats 2000000 in
theorem refCrash_ok (s : DS) (p : Option Addr) (c : Nat) (q : Option Addr) (d : Nat) (tear : Nat) (ht : tear ≤ 63) (kp : Option Addr) (keep : List Bool) (kc : Nat) (w : World) (hf : Few s) (hk : keep.length ≤ 30000) (hW : Whole s) (R : Hid (RefAt w s p c q d)) (HK : Hid (BoolsAt w kp keep)) :
    Calls Try.prog 26 #[refV s p c q d, .int .i64 tear, .slice kp keep.length kc] w (RefPost w p q (⟨s.many, crashF keep s.loose tear (tornS s keep) s.sync (tornS s keep + 1).toNat, [], -1⟩, 0)) := by
  obtain ⟨hf1, hf2⟩ := hf
  unfold refV
  generalize hW0 : (w.alloc (.cells #[.int .i64 s.many, .slice p s.sync.length c, .slice q s.loose.length d, .int .i64 s.left] 35)).alloc (.cells #[.int .i64 0, .slice none 0 0, .slice none 0 0, .int .i64 0] 35) = w0
  have B0 : Below w.heap.size w w0 := by subst hW0; exact ((Below.refl _ _).alloc (Nat.le_refl _) _).alloc (by simp) _
  have BA : BoxAt w0 w.heap.size (.int .i64 s.many) (.slice p s.sync.length c) (.slice q s.loose.length d) (.int .i64 s.left) := by
    subst hW0
    exact (BoxAt.new w _ _ _ _ _).below ((Below.refl _ _).alloc (Nat.le_refl _) _)
  have BR : BoxAt w0 (w.heap.size + 1) (.int .i64 0) (.slice none 0 0) (.slice none 0 0) (.int .i64 0) := by
    subst hW0
    have e : (w.alloc (.cells #[.int .i64 s.many, .slice p s.sync.length c, .slice q s.loose.length d, .int .i64 s.left] 35)).heap.size = w.heap.size + 1 := by simp
    have := BoxAt.new (w.alloc (.cells #[.int .i64 s.many, .slice p s.sync.length c, .slice q s.loose.length d, .int .i64 s.left] 35)) (.int .i64 0) (.slice none 0 0) (.slice none 0 0) (.int .i64 0) 35
    rw [e] at this
    exact this
  have hsz : w.heap.size + 1 < w0.heap.size := by subst hW0; simp
  have RowE : Hid (RowW w0 [] (.slice (some ⟨w0.heap.size, 0, none⟩) 0 0) (w0.alloc (.cells #[] 80))) := Lib.hid (RowW.empty w0)
  have KA : Hid (∀ w', Below w0.heap.size w0 w' → BoxAt w' w.heap.size (.int .i64 s.many) (.slice p s.sync.length c) (.slice q s.loose.length d) (.int .i64 s.left)) := Lib.hid fun w' h => BA.below h
  have KR : Hid (∀ w', Below w0.heap.size w0 w' → BoxAt w' (w.heap.size + 1) (.int .i64 0) (.slice none 0 0) (.slice none 0 0) (.int .i64 0)) := Lib.hid fun w' h => BR.below h
  have RL := Lib.hid (R.out.loose.below B0)
  have RS := Lib.hid (R.out.sync.below B0)
  have RK := Lib.hid (HK.out.below B0)
  have hq1 := Lib.hid R.out.pc
  clear BA BR R HK
  have z1 : (w0.alloc (.cells #[] 80)).cell? ⟨w.heap.size, 1, none⟩ = some (.slice p s.sync.length c) := (KA.out _ RowE.out.2).x1
  have HB0 := Lib.hid B0
  clear B0
  have TR := tornS_range s keep
  go_enter Try.func26, Try.ntmps26
  go_wp2_with (at_builtin; refine wpList_append_writes rfl (.tmp 20) (.tmp 22) rfl rfl RowE.out rfl hq1.out (RS.out.below RowE.out.2) ?c1 ?_)
  case c1 => first | omega | (simp; omega)
  intro v1 w1 hR1
  clear hW0 z1
  have HR1 := Lib.hid hR1
  obtain ⟨x0, x1, x2, x3, f0, f1, f2, f3⟩ := KA.out _ hR1.2
  have RK1 := Lib.hid (RK.out.below hR1.2)
  clear hR1
  go_wp2
  go_loop [9, 10] (fun t i => ∃ n : Nat, n ≤ s.loose.length ∧ n ≤ keep.length ∧ i = .int .i64 n ∧ t = .int .i64 (tornF keep n)) (fun _ i => (s.loose.length - intOf i).toNat)
  case atStart => exact ⟨0, Nat.zero_le _, Nat.zero_le _, by first | rfl | go_num, rfl⟩
  case round =>
    obtain ⟨n, hn1, hn2, rfl, rfl⟩ := hrel
    by_cases hlt : n < s.loose.length ∧ n < keep.length
    · obtain ⟨hl1, hl2⟩ := hlt
      obtain ⟨b, hb⟩ : ∃ b, keep[n]? = some b := ⟨_, List.getElem?_eq_getElem hl2⟩
      obtain ⟨B, off, rfl, c1⟩ := RK1.out n b hb
      have ht := tornF_next hb
      clear hb
      cases b with
      | true =>
        rw [if_pos rfl] at ht
        have HT := Lib.hid ht
        clear ht
        go_wp2
        go_round
        case rel => exact ⟨n + 1, hl1, hl2, by first | rfl | go_num, by rw [HT.out]⟩
        case measure => simp [intOf]; omega
      | false =>
        rw [if_neg (by decide)] at ht
        have HT := Lib.hid ht
        clear ht
        go_wp2
        go_round
        case rel => exact ⟨n + 1, hl1, hl2, by first | rfl | go_num, by rw [HT.out]⟩
        case measure => simp [intOf]; omega
    · have hT : tornF keep n = tornS s keep := by
        unfold tornS
        rw [show min s.loose.length keep.length = n by omega]
      rw [hT]
      clear hT
      have hend : ¬ n < s.loose.length ∨ (n < s.loose.length ∧ ¬ n < keep.length) := by omega
      clear hlt
      generalize htorn : tornS s keep = torn at *
      clear htorn
      obtain ⟨N, hN⟩ : ∃ N, N = (torn + 1).toNat := ⟨_, rfl⟩
      have htN : torn = (N : Int) - 1 := by omega
      rw [← hN] at TR ⊢
      clear hN
      subst htN
      obtain ⟨TR0, TR1, TR2⟩ := TR
      clear TR0
      rcases hend with he | ⟨he1, he2⟩
      all_goals
        go_wp2
        go_loopw [8, 11] (fun o i wr => ∃ (n : Nat), n ≤ N ∧ i = .int .i64 n ∧ Hid (RowW w0 (crashF keep s.loose tear ((N : Int) - 1) s.sync n) o wr)) (fun _ i _ => (N - intOf i).toNat)
        case atStart => exact ⟨0, Nat.zero_le _, by first | rfl | go_num, HR1⟩
        case round =>
          obtain ⟨n, hn, rfl, HR⟩ := hrel
          have hcl := Lib.hid (crashF_length keep s.loose s.sync tear ((N : Int) - 1) n)
          obtain ⟨x0, x1, x2, x3, f0, f1, f2, f3⟩ := KA.out _ HR.out.2
          have hws := HR.out.2.size
          by_cases hlt : n < N
          · obtain ⟨b, hb⟩ : ∃ b, keep[n]? = some b := ⟨_, List.getElem?_eq_getElem (by omega)⟩
            obtain ⟨B, off, rfl, c1⟩ := RK.out.below HR.out.2 n b hb
            cases b with
            | false =>
              have HF := Lib.hid (crashF_no (loose := s.loose) (sync := s.sync) (tear := tear) (torn := (N : Int) - 1) hb)
              clear hb
              go_wp2
              go_roundw
              case rel => exact ⟨n + 1, hlt, by first | rfl | go_num, by rw [HF.out]; exact HR⟩
              case measure => simp [intOf]; omega
            | true =>
              obtain ⟨x, hx⟩ : ∃ x, s.loose[n]? = some x := ⟨_, List.getElem?_eq_getElem (by omega)⟩
              have HF := Lib.hid (crashF_yes (sync := s.sync) (tear := tear) (torn := (N : Int) - 1) hb hx)
              obtain ⟨C, coff, rfl, d1, d2⟩ := RL.out.below HR.out.2 n x hx
              have HX : Hid (x ∈ s.loose) := Lib.hid (List.mem_of_getElem? hx)
              clear hb hx
              have e1 : coff + 2 * n = coff + n * 2 := by omega
              have e2 : coff + (2 * n + 1) = coff + n * 2 + 1 := by omega
              rw [e1] at d1
              rw [e2] at d2
              clear e1 e2
              by_cases hT : (n : Int) = (N : Int) - 1 ∧ 0 < tear
              · have hg1 : ((n : Int) == (N : Int) - 1) = true := by simp only [beq_iff_eq]; exact hT.1
                have hg3 : 0 < tear := hT.2
                have HT := Lib.hid hT
                clear hT
                go_wp2
                obtain ⟨pv, cv, rfl, -, -, hwv, hnv, -⟩ := HR.out.at'
                have hxm := (hW.loose x (HX.out)).2
                obtain ⟨LA, hLA⟩ : ∃ S, S = lastS (crashF keep s.loose tear ((N : Int) - 1) s.sync n) x.1 := ⟨_, rfl⟩
                have hla : LA.size = 64 := by rw [hLA]; exact lastS_size (fun w hw => (crashF_whole ht hW.sync hW.loose n (by omega) w hw).2) _
                obtain ⟨P1, P2, hs1, hs2, hs3, hs4⟩ := torn_parts x.2 LA tear ht hxm hla
                have HP := Lib.hid hs4
                clear hs4
                have HLA := Lib.hid hLA
                have Hla := Lib.hid hla
                have Hxm := Lib.hid hxm
                clear hLA hla hxm
                have hBn : Hid (Below wr.heap.size wr (wr.alloc (.cells #[.int .i64 x.1, .string x.2] 80)).drew) := Lib.hid ((Below.refl _ _).alloc (Nat.le_refl _) _).drew
                have LC : Hid (∀ w', Below wr.heap.size wr w' → Calls Try.prog 31 #[.slice pv (crashF keep s.loose tear ((N : Int) - 1) s.sync n).length cv, .int .i64 x.1] w' fun r w2 => r = .returned (.string LA) ∧ Below w'.heap.size w' w2) := Lib.hid fun w' h => by
                  rw [HLA.out]
                  exact last_any _ pv cv x.1 w' (by have := hcl.out; omega) (Lib.hid (hwv.below h))
                have g0 : (wr.alloc (.cells #[.int .i64 x.1, .string x.2] 80)).cell? ⟨wr.heap.size, 0, none⟩ = some (.int .i64 x.1) := by go_cell
                have g1 : (wr.alloc (.cells #[.int .i64 x.1, .string x.2] 80)).cell? ⟨wr.heap.size, 1, none⟩ = some (.string x.2) := by go_cell
                have g2 : (wr.alloc (.cells #[.int .i64 x.1, .string x.2] 80)).frozen? ⟨wr.heap.size, 1, none⟩ = false := by go_cell
                have hgz : (wr.alloc (.cells #[.int .i64 x.1, .string x.2] 80)).heap.size = wr.heap.size + 1 := by simp
                generalize wr.alloc (.cells #[.int .i64 x.1, .string x.2] 80) = wg at *
                have Hgz := Lib.hid hgz
                clear hgz
                have KG : Hid (∀ w', Below wg.drew.heap.size wg.drew w' → w'.cell? ⟨wr.heap.size, 0, none⟩ = some (.int .i64 x.1) ∧ w'.cell? ⟨wr.heap.size, 1, none⟩ = some (.string x.2) ∧ w'.frozen? ⟨wr.heap.size, 1, none⟩ = false) := Lib.hid fun w' h => by
                  have hz : wr.heap.size < wg.drew.heap.size := by have := Hgz.out; simp; omega
                  exact ⟨(h.cell (p := ⟨wr.heap.size, 0, none⟩) hz).trans (by simpa using g0), (h.cell (p := ⟨wr.heap.size, 1, none⟩) hz).trans (by simpa using g1), (h.frozen (p := ⟨wr.heap.size, 1, none⟩) hz).trans (by simpa using g2)⟩
                generalize (crashF keep s.loose tear ((N : Int) - 1) s.sync n).length = LN at *
                go_region_with ((first
                    | (go_at_call 31; (with_reducible refine (LC.out _ hBn.out).mono ?_); rintro e w3 ⟨rfl, hb3⟩; obtain ⟨k0, k1, k2⟩ := KG.out _ hb3
                       have q0 : (w3.setCell ⟨wr.heap.size, 1, none⟩ (.string (P1 ++ P2))).cell? ⟨wr.heap.size, 0, none⟩ = some (.int .i64 x.1) := by go_cell
                       have q1 : (w3.setCell ⟨wr.heap.size, 1, none⟩ (.string (P1 ++ P2))).cell? ⟨wr.heap.size, 1, none⟩ = some (.string (P1 ++ P2)) := by go_cell
                       have HB4 : Hid (Below wr.heap.size wr (w3.setCell ⟨wr.heap.size, 1, none⟩ (.string (P1 ++ P2)))) := Lib.hid ((below_any hBn.out hb3).setCell (Nat.le_refl _) _)
                       clear hb3)))
                all_goals
                  generalize w3.setCell ⟨wr.heap.size, 1, none⟩ (.string (P1 ++ P2)) = w4 at *
                  have O1 := Lib.hid (writesAt_one w4 x.1 (P1 ++ P2) 80)
                  have HR4 := Lib.hid (HR.out.keep (below_any HB4.out ((Below.refl w4.heap.size w4).alloc (Nat.le_refl _) (.cells #[.int .i64 x.1, .string (P1 ++ P2)] 80))))
                  go_wp2_with (at_builtin; refine wpList_append_writes rfl (.tmp 76) (.tmp 78) rfl rfl HR4.out rfl (fun e => by cases e) O1.out ?c3 ?_)
                  case c3 => have := crashF_length keep s.loose s.sync tear ((N : Int) - 1) n; simp; omega
                  intro v5 w5 hR5
                  have HR5 := Lib.hid hR5
                  clear hR5
                  go_wp2
                  go_roundw
                  case rel => exact ⟨n + 1, hlt, by first | rfl | go_num, by rw [HF.out, if_pos HT.out, ← HLA.out, ← HP.out]; exact HR5⟩
                  case measure => simp [intOf]; omega
              · have hn2 : (((n : Int) == (N : Int) - 1) = false) ∨ (((n : Int) == (N : Int) - 1) = true ∧ ¬ 0 < tear) := by
                  by_cases h : (n : Int) = (N : Int) - 1
                  · exact .inr ⟨by simp only [beq_iff_eq]; exact h, fun h2 => hT ⟨h, h2⟩⟩
                  · exact .inl (by simp only [beq_eq_false_iff_ne, ne_eq]; exact h)
                have HT := Lib.hid hT
                clear hT
                obtain ⟨pv, cv, rfl, -, -, hwv, hnv, -⟩ := HR.out.at'
                clear hwv hnv
                have O1 := writesAt_one (wr.alloc (.cells #[.int .i64 x.1, .string x.2] 80)) x.1 x.2 80
                rw [show (wr.alloc (.cells #[.int .i64 x.1, .string x.2] 80)).heap.size = wr.heap.size + 1 by simp] at O1
                have HO1 := Lib.hid O1
                clear O1
                have HR4 := Lib.hid (HR.out.keep (((Below.refl wr.heap.size wr).alloc (Nat.le_refl _) (.cells #[.int .i64 x.1, .string x.2] 80)).alloc (by simp) (.cells #[.int .i64 x.1, .string x.2] 80)))
                rcases hn2 with hg1 | ⟨hg1, hg3⟩
                all_goals
                  go_wp2_with (at_builtin; refine wpList_append_writes rfl (.tmp 76) (.tmp 78) rfl rfl HR4.out rfl (fun e => by cases e) HO1.out ?c4 ?_)
                  case c4 => have := crashF_length keep s.loose s.sync tear ((N : Int) - 1) n; simp; omega
                  intro v5 w5 hR5
                  have HR5 := Lib.hid hR5
                  clear hR5
                  go_wp2
                  go_roundw
                  case rel => exact ⟨n + 1, hlt, by first | rfl | go_num, by rw [HF.out, if_neg HT.out]; exact HR5⟩
                  case measure => simp [intOf]; omega
          · obtain rfl : n = N := by omega
            obtain ⟨y0, y1, y2, y3, g0, g1, g2, g3⟩ := KR.out _ HR.out.2
            obtain ⟨pv, cv, rfl, hlv, hmv, hwv, hnv, hgv⟩ := HR.out.at'
            have HWV := Lib.hid hwv
            have HBW := Lib.hid (below_any HB0.out HR.out.2)
            have HG2 : Hid (∀ B off, pv = some ⟨B, off, none⟩ → B ≠ w.heap.size + 1) := Lib.hid (fun B off e => by have := hgv B off e; omega)
            have HG3 := Lib.hid (fun B off (e : pv = some ⟨B, off, none⟩) => (⟨by have := (hgv B off e).1; omega, (hgv B off e).2⟩ : w.heap.size ≤ B ∧ _))
            clear hwv hgv
            have HCL := Lib.hid hlv
            have HE : Hid (((n : Int) - 1 + 1).toNat = n) := Lib.hid (by omega)
            clear hlv
            go_wp2
            refine bodyPost_ret (v := .tuple #[.agg #[.int .i64 s.many, .slice pv (crashF keep s.loose tear ((n : Int) - 1) s.sync n).length cv, .slice none 0 0, .int .i64 (-1)], .int .i64 0]) ?_ rfl ⟨pv, cv, none, 0, ?_, ?_, fun B off e => .inr (.inr ⟨(HG3.out B off e).1, by simpa using (HG3.out B off e).2⟩), .none, ?_⟩
            focus simp [results, Try.results26, go_sem, y0, y1, y2, y3]
            focus (unfold refV; simp)
            focus exact refAt_same (s := ⟨s.many, crashF keep s.loose tear ((n : Int) - 1) s.sync n, [], -1⟩) ⟨hnv, fun _ => rfl, ⟨HCL.out, by unfold maxLen at hmv; omega⟩, by simp, (((HWV.out.set HG2.out _ _).set HG2.out _ _).set HG2.out _ _).set HG2.out _ _, WritesAt.nil _ _⟩ (by show crashF keep s.loose tear ((n : Int) - 1) s.sync ((n : Int) - 1 + 1).toNat = _; rw [HE.out]) rfl
            focus exact (((HBW.out.setCell (by simp) _).setCell (by simp) _).setCell (by simp) _).setCell (by simp) _
end Go.Proofs.Ythbnochlpnikaaa
namespace Go.Proofs.Ythbnochlpnikaaa
open Go.RowKit Go.Shelf

theorem num_any (n : Int) (w : World) : Calls Try.prog 12 #[.int .i64 n] w fun r w' => r = .returned (.int .i64 n) ∧ w = w' := by
  go_enter Try.func12, Try.ntmps12
  go_wp2
  go_ret
  exact ⟨rfl, rfl⟩
def secRow (c k : Nat) (j : Nat) : Value := if j < k then .int .u8 c else .int .u8 0
theorem secRow_next {c k : Nat} : (fun j => if j = k then Value.int .u8 (c : Int) else secRow c k j) = secRow c (k + 1) := by
  funext j
  unfold secRow
  by_cases h : j = k
  · subst h; rw [if_pos rfl, if_pos (by omega)]
  · rw [if_neg h]
    by_cases hj : j < k
    · rw [if_pos hj, if_pos (by omega)]
    · rw [if_neg hj, if_neg (by omega)]
theorem replicate_getD' (n i c : Nat) (h : i < n) : (List.replicate n c).getD i 0 = c := by
  rw [List.getD_eq_getElem?_getD, List.getElem?_replicate, if_pos h]
  rfl
set_option maxRecDepth 100000 in
set_option maxHeartbeats 1000000 in
theorem sec_any (c : Nat) (hc : c < 256) (w : World) :
    Calls Try.prog 16 #[.int .u8 c] w fun r w' => r = .returned (.slice (some ⟨w.heap.size, 0, none⟩) 64 64) ∧ RowB w (List.replicate 64 c) (.slice (some ⟨w.heap.size, 0, none⟩) 64 64) w' := by
  have hmk := make64 w
  go_enter Try.func16, Try.ntmps16
  go_wp2
  have R0 : (w.alloc (.cells (madeCells #[.int .u8 0] 64) 5)).rowIs w.heap.size 5 64 (secRow c 0) := (World.rowIs_made w (.int .u8 0) 64 5).congr fun i hi => by unfold secRow; rw [if_neg (by omega)]
  have B0 : Below w.heap.size w (w.alloc (.cells (madeCells #[.int .u8 0] 64) 5)) := (Below.refl _ _).alloc (Nat.le_refl _) _
  clear hmk
  generalize w.alloc (.cells (madeCells #[.int .u8 0] 64) 5) = w1 at *
  go_loopw [4] (fun i wr => ∃ k : Nat, k ≤ 64 ∧ i = .int .i64 k ∧ wr.rowIs w.heap.size 5 64 (secRow c k) ∧ Below w.heap.size w wr) (fun i _ => (64 - intOf i).toNat)
  case atStart => exact ⟨0, Nat.zero_le _, by first | rfl | go_num, R0, B0⟩
  case round =>
    obtain ⟨k, hk, rfl, R, hB⟩ := hrel
    by_cases hlt : k < 64
    · obtain ⟨v0, hcell⟩ : ∃ v, wr.cell? ⟨w.heap.size, k, none⟩ = some v := ⟨_, R.cell (i := k) hlt⟩
      have hfz := R.frozen k
      have h2 := R.set k (.int .u8 (c : Int))
      rw [secRow_next] at h2
      have H2 := Lib.hid h2
      clear h2
      go_wp2
      go_roundw
      case rel => exact ⟨k + 1, hlt, by first | rfl | go_num, H2.out, hB.setCell (Nat.le_refl _) _⟩
      case measure => simp [intOf]; omega
    · obtain rfl : k = 64 := by omega
      go_wp2
      go_ret
      refine ⟨rfl, rowB_of_is (n := 64) (f := secRow c 64) R (by simp) (by unfold maxLen; omega) (fun i hi => ?_) hB⟩
      unfold secRow
      rw [if_pos hi, replicate_getD' 64 i c hi]
end Go.Proofs.Ythbnochlpnikaaa
namespace Go.Proofs.Ythbnochlpnikaaa
open Go.RowKit Go.Shelf

/-- Of what lay there nothing is changed but the blocks F. -/
structure Apart (F : Nat → Prop) (w w' : World) : Prop where
  os : w'.os = w.os
  tape : w'.tape = w.tape
  output : w'.output = w.output
  size : w.heap.size ≤ w'.heap.size
  block : ∀ k, k < w.heap.size → ¬ F k → w'.heap[k]? = w.heap[k]?
theorem Apart.below {F : Nat → Prop} {w0 w w' : World} (h : Apart F w w') (b : Below w0.heap.size w0 w) (hF : ∀ k, F k → w0.heap.size ≤ k) : Below w0.heap.size w0 w' :=
  ⟨h.os.trans b.os, h.tape.trans b.tape, h.output.trans b.output, Nat.le_trans b.size h.size, fun k hk => (h.block k (Nat.lt_of_lt_of_le hk b.size) (fun f => by have := hF k f; omega)).trans (b.block k hk)⟩
theorem Below.apart {w w' : World} (h : Below w.heap.size w w') (F : Nat → Prop) : Apart F w w' := ⟨h.os, h.tape, h.output, h.size, fun k hk _ => h.block k hk⟩
def DiskRep := World → Value → DS → (Nat → Prop) → Prop
/-- A disk behind a call that changes it. -/
def Goes (Rep : DiskRep) (d : Value) (s : DS) (F : Nat → Prop) (w w' : World) : Prop := ∃ F', Rep w' d s F' ∧ (∀ k, F' k → F k ∨ w.heap.size ≤ k) ∧ Apart F w w'
/-- A list of bytes that is handed in. -/
structure BytesIn (w : World) (F : Nat → Prop) (p : Option Addr) (l : List Nat) (cap : Nat) : Prop where
  at' : BytesAt w p l
  byte : ∀ b ∈ l, b < 256
  nil : p = none → cap = 0
  cap : l.length ≤ cap ∧ cap ≤ 9223372036854775807
  apart : l ≠ [] → ∀ B off, p = some ⟨B, off, none⟩ → ¬ F B
structure BoolsIn (w : World) (F : Nat → Prop) (p : Option Addr) (l : List Bool) (cap : Nat) : Prop where
  at' : BoolsAt w p l
  nil : p = none → cap = 0
  cap : l.length ≤ cap ∧ cap ≤ 9223372036854775807
  apart : l ≠ [] → ∀ B off, p = some ⟨B, off, none⟩ → ¬ F B
/-- Bytes that a call tells, in memory of its own (of whatever kind). -/
def TellB (w : World) (l : List Nat) (t : Value) (w' : World) : Prop := (∃ p cap, t = .slice p l.length cap ∧ l.length ≤ cap ∧ cap ≤ maxLen ∧ BytesAt w' p l ∧ ∀ a, p = some a → w.heap.size ≤ a.block) ∧ Below w.heap.size w w'
theorem TellB.at' {w w' : World} {l : List Nat} {t : Value} (h : TellB w l t w') : ∃ p cap, t = .slice p l.length cap ∧ l.length ≤ cap ∧ cap ≤ maxLen ∧ BytesAt w' p l ∧ ∀ a, p = some a → w.heap.size ≤ a.block := h.1
structure DiskOk (Rep : DiskRep) : Prop where
  low : ∀ w d s F, Rep w d s F → ∀ k, F k → k < w.heap.size
  keep : ∀ w w' d s F, Rep w d s F → w.heap.size ≤ w'.heap.size → (∀ k, F k → w'.heap[k]? = w.heap[k]?) → Rep w' d s F
  new : ∀ (n : Nat) w, 1 ≤ n ∧ n ≤ 40000 → Calls Try.prog 7 #[.int .i64 n] w fun r w' => ∃ d F, r = .returned (.tuple #[d, .int .i64 0]) ∧ Rep w' d (newS n) F ∧ (∀ k, F k → w.heap.size ≤ k) ∧ Below w.heap.size w w'
  write : ∀ w d s F (k : Int) p l cap, Rep w d s F → Whole s → Few s → l.length ≤ 200 → BytesIn w F p l cap → Calls Try.prog 15 #[d, .int .i64 k, .slice p l.length cap] w fun r w' => r = .returned (.int .i64 (writeS s k (strOf l)).2) ∧ Goes Rep d (writeS s k (strOf l)).1 F w w'
  sync : ∀ w d s F, Rep w d s F → Whole s → Few s → Calls Try.prog 17 #[d] w fun r w' => r = .returned (.int .i64 (syncS s).2) ∧ Goes Rep d (syncS s).1 F w w'
  stop : ∀ w d s F (n : Int), Rep w d s F → Whole s → -9223372036854775808 ≤ n ∧ n ≤ 9223372036854775807 → Calls Try.prog 20 #[d, .int .i64 n] w fun r w' => r = .returned (.int .i64 (stopS s n).2) ∧ Goes Rep d (stopS s n).1 F w w'
  crash : ∀ w d s F (tear : Int) p keep cap, Rep w d s F → Whole s → Few s → keep.length ≤ 1000 → BoolsIn w F p keep cap → Calls Try.prog 18 #[d, .int .i64 tear, .slice p keep.length cap] w fun r w' => r = .returned (.int .i64 (crashS s tear keep).2) ∧ Goes Rep d (crashS s tear keep).1 F w w'
  read : ∀ w d s F (k : Int), Rep w d s F → Whole s → Few s → Calls Try.prog 19 #[d, .int .i64 k] w fun r w' => ∃ t l, r = .returned (.tuple #[t, .int .i64 (readS s k).2]) ∧ TellB w l t w' ∧ (∀ b ∈ l, b < 256) ∧ strOf l = (readS s k).1
  copy : ∀ w d s F, Rep w d s F → Whole s → Few s → Calls Try.prog 10 #[d] w fun r w' => ∃ d' F', r = .returned d' ∧ Rep w' d' s F' ∧ (∀ k, F' k → w.heap.size ≤ k) ∧ Below w.heap.size w w'
/-- A disk that was made since w0, all of it below m. -/
def Held (Rep : DiskRep) (w0 : World) (m : Nat) (w : World) (d : Value) (s : DS) : Prop := ∃ F, Rep w d s F ∧ ∀ k, F k → w0.heap.size ≤ k ∧ k < m
section
variable {Rep : DiskRep}
theorem Held.kept (S : DiskOk Rep) {w0 w w' : World} {m : Nat} {d : Value} {s : DS} (h : Held Rep w0 m w d s) (b : Below w.heap.size w w') : Held Rep w0 m w' d s := by
  obtain ⟨F, h, hF⟩ := h
  exact ⟨F, S.keep _ _ _ _ _ h b.size (fun k hk => b.block k (S.low _ _ _ _ h k hk)), hF⟩
theorem Held.goes (S : DiskOk Rep) {w0 w w' : World} {d : Value} {s : DS} {F : Nat → Prop} (hF : ∀ k, F k → w0.heap.size ≤ k) (hb : Below w0.heap.size w0 w) (h : Goes Rep d s F w w') : Held Rep w0 w'.heap.size w' d s ∧ Below w0.heap.size w0 w' := by
  obtain ⟨F', hR, h1, h2⟩ := h
  refine ⟨⟨F', hR, fun k hk => ⟨?_, S.low _ _ _ _ hR k hk⟩⟩, h2.below hb hF⟩
  rcases h1 k hk with h | h
  · exact hF k h
  · exact Nat.le_trans hb.size h
theorem held_new (S : DiskOk Rep) (n : Nat) (w : World) (hn : 1 ≤ n ∧ n ≤ 40000) : Calls Try.prog 7 #[.int .i64 n] w fun r w' => ∃ d, r = .returned (.tuple #[d, .int .i64 0]) ∧ Held Rep w w'.heap.size w' d (newS n) ∧ Below w.heap.size w w' := by
  refine (S.new n w hn).mono ?_
  rintro e w' ⟨d, F, rfl, hR, hF, hb⟩
  exact ⟨d, rfl, ⟨F, hR, fun k hk => ⟨hF k hk, S.low _ _ _ _ hR k hk⟩⟩, hb⟩
/-- A sector of one byte is written. -/
theorem held_write (S : DiskOk Rep) {w0 w : World} {m : Nat} {d : Value} {s : DS} (k : Int) (B cap c : Nat) (h : Held Rep w0 m w d s) (hb : Below w0.heap.size w0 w) (hw : Whole s) (hf : Few s) (hc : c < 256) (hB : m ≤ B) (hR : BytesAt w (some ⟨B, 0, none⟩) (List.replicate 64 c)) (h64 : 64 ≤ cap ∧ cap ≤ 9223372036854775807) :
    Calls Try.prog 15 #[d, .int .i64 k, .slice (some ⟨B, 0, none⟩) 64 cap] w fun r w' => r = .returned (.int .i64 (writeS s k (secS c)).2) ∧ Held Rep w0 w'.heap.size w' d (writeS s k (secS c)).1 ∧ Below w0.heap.size w0 w' := by
  obtain ⟨F, h, hF⟩ := h
  have := S.write w d s F k (some ⟨B, 0, none⟩) (List.replicate 64 c) cap h hw hf (by simp) ⟨hR, fun b hb => by rw [List.mem_replicate] at hb; omega, fun e => (by cases e), by rw [List.length_replicate]; exact h64, fun _ B' off e => by injection e with e; injection e with e1 e2; subst e1; exact fun f => by have := (hF _ f).2; omega⟩
  rw [List.length_replicate] at this
  refine this.mono ?_
  rintro e w' ⟨rfl, hg⟩
  exact ⟨rfl, Held.goes S (fun k hk => (hF k hk).1) hb hg⟩
theorem held_sync (S : DiskOk Rep) {w0 w : World} {m : Nat} {d : Value} {s : DS} (h : Held Rep w0 m w d s) (hb : Below w0.heap.size w0 w) (hw : Whole s) (hf : Few s) :
    Calls Try.prog 17 #[d] w fun r w' => r = .returned (.int .i64 (syncS s).2) ∧ Held Rep w0 w'.heap.size w' d (syncS s).1 ∧ Below w0.heap.size w0 w' := by
  obtain ⟨F, h, hF⟩ := h
  refine (S.sync w d s F h hw hf).mono ?_
  rintro e w' ⟨rfl, hg⟩
  exact ⟨rfl, Held.goes S (fun k hk => (hF k hk).1) hb hg⟩
theorem held_stop (S : DiskOk Rep) {w0 w : World} {m : Nat} {d : Value} {s : DS} (n : Int) (hn : -9223372036854775808 ≤ n ∧ n ≤ 9223372036854775807) (h : Held Rep w0 m w d s) (hb : Below w0.heap.size w0 w) (hw : Whole s) :
    Calls Try.prog 20 #[d, .int .i64 n] w fun r w' => r = .returned (.int .i64 (stopS s n).2) ∧ Held Rep w0 w'.heap.size w' d (stopS s n).1 ∧ Below w0.heap.size w0 w' := by
  obtain ⟨F, h, hF⟩ := h
  refine (S.stop w d s F n h hw hn).mono ?_
  rintro e w' ⟨rfl, hg⟩
  exact ⟨rfl, Held.goes S (fun k hk => (hF k hk).1) hb hg⟩
theorem held_crash (S : DiskOk Rep) {w0 w : World} {m : Nat} {d : Value} {s : DS} (tear : Int) (p : Option Addr) (keep : List Bool) (cap : Nat) (h : Held Rep w0 m w d s) (hb : Below w0.heap.size w0 w) (hw : Whole s) (hf : Few s) (hk : keep.length ≤ 1000) (hB : BoolsAt w p keep) (hn : p = none → cap = 0) (hc : keep.length ≤ cap ∧ cap ≤ 9223372036854775807) (hp : keep ≠ [] → ∀ B off, p = some ⟨B, off, none⟩ → B < w0.heap.size ∨ m ≤ B) :
    Calls Try.prog 18 #[d, .int .i64 tear, .slice p keep.length cap] w fun r w' => r = .returned (.int .i64 (crashS s tear keep).2) ∧ Held Rep w0 w'.heap.size w' d (crashS s tear keep).1 ∧ Below w0.heap.size w0 w' := by
  obtain ⟨F, h, hF⟩ := h
  refine (S.crash w d s F tear p keep cap h hw hf hk ⟨hB, hn, hc, fun ne B off e f => by have := hF _ f; have := hp ne B off e; omega⟩).mono ?_
  rintro e w' ⟨rfl, hg⟩
  exact ⟨rfl, Held.goes S (fun k hk => (hF k hk).1) hb hg⟩
theorem held_read (S : DiskOk Rep) {w0 w : World} {m : Nat} {d : Value} {s : DS} (k : Int) (h : Held Rep w0 m w d s) (hw : Whole s) (hf : Few s) :
    Calls Try.prog 19 #[d, .int .i64 k] w fun r w' => ∃ t l, r = .returned (.tuple #[t, .int .i64 (readS s k).2]) ∧ TellB w l t w' ∧ (∀ b ∈ l, b < 256) ∧ strOf l = (readS s k).1 := by
  obtain ⟨F, h, hF⟩ := h
  exact S.read w d s F k h hw hf
end
end Go.Proofs.Ythbnochlpnikaaa
namespace Go.Proofs.Ythbnochlpnikaaa
open Go.RowKit Go.Shelf

theorem sec_at {w w' : World} {c : Nat} {t : Value} (h : RowB w (List.replicate 64 c) t w') (e : t = .slice (some ⟨w.heap.size, 0, none⟩) 64 64 := by rfl) : BytesAt w' (some ⟨w.heap.size, 0, none⟩) (List.replicate 64 c) := by
  subst e
  obtain ⟨p, cap, e, -, -, hb, -⟩ := h.at'
  injection e with e1 e2 e3
  subst e1
  exact hb
theorem makeN (w : World) (n : Nat) (hn : n ≤ 100000) : (Instr.makeSlice 47 (.int .i64 n) (.int .i64 n)).run Try.prog w = .ok (.slice (some ⟨w.heap.size, 0, none⟩) n n) (w.alloc (.cells (madeCells #[.int .u8 0] n) 5)) :=
  run_make_row' (P := Try.prog) 47 5 (.int .u8 0) 1 Try.underlying47 info5 rfl .i64 .i64 n (by omega) (by omega) w
theorem bytesN (w : World) (n : Nat) : BytesAt (w.alloc (.cells (madeCells #[.int .u8 0] n) 5)) (some ⟨w.heap.size, 0, none⟩) (List.replicate n 0) := fun i hi => by
  have hi' : i < n := by simpa using hi
  refine ⟨w.heap.size, 0, rfl, ?_⟩
  rw [Nat.zero_add, (World.rowIs_made w (.int .u8 0) n 5).cell hi', replicate_getD]
  rfl
theorem torn_row : tornB 10 (secS 7) (secS 0) = strOf (List.replicate 10 7) ++ strOf (List.replicate 54 0) := by decide +kernel
theorem w1 : writeS (newS 2) 0 (secS 7) = (⟨2, [], [(0, secS 7)], -1⟩, 0) := writeS_ok (s := newS 2) (k := 0) (secS_size 7) (by decide) (by decide)
theorem w2 : stopS ⟨2, [], [(0, secS 7)], -1⟩ 0 = (⟨2, [], [(0, secS 7)], 0⟩, 0) := stopS_pos (by omega)
theorem w3 : writeS ⟨2, [], [(0, secS 7)], 0⟩ 1 (secS 7) = (⟨2, [], [(0, secS 7)], 0⟩, 140) := writeS_stop (secS_size 7) (by omega) (by simp) rfl
theorem w4 : crashS ⟨2, [], [(0, secS 7)], 0⟩ 10 [true] = (⟨2, [(0, tornB 10 (secS 7) (secS 0))], [], -1⟩, 0) := by
  have := crashS_ok (s := ⟨2, [], [(0, secS 7)], 0⟩) (tear := 10) (keep := [true]) (by omega)
  exact this
theorem w5 : readS ⟨2, [(0, tornB 10 (secS 7) (secS 0))], [], -1⟩ 0 = (strOf (List.replicate 10 7) ++ strOf (List.replicate 54 0), 0) := by
  have := readS_ok (s := ⟨2, [(0, tornB 10 (secS 7) (secS 0))], [], -1⟩) (k := 0) (by simp) (by simp)
  rw [← torn_row]
  exact this
theorem whole2 : Whole ⟨2, [], [(0, secS 7)], -1⟩ := by have := (Whole.new (n := 2) (by omega)).write 0 (secS 7); rw [w1] at this; exact this
theorem whole3 : Whole ⟨2, [], [(0, secS 7)], 0⟩ := by have := whole2.stop 0; rw [w2] at this; exact this
theorem whole4 : Whole ⟨2, [(0, tornB 10 (secS 7) (secS 0))], [], -1⟩ := by have := whole3.crash 10 [true]; rw [w4] at this; exact this
theorem few_small (s : DS) (h1 : s.sync.length ≤ 100) (h2 : s.loose.length ≤ 100) : Few s := ⟨by omega, by omega⟩
set_option maxRecDepth 100000 in
set_option maxHeartbeats 2000000 in
theorem works_any {Rep : DiskRep} (S : DiskOk Rep) (w : World) : Calls Try.prog 6 #[] w fun r w' => r = .returned (.bool true) ∧ Below w.heap.size w w' := by
  have NM := Lib.hid num_any
  have SC : Hid (∀ w, Calls Try.prog 16 #[.int .u8 7] w fun r w' => r = .returned (.slice (some ⟨w.heap.size, 0, none⟩) 64 64) ∧ RowB w (List.replicate 64 7) (.slice (some ⟨w.heap.size, 0, none⟩) 64 64) w') := Lib.hid fun w => sec_any 7 (by omega) w
  go_enter Try.func6, Try.ntmps6
  go_wp2_with fail
  refine (held_new S 2 w (by omega)).mono ?_
  rintro e wa ⟨d, rfl, hd, hb⟩
  have HD := Lib.hid hd
  have HX := Lib.hid hb
  clear hd hb
  go_wp2_with (go_at_call 12; (with_reducible refine (NM.out _ _).mono ?_); rintro e wn ⟨rfl, rfl⟩)
  refine (SC.out wa).mono ?_
  rintro e wb ⟨rfl, hs⟩
  have BS := Lib.hid (sec_at hs)
  have HX1 := Lib.hid (below_any HX.out hs.2)
  have HD1 := Lib.hid (HD.out.kept S hs.2)
  clear hs HX HD
  have WR := Lib.hid (held_write S 0 wa.heap.size 64 7 HD1.out HX1.out (Whole.new (by omega)) (few_small _ (by simp [newS]) (by simp [newS])) (by omega) (Nat.le_refl _) BS.out (by omega))
  rw [w1] at WR
  go_wp2_with fail
  refine WR.out.mono ?_
  rintro e wc ⟨rfl, hd, hb⟩
  have HD := Lib.hid hd
  have HX := Lib.hid hb
  clear hd hb WR HD1 HX1 BS
  go_wp2_with (go_at_call 12; (with_reducible refine (NM.out _ _).mono ?_); rintro e wn ⟨rfl, rfl⟩)
  have ST := held_stop S 0 (by omega) HD.out HX.out whole2
  rw [w2] at ST
  refine ST.mono ?_
  rintro e we ⟨rfl, hd, hb⟩
  have HD := Lib.hid hd
  have HX := Lib.hid hb
  clear hd hb ST
  go_wp2_with (go_at_call 12; (with_reducible refine (NM.out _ _).mono ?_); rintro e wn ⟨rfl, rfl⟩)
  refine (SC.out we).mono ?_
  rintro e wf ⟨rfl, hs⟩
  have BS := Lib.hid (sec_at hs)
  have HX1 := Lib.hid (below_any HX.out hs.2)
  have HD1 := Lib.hid (HD.out.kept S hs.2)
  clear hs HX HD
  have WR := Lib.hid (held_write S 1 we.heap.size 64 7 HD1.out HX1.out whole3 (few_small _ (by simp) (by simp)) (by omega) (Nat.le_refl _) BS.out (by omega))
  rw [w3] at WR
  go_wp2_with fail
  refine WR.out.mono ?_
  rintro e wg ⟨rfl, hd, hb⟩
  have HB : Below wg.heap.size wg (wg.alloc (.cells #[.bool true] 4)) := (Below.refl _ _).alloc (Nat.le_refl _) _
  have HX := Lib.hid (below_any hb HB)
  have hd' := hd.kept S HB
  have hbt : BoolsAt (wg.alloc (.cells #[.bool true] 4)) (some ⟨wg.heap.size, 0, none⟩) [true] := fun i b hi => by
    cases i with
    | zero => simp at hi; subst hi; exact ⟨wg.heap.size, 0, rfl, by go_cell⟩
    | succ i => simp at hi
  have CR := held_crash S 10 (some ⟨wg.heap.size, 0, none⟩) [true] 1 hd' HX.out whole3 (few_small _ (by simp) (by simp)) (by simp) hbt (fun e => by cases e) (by simp) (fun _ B off e => .inr (by injection e with e; injection e with e1 e2; omega))
  rw [w4] at CR
  have HCR := Lib.hid CR
  clear hd hb hd' hbt CR WR BS HX1 HD1 HB
  go_wp2_with fail
  refine HCR.out.mono ?_
  rintro e wh ⟨rfl, hd, hb⟩
  have HD := Lib.hid hd
  have HX := Lib.hid hb
  clear hd hb HCR
  go_wp2_with (go_at_call 12; (with_reducible refine (NM.out _ _).mono ?_); rintro e wn ⟨rfl, rfl⟩)
  have RD := held_read S 0 HD.out whole4 (few_small _ (by simp) (by simp))
  rw [w5] at RD
  refine RD.mono ?_
  rintro e wr ⟨t, l, rfl, hr, hlb, hl⟩
  replace hl : strOf l = strOf (List.replicate 10 7) ++ strOf (List.replicate 54 0) := hl
  obtain ⟨p, cap, rfl, -, -, hba, -⟩ := hr.at'
  have HX := Lib.hid (below_any HX.out (hr.2.trans (Below.refl _ _).drew) : Below w.heap.size w wr.drew)
  have CB : Hid (∀ w', Below wr.heap.size wr w' → (convert 47 9 (.slice p l.length cap)).run Try.prog w' = .ok (.string (strOf (List.replicate 10 7) ++ strOf (List.replicate 54 0))) w') := Lib.hid fun w' h => by
    rw [← hl]
    exact conv_later hba hlb h cap
  have C10 : Hid (∀ (w' : World) (B c : Nat), BytesAt w' (some ⟨B, 0, none⟩) (List.replicate 64 7) → (convert 47 9 (.slice (some ⟨B, 0, none⟩) 10 c)).run Try.prog w' = .ok (.string (strOf (List.replicate 10 7))) w') := Lib.hid fun w' B c h =>
    conv_at w' (some ⟨B, 0, none⟩) c (List.replicate 10 7) (fun b hb => by rw [List.mem_replicate] at hb; omega) (bytesAt_take h 10)
  have C54 : Hid (∀ (w' : World) (B c : Nat), BytesAt w' (some ⟨B, 0, none⟩) (List.replicate 54 0) → (convert 47 9 (.slice (some ⟨B, 0, none⟩) 54 c)).run Try.prog w' = .ok (.string (strOf (List.replicate 54 0))) w') := Lib.hid fun w' B c h =>
    conv_at w' (some ⟨B, 0, none⟩) c (List.replicate 54 0) (fun b hb => by rw [List.mem_replicate] at hb; omega) h
  have hq : ∀ (x : ByteArray), (x.toList == x.toList) = true := fun x => by simp
  have hz : ¬ 9223372036854775807 < (strOf (List.replicate 10 7)).size + (strOf (List.replicate 54 0)).size := by rw [strOf_size, strOf_size]; simp
  generalize strOf (List.replicate 10 7) = S10 at *
  generalize strOf (List.replicate 54 0) = S54 at *
  clear RD hr hlb hl hba HD
  go_wp2_with fail
  refine wp_region_held_drew (S := fun w' => Below wr.heap.size wr w') (by kernel_rfl) ((Below.refl _ _).drew) (fun H0 => ?_)
  refine wpAnyH_take (i := 0) (oi := { dst := some 36, op := Go.Op.move (Go.Operand.tmp 3), type := 3, pos := "law.go:29", after := #[], guard := none }) (v := ?_) rfl (by kernel_rfl) (by kernel_rfl) (by kernel_rfl) (fun _ _ _ h => h) (Or.inl ⟨by rfl, ?_⟩) H0 ?_
  rotate_left
  focus (intro w' hSw; (try dsimp only at hSw); go_simp; (try with_reducible rfl))
  simp only [Act.put, List.setIfInBounds_toArray, List.set_cons_zero, List.set_cons_succ]
  refine wpAnyH_take (i := 1) (oi := { dst := some 37, op := Go.Op.binOp Go.BinOp.eql 3 (Go.Operand.tmp 36) (Go.Operand.const (Go.Value.int Go.IntKind.i64 0)) 3, type := 4, pos := "law.go:29", after := #[{ on := 0, ground := Go.Ground.data }], guard := none }) (v := ?_) rfl (by kernel_rfl) (by kernel_rfl) (by kernel_rfl) (fun _ _ _ h => h) (Or.inl ⟨by rfl, ?_⟩) H0 ?_
  rotate_left
  focus (intro w' hSw; (try dsimp only at hSw); go_simp; (try with_reducible rfl))
  simp only [Act.put, List.setIfInBounds_toArray, List.set_cons_zero, List.set_cons_succ]
  refine wpAnyH_take (i := 2) (oi := { dst := some 38, op := Go.Op.move (Go.Operand.tmp 37), type := 4, pos := "law.go:29", after := #[{ on := 1, ground := Go.Ground.data }], guard := none }) (v := ?_) rfl (by kernel_rfl) (by kernel_rfl) (by kernel_rfl) (fun _ _ _ h => h) (Or.inl ⟨by rfl, ?_⟩) H0 ?_
  rotate_left
  focus (intro w' hSw; (try dsimp only at hSw); go_simp; (try with_reducible rfl))
  simp only [Act.put, List.setIfInBounds_toArray, List.set_cons_zero, List.set_cons_succ]
  refine wpAnyH_take (i := 3) (oi := { dst := some 39, op := Go.Op.move (Go.Operand.tmp 4), type := 30, pos := "law.go:29", after := #[{ on := 2, ground := Go.Ground.guard }], guard := some (2, true) }) (v := ?_) rfl (by kernel_rfl) (by kernel_rfl) (by kernel_rfl) (fun _ _ _ h => h) (Or.inl ⟨by rfl, ?_⟩) H0 ?_
  rotate_left
  focus (intro w' hSw; (try dsimp only at hSw); go_simp; (try with_reducible rfl))
  simp only [Act.put, List.setIfInBounds_toArray, List.set_cons_zero, List.set_cons_succ]
  refine wpAnyH_ready (rs := [4]) (by kernel_rfl) (by simp) ?_
  refine AllReadyH.cons (o := { dst := some 40, op := Go.Op.call { callee := Go.Callee.value (Go.Operand.func 12), args := #[Go.Operand.tmp 39], argTypes := #[30] }, type := 3, pos := "law.go:29", after := #[{ on := 3, ground := Go.Ground.data }, { on := 2, ground := Go.Ground.chain }, { on := 2, ground := Go.Ground.guard }], guard := some (2, true) }) rfl (fun K hK => ?_) ?_
  rotate_left
  exact AllReadyH.nil
  go_simp
  (go_at_call 12; (with_reducible refine (NM.out _ _).mono ?_); rintro e wn ⟨rfl, rfl⟩)
  try go_wp2_with fail
  refine hK.out _ _ H0 (fun Hn => ?_)
  clear hK K
  try simp only [Act.put, List.setIfInBounds_toArray, List.set_cons_zero, List.set_cons_succ]
  clear Hn
  refine wpAnyH_take (i := 5) (oi := { dst := some 41, op := Go.Op.binOp Go.BinOp.eql 3 (Go.Operand.tmp 40) (Go.Operand.const (Go.Value.int Go.IntKind.i64 140)) 3, type := 4, pos := "law.go:29", after := #[{ on := 4, ground := Go.Ground.data }, { on := 2, ground := Go.Ground.guard }], guard := some (2, true) }) (v := ?_) rfl (by kernel_rfl) (by kernel_rfl) (by kernel_rfl) (fun _ _ _ h => h) (Or.inl ⟨by rfl, ?_⟩) H0 ?_
  rotate_left
  focus (intro w' hSw; (try dsimp only at hSw); go_simp; (try with_reducible rfl))
  simp only [Act.put, List.setIfInBounds_toArray, List.set_cons_zero, List.set_cons_succ]
  refine wpAnyH_take (i := 6) (oi := { dst := some 42, op := Go.Op.pick (Go.Operand.tmp 38) (Go.Operand.tmp 41) (Go.Operand.const (Go.Value.bool false)), type := 4, pos := "law.go:29", after := #[{ on := 2, ground := Go.Ground.data }, { on := 5, ground := Go.Ground.data }], guard := none }) (v := ?_) rfl (by kernel_rfl) (by kernel_rfl) (by kernel_rfl) (fun _ _ _ h => h) (Or.inl ⟨by rfl, ?_⟩) H0 ?_
  rotate_left
  focus (intro w' hSw; (try dsimp only at hSw); go_simp; (try with_reducible rfl))
  simp only [Act.put, List.setIfInBounds_toArray, List.set_cons_zero, List.set_cons_succ]
  refine wpAnyH_take (i := 7) (oi := { dst := some 43, op := Go.Op.move (Go.Operand.tmp 42), type := 4, pos := "law.go:29", after := #[{ on := 6, ground := Go.Ground.data }, { on := 4, ground := Go.Ground.chain }], guard := none }) (v := ?_) rfl (by kernel_rfl) (by kernel_rfl) (by kernel_rfl) (fun _ _ _ h => h) (Or.inl ⟨by rfl, ?_⟩) H0 ?_
  rotate_left
  focus (intro w' hSw; (try dsimp only at hSw); go_simp; (try with_reducible rfl))
  simp only [Act.put, List.setIfInBounds_toArray, List.set_cons_zero, List.set_cons_succ]
  refine wpAnyH_take (i := 8) (oi := { dst := some 44, op := Go.Op.move (Go.Operand.tmp 6), type := 30, pos := "law.go:29", after := #[{ on := 7, ground := Go.Ground.guard }], guard := some (7, true) }) (v := ?_) rfl (by kernel_rfl) (by kernel_rfl) (by kernel_rfl) (fun _ _ _ h => h) (Or.inl ⟨by rfl, ?_⟩) H0 ?_
  rotate_left
  focus (intro w' hSw; (try dsimp only at hSw); go_simp; (try with_reducible rfl))
  simp only [Act.put, List.setIfInBounds_toArray, List.set_cons_zero, List.set_cons_succ]
  refine wpAnyH_ready (rs := [9]) (by kernel_rfl) (by simp) ?_
  refine AllReadyH.cons (o := { dst := some 45, op := Go.Op.call { callee := Go.Callee.value (Go.Operand.func 12), args := #[Go.Operand.tmp 44], argTypes := #[30] }, type := 3, pos := "law.go:29", after := #[{ on := 8, ground := Go.Ground.data }, { on := 7, ground := Go.Ground.chain }, { on := 7, ground := Go.Ground.guard }], guard := some (7, true) }) rfl (fun K hK => ?_) ?_
  rotate_left
  exact AllReadyH.nil
  go_simp
  (go_at_call 12; (with_reducible refine (NM.out _ _).mono ?_); rintro e wn ⟨rfl, rfl⟩)
  try go_wp2_with fail
  refine hK.out _ _ H0 (fun Hn => ?_)
  clear hK K
  try simp only [Act.put, List.setIfInBounds_toArray, List.set_cons_zero, List.set_cons_succ]
  clear Hn
  refine wpAnyH_take (i := 10) (oi := { dst := some 46, op := Go.Op.binOp Go.BinOp.eql 3 (Go.Operand.tmp 45) (Go.Operand.const (Go.Value.int Go.IntKind.i64 0)) 3, type := 4, pos := "law.go:29", after := #[{ on := 9, ground := Go.Ground.data }, { on := 7, ground := Go.Ground.guard }], guard := some (7, true) }) (v := ?_) rfl (by kernel_rfl) (by kernel_rfl) (by kernel_rfl) (fun _ _ _ h => h) (Or.inl ⟨by rfl, ?_⟩) H0 ?_
  rotate_left
  focus (intro w' hSw; (try dsimp only at hSw); go_simp; (try with_reducible rfl))
  simp only [Act.put, List.setIfInBounds_toArray, List.set_cons_zero, List.set_cons_succ]
  refine wpAnyH_take (i := 11) (oi := { dst := some 47, op := Go.Op.pick (Go.Operand.tmp 43) (Go.Operand.tmp 46) (Go.Operand.const (Go.Value.bool false)), type := 4, pos := "law.go:29", after := #[{ on := 7, ground := Go.Ground.data }, { on := 10, ground := Go.Ground.data }], guard := none }) (v := ?_) rfl (by kernel_rfl) (by kernel_rfl) (by kernel_rfl) (fun _ _ _ h => h) (Or.inl ⟨by rfl, ?_⟩) H0 ?_
  rotate_left
  focus (intro w' hSw; (try dsimp only at hSw); go_simp; (try with_reducible rfl))
  simp only [Act.put, List.setIfInBounds_toArray, List.set_cons_zero, List.set_cons_succ]
  refine wpAnyH_take (i := 12) (oi := { dst := some 48, op := Go.Op.move (Go.Operand.tmp 47), type := 4, pos := "law.go:29", after := #[{ on := 11, ground := Go.Ground.data }, { on := 9, ground := Go.Ground.chain }], guard := none }) (v := ?_) rfl (by kernel_rfl) (by kernel_rfl) (by kernel_rfl) (fun _ _ _ h => h) (Or.inl ⟨by rfl, ?_⟩) H0 ?_
  rotate_left
  focus (intro w' hSw; (try dsimp only at hSw); go_simp; (try with_reducible rfl))
  simp only [Act.put, List.setIfInBounds_toArray, List.set_cons_zero, List.set_cons_succ]
  refine wpAnyH_take (i := 13) (oi := { dst := some 49, op := Go.Op.move (Go.Operand.tmp 5), type := 47, pos := "law.go:29", after := #[{ on := 12, ground := Go.Ground.guard }], guard := some (12, true) }) (v := ?_) rfl (by kernel_rfl) (by kernel_rfl) (by kernel_rfl) (fun _ _ _ h => h) (Or.inl ⟨by rfl, ?_⟩) H0 ?_
  rotate_left
  focus (intro w' hSw; (try dsimp only at hSw); go_simp; (try with_reducible rfl))
  simp only [Act.put, List.setIfInBounds_toArray, List.set_cons_zero, List.set_cons_succ]
  refine wpAnyH_take (i := 14) (oi := { dst := some 50, op := Go.Op.convert 47 9 (Go.Operand.tmp 49), type := 9, pos := "law.go:29", after := #[{ on := 13, ground := Go.Ground.data }, { on := 12, ground := Go.Ground.guard }], guard := some (12, true) }) (v := ?_) rfl (by kernel_rfl) (by kernel_rfl) (by kernel_rfl) (fun _ _ _ h => h) (Or.inl ⟨by rfl, ?_⟩) H0 ?_
  rotate_left
  focus (intro w' hSw; (try dsimp only at hSw); have hv := CB.out _ hSw; go_simp; (try with_reducible rfl))
  simp only [Act.put, List.setIfInBounds_toArray, List.set_cons_zero, List.set_cons_succ]
  refine wpAnyH_ready (rs := [15, 18]) (by kernel_rfl) (by simp) ?_
  refine AllReadyH.cons (o := { dst := some 51, op := Go.Op.call { callee := Go.Callee.value (Go.Operand.func 16), args := #[Go.Operand.const (Go.Value.int Go.IntKind.u8 7)], argTypes := #[5] }, type := 47, pos := "law.go:29", after := #[{ on := 12, ground := Go.Ground.chain }, { on := 12, ground := Go.Ground.guard }], guard := some (12, true) }) rfl (fun K hK => ?_) ?_
  focus
    go_simp
    (go_at_call 16; (with_reducible refine (SC.out _).mono ?_); rintro e ws ⟨rfl, hs⟩)
    try go_wp2_with fail
    refine hK.out _ _ (kbT H0 hs.2) (fun Gs => ?_)
    clear hK K
    try simp only [Act.put, List.setIfInBounds_toArray, List.set_cons_zero, List.set_cons_succ]
    have HX := Lib.hid (below_any HX.out hs.2)
    refine wpAnyH_turn (S' := fun w' => Below (ws).heap.size (ws) w') (fun w' h => kbT Gs h) _ _ _ _ ?_
    have Hs := Below.refl (ws).heap.size (ws)
    have BS0 := sec_at hs
    have BS : Hid (BytesAt ws (some ⟨wr.heap.size, 0, none⟩) (List.replicate 64 7)) := Lib.hid BS0
    clear hs BS0
    refine wpAnyH_take (i := 16) (oi := { dst := some 52, op := Go.Op.slice 47 (Go.Operand.tmp 51) none (some (Go.Operand.const (Go.Value.int Go.IntKind.i64 10))) none, type := 47, pos := "law.go:29", after := #[{ on := 15, ground := Go.Ground.data }, { on := 12, ground := Go.Ground.guard }], guard := some (12, true) }) (v := ?_) rfl (by kernel_rfl) (by kernel_rfl) (by kernel_rfl) (fun _ _ _ h => h) (Or.inl ⟨by rfl, ?_⟩) Hs ?_
    rotate_left
    focus (intro w' hSw; (try dsimp only at hSw); go_simp; (try with_reducible rfl))
    simp only [Act.put, List.setIfInBounds_toArray, List.set_cons_zero, List.set_cons_succ]
    refine wpAnyH_take (i := 17) (oi := { dst := some 53, op := Go.Op.convert 47 9 (Go.Operand.tmp 52), type := 9, pos := "law.go:29", after := #[{ on := 16, ground := Go.Ground.data }, { on := 12, ground := Go.Ground.guard }], guard := some (12, true) }) (v := ?_) rfl (by kernel_rfl) (by kernel_rfl) (by kernel_rfl) (fun _ _ _ h => h) (Or.inl ⟨by rfl, ?_⟩) Hs ?_
    rotate_left
    focus (intro w' hSw; (try dsimp only at hSw); have hv := C10.out _ _ 64 (bytesAt_below BS.out hSw); go_simp; (try with_reducible rfl))
    simp only [Act.put, List.setIfInBounds_toArray, List.set_cons_zero, List.set_cons_succ]
    refine wpAnyH_ready (rs := [18]) (by kernel_rfl) (by simp) ?_
    refine AllReadyH.cons (o := { dst := some 54, op := Go.Op.makeSlice 47 (Go.Operand.const (Go.Value.int Go.IntKind.i64 54)) (Go.Operand.const (Go.Value.int Go.IntKind.i64 54)), type := 47, pos := "law.go:29", after := #[{ on := 12, ground := Go.Ground.guard }], guard := some (12, true) }) rfl (fun K hK => ?_) ?_
    rotate_left
    exact AllReadyH.nil
    have hmk : (Instr.makeSlice 47 (.int .i64 54) (.int .i64 54)).run Try.prog ws = .ok (.slice (some ⟨ws.heap.size, 0, none⟩) 54 54) (ws.alloc (.cells (madeCells #[.int .u8 0] 54) 5)) := makeN ws 54 (by omega)
    go_simp
    try go_wp2_with fail
    refine hK.out _ _ (kbT Hs ((Below.refl _ _).alloc (Nat.le_refl _) _)) (fun Gm => ?_)
    clear hK K
    try simp only [Act.put, List.setIfInBounds_toArray, List.set_cons_zero, List.set_cons_succ]
    generalize hwm : ws.alloc (.cells (madeCells #[.int .u8 0] 54) 5) = wm at *
    have BM : Hid (BytesAt wm (some ⟨ws.heap.size, 0, none⟩) (List.replicate 54 0)) := Lib.hid (by rw [← hwm]; exact bytesN (ws) 54)
    have HX := Lib.hid (below_any HX.out (by rw [← hwm]; exact (Below.refl (ws).heap.size (ws)).alloc (Nat.le_refl _) _ : Below (ws).heap.size (ws) wm))
    clear hwm
    refine wpAnyH_turn (S' := fun w' => Below (wm).heap.size (wm) w') (fun w' h => kbT Gm h) _ _ _ _ ?_
    have Hm := Below.refl (wm).heap.size (wm)
    refine wpAnyH_take (i := 19) (oi := { dst := some 55, op := Go.Op.convert 47 9 (Go.Operand.tmp 54), type := 9, pos := "law.go:29", after := #[{ on := 18, ground := Go.Ground.data }, { on := 12, ground := Go.Ground.guard }], guard := some (12, true) }) (v := ?_) rfl (by kernel_rfl) (by kernel_rfl) (by kernel_rfl) (fun _ _ _ h => h) (Or.inl ⟨by rfl, ?_⟩) Hm ?_
    rotate_left
    focus (intro w' hSw; (try dsimp only at hSw); have hv := C54.out _ _ 54 (bytesAt_below BM.out hSw); go_simp; (try with_reducible rfl))
    simp only [Act.put, List.setIfInBounds_toArray, List.set_cons_zero, List.set_cons_succ]
    refine wpAnyH_take (i := 20) (oi := { dst := some 56, op := Go.Op.binOp Go.BinOp.add 9 (Go.Operand.tmp 53) (Go.Operand.tmp 55) 9, type := 9, pos := "law.go:29", after := #[{ on := 17, ground := Go.Ground.data }, { on := 19, ground := Go.Ground.data }, { on := 12, ground := Go.Ground.guard }], guard := some (12, true) }) (v := ?_) rfl (by kernel_rfl) (by kernel_rfl) (by kernel_rfl) (fun _ _ _ h => h) (Or.inl ⟨by rfl, ?_⟩) Hm ?_
    rotate_left
    focus (intro w' hSw; (try dsimp only at hSw); go_simp; (try with_reducible rfl))
    simp only [Act.put, List.setIfInBounds_toArray, List.set_cons_zero, List.set_cons_succ]
    refine wpAnyH_take (i := 21) (oi := { dst := some 57, op := Go.Op.binOp Go.BinOp.eql 9 (Go.Operand.tmp 50) (Go.Operand.tmp 56) 9, type := 4, pos := "law.go:29", after := #[{ on := 14, ground := Go.Ground.data }, { on := 20, ground := Go.Ground.data }, { on := 12, ground := Go.Ground.guard }], guard := some (12, true) }) (v := ?_) rfl (by kernel_rfl) (by kernel_rfl) (by kernel_rfl) (fun _ _ _ h => h) (Or.inl ⟨by rfl, ?_⟩) Hm ?_
    rotate_left
    focus (intro w' hSw; (try dsimp only at hSw); go_simp; (try with_reducible rfl))
    simp only [Act.put, List.setIfInBounds_toArray, List.set_cons_zero, List.set_cons_succ]
    refine wpAnyH_take (i := 22) (oi := { dst := some 58, op := Go.Op.pick (Go.Operand.tmp 48) (Go.Operand.tmp 57) (Go.Operand.const (Go.Value.bool false)), type := 4, pos := "law.go:29", after := #[{ on := 12, ground := Go.Ground.data }, { on := 21, ground := Go.Ground.data }], guard := none }) (v := ?_) rfl (by kernel_rfl) (by kernel_rfl) (by kernel_rfl) (fun _ _ _ h => h) (Or.inl ⟨by rfl, ?_⟩) Hm ?_
    rotate_left
    focus (intro w' hSw; (try dsimp only at hSw); go_simp; (try with_reducible rfl))
    simp only [Act.put, List.setIfInBounds_toArray, List.set_cons_zero, List.set_cons_succ]
    refine wpAnyH_take (i := 23) (oi := { dst := some 0, op := Go.Op.assign (Go.Operand.tmp 58), type := 4, pos := "law.go:29", after := #[{ on := 22, ground := Go.Ground.data }, { on := 15, ground := Go.Ground.chain }, { on := 0, ground := Go.Ground.phase }, { on := 1, ground := Go.Ground.phase }, { on := 2, ground := Go.Ground.phase }, { on := 3, ground := Go.Ground.phase }, { on := 4, ground := Go.Ground.phase }, { on := 5, ground := Go.Ground.phase }, { on := 6, ground := Go.Ground.phase }, { on := 7, ground := Go.Ground.phase }, { on := 8, ground := Go.Ground.phase }, { on := 9, ground := Go.Ground.phase }, { on := 10, ground := Go.Ground.phase }, { on := 11, ground := Go.Ground.phase }, { on := 12, ground := Go.Ground.phase }, { on := 13, ground := Go.Ground.phase }, { on := 14, ground := Go.Ground.phase }, { on := 15, ground := Go.Ground.phase }, { on := 16, ground := Go.Ground.phase }, { on := 17, ground := Go.Ground.phase }, { on := 18, ground := Go.Ground.phase }, { on := 19, ground := Go.Ground.phase }, { on := 20, ground := Go.Ground.phase }, { on := 21, ground := Go.Ground.phase }, { on := 22, ground := Go.Ground.phase }], guard := none }) (v := ?_) rfl (by kernel_rfl) (by kernel_rfl) (by kernel_rfl) (fun _ _ _ h => h) (Or.inl ⟨by rfl, ?_⟩) Hm ?_
    rotate_left
    focus (intro w' hSw; (try dsimp only at hSw); go_simp; (try with_reducible rfl))
    simp only [Act.put, List.setIfInBounds_toArray, List.set_cons_zero, List.set_cons_succ]
    refine wpAnyH_done (by kernel_rfl) ?_ _
    go_wp2_with fail
    go_ret
    exact ⟨rfl, HX.out⟩
  refine AllReadyH.cons (o := { dst := some 54, op := Go.Op.makeSlice 47 (Go.Operand.const (Go.Value.int Go.IntKind.i64 54)) (Go.Operand.const (Go.Value.int Go.IntKind.i64 54)), type := 47, pos := "law.go:29", after := #[{ on := 12, ground := Go.Ground.guard }], guard := some (12, true) }) rfl (fun K hK => ?_) ?_
  focus
    have hmk : (Instr.makeSlice 47 (.int .i64 54) (.int .i64 54)).run Try.prog wr.drew = .ok (.slice (some ⟨wr.drew.heap.size, 0, none⟩) 54 54) (wr.drew.alloc (.cells (madeCells #[.int .u8 0] 54) 5)) := makeN wr.drew 54 (by omega)
    go_simp
    try go_wp2_with fail
    refine hK.out _ _ (kbT H0 ((Below.refl _ _).alloc (Nat.le_refl _) _)) (fun Gm => ?_)
    clear hK K
    try simp only [Act.put, List.setIfInBounds_toArray, List.set_cons_zero, List.set_cons_succ]
    generalize hwm : (wr.alloc (.cells (madeCells #[.int .u8 0] 54) 5)).drew = wm at *
    have BM : Hid (BytesAt wm (some ⟨wr.heap.size, 0, none⟩) (List.replicate 54 0)) := Lib.hid (by rw [← hwm]; exact bytesN (wr.drew) 54)
    have HX := Lib.hid (below_any HX.out (by rw [← hwm]; exact (Below.refl (wr.drew).heap.size (wr.drew)).alloc (Nat.le_refl _) _ : Below (wr.drew).heap.size (wr.drew) wm))
    clear hwm
    refine wpAnyH_turn (S' := fun w' => Below (wm).heap.size (wm) w') (fun w' h => kbT Gm h) _ _ _ _ ?_
    have Hm := Below.refl (wm).heap.size (wm)
    refine wpAnyH_take (i := 19) (oi := { dst := some 55, op := Go.Op.convert 47 9 (Go.Operand.tmp 54), type := 9, pos := "law.go:29", after := #[{ on := 18, ground := Go.Ground.data }, { on := 12, ground := Go.Ground.guard }], guard := some (12, true) }) (v := ?_) rfl (by kernel_rfl) (by kernel_rfl) (by kernel_rfl) (fun _ _ _ h => h) (Or.inl ⟨by rfl, ?_⟩) Hm ?_
    rotate_left
    focus (intro w' hSw; (try dsimp only at hSw); have hv := C54.out _ _ 54 (bytesAt_below BM.out hSw); go_simp; (try with_reducible rfl))
    simp only [Act.put, List.setIfInBounds_toArray, List.set_cons_zero, List.set_cons_succ]
    refine wpAnyH_ready (rs := [15]) (by kernel_rfl) (by simp) ?_
    refine AllReadyH.cons (o := { dst := some 51, op := Go.Op.call { callee := Go.Callee.value (Go.Operand.func 16), args := #[Go.Operand.const (Go.Value.int Go.IntKind.u8 7)], argTypes := #[5] }, type := 47, pos := "law.go:29", after := #[{ on := 12, ground := Go.Ground.chain }, { on := 12, ground := Go.Ground.guard }], guard := some (12, true) }) rfl (fun K hK => ?_) ?_
    rotate_left
    exact AllReadyH.nil
    go_simp
    (go_at_call 16; (with_reducible refine (SC.out _).mono ?_); rintro e ws ⟨rfl, hs⟩)
    try go_wp2_with fail
    refine hK.out _ _ (kbT Hm hs.2) (fun Gs => ?_)
    clear hK K
    try simp only [Act.put, List.setIfInBounds_toArray, List.set_cons_zero, List.set_cons_succ]
    have HX := Lib.hid (below_any HX.out hs.2)
    refine wpAnyH_turn (S' := fun w' => Below (ws).heap.size (ws) w') (fun w' h => kbT Gs h) _ _ _ _ ?_
    have Hs := Below.refl (ws).heap.size (ws)
    have BS0 := sec_at hs
    have BS : Hid (BytesAt ws (some ⟨wm.heap.size, 0, none⟩) (List.replicate 64 7)) := Lib.hid BS0
    clear hs BS0
    refine wpAnyH_take (i := 16) (oi := { dst := some 52, op := Go.Op.slice 47 (Go.Operand.tmp 51) none (some (Go.Operand.const (Go.Value.int Go.IntKind.i64 10))) none, type := 47, pos := "law.go:29", after := #[{ on := 15, ground := Go.Ground.data }, { on := 12, ground := Go.Ground.guard }], guard := some (12, true) }) (v := ?_) rfl (by kernel_rfl) (by kernel_rfl) (by kernel_rfl) (fun _ _ _ h => h) (Or.inl ⟨by rfl, ?_⟩) Hs ?_
    rotate_left
    focus (intro w' hSw; (try dsimp only at hSw); go_simp; (try with_reducible rfl))
    simp only [Act.put, List.setIfInBounds_toArray, List.set_cons_zero, List.set_cons_succ]
    refine wpAnyH_take (i := 17) (oi := { dst := some 53, op := Go.Op.convert 47 9 (Go.Operand.tmp 52), type := 9, pos := "law.go:29", after := #[{ on := 16, ground := Go.Ground.data }, { on := 12, ground := Go.Ground.guard }], guard := some (12, true) }) (v := ?_) rfl (by kernel_rfl) (by kernel_rfl) (by kernel_rfl) (fun _ _ _ h => h) (Or.inl ⟨by rfl, ?_⟩) Hs ?_
    rotate_left
    focus (intro w' hSw; (try dsimp only at hSw); have hv := C10.out _ _ 64 (bytesAt_below BS.out hSw); go_simp; (try with_reducible rfl))
    simp only [Act.put, List.setIfInBounds_toArray, List.set_cons_zero, List.set_cons_succ]
    refine wpAnyH_take (i := 20) (oi := { dst := some 56, op := Go.Op.binOp Go.BinOp.add 9 (Go.Operand.tmp 53) (Go.Operand.tmp 55) 9, type := 9, pos := "law.go:29", after := #[{ on := 17, ground := Go.Ground.data }, { on := 19, ground := Go.Ground.data }, { on := 12, ground := Go.Ground.guard }], guard := some (12, true) }) (v := ?_) rfl (by kernel_rfl) (by kernel_rfl) (by kernel_rfl) (fun _ _ _ h => h) (Or.inl ⟨by rfl, ?_⟩) Hs ?_
    rotate_left
    focus (intro w' hSw; (try dsimp only at hSw); go_simp; (try with_reducible rfl))
    simp only [Act.put, List.setIfInBounds_toArray, List.set_cons_zero, List.set_cons_succ]
    refine wpAnyH_take (i := 21) (oi := { dst := some 57, op := Go.Op.binOp Go.BinOp.eql 9 (Go.Operand.tmp 50) (Go.Operand.tmp 56) 9, type := 4, pos := "law.go:29", after := #[{ on := 14, ground := Go.Ground.data }, { on := 20, ground := Go.Ground.data }, { on := 12, ground := Go.Ground.guard }], guard := some (12, true) }) (v := ?_) rfl (by kernel_rfl) (by kernel_rfl) (by kernel_rfl) (fun _ _ _ h => h) (Or.inl ⟨by rfl, ?_⟩) Hs ?_
    rotate_left
    focus (intro w' hSw; (try dsimp only at hSw); go_simp; (try with_reducible rfl))
    simp only [Act.put, List.setIfInBounds_toArray, List.set_cons_zero, List.set_cons_succ]
    refine wpAnyH_take (i := 22) (oi := { dst := some 58, op := Go.Op.pick (Go.Operand.tmp 48) (Go.Operand.tmp 57) (Go.Operand.const (Go.Value.bool false)), type := 4, pos := "law.go:29", after := #[{ on := 12, ground := Go.Ground.data }, { on := 21, ground := Go.Ground.data }], guard := none }) (v := ?_) rfl (by kernel_rfl) (by kernel_rfl) (by kernel_rfl) (fun _ _ _ h => h) (Or.inl ⟨by rfl, ?_⟩) Hs ?_
    rotate_left
    focus (intro w' hSw; (try dsimp only at hSw); go_simp; (try with_reducible rfl))
    simp only [Act.put, List.setIfInBounds_toArray, List.set_cons_zero, List.set_cons_succ]
    refine wpAnyH_take (i := 23) (oi := { dst := some 0, op := Go.Op.assign (Go.Operand.tmp 58), type := 4, pos := "law.go:29", after := #[{ on := 22, ground := Go.Ground.data }, { on := 15, ground := Go.Ground.chain }, { on := 0, ground := Go.Ground.phase }, { on := 1, ground := Go.Ground.phase }, { on := 2, ground := Go.Ground.phase }, { on := 3, ground := Go.Ground.phase }, { on := 4, ground := Go.Ground.phase }, { on := 5, ground := Go.Ground.phase }, { on := 6, ground := Go.Ground.phase }, { on := 7, ground := Go.Ground.phase }, { on := 8, ground := Go.Ground.phase }, { on := 9, ground := Go.Ground.phase }, { on := 10, ground := Go.Ground.phase }, { on := 11, ground := Go.Ground.phase }, { on := 12, ground := Go.Ground.phase }, { on := 13, ground := Go.Ground.phase }, { on := 14, ground := Go.Ground.phase }, { on := 15, ground := Go.Ground.phase }, { on := 16, ground := Go.Ground.phase }, { on := 17, ground := Go.Ground.phase }, { on := 18, ground := Go.Ground.phase }, { on := 19, ground := Go.Ground.phase }, { on := 20, ground := Go.Ground.phase }, { on := 21, ground := Go.Ground.phase }, { on := 22, ground := Go.Ground.phase }], guard := none }) (v := ?_) rfl (by kernel_rfl) (by kernel_rfl) (by kernel_rfl) (fun _ _ _ h => h) (Or.inl ⟨by rfl, ?_⟩) Hs ?_
    rotate_left
    focus (intro w' hSw; (try dsimp only at hSw); go_simp; (try with_reducible rfl))
    simp only [Act.put, List.setIfInBounds_toArray, List.set_cons_zero, List.set_cons_succ]
    refine wpAnyH_done (by kernel_rfl) ?_ _
    go_wp2_with fail
    go_ret
    exact ⟨rfl, HX.out⟩
  exact AllReadyH.nil
end Go.Proofs.Ythbnochlpnikaaa
namespace Go.Proofs.Ythbnochlpnikaaa
open Go.RowKit Go.Shelf

def valN (l : List (Nat × Nat)) (j : Nat) : Nat := l.foldl (fun v x => if x.1 = j then x.2 else v) 0
theorem valN_snoc (l : List (Nat × Nat)) (x : Nat × Nat) (j : Nat) : valN (l ++ [x]) j = if x.1 = j then x.2 else valN l j := by
  unfold valN; rw [List.foldl_append]; rfl
theorem valN_next {l : List (Nat × Nat)} {i : Nat} {x : Nat × Nat} (h : l[i]? = some x) (j : Nat) : valN (l.take (i + 1)) j = if x.1 = j then x.2 else valN (l.take i) j := by
  rw [List.take_add_one, h, Option.toList_some, valN_snoc]
def wrs (l : List (Nat × Nat)) : List (Nat × ByteArray) := l.map fun x => (x.1, secS x.2)
theorem wrs_next {l : List (Nat × Nat)} {i : Nat} {x : Nat × Nat} (h : l[i]? = some x) : wrs (l.take (i + 1)) = wrs (l.take i) ++ [(x.1, secS x.2)] := by
  unfold wrs
  rw [List.take_add_one, h, Option.toList_some, List.map_append]
  rfl
theorem wrs_append (l m : List (Nat × Nat)) : wrs (l ++ m) = wrs l ++ wrs m := List.map_append
theorem lastS_wrs (l : List (Nat × Nat)) (j : Nat) : lastS (wrs l) j = secS (valN l j) := by
  unfold lastS wrs valN
  rw [List.foldl_map]
  suffices ∀ (l : List (Nat × Nat)) (v : Nat), List.foldl (fun s (x : Nat × Nat) => if x.1 = j then secS x.2 else s) (secS v) l = secS (List.foldl (fun v (x : Nat × Nat) => if x.1 = j then x.2 else v) v l) from this l 0
  intro l
  induction l with
  | nil => intro v; rfl
  | cons x l ih =>
    intro v
    rw [List.foldl_cons, List.foldl_cons]
    by_cases h : x.1 = j
    · rw [if_pos h, if_pos h]; exact ih _
    · rw [if_neg h, if_neg h]; exact ih _
theorem valN_byte {l : List (Nat × Nat)} (h : ∀ x ∈ l, x.2 < 256) (j : Nat) : valN l j < 256 := by
  unfold valN
  suffices ∀ (l : List (Nat × Nat)) (v : Nat), v < 256 → (∀ x ∈ l, x.2 < 256) → List.foldl (fun v (x : Nat × Nat) => if x.1 = j then x.2 else v) v l < 256 from this l 0 (by omega) h
  intro l
  induction l with
  | nil => intro v hv _; exact hv
  | cons x l ih =>
    intro v hv hl
    rw [List.foldl_cons]
    refine ih _ ?_ (fun y hy => hl y (by simp [hy]))
    split
    · exact hl x (by simp)
    · exact hv
/-- Was one of the first so many writes to sector j kept? -/
def keptB (l : List (Nat × Nat)) (keep : List Bool) (j : Nat) : Nat → Bool
  | 0 => false
  | i + 1 => keptB l keep j i || (decide ((l.getD i (0, 0)).1 = j) && keep.getD i false)
theorem keptB_none {l : List (Nat × Nat)} {keep : List Bool} {j : Nat} : ∀ {n : Nat}, keptB l keep j n = false → ∀ i, i < n → keep.getD i false = true → (l.getD i (0, 0)).1 ≠ j
  | 0, _, i, hi, _ => by omega
  | n + 1, h, i, hi, hk => by
    unfold keptB at h
    rw [Bool.or_eq_false_iff] at h
    by_cases e : i = n
    · subst e
      intro e2
      have := h.2
      rw [hk, e2] at this
      simp at this
    · exact keptB_none h.1 i (by omega) hk
theorem wrs_getD (l : List (Nat × Nat)) (i : Nat) (h : i < l.length) : ((wrs l).getD i (0, secS 0)).1 = (l.getD i (0, 0)).1 := by
  unfold wrs
  rw [List.getD_eq_getElem?_getD, List.getD_eq_getElem?_getD, List.getElem?_map, List.getElem?_eq_getElem h]
  rfl
theorem wrs_length (l : List (Nat × Nat)) : (wrs l).length = l.length := by unfold wrs; simp
/-- The disk behind its crash, where nothing was kept. -/
theorem read_kept {n : Nat} {A0 A1 : List (Nat × Nat)} {keep : List Bool} (hk : keep.length ≤ 63) {j : Nat} (hj : j < n) (hn : keptB A1 keep j A1.length = false) :
    readS (crashS ⟨n, wrs A0, wrs A1, -1⟩ keep.length keep).1 j = (secS (valN A0 j), 0) := by
  rw [crashS_ok hk, readS_ok (by simp only; omega) (by simp)]
  have hT := tornS_range ⟨n, wrs A0, wrs A1, -1⟩ keep
  unfold sectorS
  simp only [List.append_nil]
  rw [crashF_apart keep (wrs A1) (wrs A0) keep.length j _ _ (fun i hi hki => by
    have h1 : i < A1.length := by
      have := hT.2.1
      simp only [wrs_length] at this
      omega
    rw [wrs_getD A1 i h1]
    exact keptB_none hn i h1 hki), lastS_wrs]
theorem crash_err {s : DS} {keep : List Bool} (hk : keep.length ≤ 63) : (crashS s keep.length keep).2 = 0 := by rw [crashS_ok hk]
theorem read_any {n : Nat} {A0 A1 : List (Nat × Nat)} {keep : List Bool} (hk : keep.length ≤ 63) {j : Nat} (hj : j < n) : (readS (crashS ⟨n, wrs A0, wrs A1, -1⟩ keep.length keep).1 j).2 = 0 := by
  rw [crashS_ok hk, readS_ok (by simp only; omega) (by simp)]
/-- The copy behind its own, which keeps all. -/
theorem read_all {n : Nat} {A0 A1 : List (Nat × Nat)} {j : Nat} (hj : j < n) :
    readS (crashS ⟨n, wrs A0, wrs A1, -1⟩ 0 (List.replicate A1.length true)).1 j = (secS (valN (A0 ++ A1) j), 0) := by
  have := crash_all ⟨n, wrs A0, wrs A1, -1⟩
  simp only [wrs_length] at this
  rw [this, readS_ok (by simp only; omega) (by simp)]
  unfold sectorS
  simp only [List.append_nil]
  rw [← wrs_append, lastS_wrs]
theorem crash_all_err {n : Nat} {A0 A1 : List (Nat × Nat)} : (crashS ⟨n, wrs A0, wrs A1, -1⟩ 0 (List.replicate A1.length true)).2 = 0 := by
  have := crash_all ⟨n, wrs A0, wrs A1, -1⟩
  simp only [wrs_length] at this
  rw [this]

/-- A disk that was made since w0, beside the blocks X. -/
def HeldX (Rep : DiskRep) (w0 : World) (X : Nat → Prop) (w : World) (d : Value) (s : DS) : Prop := ∃ F, Rep w d s F ∧ ∀ k, F k → w0.heap.size ≤ k ∧ ¬ X k
section
variable {Rep : DiskRep}
theorem HeldX.kept (S : DiskOk Rep) {w0 w w' : World} {X : Nat → Prop} {d : Value} {s : DS} (h : HeldX Rep w0 X w d s) (hs : w.heap.size ≤ w'.heap.size) (b : ∀ k, k < w.heap.size → ¬ X k → w0.heap.size ≤ k → w'.heap[k]? = w.heap[k]?) : HeldX Rep w0 X w' d s := by
  obtain ⟨F, h, hF⟩ := h
  exact ⟨F, S.keep _ _ _ _ _ h hs (fun k hk => b k (S.low _ _ _ _ h k hk) (hF k hk).2 (hF k hk).1), hF⟩
theorem HeldX.below (S : DiskOk Rep) {w0 w w' : World} {X : Nat → Prop} {d : Value} {s : DS} (h : HeldX Rep w0 X w d s) (b : Below w.heap.size w w') : HeldX Rep w0 X w' d s := h.kept S b.size (fun k hk _ _ => b.block k hk)
theorem HeldX.wide (S : DiskOk Rep) {w0 w : World} {X Y : Nat → Prop} {d : Value} {s : DS} (h : HeldX Rep w0 X w d s) (hY : ∀ k, Y k → X k ∨ w.heap.size ≤ k ∨ k < w0.heap.size) : HeldX Rep w0 Y w d s := by
  obtain ⟨F, h, hF⟩ := h
  exact ⟨F, h, fun k hk => ⟨(hF k hk).1, fun y => by
    have h1 := hF k hk
    have h2 := S.low _ _ _ _ h k hk
    rcases hY k y with h | h | h
    · exact h1.2 h
    · omega
    · omega⟩⟩
/-- What a call that changes a disk leaves. -/
structure Behind (Rep : DiskRep) (w0 : World) (X : Nat → Prop) (d : Value) (s : DS) (w w' : World) : Prop where
  held : HeldX Rep w0 X w' d s
  below : Below w0.heap.size w0 w'
  size : w.heap.size ≤ w'.heap.size
  same : ∀ k, X k → w'.heap[k]? = w.heap[k]?
theorem HeldX.goes (S : DiskOk Rep) {w0 w w' : World} {X : Nat → Prop} {d : Value} {s : DS} {F : Nat → Prop} (hF : ∀ k, F k → w0.heap.size ≤ k ∧ ¬ X k) (hX : ∀ k, X k → k < w.heap.size) (hb : Below w0.heap.size w0 w) (h : Goes Rep d s F w w') : Behind Rep w0 X d s w w' := by
  obtain ⟨F', hR, h1, h2⟩ := h
  refine ⟨⟨F', hR, fun k hk => ?_⟩, h2.below hb (fun k hk => (hF k hk).1), h2.size, fun k hk => h2.block k (hX k hk) (fun f => (hF k f).2 hk)⟩
  rcases h1 k hk with h | h
  · exact hF k h
  · exact ⟨Nat.le_trans hb.size h, fun x => by have := hX k x; omega⟩
theorem heldX_write (S : DiskOk Rep) {w0 wb w : World} {X : Nat → Prop} {d : Value} {s : DS} (k : Int) (c : Nat) (h : HeldX Rep w0 X wb d s) (hbw : Below wb.heap.size wb w) (hX : ∀ k, X k → k < wb.heap.size) (hb : Below w0.heap.size w0 wb) (hw : Whole s) (hf : Few s) (hc : c < 256) (hR : BytesAt w (some ⟨wb.heap.size, 0, none⟩) (List.replicate 64 c)) :
    Calls Try.prog 15 #[d, .int .i64 k, .slice (some ⟨wb.heap.size, 0, none⟩) 64 64] w fun r w' => r = .returned (.int .i64 (writeS s k (secS c)).2) ∧ Behind Rep w0 X d (writeS s k (secS c)).1 w w' := by
  obtain ⟨F, h, hF⟩ := h
  have hk := S.keep _ _ _ _ _ h hbw.size (fun k hk => hbw.block k (S.low _ _ _ _ h k hk))
  have := S.write w d s F k (some ⟨wb.heap.size, 0, none⟩) (List.replicate 64 c) 64 hk hw hf (by simp) ⟨hR, fun b hb => by rw [List.mem_replicate] at hb; omega, fun e => (by cases e), by simp, fun _ B' off e => by injection e with e; injection e with e1 e2; subst e1; exact fun f => by have := S.low _ _ _ _ h _ f; omega⟩
  rw [List.length_replicate] at this
  refine this.mono ?_
  rintro e w' ⟨rfl, hg⟩
  exact ⟨rfl, HeldX.goes S hF (fun k hk => Nat.lt_of_lt_of_le (hX k hk) hbw.size) (below_any hb hbw) hg⟩
theorem heldX_sync (S : DiskOk Rep) {w0 w : World} {X : Nat → Prop} {d : Value} {s : DS} (h : HeldX Rep w0 X w d s) (hX : ∀ k, X k → k < w.heap.size) (hb : Below w0.heap.size w0 w) (hw : Whole s) (hf : Few s) :
    Calls Try.prog 17 #[d] w fun r w' => r = .returned (.int .i64 (syncS s).2) ∧ Behind Rep w0 X d (syncS s).1 w w' := by
  obtain ⟨F, h, hF⟩ := h
  refine (S.sync w d s F h hw hf).mono ?_
  rintro e w' ⟨rfl, hg⟩
  exact ⟨rfl, HeldX.goes S hF hX hb hg⟩
theorem heldX_crash (S : DiskOk Rep) {w0 w : World} {X : Nat → Prop} {d : Value} {s : DS} (tear : Int) (p : Option Addr) (keep : List Bool) (cap : Nat) (h : HeldX Rep w0 X w d s) (hX : ∀ k, X k → k < w.heap.size) (hb : Below w0.heap.size w0 w) (hw : Whole s) (hf : Few s) (hk : keep.length ≤ 1000) (hB : BoolsAt w p keep) (hn : p = none → cap = 0) (hc : keep.length ≤ cap ∧ cap ≤ 9223372036854775807) (hp : keep ≠ [] → ∀ B off, p = some ⟨B, off, none⟩ → B < w0.heap.size ∨ X B) :
    Calls Try.prog 18 #[d, .int .i64 tear, .slice p keep.length cap] w fun r w' => r = .returned (.int .i64 (crashS s tear keep).2) ∧ Behind Rep w0 X d (crashS s tear keep).1 w w' := by
  obtain ⟨F, h, hF⟩ := h
  refine (S.crash w d s F tear p keep cap h hw hf hk ⟨hB, hn, hc, fun ne B off e f => by
    have h1 := hF _ f
    rcases hp ne B off e with h | h
    · omega
    · exact h1.2 h⟩).mono ?_
  rintro e w' ⟨rfl, hg⟩
  exact ⟨rfl, HeldX.goes S hF hX hb hg⟩
theorem heldX_read (S : DiskOk Rep) {w0 w : World} {X : Nat → Prop} {d : Value} {s : DS} (k : Int) (h : HeldX Rep w0 X w d s) (hw : Whole s) (hf : Few s) :
    Calls Try.prog 19 #[d, .int .i64 k] w fun r w' => ∃ t l, r = .returned (.tuple #[t, .int .i64 (readS s k).2]) ∧ TellB w l t w' ∧ (∀ b ∈ l, b < 256) ∧ strOf l = (readS s k).1 := by
  obtain ⟨F, h, hF⟩ := h
  exact S.read w d s F k h hw hf
theorem heldX_new (S : DiskOk Rep) (n : Nat) (w : World) (hn : 1 ≤ n ∧ n ≤ 40000) : Calls Try.prog 7 #[.int .i64 n] w fun r w' => ∃ d, r = .returned (.tuple #[d, .int .i64 0]) ∧ HeldX Rep w (fun _ => False) w' d (newS n) ∧ Below w.heap.size w w' := by
  refine (S.new n w hn).mono ?_
  rintro e w' ⟨d, F, rfl, hR, hF, hb⟩
  exact ⟨d, rfl, ⟨F, hR, fun k hk => ⟨hF k hk, fun h => h⟩⟩, hb⟩
end
end Go.Proofs.Ythbnochlpnikaaa
namespace Go.Proofs.Ythbnochlpnikaaa
open Go.RowKit Go.Shelf

/-- A call, as it is told. -/
structure ActS where
  what : Int
  place : Int
  n : Int
  byte : Nat
  keep : List Bool
  kp : Option Addr
  kc : Nat
def actV (x : ActS) : Value := .agg #[.int .i64 x.what, .int .i64 x.place, .int .i64 x.n, .int .u8 x.byte, .slice x.kp x.keep.length x.kc]
/-- The call at a place of memory. -/
structure ActAt (w : World) (B o : Nat) (x : ActS) : Prop where
  x0 : w.cell? ⟨B, o, none⟩ = some (.int .i64 x.what)
  x1 : w.cell? ⟨B, o + 1, none⟩ = some (.int .i64 x.place)
  x2 : w.cell? ⟨B, o + 2, none⟩ = some (.int .i64 x.n)
  x3 : w.cell? ⟨B, o + 3, none⟩ = some (.int .u8 x.byte)
  x4 : w.cell? ⟨B, o + 4, none⟩ = some (.slice x.kp x.keep.length x.kc)
def ActsAt (w : World) (p : Option Addr) (l : List ActS) : Prop := ∀ i x, l[i]? = some x → ∃ B off, p = some ⟨B, off, none⟩ ∧ ActAt w B (off + i * 5) x
theorem ActAt.below {w w' : World} {B o : Nat} {x : ActS} (h : ActAt w B o x) (hb : Below w.heap.size w w') : ActAt w' B o x :=
  ⟨below_kept hb _ _ h.x0, below_kept hb _ _ h.x1, below_kept hb _ _ h.x2, below_kept hb _ _ h.x3, below_kept hb _ _ h.x4⟩
theorem ActsAt.below {w w' : World} {p : Option Addr} {l : List ActS} (h : ActsAt w p l) (hb : Below w.heap.size w w') : ActsAt w' p l := fun i x hx => by
  obtain ⟨B, off, e, h⟩ := h i x hx
  exact ⟨B, off, e, h.below hb⟩
def fewB (l : List ActS) (most : Int) : Bool := l.all (fun x => decide (x.keep.length ≤ 40)) && decide ((l.length : Int) ≤ most)
theorem few_no {l : List ActS} {most : Int} {n : Nat} {x : ActS} (hx : l[n]? = some x) (h : 40 < x.keep.length) : fewB l most = false := by
  unfold fewB
  rw [Bool.and_eq_false_iff]
  left
  rw [List.all_eq_false]
  exact ⟨x, List.mem_of_getElem? hx, by simp; omega⟩
theorem few_yes {l : List ActS} {most : Int} (h : ∀ j x, j < l.length → l[j]? = some x → x.keep.length ≤ 40) : fewB l most = decide ((l.length : Int) ≤ most) := by
  unfold fewB
  rw [show l.all (fun x => decide (x.keep.length ≤ 40)) = true from by
    rw [List.all_eq_true]
    intro x hx
    obtain ⟨j, hj, e⟩ := List.mem_iff_getElem.1 hx
    exact decide_eq_true (h j x hj (by rw [List.getElem?_eq_getElem hj, e])), Bool.true_and]
set_option maxRecDepth 100000 in
set_option maxHeartbeats 1000000 in
theorem few_any (l : List ActS) (p : Option Addr) (cap : Nat) (most : Int) (w : World) (hl : l.length ≤ 9223372036854775807) (hc : Hid (ActsAt w p l)) :
    Calls Try.prog 5 #[.slice p l.length cap, .int .i64 most] w fun r w' => r = .returned (.bool (fewB l most)) ∧ w = w' := by
  go_enter Try.func5, Try.ntmps5
  go_wp2
  go_loop [5] (fun i => ∃ n : Nat, n ≤ l.length ∧ i = .int .i64 n ∧ Hid (∀ j x, j < n → l[j]? = some x → x.keep.length ≤ 40)) (fun i => (l.length - intOf i).toNat)
  case atStart => exact ⟨0, Nat.zero_le _, by first | rfl | go_num, Lib.hid (fun j x hj => by omega)⟩
  case round =>
    obtain ⟨n, hn, rfl, HP⟩ := hrel
    by_cases hlt : n < l.length
    · obtain ⟨x, hxx⟩ : ∃ x, l[n]? = some x := ⟨_, List.getElem?_eq_getElem hlt⟩
      obtain ⟨B, off, rfl, ha⟩ := hc.out n x hxx
      have c4 := ha.x4
      have HXX := Lib.hid hxx
      clear ha hxx
      by_cases h40 : 40 < x.keep.length
      · have HF := Lib.hid (few_no (most := most) HXX.out h40)
        have hi : (40 : Int) < (x.keep.length : Int) := by omega
        go_wp2
        go_ret
        exact ⟨by rw [HF.out]; rfl, rfl⟩
      · have hi : (x.keep.length : Int) ≤ 40 := by omega
        go_wp2
        go_round
        case rel => exact ⟨n + 1, hlt, by first | rfl | go_num, Lib.hid (fun j z hj hz => by
          rcases Nat.lt_succ_iff_lt_or_eq.1 hj with h | h
          · exact HP.out j z h hz
          · subst h
            rw [HXX.out] at hz
            injection hz with hz
            subst hz
            omega)⟩
        case measure => simp [intOf]; omega
    · obtain rfl : n = l.length := by omega
      have HF := Lib.hid (few_yes (most := most) HP.out)
      go_wp2
      go_ret
      exact ⟨by rw [HF.out]; rfl, rfl⟩
/-- What an act writes. -/
def bytesA (x : ActS) : List Nat := if x.n < 0 ∨ 100 < x.n then [] else if x.n = 0 then List.replicate 64 x.byte else List.replicate x.n.toNat 0
set_option maxRecDepth 100000 in
set_option maxHeartbeats 1000000 in
theorem actBytes_any (x : ActS) (hb : x.byte < 256) (w : World) :
    Calls Try.prog 22 #[actV x] w fun r w' => ∃ t, r = .returned t ∧ RowB w (bytesA x) t w' := by
  unfold actV
  have SC : Hid (∀ w, Calls Try.prog 16 #[.int .u8 x.byte] w fun r w' => ∃ t, r = .returned t ∧ RowB w (List.replicate 64 x.byte) t w') := Lib.hid fun w => (sec_any x.byte hb w).mono fun e w' ⟨he, hr⟩ => ⟨_, he, hr⟩
  by_cases h1 : x.n < 0 ∨ 100 < x.n
  · have e : bytesA x = [] := by unfold bytesA; rw [if_pos h1]
    rw [e]
    clear e SC
    rcases (show x.n < 0 ∨ (¬ x.n < 0 ∧ 100 < x.n) by omega) with h | ⟨h, h2⟩
    all_goals
      clear h1
      go_enter Try.func22, Try.ntmps22
      go_wp2
      go_ret
      exact ⟨_, rfl, World.ownsRow_nil _ _ _ _, by go_grown⟩
  by_cases h2 : x.n = 0
  · have e : bytesA x = List.replicate 64 x.byte := by unfold bytesA; rw [if_neg h1, if_pos h2]
    rw [e, h2]
    clear e h1 h2
    go_enter Try.func22, Try.ntmps22
    go_wp2_with (go_at_call 16; (with_reducible refine (SC.out _).mono ?_); rintro e w1 ⟨t, rfl, hs⟩; have HS := Lib.hid hs; clear hs)
    go_ret
    exact ⟨_, rfl, HS.out.grow ((Below.refl _ _).alloc (Nat.le_refl _) _)⟩
  · have e : bytesA x = List.replicate x.n.toNat 0 := by unfold bytesA; rw [if_neg h1, if_neg h2]
    rw [e]
    clear e SC
    obtain ⟨n, hn⟩ := Int.eq_ofNat_of_zero_le (show 0 ≤ x.n by omega)
    rw [hn]
    have hn1 : 0 < n := by omega
    have hn2 : n ≤ 100 := by omega
    clear h1 h2 hn
    have hnn : (n : Int).toNat = n := by omega
    rw [hnn]
    clear hnn
    have hmk : ∀ w, (Instr.makeSlice 47 (.int .i64 n) (.int .i64 n)).run Try.prog w = .ok (.slice (some ⟨w.heap.size, 0, none⟩) n n) (w.alloc (.cells (madeCells #[.int .u8 0] n) 5)) := fun w => run_make_row' (P := Try.prog) 47 5 (.int .u8 0) 1 Try.underlying47 info5 rfl .i64 .i64 n (by omega) (by omega) w
    have hz : ((n : Int) != 0) = true := by simp; omega
    go_enter Try.func22, Try.ntmps22
    go_wp2
    go_ret
    refine ⟨_, rfl, ?_⟩
    have hsz : (w.alloc (.cells #[.int .i64 x.what, .int .i64 x.place, .int .i64 n, .int .u8 x.byte, .slice x.kp x.keep.length x.kc] 25)).heap.size = w.heap.size + 1 := by simp
    have R := World.rowIs_made (w.alloc (.cells #[.int .i64 x.what, .int .i64 x.place, .int .i64 n, .int .u8 x.byte, .slice x.kp x.keep.length x.kc] 25)) (.int .u8 0) n 5
    have RB := rowB_of_is (l := List.replicate n 0) R (by simp) (by unfold maxLen; omega) (fun i hi => by rw [replicate_getD' n i 0 hi]; rfl) ((Below.refl _ _).alloc (Nat.le_refl _) _)
    rw [hsz] at RB
    exact RB.grow ((Below.refl _ _).alloc (Nat.le_refl _) _)
end Go.Proofs.Ythbnochlpnikaaa
namespace Go.Proofs.Ythbnochlpnikaaa
open Go.RowKit Go.Shelf

def actS (s : DS) (x : ActS) : DS := if x.what = 0 ∨ x.what = 1 ∨ x.what = 2 then (writeS s x.place (strOf (bytesA x))).1 else if x.what = 3 then (syncS s).1 else if x.what = 4 then (stopS s x.n).1 else if x.what = 5 then (crashS s x.n x.keep).1 else s
theorem row_at {w : World} {g i : Nat} {cs : Array Value} {t : TypeId} {v : Value} (h : w.heap[g]? = some (.cells cs t (0, 0))) (hi : cs[i]? = some v) : w.cell? ⟨g, i, none⟩ = some v := by rw [cell_of_row w g i cs t (0, 0) h]; exact hi
theorem row_fz {w : World} {g i : Nat} {cs : Array Value} {t : TypeId} (h : w.heap[g]? = some (.cells cs t (0, 0))) : w.frozen? ⟨g, i, none⟩ = false := frozen_of_row w g i cs t h
theorem step_store_row {P : Program} {ops : Array Oper} {o : Oper} {a : Act} {w : World} {K : Act → World → Prop} {Q : Exit → Act → World → Prop} {E : Prop} (hgd : o.guard = none) (ty : TypeId) (x y : Operand) (ho : o.op = .store ty x y)
    (g : Nat) (cells : Array Value) (hx : a.eval x = .pointer (some ⟨g, 0, none⟩)) (hy : a.eval y = .agg cells)
    (t : TypeId) (old : Array Value) (hg : w.heap[g]? = some (.cells old t (0, 0))) (hi : (P.info? ty).map (·.size) = some cells.size)
    (hold : old.size = cells.size) (h1 : cells.all (·.oneCell') = true)
    (h : K (a.put o.dst undef) (w.setRow g cells)) : if Region.wanted o (yielded ops a.tmps) = true then Oper.wp P o a w K Q else E := by
  have hw : Region.wanted o (yielded ops a.tmps) = true := by simp [Region.wanted, hgd]
  rw [if_pos hw]
  exact wp_store_row ty x y ho g cells hx hy t old hg hi hold h1 h
theorem wpList_store_row {P : Program} {ops : Array Oper} {rest : List Oper} {o : Oper} {a : Act} {w : World} {Q : Exit → Act → World → Prop} (hgd : o.guard = none) (ty : TypeId) (x y : Operand) (ho : o.op = .store ty x y)
    (g : Nat) (cells : Array Value) (hx : a.eval x = .pointer (some ⟨g, 0, none⟩)) (hy : a.eval y = .agg cells)
    (t : TypeId) (old : Array Value) (hg : w.heap[g]? = some (.cells old t (0, 0))) (hi : (P.info? ty).map (·.size) = some cells.size)
    (hold : old.size = cells.size) (h1 : cells.all (·.oneCell') = true)
    (h : wpList P ops Q rest (a.put o.dst undef) (w.setRow g cells)) : wpList P ops Q (o :: rest) a w :=
  wpList_plain hgd fun _ hK => wp_store_row ty x y ho g cells hx hy t old hg hi hold h1 (hK _ _ h)
theorem bytesA_few (x : ActS) : (bytesA x).length ≤ 100 := by
  unfold bytesA
  by_cases h : x.n < 0 ∨ 100 < x.n
  · rw [if_pos h]; simp
  · rw [if_neg h]
    by_cases h2 : x.n = 0
    · rw [if_pos h2]; simp
    · rw [if_neg h2, List.length_replicate]; omega
theorem bytesA_byte {x : ActS} (hb : x.byte < 256) : ∀ b ∈ bytesA x, b < 256 := by
  intro b h
  unfold bytesA at h
  split at h
  · cases h
  · split at h
    · rw [List.mem_replicate] at h; omega
    · rw [List.mem_replicate] at h; omega
theorem rowB_nil {w w' : World} {l : List Nat} {p : Option Addr} {n c : Nat} (h : RowB w l (.slice p n c) w') (e : p = none) : c = 0 := by
  subst e
  rcases h.1.2 with ⟨h, -⟩ | ⟨g, cap, cur, h, -⟩
  · injection h
  · injection h with h
    cases h
/-- All blocks but one are as they were. -/
structure ButK (A : Nat) (w w' : World) : Prop where
  size : w.heap.size ≤ w'.heap.size
  block : ∀ k, k < w.heap.size → k ≠ A → w'.heap[k]? = w.heap[k]?
  os : w'.os = w.os
  tape : w'.tape = w.tape
  output : w'.output = w.output
theorem ButK.trans {A : Nat} {a b c : World} (h : ButK A a b) (k : ButK A b c) : ButK A a c :=
  ⟨Nat.le_trans h.size k.size, fun i hi hn => (k.block i (Nat.lt_of_lt_of_le hi h.size) hn).trans (h.block i hi hn), k.os.trans h.os, k.tape.trans h.tape, k.output.trans h.output⟩
theorem ButK.of {A : Nat} {w w' : World} (h : Below w.heap.size w w') : ButK A w w' := ⟨h.size, fun k hk _ => h.block k hk, h.os, h.tape, h.output⟩
theorem ButK.row {A : Nat} (w : World) (cs : Array Value) : ButK A w (w.setRow A cs) := ⟨by simp, fun k _ hn => setRow_other w A k cs hn, rfl, rfl, rfl⟩
theorem Apart.thn {F : Nat → Prop} {a b c : World} (h : Apart F a b) (k : Apart F b c) : Apart F a c :=
  ⟨k.os.trans h.os, k.tape.trans h.tape, k.output.trans h.output, Nat.le_trans h.size k.size, fun i hi hn => (k.block i (Nat.lt_of_lt_of_le hi h.size) hn).trans (h.block i hi hn)⟩
theorem WritesAt.asIs {w w' : World} {p : Option Addr} {l : List (Nat × ByteArray)} (h : WritesAt w p l) (e : ∀ B off, p = some ⟨B, off, none⟩ → w'.heap[B]? = w.heap[B]?) : WritesAt w' p l := fun i x hx => by
  obtain ⟨B, off, ep, c, d⟩ := h i x hx
  have hB := e B off ep
  exact ⟨B, off, ep, (World.cell?_of_block (a := ⟨B, off + 2 * i, none⟩) hB).trans c, (World.cell?_of_block (a := ⟨B, off + (2 * i + 1), none⟩) hB).trans d⟩
theorem RefAt.asIs {w w' : World} {s : DS} {p : Option Addr} {c : Nat} {q : Option Addr} {d : Nat} (h : RefAt w s p c q d) (e : ∀ B off, p = some ⟨B, off, none⟩ ∨ q = some ⟨B, off, none⟩ → w'.heap[B]? = w.heap[B]?) : RefAt w' s p c q d :=
  ⟨h.pc, h.qd, h.cl, h.dl, h.sync.asIs (fun B off e1 => e B off (.inl e1)), h.loose.asIs (fun B off e1 => e B off (.inr e1))⟩
/-- A disk in the blocks F, and the document's, apart from them. -/
structure PairOk (Rep : DiskRep) (w : World) (d : Value) (s : DS) (F : Nat → Prop) (p : Option Addr) (c : Nat) (q : Option Addr) (dd : Nat) : Prop where
  rep : Rep w d s F
  ref : RefAt w s p c q dd
  pq : ∀ B off, p = some ⟨B, off, none⟩ ∨ q = some ⟨B, off, none⟩ → ¬ F B ∧ B < w.heap.size
/-- An act that is handed in. -/
structure ActIn (w : World) (F : Nat → Prop) (x : ActS) : Prop where
  byte : x.byte < 256
  n : -9223372036854775808 ≤ x.n ∧ x.n ≤ 9223372036854775807
  keep : x.keep.length ≤ 40
  bools : BoolsIn w F x.kp x.keep x.kc
/-- What one call by both leaves. -/
def ActPost (Rep : DiskRep) (F : Nat → Prop) (p q : Option Addr) (s : DS) (w : World) (r : Ending) (w' : World) : Prop :=
  ∃ d' F' p' c' q' dd', r = .returned (.tuple #[d', refV s p' c' q' dd', .bool true]) ∧ PairOk Rep w' d' s F' p' c' q' dd' ∧ (∀ k, F' k → F k ∨ w.heap.size ≤ k) ∧
    (∀ B off, p' = some ⟨B, off, none⟩ ∨ q' = some ⟨B, off, none⟩ → (p = some ⟨B, off, none⟩ ∨ q = some ⟨B, off, none⟩) ∨ w.heap.size ≤ B) ∧ Apart F w w'
theorem refCrash_any (s : DS) (p : Option Addr) (c : Nat) (q : Option Addr) (d : Nat) (tear : Int) (kp : Option Addr) (keep : List Bool) (kc : Nat) (w : World) (hf : Few s) (hk : keep.length ≤ 30000) (hW : Whole s) (R : Hid (RefAt w s p c q d)) (HK : Hid (BoolsAt w kp keep)) :
    Calls Try.prog 26 #[refV s p c q d, .int .i64 tear, .slice kp keep.length kc] w (RefPost w p q (crashS s tear keep)) := by
  by_cases h : tear < 0 ∨ 63 < tear
  · rw [crashS_arg h]
    exact refCrash_arg s p c q d tear _ h w R
  · obtain ⟨t, rfl⟩ := Int.eq_ofNat_of_zero_le (show 0 ≤ tear by omega)
    have ht : t ≤ 63 := by omega
    rw [crashS_ok ht]
    exact refCrash_ok s p c q d t ht kp keep kc w hf hk hW R HK
theorem BoolsIn.asIs {w w' : World} {F : Nat → Prop} {p : Option Addr} {l : List Bool} {cap : Nat} (h : BoolsIn w F p l cap) (ha : Apart F w w') : BoolsIn w' F p l cap :=
  ⟨fun i b hb => by
    obtain ⟨B, off, e, c⟩ := h.at' i b hb
    have hne : l ≠ [] := fun e => by rw [e] at hb; cases hb
    exact ⟨B, off, e, (World.cell?_of_block (a := ⟨B, off + i, none⟩) (ha.block B (lt_of_cell_some c) (h.apart hne B off e))).trans c⟩, h.nil, h.cap, h.apart⟩
/-- The end of a call: the disk's part is done at wb (from wa on), the document's from wa2 to wc; then the rows of the walk's own are stored. -/
theorem act_end {Rep : DiskRep} (S : DiskOk Rep) {w wa wb wa2 wc wE : World} {d d2 : Value} {s s' : DS} {F F' : Nat → Prop} {p : Option Addr} {c : Nat} {q : Option Addr} {dd : Nat} {p' : Option Addr} {c' : Nat} {q' : Option Addr} {dd' : Nat}
    (hP : PairOk Rep w d s F p c q dd) (h1 : Apart F w wa) (hA : w.heap.size + 4 ≤ wa.heap.size) (hR : Rep wb d2 s' F') (hF : ∀ k, F' k → F k ∨ wa.heap.size ≤ k) (h2 : Apart F wa wb) (h3 : Below wb.heap.size wb wa2)
    (hr : RefAt wc s' p' c' q' dd') (f1 : From wa2 wc p q p') (f2 : From wa2 wc p q q') (h4 : Below wa2.heap.size wa2 wc) (h5 : ButK (w.heap.size + 3) wc wE ∨ ∃ wD, ButK (w.heap.size + 3) wc wD ∧ ButK (w.heap.size + 2) wD wE) (hs : wE.heap.size = wc.heap.size) :
    PairOk Rep wE d2 s' F' p' c' q' dd' ∧ (∀ k, F' k → F k ∨ w.heap.size ≤ k) ∧ (∀ B off, p' = some ⟨B, off, none⟩ ∨ q' = some ⟨B, off, none⟩ → (p = some ⟨B, off, none⟩ ∨ q = some ⟨B, off, none⟩) ∨ w.heap.size ≤ B) ∧ Apart F w wE := by
  have l1 := h1.size
  have l2 := h2.size
  have l3 := h3.size
  have l4 := h4.size
  have hlow := S.low _ _ _ _ hP.rep
  have hlow' := S.low _ _ _ _ hR
  have hE : ∀ k, k < wc.heap.size → k ≠ w.heap.size + 3 → k ≠ w.heap.size + 2 → wE.heap[k]? = wc.heap[k]? := fun k hk n3 n2 => by
    rcases h5 with h | ⟨wD, h, h'⟩
    · exact h.block k hk n3
    · exact (h'.block k (Nat.lt_of_lt_of_le hk h.size) n2).trans (h.block k hk n3)
  have hO : wE.os = wc.os ∧ wE.tape = wc.tape ∧ wE.output = wc.output := by
    rcases h5 with h | ⟨wD, h, h'⟩
    · exact ⟨h.os, h.tape, h.output⟩
    · exact ⟨h'.os.trans h.os, h'.tape.trans h.tape, h'.output.trans h.output⟩
  have hbc : ∀ k, k < wb.heap.size → wc.heap[k]? = wb.heap[k]? := fun k hk => (h4.block k (by omega)).trans (h3.block k hk)
  have hF2 : ∀ k, F' k → F k ∨ w.heap.size + 4 ≤ k := fun k hk => (hF k hk).imp id (fun h => by omega)
  have fr : ∀ B off, p' = some ⟨B, off, none⟩ ∨ q' = some ⟨B, off, none⟩ → (p = some ⟨B, off, none⟩ ∨ q = some ⟨B, off, none⟩) ∨ (wa2.heap.size ≤ B ∧ B < wc.heap.size) := fun B off h => by
    rcases h with h | h
    · rcases f1 B off h with h | h | h
      · exact .inl (.inl h)
      · exact .inl (.inr h)
      · exact .inr h
    · rcases f2 B off h with h | h | h
      · exact .inl (.inl h)
      · exact .inl (.inr h)
      · exact .inr h
  refine ⟨⟨S.keep _ _ _ _ _ hR (by omega) (fun k hk => ?_), hr.asIs (fun B off h => ?_), fun B off h => ?_⟩, fun k hk => (hF k hk).imp id (fun h => by omega), fun B off h => (fr B off h).imp id (fun h => by omega), ?_⟩
  · have hk1 := hlow' k hk
    rcases hF2 k hk with h | h
    · have := hlow k h
      exact (hE k (by omega) (by omega) (by omega)).trans (hbc k hk1)
    · exact (hE k (by omega) (by omega) (by omega)).trans (hbc k hk1)
  · rcases fr B off h with h | h
    · have := (hP.pq B off h).2
      exact hE B (by omega) (by omega) (by omega)
    · exact hE B (by omega) (by omega) (by omega)
  · rcases fr B off h with h | h
    · have h6 := hP.pq B off h
      refine ⟨fun hk => ?_, by omega⟩
      rcases hF2 B hk with h | h
      · exact h6.1 h
      · omega
    · refine ⟨fun hk => ?_, by omega⟩
      have := hlow' B hk
      omega
  · refine ⟨hO.1.trans (h4.os.trans (h3.os.trans (h2.os.trans h1.os))), hO.2.1.trans (h4.tape.trans (h3.tape.trans (h2.tape.trans h1.tape))), hO.2.2.trans (h4.output.trans (h3.output.trans (h2.output.trans h1.output))), by omega, fun k hk hn => ?_⟩
    exact (hE k (by omega) (by omega) (by omega)).trans ((hbc k (by omega)).trans ((h2.block k (by omega) hn).trans (h1.block k hk hn)))
end Go.Proofs.Ythbnochlpnikaaa
