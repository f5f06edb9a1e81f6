import Derived.Deep.CutRange
import Derived.Laws.Bits64
import Derived.Test.YthbnochlpnikaaaRows
import Derived.WalkKit
import Derived.WalkSpells
import Derived.WalkLawsBesides
import Derived.Handy
import Derived.Outline
import Derived.Deep.RegionHeld3
import Derived.Sort.Walk0
import Derived.Laws.StructEq
import Derived.RangeFuncNested
import Derived.RangeFuncBound
import Derived.RangeFuncCalls
import Derived.RangeFuncLeaves
import Derived.Shelf.Abstract
import Derived.OwnWalkIn
import Derived.TacticsInMore
import Derived.LoopNIn
import Derived.LoopIn
import Derived.WalkMore
import Derived.Lib.Hide
import Derived.Deep.OwnRows
import Derived.Laws.AppendOwnNone
import Derived.Test.YthbnochlpnikaaaQ1
namespace Go.Proofs.Ythbnochlpnikaaa
open Go.RowKit Go.Shelf

/-- A slice of bytes. -/
abbrev BytesAt (w : World) (p : Option Addr) (l : List Nat) : Prop := ∀ i, i < l.length → ∃ B off, p = some ⟨B, off, none⟩ ∧ w.cell? ⟨B, off + i, none⟩ = some (.int .u8 (l.getD i 0))
theorem info5 : (Try.prog.info? 5).map (fun i => (i.zero, i.size, i.bytes)) = some (some (.int .u8 0), 1, 1) := by kernel_rfl
theorem info_parts {P : Program} {t : TypeId} {z : Value} {n k : Nat} (h : (P.info? t).map (fun i => (i.zero, i.size, i.bytes)) = some (some z, n, k)) :
    ∃ j, P.info? t = some j ∧ j.zero = some z ∧ j.size = n ∧ j.bytes = k := by
  cases hi : P.info? t with
  | none => rw [hi] at h; cases h
  | some j =>
    rw [hi] at h
    simp only [Option.map_some, Option.some.injEq, Prod.mk.injEq] at h
    exact ⟨j, rfl, h.1, h.2.1, h.2.2⟩
/-- Bytes in a slice of the call's own. -/
def RowB (w0 : World) (l : List Nat) (t : Value) (wr : World) : Prop := wr.ownsRow w0.heap.size 5 1 t l.length (l.map fun (v : Nat) => Value.int .u8 (v : Int)) ∧ Below w0.heap.size w0 wr
/-- A store into a slice of the call's own. -/
theorem ownsRow_set {w : World} {base : Nat} {e : TypeId} {g n cap i : Nat} {xs : List Value} (h : w.ownsRow base e 1 (.slice (some ⟨g, 0, none⟩) n cap) n xs) (v : Value) :
    (w.setCell ⟨g, i, none⟩ v).ownsRow base e 1 (.slice (some ⟨g, 0, none⟩) n cap) n (xs.set i v) := by
  obtain ⟨hx, h⟩ := h
  rcases h with ⟨e0, _⟩ | ⟨g', cap', cur, e0, hb, hg, hn, hm, hs, ht⟩
  · cases e0
  · injection e0 with e1 _ e3
    injection e1 with e1
    injection e1 with e1
    subst e1; subst e3
    refine ⟨by simpa using hx, .inr ⟨g, cap, cur.setIfInBounds i v, rfl, hb, ?_, hn, hm, by simpa using hs, ?_⟩⟩
    · simp [World.setCell, Array.getElem?_modify, hg]
    · rw [Array.toList_setIfInBounds, ← ht, List.take_set]
theorem ownsRow_is {w : World} {base : Nat} {e : TypeId} {v : Value} {n : Nat} {xs : List Value} (h : w.ownsRow base e 1 v n xs) (hn : 0 < n) : ∃ g cap, v = .slice (some ⟨g, 0, none⟩) n cap ∧ base ≤ g ∧ ∀ i, i < n → (∃ y, w.cell? ⟨g, i, none⟩ = some y) ∧ w.frozen? ⟨g, i, none⟩ = false := by
  obtain ⟨hx, h⟩ := h
  rcases h with ⟨_, h0⟩ | ⟨g, cap, cur, e0, hb, hg, hn', hm, hs, ht⟩
  · omega
  · refine ⟨g, cap, e0, hb, fun i hi => ⟨?_, by simp [World.frozen?, hg]⟩⟩
    have hi' : i < cur.size := by omega
    exact ⟨cur[i], by simp [World.cell?, hg, hi']⟩
def u8s (l : List Nat) : List Value := l.map fun (v : Nat) => Value.int .u8 (v : Int)
theorem addr_plain (B off j : Nat) : (⟨B, off, none⟩ : Addr).add j = ⟨B, off + j, none⟩ := by
  by_cases h : j = 0 <;> simp [Addr.add, h]
theorem conv_bytes (w : World) (B off cap n : Nat) (l : List Nat) (hn : l.length = n) (hb : ∀ b ∈ l, b < 256) (hc : ∀ j, j < l.length → w.cell? ⟨B, off + j, none⟩ = some (.int .u8 (l.getD j 0 : Nat))) :
    (convert 47 9 (.slice (some ⟨B, off, none⟩) n cap)).run Try.prog w = .ok (.string (strOf l)) w := by
  subst hn
  have := run_convert_bytes_back (P := Try.prog) w 47 9 5 ⟨B, off, none⟩ cap (l.map UInt8.ofNat) Try.underlying47 Try.underlying5 Try.underlying9 (fun j hj => by
    have hj' : j < l.length := by simpa using hj
    have h := hc j hj'
    have hlt : l[j] < 256 := hb _ (List.getElem_mem hj')
    rw [List.getD_eq_getElem?_getD, List.getElem?_eq_getElem hj'] at h
    rw [addr_plain, h]
    simp
    omega)
  simpa [strOf] using this
theorem lt_of_cell_some {w : World} {p : Addr} {v : Value} (h : w.cell? p = some v) : p.block < w.heap.size := by
  rcases Nat.lt_or_ge p.block w.heap.size with h1 | h1
  · exact h1
  · simp [World.cell?, Array.getElem?_eq_none h1] at h
theorem rowB_of_is {w w' : World} {n : Nat} {f : Nat → Value} {l : List Nat} (h : w'.rowIs w.heap.size 5 n f) (hn : l.length = n) (hm : n ≤ maxLen) (hf : ∀ i, i < n → f i = .int .u8 (l.getD i 0 : Nat)) (hb : Below w.heap.size w w') :
    RowB w l (.slice (some ⟨w.heap.size, 0, none⟩) n n) w' := by
  obtain ⟨c, hc, hs, hv⟩ := h
  subst hn
  refine ⟨⟨by simp, .inr ⟨w.heap.size, l.length, c, rfl, Nat.le_refl _, hc, Nat.le_refl _, hm, by simpa using hs, ?_⟩⟩, hb⟩
  apply List.ext_getElem
  · simp [hs]
  · intro i h1 h2
    simp at h1 h2
    have h3 := hv i (by omega)
    rw [hf i (by omega)] at h3
    have h4 : i < c.size := by omega
    rw [Array.getElem?_eq_getElem h4] at h3
    injection h3 with h3
    simp [h3, List.getD_eq_getElem?_getD, h2]
/-- Bytes of a call's own, seen from an older world. -/
theorem RowB.grow {w w1 w' : World} {l : List Nat} {t : Value} (h : RowB w1 l t w') (b : Below w.heap.size w w1) : RowB w l t w' := by
  obtain ⟨⟨h0, h1⟩, h2⟩ := h
  refine ⟨⟨h0, ?_⟩, b.trans (h2.mono b.size)⟩
  rcases h1 with h1 | ⟨g, cap, cur, e, hg, r⟩
  · exact .inl h1
  · exact .inr ⟨g, cap, cur, e, Nat.le_trans b.size hg, r⟩
/-- A string made of bytes that are there. -/
theorem conv_at (w : World) (p : Option Addr) (cap : Nat) (l : List Nat) (hb : ∀ b ∈ l, b < 256) (hc : BytesAt w p l) :
    (convert 47 9 (.slice p l.length cap)).run Try.prog w = .ok (.string (strOf l)) w := by
  cases l with
  | nil =>
    cases p with
    | none =>
      show (convert 47 9 (.slice none 0 cap)).run Try.prog w = _
      rw [run_convert_bytes_string w 47 9 5 none 0 cap Try.underlying47 Try.underlying5 Try.underlying9]
      rfl
    | some a =>
      have := run_convert_bytes_back (P := Try.prog) w 47 9 5 a cap [] Try.underlying47 Try.underlying5 Try.underlying9 (fun j hj => absurd hj (Nat.not_lt_zero j))
      simpa [strOf] using this
  | cons b l =>
    obtain ⟨B, off, rfl, -⟩ := hc 0 (by simp)
    refine conv_bytes w B off cap _ (b :: l) rfl hb fun j hj => ?_
    obtain ⟨B', off', e, c⟩ := hc j hj
    injection e with e
    injection e with e1 e2
    subst e1 e2
    exact c
theorem bytesAt_lt {w : World} {p : Option Addr} {l : List Nat} (hc : BytesAt w p l) (hne : l ≠ []) : ∃ B off, p = some ⟨B, off, none⟩ ∧ ∀ i, i < l.length → w.cell? ⟨B, off + i, none⟩ = some (.int .u8 (l.getD i 0 : Nat)) := by
  obtain ⟨B, off, rfl, -⟩ := hc 0 (List.length_pos_iff.2 hne)
  refine ⟨B, off, rfl, fun i hi => ?_⟩
  obtain ⟨B', off', e, c⟩ := hc i hi
  injection e with e
  injection e with e1 e2
  subst e1 e2
  exact c
theorem bytesAt_kept {w w' : World} {p : Option Addr} {l : List Nat} (hc : BytesAt w p l) (h : ∀ a v, w.cell? a = some v → w'.cell? a = w.cell? a) : BytesAt w' p l := by
  intro i hi
  obtain ⟨B, off, rfl, c⟩ := hc i hi
  exact ⟨B, off, rfl, (h _ _ c).trans c⟩
theorem bytesAt_below {w w' : World} {p : Option Addr} {l : List Nat} (hc : BytesAt w p l) (h : Below w.heap.size w w') : BytesAt w' p l :=
  bytesAt_kept hc fun _ _ c => h.cell (lt_of_cell_some c)
/-- Bytes of a call's own, as bytes in a slice. -/
theorem RowB.at' {w w' : World} {l : List Nat} {t : Value} (h : RowB w l t w') :
    ∃ p cap, t = .slice p l.length cap ∧ l.length ≤ cap ∧ cap ≤ maxLen ∧ BytesAt w' p l ∧ ∀ a, p = some a → w.heap.size ≤ a.block := by
  obtain ⟨⟨h0, h1⟩, hB⟩ := h
  rcases h1 with ⟨rfl, hn⟩ | ⟨g, cap, cur, rfl, hg, hh, hc, hm, hs, hx⟩
  · have : l = [] := List.eq_nil_of_length_eq_zero hn
    subst this
    exact ⟨none, 0, rfl, Nat.le_refl _, by unfold maxLen; omega, fun i hi => absurd hi (Nat.not_lt_zero i), fun a e => by cases e⟩
  · refine ⟨_, cap, rfl, hc, hm, fun i hi => ⟨g, 0, rfl, ?_⟩, fun a e => by injection e with e; subst e; exact hg⟩
    have hw : w'.ownsRow w.heap.size 5 1 (.slice (some ⟨g, 0, none⟩) l.length cap) l.length (l.map fun (v : Nat) => Value.int .u8 (v : Int)) := ⟨h0, .inr ⟨g, cap, cur, rfl, hg, hh, hc, hm, hs, hx⟩⟩
    have := hw.cellAt i (by omega)
    rw [Nat.zero_add, this]
    simp [List.getD_eq_getElem?_getD, hi]
/-- Bytes in a new block. -/
theorem bytesAt_new (w : World) (l : List Nat) (t : TypeId) : BytesAt (w.alloc (.cells (l.map fun (v : Nat) => Value.int .u8 (v : Int)).toArray t)) (some ⟨w.heap.size, 0, none⟩) l := by
  intro i hi
  refine ⟨_, _, rfl, ?_⟩
  rw [World.cell?_alloc_new]
  simp [List.getD_eq_getElem?_getD, hi]
theorem kbA {w w1 : World} {o : Obj} (h1 : Below (w.alloc o).heap.size (w.alloc o) w1) : Below w.heap.size w w1 := ((Below.refl _ _).alloc (Nat.le_refl _) o).trans (h1.mono (by simp))
theorem kbT {w w1 w2 : World} (h1 : Below w.heap.size w w1) (h2 : Below w1.heap.size w1 w2) : Below w.heap.size w w2 := h1.trans (h2.mono h1.size)
theorem kbS {w w1 : World} {o o' : Obj} (h1 : Below ((w.alloc o).heap.size + 1) ((w.alloc o).alloc o') w1) : Below w.heap.size w w1 := (((Below.refl _ _).alloc (Nat.le_refl _) o).alloc (by simp) o').trans (h1.mono (by simp; omega))
theorem bytesAt_mark (w : World) (l : List Nat) (t : TypeId) (fr : Nat × Nat) : BytesAt (w.alloc (.cells (l.map fun (v : Nat) => Value.int .u8 (v : Int)).toArray t fr)) (some ⟨w.heap.size, 0, none⟩) l := by
  intro i hi
  refine ⟨_, _, rfl, ?_⟩
  rw [World.cell?_alloc_mark]
  simp [List.getD_eq_getElem?_getD, hi]
theorem strOf_inj {l m : List Nat} (hl : ∀ b ∈ l, b < 256) (hm : ∀ b ∈ m, b < 256) (h : strOf l = strOf m) : l = m := by
  unfold strOf at h
  injection h with h
  have h2 := congrArg Array.toList h
  simp only at h2
  have inj : ∀ (x y : List Nat), (∀ b ∈ x, b < 256) → (∀ b ∈ y, b < 256) → x.map UInt8.ofNat = y.map UInt8.ofNat → x = y := by
    intro x
    induction x with
    | nil => intro y _ _ e; cases y with
      | nil => rfl
      | cons b t => simp at e
    | cons a x ih =>
      intro y hx hy e
      cases y with
      | nil => simp at e
      | cons b y =>
        simp only [List.map_cons, List.cons.injEq] at e
        have h1 := congrArg UInt8.toNat e.1
        have ha := hx a (by simp)
        have hb := hy b (by simp)
        simp only [UInt8.toNat_ofNat'] at h1
        rw [Nat.mod_eq_of_lt ha, Nat.mod_eq_of_lt hb] at h1
        rw [h1, ih y (fun b hb => hx b (by simp [hb])) (fun b hb => hy b (by simp [hb])) e.2]
  exact inj l m hl hm (by simpa using h2)
theorem bytesAt_take {w : World} {p : Option Addr} {l : List Nat} (h : BytesAt w p l) (n : Nat) : BytesAt w p (l.take n) := by
  intro i hi
  rw [List.length_take] at hi
  obtain ⟨B, off, e, c⟩ := h i (by omega)
  exact ⟨B, off, e, by rw [c]; simp [List.getD_eq_getElem?_getD, List.getElem?_take, show i < n by omega]⟩
theorem kbD {w w1 : World} (h : Below w.drew.heap.size w.drew w1) : Below w.heap.size w w1 := ((Below.refl _ _).drew).trans h
theorem bytesAt_drewN {w : World} {p : Option Addr} {l : List Nat} (h : BytesAt w p l) (n : Nat) : BytesAt (w.drewN n) p l := fun i hi => by
  obtain ⟨B, off, e, c⟩ := h i hi
  exact ⟨B, off, e, by rw [← c]; simp⟩
theorem str_beq (s t : ByteArray) : (s.toList == t.toList) = decide (s = t) := by
  rw [ByteArray.toList_eq, ByteArray.toList_eq]
  by_cases h : s = t
  · subst h; simp
  · rw [decide_eq_false h]
    apply Bool.eq_false_iff.2
    intro e
    have e2 := eq_of_beq e
    apply h
    cases s; cases t
    simp only [ByteArray.mk.injEq]
    exact Array.toList_inj.1 e2
theorem below_any {w w1 w2 : World} (h1 : Below w.heap.size w w1) (h2 : Below w1.heap.size w1 w2) : Below w.heap.size w w2 := h1.trans (h2.mono h1.size)
theorem wrap_u64 (n : Int) (h0 : 0 ≤ n) (h : n < 18446744073709551616) : IntKind.u64.wrap n = n := by
  simp [IntKind.wrap, IntKind.signed, IntKind.bits]; omega
theorem wrap_u32 (n : Int) : IntKind.u32.wrap n = n % 4294967296 := by
  simp [IntKind.wrap, IntKind.signed, IntKind.bits]
theorem wpAnyH_turn {P : Program} {md : Region.Mode} {ops : Array Oper} {Q : Exit → Act → World → Prop} {S S' : World → Prop} (hi : ∀ w, S' w → S w) : ∀ (fuel : Nat) (listed : Array Bool) (a : Act) (w : World), wpAnyH P md ops Q S' fuel listed a w → wpAnyH P md ops Q S fuel listed a w
  | 0, _, _, _, h => h
  | fuel + 1, _, _, _, h => ⟨h.1, fun i hm => wpOp_mono (fun a' w' h' => ⟨hi _ h'.1, wpAnyH_turn hi fuel _ a' w' h'.2⟩) (h.2 i hm)⟩
theorem conv_later {w w' : World} {l : List Nat} {p : Option Addr} (h : BytesAt w p l) (hb : ∀ b ∈ l, b < 256) (hB : Below w.heap.size w w') (cap : Nat) :
    (convert 47 9 (.slice p l.length cap)).run Try.prog w' = .ok (.string (strOf l)) w' := conv_at w' p cap l hb (bytesAt_below h hB)
end Go.Proofs.Ythbnochlpnikaaa
