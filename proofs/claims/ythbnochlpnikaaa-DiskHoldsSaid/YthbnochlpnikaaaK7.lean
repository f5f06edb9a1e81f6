/- A disk in memory. -/
import Derived.Test.YthbnochlpnikaaaK6
import Derived.Test.YthbnochlpnikaaaQ17
namespace Go.Proofs.Ythbnochlpnikaaa
open Go.RowKit Go.Shelf

def wcs : List (Nat × ByteArray) → List Value
  | [] => []
  | x :: l => (.int .i64 x.1 :: bL x.2) ++ wcs l
theorem wcs_append (l m : List (Nat × ByteArray)) : wcs (l ++ m) = wcs l ++ wcs m := by
  induction l with
  | nil => rfl
  | cons x l ih => simp only [List.cons_append, wcs, ih, List.append_assoc]
theorem wcs_length (l : List (Nat × ByteArray)) (h : ∀ x ∈ l, x.2.size = 64) : (wcs l).length = l.length * 65 := by
  induction l with
  | nil => rfl
  | cons x l ih =>
    simp only [wcs, List.length_append, List.length_cons, bL_length, h x (by simp), ih (fun y hy => h y (by simp [hy]))]
    omega
theorem wcs_one (l : List (Nat × ByteArray)) : ∀ u ∈ wcs l, u.oneCell' = true := by
  induction l with
  | nil => intro u hu; cases hu
  | cons x l ih =>
    intro u hu
    simp only [wcs, List.mem_append, List.mem_cons] at hu
    rcases hu with (rfl | hu) | hu
    · rfl
    · exact bL_one _ _ hu
    · exact ih u hu
/-- A disk: its block, its two maps, its row of loose writes. -/
structure DiskAt (w : World) (B b1 b2 : Nat) (v : Value) (s : DS) : Prop where
  cells : w.heap[B]? = some (.cells #[.map (some b1), .map (some b2), .int .i64 s.many, v, .bool (decide (0 ≤ s.left)), .int .i64 (s.left.toNat : Int)] 65 (0, 0))
  left : s.left ≤ 9223372036854775807
  ne : b1 ≠ b2
  row : w.ownsRow 0 78 65 v s.loose.length (wcs s.loose)
  off : v.ownBlock ≠ some B
  now : MapIs w b1 s.many (sectorS s)
  sync : MapIs w b2 s.many (lastS s.sync)
def FootOf (B b1 b2 : Nat) (v : Value) : Nat → Prop := fun k => k = B ∨ k = b1 ∨ k = b2 ∨ v.ownBlock = some k
def RepD : DiskRep := fun w d s F => ∃ B b1 b2 v, d = .pointer (some ⟨B, 0, none⟩) ∧ DiskAt w B b1 b2 v s ∧ F = FootOf B b1 b2 v
theorem lt_of_heap {w : World} {k : Nat} {o : Obj} (h : w.heap[k]? = some o) : k < w.heap.size := (Array.getElem?_eq_some_iff.1 h).1
theorem DiskAt.low {w : World} {B b1 b2 : Nat} {v : Value} {s : DS} (h : DiskAt w B b1 b2 v s) : ∀ k, FootOf B b1 b2 v k → k < w.heap.size := by
  rintro k (rfl | rfl | rfl | hk)
  · exact lt_of_heap h.cells
  · exact h.now.lt
  · exact h.sync.lt
  · exact (h.row.lt k hk).2
theorem DiskAt.keep {w w' : World} {B b1 b2 : Nat} {v : Value} {s : DS} (h : DiskAt w B b1 b2 v s) (hk : ∀ k, FootOf B b1 b2 v k → w'.heap[k]? = w.heap[k]?) : DiskAt w' B b1 b2 v s :=
  ⟨(hk B (.inl rfl)).trans h.cells, h.left, h.ne, ownsRow_kept h.row (fun j hj => hk j (.inr (.inr (.inr hj)))), h.off, h.now.of_block (hk b1 (.inr (.inl rfl))), h.sync.of_block (hk b2 (.inr (.inr (.inl rfl))))⟩
theorem DiskAt.below {w w' : World} {B b1 b2 : Nat} {v : Value} {s : DS} (h : DiskAt w B b1 b2 v s) (hb : Below w.heap.size w w') : DiskAt w' B b1 b2 v s := h.keep fun k hk => hb.block k (h.low k hk)
theorem DiskAt.cell {w : World} {B b1 b2 : Nat} {v : Value} {s : DS} (h : DiskAt w B b1 b2 v s) : w.cell? ⟨B, 0, none⟩ = some (.map (some b1)) ∧ w.cell? ⟨B, 1, none⟩ = some (.map (some b2)) ∧ w.cell? ⟨B, 2, none⟩ = some (.int .i64 s.many) ∧ w.cell? ⟨B, 3, none⟩ = some v ∧ w.cell? ⟨B, 4, none⟩ = some (.bool (decide (0 ≤ s.left))) ∧ w.cell? ⟨B, 5, none⟩ = some (.int .i64 (s.left.toNat : Int)) := by
  have hc := fun j => cell_of_row w B j _ 65 (0, 0) h.cells
  exact ⟨hc 0, hc 1, hc 2, hc 3, hc 4, hc 5⟩
theorem DiskAt.frozen {w : World} {B b1 b2 : Nat} {v : Value} {s : DS} (h : DiskAt w B b1 b2 v s) (j : Nat) : w.frozen? ⟨B, j, none⟩ = false := frozen_of_row w B j _ 65 h.cells
theorem repD_low (w : World) (d : Value) (s : DS) (F : Nat → Prop) (h : RepD w d s F) : ∀ k, F k → k < w.heap.size := by
  obtain ⟨B, b1, b2, v, rfl, h, rfl⟩ := h
  exact h.low
theorem repD_keep (w w' : World) (d : Value) (s : DS) (F : Nat → Prop) (h : RepD w d s F) (_ : w.heap.size ≤ w'.heap.size) (hk : ∀ k, F k → w'.heap[k]? = w.heap[k]?) : RepD w' d s F := by
  obtain ⟨B, b1, b2, v, rfl, h, rfl⟩ := h
  exact ⟨B, b1, b2, v, rfl, h.keep hk, rfl⟩
/-- The questions of a disk. -/
theorem left_zero {s : DS} : (decide (0 ≤ s.left) && decide ((s.left.toNat : Int) = 0)) = decide (s.left = 0) := by
  rw [Bool.eq_iff_iff]
  simp
  omega
def qHalted (B : Nat) (s : DS) : Qn := ⟨140, 35, #[.pointer (some ⟨B, 0, none⟩)], true, decide (s.left = 0)⟩
def qBeyond (A A' : Nat) (k : Int) (s : DS) : Qn := ⟨4, 55, #[.pointer (some ⟨A, 0, none⟩), .pointer (some ⟨A', 0, none⟩)], false, decide (k < 0) || decide ((s.many : Int) ≤ k)⟩
def qOdd (A n : Nat) : Qn := ⟨2, 54, #[.pointer (some ⟨A, 0, none⟩)], false, decide (n ≠ 64)⟩
def qBelow (A : Nat) (n : Int) : Qn := ⟨2, 57, #[.pointer (some ⟨A, 0, none⟩)], false, decide (n < 0)⟩
def qAbove (A : Nat) (n : Int) : Qn := ⟨2, 58, #[.pointer (some ⟨A, 0, none⟩)], false, decide (64 ≤ n)⟩
theorem below_same {w w' : World} (h : w = w') : Below w.heap.size w w' := h ▸ Below.refl _ _
theorem qHalted_ok {w : World} {B b1 b2 : Nat} {v : Value} {s : DS} (h : DiskAt w B b1 b2 v s) (hm : 1 ≤ s.many) : QnOk w (qHalted B s) :=
  ⟨enters_of Try.func35 (by kernel_rfl) rfl, fun w' hb => by
    obtain ⟨-, -, c2, -, c4, c5⟩ := (h.below hb).cell
    refine (stopped_any c2 (by omega) c4 c5).mono ?_
    rintro e w2 ⟨rfl, e⟩
    exact ⟨by rw [left_zero]; rfl, below_same e⟩⟩
theorem qBeyond_ok {w : World} {B b1 b2 : Nat} {v : Value} {s : DS} (h : DiskAt w B b1 b2 v s) {A A' : Nat} {k : Int} (h0 : w.cell? ⟨A, 0, none⟩ = some (.int .i64 k)) (h1 : w.cell? ⟨A', 0, none⟩ = some (.pointer (some ⟨B, 0, none⟩))) : QnOk w (qBeyond A A' k s) :=
  ⟨enters_of Try.func55 (by kernel_rfl) rfl, fun w' hb => beyond1_any (below_kept hb _ _ h0) (below_kept hb _ _ h1) (h.below hb).cell.2.2.1⟩
theorem qOdd_ok {w : World} {A : Nat} {p : Option Addr} {n c : Nat} (h0 : w.cell? ⟨A, 0, none⟩ = some (.slice p n c)) : QnOk w (qOdd A n) :=
  ⟨enters_of Try.func54 (by kernel_rfl) rfl, fun w' hb => odd1_any (below_kept hb _ _ h0)⟩
theorem qBelow_ok {w : World} {A : Nat} {n : Int} (h0 : w.cell? ⟨A, 0, none⟩ = some (.int .i64 n)) : QnOk w (qBelow A n) :=
  ⟨enters_of Try.func57 (by kernel_rfl) rfl, fun w' hb => below1_any (below_kept hb _ _ h0)⟩
theorem qAbove_ok {w : World} {A : Nat} {n : Int} (h0 : w.cell? ⟨A, 0, none⟩ = some (.int .i64 n)) : QnOk w (qAbove A n) :=
  ⟨enters_of Try.func58 (by kernel_rfl) rfl, fun w' hb => above1_any (below_kept hb _ _ h0)⟩
end Go.Proofs.Ythbnochlpnikaaa
