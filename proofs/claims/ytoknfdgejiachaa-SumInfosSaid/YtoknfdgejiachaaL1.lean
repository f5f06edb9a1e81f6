/- What the laws of layer 2 lean on of package sum, as one bundle; and the chapter's rows. -/
import Derived.Test.YtoknfdgejiachaaY10
import Derived.Deep.CutRange
namespace Go.Proofs.Ytoknfdgejiachaa
open Go.RowKit Go.Shelf

/-- What package sum answers. -/
structure SumOk (Bs : World → Prop) : Prop where
  below : ∀ {w w' : World}, Bs w → Below w.heap.size w w' → Bs w'
  makes : ∀ (o : Int) (l : List Int) (v : Value) (w : World), Bs w → Ints w v l → l.length ≤ 4 → Calls Try.prog 9 #[.int .i64 o, v] w fun r w' => r = .returned (two (makesE o l)) ∧ Below w.heap.size w w'
  does : ∀ (o : Int) (l : List V3) (v : Value) (w : World), Bs w → Vals w v l → Fits l → l.length ≤ 4 → Calls Try.prog 14 #[.int .i64 o, v] w fun r w' => r = .returned (.tuple #[val (doE o l).1, .int .i64 (doE o l).2]) ∧ Below w.heap.size w w'
theorem SumOk.alloc {Bs : World → Prop} (S : SumOk Bs) {w : World} (h : Bs w) (o : Obj) : Bs (w.alloc o) := S.below h ((Below.refl _ _).alloc (Nat.le_refl _) _)

/-- A value in memory. -/
def Box (w : World) (B : Nat) (v : V3) : Prop := w.cell? ⟨B, 0, none⟩ = some (.int .i64 v.1) ∧ w.cell? ⟨B, 1, none⟩ = some (.int .i64 v.2.1) ∧ w.cell? ⟨B, 2, none⟩ = some (.string v.2.2)
theorem Box.lt {w : World} {B : Nat} {v : V3} (h : Box w B v) : B < w.heap.size := lt_of_cell_some h.1
theorem Box.below {w w' : World} {B : Nat} {v : V3} (h : Box w B v) (hb : Below w.heap.size w w') : Box w' B v :=
  ⟨(hb.cell h.lt).trans h.1, (hb.cell h.lt).trans h.2.1, (hb.cell h.lt).trans h.2.2⟩
theorem Box.new (w : World) (v : V3) : Box (w.alloc (vObj v.1 v.2.1 v.2.2)) w.heap.size v := ⟨by go_cell, by go_cell, by go_cell⟩
theorem Box.alloc {w : World} {B : Nat} {v : V3} (h : Box w B v) (o : Obj) : Box (w.alloc o) B v := h.below ((Below.refl _ _).alloc (Nat.le_refl _) _)

abbrev twoObj (x y : V3) : Obj := .cells #[.int .i64 x.1, .int .i64 x.2.1, .string x.2.2, .int .i64 y.1, .int .i64 y.2.1, .string y.2.2] 45
theorem vals_two (x y : V3) (w : World) : Vals (w.alloc (twoObj x y)) (.slice (some ⟨w.heap.size, 0, none⟩) 2 2) [x, y] := by
  refine ⟨_, 2, rfl, by simp, fun i hi => ⟨w.heap.size, 0, rfl, ?_⟩⟩
  match i, hi with
  | 0, _ => exact ⟨by simp, by simp, by simp⟩
  | 1, _ => exact ⟨by simp, by simp, by simp⟩
theorem SumOk.do2 {Bs : World → Prop} (S : SumOk Bs) (o : Int) (x y : V3) (w : World) (h : Bs w) (hx : x.2.2.size ≤ 100000 ∧ In64 x.2.1) (hy : y.2.2.size ≤ 100000 ∧ In64 y.2.1) :
    Calls Try.prog 14 #[.int .i64 o, .slice (some ⟨w.heap.size, 0, none⟩) 2 2] (w.alloc (twoObj x y)) fun r w' => r = .returned (.tuple #[val (doE o [x, y]).1, .int .i64 (doE o [x, y]).2]) ∧ Below w.heap.size w w' := by
  refine (S.does o [x, y] _ _ (S.alloc h _) (vals_two x y w) ?_ (by simp)).mono fun r w' ⟨hr, hb⟩ => ⟨hr, ((Below.refl _ _).alloc (Nat.le_refl _) _).trans (hb.mono (by simp))⟩
  intro v hv
  simp only [List.mem_cons, List.not_mem_nil, or_false] at hv
  rcases hv with rfl | rfl
  · exact hx
  · exact hy

set_option maxHeartbeats 400000 in
theorem lawOf_any (n : Int) (w : World) :
    Calls Try.prog 16 #[.int .i64 n] w fun r w' => r = .returned (val (2, n, ⟨#[]⟩)) ∧ Below w.heap.size w w' := by
  go_enter Try.func16, Try.ntmps16
  go_wp2
  all_goals go_returns
  all_goals exact ⟨rfl, by go_grown⟩

theorem w1 : doE 1 [(2, 2, ⟨#[]⟩), (2, 3, ⟨#[]⟩)] = ((2, 5, ⟨#[]⟩), 0) := by kernel_rfl
theorem SumOk.w1 {Bs : World → Prop} (S : SumOk Bs) (w : World) (h : Bs w) :
    Calls Try.prog 14 #[.int .i64 1, .slice (some ⟨w.heap.size, 0, none⟩) 2 2] (w.alloc (twoObj (2, 2, ⟨#[]⟩) (2, 3, ⟨#[]⟩))) fun r w' => r = .returned (.tuple #[val (2, 5, ⟨#[]⟩), .int .i64 0]) ∧ Below w.heap.size w w' := by
  have := S.do2 1 (2, 2, ⟨#[]⟩) (2, 3, ⟨#[]⟩) w h ⟨by decide, by decide⟩ ⟨by decide, by decide⟩
  rw [Proofs.Ytoknfdgejiachaa.w1] at this
  exact this
theorem w2 : doE 4 [(2, -7, ⟨#[]⟩), (2, 2, ⟨#[]⟩)] = ((2, -3, ⟨#[]⟩), 0) := by kernel_rfl
theorem SumOk.w2 {Bs : World → Prop} (S : SumOk Bs) (w : World) (h : Bs w) :
    Calls Try.prog 14 #[.int .i64 4, .slice (some ⟨w.heap.size, 0, none⟩) 2 2] (w.alloc (twoObj (2, -7, ⟨#[]⟩) (2, 2, ⟨#[]⟩))) fun r w' => r = .returned (.tuple #[val (2, -3, ⟨#[]⟩), .int .i64 0]) ∧ Below w.heap.size w w' := by
  have := S.do2 4 (2, -7, ⟨#[]⟩) (2, 2, ⟨#[]⟩) w h ⟨by decide, by decide⟩ ⟨by decide, by decide⟩
  rw [Proofs.Ytoknfdgejiachaa.w2] at this
  exact this
theorem w3 : doE 5 [(2, -7, ⟨#[]⟩), (2, 2, ⟨#[]⟩)] = ((2, -1, ⟨#[]⟩), 0) := by kernel_rfl
theorem SumOk.w3 {Bs : World → Prop} (S : SumOk Bs) (w : World) (h : Bs w) :
    Calls Try.prog 14 #[.int .i64 5, .slice (some ⟨w.heap.size, 0, none⟩) 2 2] (w.alloc (twoObj (2, -7, ⟨#[]⟩) (2, 2, ⟨#[]⟩))) fun r w' => r = .returned (.tuple #[val (2, -1, ⟨#[]⟩), .int .i64 0]) ∧ Below w.heap.size w w' := by
  have := S.do2 5 (2, -7, ⟨#[]⟩) (2, 2, ⟨#[]⟩) w h ⟨by decide, by decide⟩ ⟨by decide, by decide⟩
  rw [Proofs.Ytoknfdgejiachaa.w3] at this
  exact this
theorem w4 : doE 4 [(2, 1, ⟨#[]⟩), (2, 0, ⟨#[]⟩)] = (nul, 121) := by kernel_rfl
theorem SumOk.w4 {Bs : World → Prop} (S : SumOk Bs) (w : World) (h : Bs w) :
    Calls Try.prog 14 #[.int .i64 4, .slice (some ⟨w.heap.size, 0, none⟩) 2 2] (w.alloc (twoObj (2, 1, ⟨#[]⟩) (2, 0, ⟨#[]⟩))) fun r w' => r = .returned (.tuple #[val nul, .int .i64 121]) ∧ Below w.heap.size w w' := by
  have := S.do2 4 (2, 1, ⟨#[]⟩) (2, 0, ⟨#[]⟩) w h ⟨by decide, by decide⟩ ⟨by decide, by decide⟩
  rw [Proofs.Ytoknfdgejiachaa.w4] at this
  exact this
theorem w5 : doE 1 [(2, 9223372036854775807, ⟨#[]⟩), (2, 1, ⟨#[]⟩)] = (nul, 122) := by kernel_rfl
theorem SumOk.w5 {Bs : World → Prop} (S : SumOk Bs) (w : World) (h : Bs w) :
    Calls Try.prog 14 #[.int .i64 1, .slice (some ⟨w.heap.size, 0, none⟩) 2 2] (w.alloc (twoObj (2, 9223372036854775807, ⟨#[]⟩) (2, 1, ⟨#[]⟩))) fun r w' => r = .returned (.tuple #[val nul, .int .i64 122]) ∧ Below w.heap.size w w' := by
  have := S.do2 1 (2, 9223372036854775807, ⟨#[]⟩) (2, 1, ⟨#[]⟩) w h ⟨by decide, by decide⟩ ⟨by decide, by decide⟩
  rw [Proofs.Ytoknfdgejiachaa.w5] at this
  exact this
theorem w6 : doE 7 [nul, (2, 1, ⟨#[]⟩)] = (nul, 0) := by kernel_rfl
theorem SumOk.w6 {Bs : World → Prop} (S : SumOk Bs) (w : World) (h : Bs w) :
    Calls Try.prog 14 #[.int .i64 7, .slice (some ⟨w.heap.size, 0, none⟩) 2 2] (w.alloc (twoObj nul (2, 1, ⟨#[]⟩))) fun r w' => r = .returned (.tuple #[val nul, .int .i64 0]) ∧ Below w.heap.size w w' := by
  have := S.do2 7 nul (2, 1, ⟨#[]⟩) w h ⟨by decide, by decide⟩ ⟨by decide, by decide⟩
  rw [Proofs.Ytoknfdgejiachaa.w6] at this
  exact this
theorem w7 : doE 14 [nul, (1, 1, ⟨#[]⟩)] = ((1, 1, ⟨#[]⟩), 0) := by kernel_rfl
theorem SumOk.w7 {Bs : World → Prop} (S : SumOk Bs) (w : World) (h : Bs w) :
    Calls Try.prog 14 #[.int .i64 14, .slice (some ⟨w.heap.size, 0, none⟩) 2 2] (w.alloc (twoObj nul (1, 1, ⟨#[]⟩))) fun r w' => r = .returned (.tuple #[val (1, 1, ⟨#[]⟩), .int .i64 0]) ∧ Below w.heap.size w w' := by
  have := S.do2 14 nul (1, 1, ⟨#[]⟩) w h ⟨by decide, by decide⟩ ⟨by decide, by decide⟩
  rw [Proofs.Ytoknfdgejiachaa.w7] at this
  exact this
theorem w8 : doE 9 [(2, 1, ⟨#[]⟩), (3, 0, ⟨#[97]⟩)] = (nul, 120) := by kernel_rfl
theorem SumOk.w8 {Bs : World → Prop} (S : SumOk Bs) (w : World) (h : Bs w) :
    Calls Try.prog 14 #[.int .i64 9, .slice (some ⟨w.heap.size, 0, none⟩) 2 2] (w.alloc (twoObj (2, 1, ⟨#[]⟩) (3, 0, ⟨#[97]⟩))) fun r w' => r = .returned (.tuple #[val nul, .int .i64 120]) ∧ Below w.heap.size w w' := by
  have := S.do2 9 (2, 1, ⟨#[]⟩) (3, 0, ⟨#[97]⟩) w h ⟨by decide, by decide⟩ ⟨by decide, by decide⟩
  rw [Proofs.Ytoknfdgejiachaa.w8] at this
  exact this
theorem w9 : makesE 6 [3, 0] = (3, 0) := by kernel_rfl
theorem SumOk.w9 {Bs : World → Prop} (S : SumOk Bs) (w : World) (h : Bs w) :
    Calls Try.prog 9 #[.int .i64 6, .slice (some ⟨w.heap.size, 0, none⟩) 2 2] (w.alloc (.cells #[.int .i64 3, .int .i64 0] 25)) fun r w' => r = .returned (.tuple #[.int .i64 3, .int .i64 0]) ∧ Below w.heap.size w w' := by
  have hi : Ints (w.alloc (.cells #[.int .i64 3, .int .i64 0] 25)) (.slice (some ⟨w.heap.size, 0, none⟩) 2 2) [3, 0] := by
    refine ⟨_, 2, rfl, by simp, fun i hi => ⟨w.heap.size, 0, rfl, ?_⟩⟩
    match i, hi with
    | 0, _ => simp
    | 1, _ => simp
  have := S.makes 6 [3, 0] _ _ (S.alloc h _) hi (by simp)
  rw [Proofs.Ytoknfdgejiachaa.w9] at this
  exact this.mono fun r w' ⟨hr, hb⟩ => ⟨hr, ((Below.refl _ _).alloc (Nat.le_refl _) _).trans (hb.mono (by simp))⟩

theorem SumOk.w9c {Bs : World → Prop} (S : SumOk Bs) (B : Nat) (w : World) (h : Bs w) (c0 : w.cell? ⟨B, 0, none⟩ = some (.int .i64 3)) (c1 : w.cell? ⟨B, 1, none⟩ = some (.int .i64 0)) :
    Calls Try.prog 9 #[.int .i64 6, .slice (some ⟨B, 0, none⟩) 2 2] w fun r w' => r = .returned (.tuple #[.int .i64 3, .int .i64 0]) ∧ Below w.heap.size w w' := by
  have hi : Ints w (.slice (some ⟨B, 0, none⟩) 2 2) [3, 0] := by
    refine ⟨_, 2, rfl, by simp, fun i hi => ⟨B, 0, rfl, ?_⟩⟩
    match i, hi with
    | 0, _ => exact c0
    | 1, _ => exact c1
  have := S.makes 6 [3, 0] _ _ h hi (by simp)
  rw [Proofs.Ytoknfdgejiachaa.w9] at this
  exact this
/-- The same, where the two values lie in whatever block. -/
theorem SumOk.do2c {Bs : World → Prop} (S : SumOk Bs) (o : Int) (x y : V3) (B : Nat) (w : World) (h : Bs w) (hx : x.2.2.size ≤ 100000 ∧ In64 x.2.1) (hy : y.2.2.size ≤ 100000 ∧ In64 y.2.1)
    (c0 : w.cell? ⟨B, 0, none⟩ = some (.int .i64 x.1)) (c1 : w.cell? ⟨B, 1, none⟩ = some (.int .i64 x.2.1)) (c2 : w.cell? ⟨B, 2, none⟩ = some (.string x.2.2))
    (c3 : w.cell? ⟨B, 3, none⟩ = some (.int .i64 y.1)) (c4 : w.cell? ⟨B, 4, none⟩ = some (.int .i64 y.2.1)) (c5 : w.cell? ⟨B, 5, none⟩ = some (.string y.2.2)) :
    Calls Try.prog 14 #[.int .i64 o, .slice (some ⟨B, 0, none⟩) 2 2] w fun r w' => r = .returned (.tuple #[val (doE o [x, y]).1, .int .i64 (doE o [x, y]).2]) ∧ Below w.heap.size w w' := by
  refine S.does o [x, y] _ _ h ⟨_, 2, rfl, by simp, fun i hi => ⟨B, 0, rfl, ?_⟩⟩ ?_ (by simp)
  · match i, hi with
    | 0, _ => exact ⟨c0, c1, c2⟩
    | 1, _ => exact ⟨c3, c4, c5⟩
  · intro v hv
    simp only [List.mem_cons, List.not_mem_nil, or_false] at hv
    rcases hv with rfl | rfl
    · exact hx
    · exact hy
theorem SumOk.w6c {Bs : World → Prop} (S : SumOk Bs) (B : Nat) (w : World) (h : Bs w)
    (c0 : w.cell? ⟨B, 0, none⟩ = some (.int .i64 0)) (c1 : w.cell? ⟨B, 1, none⟩ = some (.int .i64 0)) (c2 : w.cell? ⟨B, 2, none⟩ = some (.string ⟨#[]⟩))
    (c3 : w.cell? ⟨B, 3, none⟩ = some (.int .i64 2)) (c4 : w.cell? ⟨B, 4, none⟩ = some (.int .i64 1)) (c5 : w.cell? ⟨B, 5, none⟩ = some (.string ⟨#[]⟩)) :
    Calls Try.prog 14 #[.int .i64 7, .slice (some ⟨B, 0, none⟩) 2 2] w fun r w' => r = .returned (.tuple #[val nul, .int .i64 0]) ∧ Below w.heap.size w w' := by
  have := S.do2c 7 nul (2, 1, ⟨#[]⟩) B w h ⟨by decide, by decide⟩ ⟨by decide, by decide⟩ c0 c1 c2 c3 c4 c5
  rw [Proofs.Ytoknfdgejiachaa.w6] at this
  exact this
theorem SumOk.w7c {Bs : World → Prop} (S : SumOk Bs) (B : Nat) (w : World) (h : Bs w)
    (c0 : w.cell? ⟨B, 0, none⟩ = some (.int .i64 0)) (c1 : w.cell? ⟨B, 1, none⟩ = some (.int .i64 0)) (c2 : w.cell? ⟨B, 2, none⟩ = some (.string ⟨#[]⟩))
    (c3 : w.cell? ⟨B, 3, none⟩ = some (.int .i64 1)) (c4 : w.cell? ⟨B, 4, none⟩ = some (.int .i64 1)) (c5 : w.cell? ⟨B, 5, none⟩ = some (.string ⟨#[]⟩)) :
    Calls Try.prog 14 #[.int .i64 14, .slice (some ⟨B, 0, none⟩) 2 2] w fun r w' => r = .returned (.tuple #[val (1, 1, ⟨#[]⟩), .int .i64 0]) ∧ Below w.heap.size w w' := by
  have := S.do2c 14 nul (1, 1, ⟨#[]⟩) B w h ⟨by decide, by decide⟩ ⟨by decide, by decide⟩ c0 c1 c2 c3 c4 c5
  rw [Proofs.Ytoknfdgejiachaa.w7] at this
  exact this
/-- A result's own cell, kept by a call. -/
theorem nul_kept {Y wb : World} {A : Nat} (b : Below Y.heap.size Y wb) (c0 : Y.cell? ⟨A, 0, none⟩ = some (.int .i64 0)) (c1 : Y.cell? ⟨A, 1, none⟩ = some (.int .i64 0)) (c2 : Y.cell? ⟨A, 2, none⟩ = some (.string ⟨#[]⟩))
    (f0 : Y.frozen? ⟨A, 0, none⟩ = false) (f1 : Y.frozen? ⟨A, 1, none⟩ = false) (f2 : Y.frozen? ⟨A, 2, none⟩ = false) :
    wb.cell? ⟨A, 0, none⟩ = some (.int .i64 0) ∧ wb.cell? ⟨A, 1, none⟩ = some (.int .i64 0) ∧ wb.cell? ⟨A, 2, none⟩ = some (.string ⟨#[]⟩) ∧ wb.frozen? ⟨A, 0, none⟩ = false ∧ wb.frozen? ⟨A, 1, none⟩ = false ∧ wb.frozen? ⟨A, 2, none⟩ = false ∧ A < wb.heap.size :=
  have l : A < Y.heap.size := lt_of_cell_some c0
  ⟨(b.cell l).trans c0, (b.cell l).trans c1, (b.cell l).trans c2, (b.frozen l).trans f0, (b.frozen l).trans f1, (b.frozen l).trans f2, Nat.lt_of_lt_of_le l b.size⟩
theorem nul_hand {G : Prop} {Y wb : World} {A : Nat} (b : Below Y.heap.size Y wb) (c0 : Y.cell? ⟨A, 0, none⟩ = some (.int .i64 0)) (c1 : Y.cell? ⟨A, 1, none⟩ = some (.int .i64 0)) (c2 : Y.cell? ⟨A, 2, none⟩ = some (.string ⟨#[]⟩))
    (f0 : Y.frozen? ⟨A, 0, none⟩ = false) (f1 : Y.frozen? ⟨A, 1, none⟩ = false) (f2 : Y.frozen? ⟨A, 2, none⟩ = false)
    (k : wb.cell? ⟨A, 0, none⟩ = some (.int .i64 0) ∧ wb.cell? ⟨A, 1, none⟩ = some (.int .i64 0) ∧ wb.cell? ⟨A, 2, none⟩ = some (.string ⟨#[]⟩) ∧ wb.frozen? ⟨A, 0, none⟩ = false ∧ wb.frozen? ⟨A, 1, none⟩ = false ∧ wb.frozen? ⟨A, 2, none⟩ = false ∧ A < wb.heap.size → G) : G :=
  k (nul_kept b c0 c1 c2 f0 f1 f2)
abbrev NulAt (w : World) (A : Nat) : Prop := w.cell? ⟨A, 0, none⟩ = some (.int .i64 0) ∧ w.cell? ⟨A, 1, none⟩ = some (.int .i64 0) ∧ w.cell? ⟨A, 2, none⟩ = some (.string ⟨#[]⟩) ∧ w.frozen? ⟨A, 0, none⟩ = false ∧ w.frozen? ⟨A, 1, none⟩ = false ∧ w.frozen? ⟨A, 2, none⟩ = false ∧ A < w.heap.size
theorem nul_late {wa wb : World} {o : Obj} (b : Below ((wa.alloc o).alloc (vObj 0 0 ⟨#[]⟩)).heap.size ((wa.alloc o).alloc (vObj 0 0 ⟨#[]⟩)) wb) : NulAt wb (wa.heap.size + 1) :=
  nul_kept b (by go_cell) (by go_cell) (by go_cell) (by go_cell) (by go_cell) (by go_cell)
theorem nul_mid {wa wb : World} {o : Obj} (b : Below ((wa.alloc (vObj 0 0 ⟨#[]⟩)).alloc o).heap.size ((wa.alloc (vObj 0 0 ⟨#[]⟩)).alloc o) wb) : NulAt wb wa.heap.size :=
  nul_kept b (by go_cell) (by go_cell) (by go_cell) (by go_cell) (by go_cell) (by go_cell)
theorem nul_first {W wa : World} (b : Below (W.drew.alloc (vObj 0 0 ⟨#[]⟩)).heap.size (W.drew.alloc (vObj 0 0 ⟨#[]⟩)) wa) : NulAt wa W.heap.size :=
  nul_kept b (by go_cell) (by go_cell) (by go_cell) (by go_cell) (by go_cell) (by go_cell)
theorem nul_far {wa wb : World} {A : Nat} {o : Obj} (h : NulAt wa A) (b : Below (wa.alloc o).heap.size (wa.alloc o) wb) : NulAt wb A :=
  have k := ((Below.refl wa.heap.size wa).alloc (Nat.le_refl _) o).trans (b.mono (by simp))
  nul_kept k h.1 h.2.1 h.2.2.1 h.2.2.2.1 h.2.2.2.2.1 h.2.2.2.2.2.1
theorem refOf_1 (w : World) : Calls Try.prog 17 #[.int .i64 1] w fun r w' => r = .returned (val (1, 1, ⟨#[]⟩)) ∧ Below w.heap.size w w' := refOf_any 1 w
/-- Values in memory, block by block. -/
def Boxes (w : World) (l : List (Nat × V3)) : Prop := ∀ x ∈ l, Box w x.1 x.2
theorem Boxes.below {w w' : World} {l : List (Nat × V3)} (h : Boxes w l) (hb : Below w.heap.size w w') : Boxes w' l := fun x hx => (h x hx).below hb
theorem Boxes.push {w : World} {l : List (Nat × V3)} (h : Boxes w l) (v : V3) : Boxes (w.alloc (vObj v.1 v.2.1 v.2.2)) ((w.heap.size, v) :: l) := fun x hx => by
  rcases List.mem_cons.1 hx with rfl | hx
  · exact Box.new w v
  · exact (h x hx).alloc _
theorem meet_box {w W wx : World} {l : List (Nat × V3)} {A : Nat} {v : V3} (hL : Boxes W l) (hB : Below w.heap.size w W) (hb : Below W.heap.size W wx)
    (c0 : wx.cell? ⟨A, 0, none⟩ = some (.int .i64 v.1)) (c1 : wx.cell? ⟨A, 1, none⟩ = some (.int .i64 v.2.1)) (c2 : wx.cell? ⟨A, 2, none⟩ = some (.string v.2.2)) :
    Boxes wx ((A, v) :: l) ∧ Below w.heap.size w wx :=
  ⟨fun x hx => by
    rcases List.mem_cons.1 hx with rfl | hx
    · exact ⟨c0, c1, c2⟩
    · exact (hL x hx).below hb, hB.trans (hb.mono hB.size)⟩
theorem Boxes.alloc {w : World} {l : List (Nat × V3)} (h : Boxes w l) (o : Obj) : Boxes (w.alloc o) l := fun x hx => (h x hx).alloc o
theorem Boxes.drew {w : World} {l : List (Nat × V3)} (h : Boxes w l) : Boxes w.drew l := h
end Go.Proofs.Ytoknfdgejiachaa

