import Derived.Test.YtcngoffmkbobhaaGreatDoorT16
namespace Go.Proofs.YtcngoffmkbobhaaGreatDoor
open Go.RowKit

theorem two_cells {w : World} {B : Nat} {a b : Int} (ha : w.cell? ⟨B, 0, none⟩ = some (.int .i64 a)) (hb : w.cell? ⟨B, 1, none⟩ = some (.int .i64 b)) : ∀ i, i < [a, b].length → w.cell? ⟨B, 0 + i, none⟩ = some (.int .i64 ([a, b].getD i 0)) := by
  intro i hi
  match i, hi with
  | 0, _ => exact ha
  | 1, _ => exact hb
theorem and2 (a b : Int) (B : Nat) (w : World) (ha : w.cell? ⟨B, 0, none⟩ = some (.int .i64 a)) (hb : w.cell? ⟨B, 1, none⟩ = some (.int .i64 b)) :
    Calls Tryz.prog 21 #[.slice (some ⟨B, 0, none⟩) 2 2] w fun r w' => r = .returned (.int .i64 (bothI (bothI 1 a) b)) ∧ w = w' := and_some B 0 2 [a, b] w (by simp) (two_cells ha hb)
theorem or2 (a b : Int) (B : Nat) (w : World) (ha : w.cell? ⟨B, 0, none⟩ = some (.int .i64 a)) (hb : w.cell? ⟨B, 1, none⟩ = some (.int .i64 b)) :
    Calls Tryz.prog 22 #[.slice (some ⟨B, 0, none⟩) 2 2] w fun r w' => r = .returned (.int .i64 (eitherI (eitherI 0 a) b)) ∧ w = w' := or_some B 0 2 [a, b] w (by simp) (two_cells ha hb)
theorem andC (B : Nat) (w : World) (ha : w.cell? ⟨B, 0, none⟩ = some (.int .i64 1)) (hb : w.cell? ⟨B, 1, none⟩ = some (.int .i64 2)) :
    Calls Tryz.prog 21 #[.slice (some ⟨B, 0, none⟩) 2 2] w fun r w' => r = .returned (.int .i64 2) ∧ w = w' := and2 1 2 B w ha hb
theorem orC (B : Nat) (w : World) (ha : w.cell? ⟨B, 0, none⟩ = some (.int .i64 0)) (hb : w.cell? ⟨B, 1, none⟩ = some (.int .i64 2)) :
    Calls Tryz.prog 22 #[.slice (some ⟨B, 0, none⟩) 2 2] w fun r w' => r = .returned (.int .i64 2) ∧ w = w' := or2 0 2 B w ha hb

abbrev vObj (k n : Int) (s : ByteArray) : Obj := .cells #[.int .i64 k, .int .i64 n, .string s] 24

set_option maxRecDepth 100000 in
set_option maxHeartbeats 4000000 in
theorem works_any (w : World) (hw : Base w) :
    Calls Tryz.prog 9 #[] w fun r w' => r = .returned (.bool true) ∧ Below w.heap.size w w' := by
  go_enter Tryz.func9, Tryz.ntmps9
  go_wp2_with (go_at_call 33; refine (text_any _ _).mono ?_; rintro e w1 ⟨rfl, b1⟩)
  have C1 : Below w.heap.size w w1 := ((Below.refl _ _).alloc (Nat.le_refl _) (vObj 2 2 ⟨#[]⟩)).trans (b1.mono (by simp))
  refine (lit1 w1 (hw.below C1)).mono ?_
  rintro e w2 ⟨rfl, b2⟩
  have C2 := C1.trans (b2.mono C1.size)
  go_wp2_with fail
  refine (lit2 w2 (hw.below C2)).mono ?_
  rintro e w3 ⟨rfl, b3⟩
  have C3 := C2.trans (b3.mono C2.size)
  go_wp2_with fail
  refine (par1 w3 (hw.below C3)).mono ?_
  rintro e w4 ⟨rfl, b4⟩
  have C4 := C3.trans (b4.mono C3.size)
  go_wp2_with fail
  have C4' := C4.alloc C4.size (vObj 0 0 ⟨#[]⟩)
  refine (par2 (w4.alloc (vObj 0 0 ⟨#[]⟩)) (hw.below C4')).mono ?_
  rintro e w5 ⟨rfl, b5⟩
  have C5 := C4'.trans (b5.mono C4'.size)
  go_wp2_with fail
  have C5' := C5.alloc C5.size (vObj 3 0 ⟨#[97, 39, 98]⟩)
  refine (par3 (w5.alloc (vObj 3 0 ⟨#[97, 39, 98]⟩)) (hw.below C5')).mono ?_
  rintro e w6 ⟨rfl, b6⟩
  have C6 := C5'.trans (b6.mono C5'.size)
  have C6' := C6.alloc C6.size (vObj 0 0 ⟨#[]⟩)
  go_wp2_with fail
  have D1 := b1
  have D2 := D1.trans (b2.mono D1.size)
  have D3 := D2.trans (b3.mono D2.size)
  have D4 := D3.trans (b4.mono D3.size)
  have D4' := D4.alloc D4.size (vObj 0 0 ⟨#[]⟩)
  have D5 := D4'.trans (b5.mono D4'.size)
  have D5' := D5.alloc D5.size (vObj 3 0 ⟨#[97, 39, 98]⟩)
  have D6 := D5'.trans (b6.mono D5'.size)
  have D6' := D6.alloc D6.size (vObj 0 0 ⟨#[]⟩)
  have E6' := b6.alloc b6.size (vObj 0 0 ⟨#[]⟩)
  have p0 : (w6.alloc (vObj 0 0 ⟨#[]⟩)).cell? ⟨w.heap.size, 0, none⟩ = some (.int .i64 2) := (D6'.cell (by simp)).trans (by go_cell)
  have p1 : (w6.alloc (vObj 0 0 ⟨#[]⟩)).cell? ⟨w.heap.size, 1, none⟩ = some (.int .i64 2) := (D6'.cell (by simp)).trans (by go_cell)
  have p2 : (w6.alloc (vObj 0 0 ⟨#[]⟩)).cell? ⟨w.heap.size, 2, none⟩ = some (.string ⟨#[]⟩) := (D6'.cell (by simp)).trans (by go_cell)
  have q0 : (w6.alloc (vObj 0 0 ⟨#[]⟩)).cell? ⟨w5.heap.size, 0, none⟩ = some (.int .i64 3) := (E6'.cell (by simp)).trans (by go_cell)
  have q1 : (w6.alloc (vObj 0 0 ⟨#[]⟩)).cell? ⟨w5.heap.size, 1, none⟩ = some (.int .i64 0) := (E6'.cell (by simp)).trans (by go_cell)
  have q2 : (w6.alloc (vObj 0 0 ⟨#[]⟩)).cell? ⟨w5.heap.size, 2, none⟩ = some (.string ⟨#[97, 39, 98]⟩) := (E6'.cell (by simp)).trans (by go_cell)
  have l1 : w.heap.size < (w6.alloc (vObj 0 0 ⟨#[]⟩)).heap.size := by have := D6'.size; simp at this ⊢; omega
  have l2 : w5.heap.size < (w6.alloc (vObj 0 0 ⟨#[]⟩)).heap.size := by have := E6'.size; simp at this ⊢; omega
  clear D1 D2 D3 D4 D4' D5 D5' D6 D6' E6' C1 C2 C3 C4 C4' C5 C5' C6 b1 b2 b3 b4 b5 b6
  generalize w6.alloc (vObj 0 0 ⟨#[]⟩) = W at *
  generalize w5.heap.size = n5 at *
  obtain ⟨n1, hn1⟩ : ∃ n1, n1 = w.heap.size := ⟨_, rfl⟩
  have MK : Hid (∀ w', Below W.heap.size W w' → w'.cell? ⟨w.heap.size, 0, none⟩ = some (.int .i64 2) ∧ w'.cell? ⟨w.heap.size, 1, none⟩ = some (.int .i64 2) ∧ w'.cell? ⟨w.heap.size, 2, none⟩ = some (.string ⟨#[]⟩) ∧ w'.cell? ⟨n5, 0, none⟩ = some (.int .i64 3) ∧ w'.cell? ⟨n5, 1, none⟩ = some (.int .i64 0) ∧ w'.cell? ⟨n5, 2, none⟩ = some (.string ⟨#[97, 39, 98]⟩) ∧ Below W.heap.size W w') :=
    fun w' hb => ⟨(hb.cell l1).trans p0, (hb.cell l1).trans p1, (hb.cell l1).trans p2, (hb.cell l2).trans q0, (hb.cell l2).trans q1, (hb.cell l2).trans q2, hb⟩
  clear hn1 p0 p1 p2 q0 q1 q2 l1 l2
  have hse : ∀ w, (binOp .eql 24 (.agg #[.int .i64 3, .int .i64 0, .string ⟨#[97, 39, 98]⟩]) (.agg #[.int .i64 3, .int .i64 0, .string ⟨#[97, 39, 98]⟩])).run Tryz.prog w = .ok (.bool true) w := fun _ => by kernel_rfl
  go_region_held3 (fun w' => w'.cell? ⟨w.heap.size, 0, none⟩ = some (.int .i64 2) ∧ w'.cell? ⟨w.heap.size, 1, none⟩ = some (.int .i64 2) ∧ w'.cell? ⟨w.heap.size, 2, none⟩ = some (.string ⟨#[]⟩) ∧ w'.cell? ⟨n5, 0, none⟩ = some (.int .i64 3) ∧ w'.cell? ⟨n5, 1, none⟩ = some (.int .i64 0) ∧ w'.cell? ⟨n5, 2, none⟩ = some (.string ⟨#[97, 39, 98]⟩) ∧ Below W.heap.size W w')
    (first | exact MK.out _ ((Below.refl _ _).drew) | (obtain ⟨_, _, _, _, _, _, hB⟩ := ‹_ ∧ _ ∧ _ ∧ _ ∧ _ ∧ _ ∧ Below _ _ _›; first | exact MK.out _ hB | exact MK.out _ (hB.alloc hB.size _) | exact MK.out _ (hB.trans (hb.mono hB.size))))
    (first | (go_at_call 25; refine (of0 _).mono ?_; rintro e w' ⟨rfl, hb⟩) | (go_at_call 33; refine (text_any _ _).mono ?_; rintro e w' ⟨rfl, hb⟩) | (go_at_call 10; refine (num_any _ _).mono ?_; rintro e w' ⟨rfl, rfl⟩) | (go_at_call 13; with_reducible refine (ord1 _).mono ?_; rintro e w' ⟨rfl, hb⟩) | (go_at_call 13; with_reducible refine (ord2 _).mono ?_; rintro e w' ⟨rfl, hb⟩) | (go_at_call 21; with_reducible refine (and_nil _).mono ?_; rintro e w' ⟨rfl, rfl⟩) | (go_at_call 21; with_reducible refine (andC _ _ (by go_cell) (by go_cell)).mono ?_; rintro e w' ⟨rfl, rfl⟩) | (go_at_call 22; with_reducible refine (orC _ _ (by go_cell) (by go_cell)).mono ?_; rintro e w' ⟨rfl, rfl⟩))
  obtain ⟨_, _, _, _, _, _, hB⟩ := ‹_ ∧ _ ∧ _ ∧ _ ∧ _ ∧ _ ∧ Below _ _ _›
  go_wp2
  go_ret
  exact ⟨rfl, C6'.trans (hB.mono C6'.size)⟩
end Go.Proofs.YtcngoffmkbobhaaGreatDoor
