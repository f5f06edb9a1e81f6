import Derived.Test.YtcngoffmkbobhaaGreatDoorO3
import Derived.Test.YtcngoffmkbobhaaGreatDoorT17
namespace Go.Proofs.YtcngoffmkbobhaaGreatDoor
open Go.RowKit

set_option maxRecDepth 100000 in
set_option maxHeartbeats 1000000 in
theorem is_no (k n t c : Int) (s : ByteArray) (w : World) (hc : Hid (checkV k n s = c)) (hne : (c != 0) = true) :
    Calls Tryz.prog 15 #[.agg #[.int .i64 k, .int .i64 n, .string s], .int .i64 t] w fun r w' => r = .returned (.bool false) ∧ Below w.heap.size w w' := by
  go_enter Tryz.func15, Tryz.ntmps15
  go_wp2
  go_step3
  go_wp2_with (go_at_call 11; refine (check_any _ _ _ _).mono ?_; rintro e w1 ⟨rfl, b1⟩; rw [hc.out]; obtain ⟨kk0, kt0, hB, hS⟩ := boxT_facts b1)
  rw [Exit.noGoto_ret]
  go_ret
  exact ⟨rfl, hB⟩
theorem is_any (k n t : Int) (s : ByteArray) (w : World) :
    Calls Tryz.prog 15 #[.agg #[.int .i64 k, .int .i64 n, .string s], .int .i64 t] w fun r w' => r = .returned (.bool (isV k n s t)) ∧ Below w.heap.size w w' := by
  unfold isV
  by_cases h : checkV k n s = 0
  · simp only [h, decide_true, Bool.true_and]
    exact is_yes k n t s w (Lib.hid h)
  · simp only [h, decide_false, Bool.false_and]
    exact is_no k n t _ s w (Lib.hid rfl) (by simpa using h)

set_option maxRecDepth 100000 in
set_option maxHeartbeats 1000000 in
theorem orders_long1 (k1 n1 k2 n2 t : Int) (s1 s2 : ByteArray) (w : World) (hw : Base w) (h : 1100 < s1.size) :
    Calls Tryz.prog 3 #[.agg #[.int .i64 k1, .int .i64 n1, .string s1], .agg #[.int .i64 k2, .int .i64 n2, .string s2], .int .i64 t] w fun r w' => r = .returned (.bool true) ∧ Below w.heap.size w w' := by
  have HB : Hid (Base ((w.alloc (vObj k1 n1 s1)).alloc (vObj k2 n2 s2))) := Lib.hid ((hw.alloc _).alloc _)
  go_enter Tryz.func3, Tryz.ntmps3
  go_wp2_with (go_at_call 9; refine (works_any _ HB.out).mono ?_; rintro e w' ⟨rfl, hb⟩)
  go_ret
  exact ⟨rfl, (((Below.refl _ _).alloc (Nat.le_refl _) _).alloc (by simp) _).trans (hb.mono (by simp; omega))⟩
set_option maxRecDepth 100000 in
set_option maxHeartbeats 1000000 in
theorem orders_long2 (k1 n1 k2 n2 t : Int) (s1 s2 : ByteArray) (w : World) (hw : Base w) (h0 : s1.size ≤ 1100) (h : 1100 < s2.size) :
    Calls Tryz.prog 3 #[.agg #[.int .i64 k1, .int .i64 n1, .string s1], .agg #[.int .i64 k2, .int .i64 n2, .string s2], .int .i64 t] w fun r w' => r = .returned (.bool true) ∧ Below w.heap.size w w' := by
  have HB : Hid (Base ((w.alloc (vObj k1 n1 s1)).alloc (vObj k2 n2 s2))) := Lib.hid ((hw.alloc _).alloc _)
  go_enter Tryz.func3, Tryz.ntmps3
  go_wp2_with (go_at_call 9; refine (works_any _ HB.out).mono ?_; rintro e w' ⟨rfl, hb⟩)
  go_ret
  exact ⟨rfl, (((Below.refl _ _).alloc (Nat.le_refl _) _).alloc (by simp) _).trans (hb.mono (by simp; omega))⟩

theorem pair_facts {w w1 : World} {k n k' n' : Int} {s s' : ByteArray} (b1 : Below ((w.alloc (vObj k n s)).alloc (vObj k' n' s')).heap.size ((w.alloc (vObj k n s)).alloc (vObj k' n' s')) w1) :
    w1.cell? ⟨w.heap.size, 0, none⟩ = some (.int .i64 k) ∧ w1.cell? ⟨w.heap.size, 1, none⟩ = some (.int .i64 n) ∧ w1.cell? ⟨w.heap.size, 2, none⟩ = some (.string s) ∧
    w1.cell? ⟨w.heap.size + 1, 0, none⟩ = some (.int .i64 k') ∧ w1.cell? ⟨w.heap.size + 1, 1, none⟩ = some (.int .i64 n') ∧ w1.cell? ⟨w.heap.size + 1, 2, none⟩ = some (.string s') ∧ Below ((w.alloc (vObj k n s)).alloc (vObj k' n' s')).heap.size ((w.alloc (vObj k n s)).alloc (vObj k' n' s')) w1 :=
  ⟨(b1.cell (by simp; omega)).trans (by go_cell), (b1.cell (by simp; omega)).trans (by go_cell), (b1.cell (by simp; omega)).trans (by go_cell),
   (b1.cell (by simp)).trans (by go_cell), (b1.cell (by simp)).trans (by go_cell), (b1.cell (by simp)).trans (by go_cell), b1⟩

set_option maxRecDepth 100000 in
set_option maxHeartbeats 4000000 in
theorem orders_good (k1 n1 k2 n2 t c o : Int) (b : Bool) (s1 s2 : ByteArray) (w : World) (hw : Base w) (h1 : s1.size ≤ 1100) (h2 : s2.size ≤ 1100)
    (CK : Hid (∀ w, Calls Tryz.prog 11 #[.agg #[.int .i64 k1, .int .i64 n1, .string s1]] w fun r w' => r = .returned (.int .i64 c) ∧ Below w.heap.size w w'))
    (CR : Hid (∀ w, Calls Tryz.prog 12 #[.agg #[.int .i64 k1, .int .i64 n1, .string s1]] w fun r w' => r = .returned (.int .i64 c) ∧ Below w.heap.size w w'))
    (OA : Hid (∀ w, Calls Tryz.prog 13 #[.agg #[.int .i64 k1, .int .i64 n1, .string s1], .agg #[.int .i64 k2, .int .i64 n2, .string s2]] w fun r w' => r = .returned (.int .i64 o) ∧ Below w.heap.size w w'))
    (OB : Hid (∀ w, Calls Tryz.prog 14 #[.agg #[.int .i64 k1, .int .i64 n1, .string s1], .agg #[.int .i64 k2, .int .i64 n2, .string s2]] w fun r w' => r = .returned (.int .i64 o) ∧ Below w.heap.size w w'))
    (IA : Hid (∀ w, Calls Tryz.prog 15 #[.agg #[.int .i64 k1, .int .i64 n1, .string s1], .int .i64 t] w fun r w' => r = .returned (.bool b) ∧ Below w.heap.size w w'))
    (IB : Hid (∀ w, Calls Tryz.prog 16 #[.agg #[.int .i64 k1, .int .i64 n1, .string s1], .int .i64 t] w fun r w' => r = .returned (.bool b) ∧ Below w.heap.size w w')) :
    Calls Tryz.prog 3 #[.agg #[.int .i64 k1, .int .i64 n1, .string s1], .agg #[.int .i64 k2, .int .i64 n2, .string s2], .int .i64 t] w fun r w' => r = .returned (.bool true) ∧ Below w.heap.size w w' := by
  have HB : Hid (∀ w', Below ((w.alloc (vObj k1 n1 s1)).alloc (vObj k2 n2 s2)).heap.size ((w.alloc (vObj k1 n1 s1)).alloc (vObj k2 n2 s2)) w' → Base w' ∧ Below w.heap.size w w') :=
    Lib.hid fun w' hb => ⟨((hw.alloc _).alloc _).below hb, (((Below.refl _ _).alloc (Nat.le_refl _) _).alloc (by simp) _).trans (hb.mono (by simp; omega))⟩
  have PF : Hid (∀ w1, Below ((w.alloc (vObj k1 n1 s1)).alloc (vObj k2 n2 s2)).heap.size ((w.alloc (vObj k1 n1 s1)).alloc (vObj k2 n2 s2)) w1 → w1.cell? ⟨w.heap.size, 0, none⟩ = some (.int .i64 k1) ∧ w1.cell? ⟨w.heap.size, 1, none⟩ = some (.int .i64 n1) ∧ w1.cell? ⟨w.heap.size, 2, none⟩ = some (.string s1) ∧
    w1.cell? ⟨w.heap.size + 1, 0, none⟩ = some (.int .i64 k2) ∧ w1.cell? ⟨w.heap.size + 1, 1, none⟩ = some (.int .i64 n2) ∧ w1.cell? ⟨w.heap.size + 1, 2, none⟩ = some (.string s2) ∧ Below ((w.alloc (vObj k1 n1 s1)).alloc (vObj k2 n2 s2)).heap.size ((w.alloc (vObj k1 n1 s1)).alloc (vObj k2 n2 s2)) w1) := Lib.hid fun w1 b => pair_facts b
  have e1 : (c == c) = true := by simp
  have e2 : (o == o) = true := by simp
  have e3 : (b == b) = true := by simp
  go_enter Tryz.func3, Tryz.ntmps3
  go_upto_region 3 with fail
  go_region_held3 (fun w' => w'.cell? ⟨w.heap.size, 0, none⟩ = some (.int .i64 k1) ∧ w'.cell? ⟨w.heap.size, 1, none⟩ = some (.int .i64 n1) ∧ w'.cell? ⟨w.heap.size, 2, none⟩ = some (.string s1) ∧ w'.cell? ⟨w.heap.size + 1, 0, none⟩ = some (.int .i64 k2) ∧ w'.cell? ⟨w.heap.size + 1, 1, none⟩ = some (.int .i64 n2) ∧ w'.cell? ⟨w.heap.size + 1, 2, none⟩ = some (.string s2) ∧ Below ((w.alloc (vObj k1 n1 s1)).alloc (vObj k2 n2 s2)).heap.size ((w.alloc (vObj k1 n1 s1)).alloc (vObj k2 n2 s2)) w')
    (first | exact PF.out _ ((Below.refl _ _).drew) | (obtain ⟨_, _, _, _, _, _, hBB⟩ := ‹_ ∧ _ ∧ _ ∧ _ ∧ _ ∧ _ ∧ Below _ _ _›; first | exact PF.out _ hBB | exact PF.out _ (hBB.trans (hb.mono hBB.size))))
    (first | (go_at_call 11; refine (CK.out _).mono ?_; rintro e w' ⟨rfl, hb⟩) | (go_at_call 12; refine (CR.out _).mono ?_; rintro e w' ⟨rfl, hb⟩) | (go_at_call 13; refine (OA.out _).mono ?_; rintro e w' ⟨rfl, hb⟩) | (go_at_call 14; refine (OB.out _).mono ?_; rintro e w' ⟨rfl, hb⟩) | (go_at_call 15; refine (IA.out _).mono ?_; rintro e w' ⟨rfl, hb⟩) | (go_at_call 16; refine (IB.out _).mono ?_; rintro e w' ⟨rfl, hb⟩) | (go_at_call 10; refine (num_any _ _).mono ?_; rintro e w' ⟨rfl, rfl⟩) | (go_at_call 9; refine (works_any _ (HB.out _ (‹_ ∧ _ ∧ _ ∧ _ ∧ _ ∧ _ ∧ Below _ _ _›).2.2.2.2.2.2).1).mono ?_; rintro e w' ⟨rfl, hb⟩))
  all_goals obtain ⟨_, _, _, _, _, _, hBB⟩ := ‹_ ∧ _ ∧ _ ∧ _ ∧ _ ∧ _ ∧ Below _ _ _›
  all_goals (go_wp2; go_ret; exact ⟨rfl, (HB.out _ hBB).2⟩)

theorem orders_any (k1 n1 k2 n2 t : Int) (s1 s2 : ByteArray) (w : World) (hw : Base w) :
    Calls Tryz.prog 3 #[.agg #[.int .i64 k1, .int .i64 n1, .string s1], .agg #[.int .i64 k2, .int .i64 n2, .string s2], .int .i64 t] w fun r w' => r = .returned (.bool true) ∧ Below w.heap.size w w' := by
  by_cases h1 : 1100 < s1.size
  · exact orders_long1 k1 n1 k2 n2 t s1 s2 w hw h1
  by_cases h2 : 1100 < s2.size
  · exact orders_long2 k1 n1 k2 n2 t s1 s2 w hw (by omega) h2
  exact orders_good k1 n1 k2 n2 t _ _ _ s1 s2 w hw (by omega) (by omega) (Lib.hid fun w => check_any k1 n1 s1 w) (Lib.hid fun w => refCheck_any k1 n1 s1 w) (Lib.hid fun w => order_any k1 n1 k2 n2 s1 s2 w) (Lib.hid fun w => refOrder_any k1 n1 k2 n2 s1 s2 w) (Lib.hid fun w => is_any k1 n1 t s1 w) (Lib.hid fun w => refIs_any k1 n1 t s1 w)
end Go.Proofs.YtcngoffmkbobhaaGreatDoor
