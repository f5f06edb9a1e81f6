import Derived.Test.YtoknfdgejiachaaY4
import Derived.Deep.QuietTactic
import Derived.BigQuiet
import Derived.WalkSmall
namespace Go.Proofs.Ytoknfdgejiachaa
open Go.RowKit Go.Shelf

def mkCmp (k a b : Int) : Int × Int := if a ≠ 0 ∧ b ≠ 0 ∧ a ≠ b then (0, 120) else (k, 0)
def notText (t : Int) : Bool := decide (t = 1) || decide (t = 2)
def mkCat (a b : Int) : Int × Int := if notText a || notText b then (0, 120) else if a ≠ 0 ∧ b ≠ 0 ∧ a ≠ b then (0, 120) else (max a b, 0)
def mkLen (k a : Int) : Int × Int := if notText a then (0, 120) else (k, 0)
set_option maxRecDepth 100000 in
set_option maxHeartbeats 1000000 in
theorem refMakes_Zcmp (o f k a b : Int) (n : ByteArray) (B off cap : Nat) (w : World) (hn : n.toList.isEmpty = false) (hn' : n.toList = [] ↔ False)
    (CI : Hid (∀ w, Calls Try.prog 12 #[.int .i64 o] w fun r w' => r = .returned (info n 2 f k) ∧ Below w.heap.size w w'))
    (HA : Hid (w.cell? ⟨B, off, none⟩ = some (.int .i64 a))) (HB : Hid (w.cell? ⟨B, off + 1, none⟩ = some (.int .i64 b))) (al : 0 ≤ a) (ah : a ≤ 4) (bl : 0 ≤ b) (bh : b ≤ 4) (hf : (f != 0) = false) (z6 : (o == 6) = false) (z19 : (o == 19) = false) (o1 : 7 ≤ o) (o2 : o ≤ 12) :
    Calls Try.prog 10 #[.int .i64 o, .slice (some ⟨B, off, none⟩) 2 cap] w fun r w' => r = .returned (two (mkCmp k a b)) ∧ Below w.heap.size w w' := by
  have hlt := lt_of_cell_some HA.out
  go_enter Try.func10, Try.ntmps10
  go_wp2_with (go_at_call 12; refine (CI.out _).mono ?_; rintro e w1 ⟨rfl, hb⟩; have hlt1 : B < w1.heap.size := Nat.lt_of_lt_of_le hlt hb.size; have ka := (hb.cell (p := ⟨B, off, none⟩) hlt).trans HA.out; have kb := (hb.cell (p := ⟨B, off + 1, none⟩) hlt).trans HB.out)
  go_rounds 3
  refine wp_loop_rounds 3 ?_
  rw [rounds_succ]
  go_wp2
  go_quiet (fail)
  go_wp2
  all_goals try (rw [rounds_succ]; go_wp2; go_quiet (fail); go_wp2)
  all_goals try (rw [rounds_succ]; go_wp2)
  all_goals go_ret2
  all_goals exact ⟨ret_two (by unfold mkCmp; simp_all) (by unfold mkCmp; simp_all), below_drewN (hb.alloc hb.size _) _⟩
set_option maxRecDepth 100000 in
set_option maxHeartbeats 1000000 in
theorem refMakes_Zany (o f k a : Int) (n : ByteArray) (B off cap : Nat) (w : World) (hn : n.toList.isEmpty = false) (hn' : n.toList = [] ↔ False)
    (CI : Hid (∀ w, Calls Try.prog 12 #[.int .i64 o] w fun r w' => r = .returned (info n 1 f k) ∧ Below w.heap.size w w'))
    (HA : Hid (w.cell? ⟨B, off, none⟩ = some (.int .i64 a))) (al : 0 ≤ a) (ah : a ≤ 4) (hf : (f != 0) = false) (z6 : (o == 6) = false) (z19 : (o == 19) = false) (o1 : 12 < o) :
    Calls Try.prog 10 #[.int .i64 o, .slice (some ⟨B, off, none⟩) 1 cap] w fun r w' => r = .returned (two (k, 0)) ∧ Below w.heap.size w w' := by
  have hlt := lt_of_cell_some HA.out
  go_enter Try.func10, Try.ntmps10
  go_wp2_with (go_at_call 12; refine (CI.out _).mono ?_; rintro e w1 ⟨rfl, hb⟩; have hlt1 : B < w1.heap.size := Nat.lt_of_lt_of_le hlt hb.size; have ka := (hb.cell (p := ⟨B, off, none⟩) hlt).trans HA.out)
  go_rounds 3
  refine wp_loop_rounds 3 ?_
  rw [rounds_succ]
  go_wp2
  go_quiet (fail)
  go_wp2
  all_goals try (rw [rounds_succ]; go_wp2; go_quiet (fail); go_wp2)
  all_goals try (rw [rounds_succ]; go_wp2)
  all_goals go_ret2
  all_goals exact ⟨rfl, below_drewN (hb.alloc hb.size _) _⟩
set_option maxRecDepth 100000 in
set_option maxHeartbeats 1000000 in
theorem refMakes_Zlen (f k a : Int) (n : ByteArray) (B off cap : Nat) (w : World) (hn : n.toList.isEmpty = false) (hn' : n.toList = [] ↔ False)
    (CI : Hid (∀ w, Calls Try.prog 12 #[.int .i64 19] w fun r w' => r = .returned (info n 1 f k) ∧ Below w.heap.size w w'))
    (HA : Hid (w.cell? ⟨B, off, none⟩ = some (.int .i64 a))) (al : 0 ≤ a) (ah : a ≤ 4) (hf : (f != 0) = false) :
    Calls Try.prog 10 #[.int .i64 19, .slice (some ⟨B, off, none⟩) 1 cap] w fun r w' => r = .returned (two (mkLen k a)) ∧ Below w.heap.size w w' := by
  have hlt := lt_of_cell_some HA.out
  go_enter Try.func10, Try.ntmps10
  go_wp2_with (go_at_call 12; refine (CI.out _).mono ?_; rintro e w1 ⟨rfl, hb⟩; have hlt1 : B < w1.heap.size := Nat.lt_of_lt_of_le hlt hb.size; have ka := (hb.cell (p := ⟨B, off, none⟩) hlt).trans HA.out)
  go_rounds 3
  refine wp_loop_rounds 3 ?_
  rw [rounds_succ]
  go_wp2
  go_quiet (fail)
  go_wp2
  all_goals try (rw [rounds_succ]; go_wp2; go_quiet (fail); go_wp2)
  all_goals try (rw [rounds_succ]; go_wp2)
  all_goals go_ret2
  all_goals exact ⟨ret_two (by unfold mkLen notText; simp_all) (by unfold mkLen notText; simp_all), below_drewN (hb.alloc hb.size _) _⟩
set_option maxRecDepth 100000 in
set_option maxHeartbeats 1000000 in
theorem refMakes_Zcat (f k a b : Int) (n : ByteArray) (B off cap : Nat) (w : World) (hn : n.toList.isEmpty = false) (hn' : n.toList = [] ↔ False)
    (CI : Hid (∀ w, Calls Try.prog 12 #[.int .i64 6] w fun r w' => r = .returned (info n 2 f k) ∧ Below w.heap.size w w'))
    (HA : Hid (w.cell? ⟨B, off, none⟩ = some (.int .i64 a))) (HB : Hid (w.cell? ⟨B, off + 1, none⟩ = some (.int .i64 b))) (al : 0 ≤ a) (ah : a ≤ 4) (bl : 0 ≤ b) (bh : b ≤ 4) (hf : (f != 0) = false) :
    Calls Try.prog 10 #[.int .i64 6, .slice (some ⟨B, off, none⟩) 2 cap] w fun r w' => r = .returned (two (mkCat a b)) ∧ Below w.heap.size w w' := by
  have hlt := lt_of_cell_some HA.out
  go_enter Try.func10, Try.ntmps10
  go_wp2_with (go_at_call 12; refine (CI.out _).mono ?_; rintro e w1 ⟨rfl, hb⟩; have hlt1 : B < w1.heap.size := Nat.lt_of_lt_of_le hlt hb.size; have ka := (hb.cell (p := ⟨B, off, none⟩) hlt).trans HA.out; have kb := (hb.cell (p := ⟨B, off + 1, none⟩) hlt).trans HB.out)
  go_rounds 3
  refine wp_loop_rounds 3 ?_
  rw [rounds_succ]
  go_wp2
  go_quiet (fail)
  go_wp2
  all_goals try (rw [rounds_succ]; go_wp2; go_quiet (fail); go_wp2)
  all_goals try (rw [rounds_succ]; go_wp2)
  all_goals go_ret2
  all_goals exact ⟨ret_two (by unfold mkCat notText; simp_all) (by unfold mkCat notText; simp_all), below_drewN (hb.alloc hb.size _) _⟩
set_option maxRecDepth 100000 in
set_option maxHeartbeats 1000000 in
theorem refMakes_R1l (o f k a : Int) (n : ByteArray) (B off cap : Nat) (w : World) (hn : n.toList.isEmpty = false) (hn' : n.toList = [] ↔ False)
    (CI : Hid (∀ w, Calls Try.prog 12 #[.int .i64 o] w fun r w' => r = .returned (info n 1 f k) ∧ Below w.heap.size w w'))
    (HA : Hid (w.cell? ⟨B, off, none⟩ = some (.int .i64 a))) (ha : a < 0) :
    Calls Try.prog 10 #[.int .i64 o, .slice (some ⟨B, off, none⟩) 1 cap] w fun r w' => r = .returned (two (0, 2)) ∧ Below w.heap.size w w' := by
  have hlt := lt_of_cell_some HA.out
  go_enter Try.func10, Try.ntmps10
  go_wp2_with (go_at_call 12; refine (CI.out _).mono ?_; rintro e w1 ⟨rfl, hb⟩; have hlt1 : B < w1.heap.size := Nat.lt_of_lt_of_le hlt hb.size; have ka := (hb.cell (p := ⟨B, off, none⟩) hlt).trans HA.out)
  all_goals go_rounds 3
  all_goals go_ret2
  all_goals exact ⟨rfl, hb.alloc hb.size _⟩
set_option maxRecDepth 100000 in
set_option maxHeartbeats 1000000 in
theorem refMakes_R2l (o f k a b : Int) (n : ByteArray) (B off cap : Nat) (w : World) (hn : n.toList.isEmpty = false) (hn' : n.toList = [] ↔ False)
    (CI : Hid (∀ w, Calls Try.prog 12 #[.int .i64 o] w fun r w' => r = .returned (info n 2 f k) ∧ Below w.heap.size w w'))
    (HA : Hid (w.cell? ⟨B, off, none⟩ = some (.int .i64 a))) (HB : Hid (w.cell? ⟨B, off + 1, none⟩ = some (.int .i64 b))) (ha : a < 0) :
    Calls Try.prog 10 #[.int .i64 o, .slice (some ⟨B, off, none⟩) 2 cap] w fun r w' => r = .returned (two (0, 2)) ∧ Below w.heap.size w w' := by
  have hlt := lt_of_cell_some HA.out
  go_enter Try.func10, Try.ntmps10
  go_wp2_with (go_at_call 12; refine (CI.out _).mono ?_; rintro e w1 ⟨rfl, hb⟩; have hlt1 : B < w1.heap.size := Nat.lt_of_lt_of_le hlt hb.size; have ka := (hb.cell (p := ⟨B, off, none⟩) hlt).trans HA.out; have kb := (hb.cell (p := ⟨B, off + 1, none⟩) hlt).trans HB.out)
  all_goals go_rounds 3
  all_goals go_ret2
  all_goals exact ⟨rfl, hb.alloc hb.size _⟩
set_option maxRecDepth 100000 in
set_option maxHeartbeats 1000000 in
theorem refMakes_R1h (o f k a : Int) (n : ByteArray) (B off cap : Nat) (w : World) (hn : n.toList.isEmpty = false) (hn' : n.toList = [] ↔ False)
    (CI : Hid (∀ w, Calls Try.prog 12 #[.int .i64 o] w fun r w' => r = .returned (info n 1 f k) ∧ Below w.heap.size w w'))
    (HA : Hid (w.cell? ⟨B, off, none⟩ = some (.int .i64 a))) (ha : 4 < a) :
    Calls Try.prog 10 #[.int .i64 o, .slice (some ⟨B, off, none⟩) 1 cap] w fun r w' => r = .returned (two (0, 2)) ∧ Below w.heap.size w w' := by
  have hlt := lt_of_cell_some HA.out
  go_enter Try.func10, Try.ntmps10
  go_wp2_with (go_at_call 12; refine (CI.out _).mono ?_; rintro e w1 ⟨rfl, hb⟩; have hlt1 : B < w1.heap.size := Nat.lt_of_lt_of_le hlt hb.size; have ka := (hb.cell (p := ⟨B, off, none⟩) hlt).trans HA.out)
  all_goals go_rounds 3
  all_goals go_ret2
  all_goals exact ⟨rfl, hb.alloc hb.size _⟩
set_option maxRecDepth 100000 in
set_option maxHeartbeats 1000000 in
theorem refMakes_R2h (o f k a b : Int) (n : ByteArray) (B off cap : Nat) (w : World) (hn : n.toList.isEmpty = false) (hn' : n.toList = [] ↔ False)
    (CI : Hid (∀ w, Calls Try.prog 12 #[.int .i64 o] w fun r w' => r = .returned (info n 2 f k) ∧ Below w.heap.size w w'))
    (HA : Hid (w.cell? ⟨B, off, none⟩ = some (.int .i64 a))) (HB : Hid (w.cell? ⟨B, off + 1, none⟩ = some (.int .i64 b))) (ha : 4 < a) :
    Calls Try.prog 10 #[.int .i64 o, .slice (some ⟨B, off, none⟩) 2 cap] w fun r w' => r = .returned (two (0, 2)) ∧ Below w.heap.size w w' := by
  have hlt := lt_of_cell_some HA.out
  go_enter Try.func10, Try.ntmps10
  go_wp2_with (go_at_call 12; refine (CI.out _).mono ?_; rintro e w1 ⟨rfl, hb⟩; have hlt1 : B < w1.heap.size := Nat.lt_of_lt_of_le hlt hb.size; have ka := (hb.cell (p := ⟨B, off, none⟩) hlt).trans HA.out; have kb := (hb.cell (p := ⟨B, off + 1, none⟩) hlt).trans HB.out)
  all_goals go_rounds 3
  all_goals go_ret2
  all_goals exact ⟨rfl, hb.alloc hb.size _⟩
set_option maxRecDepth 100000 in
set_option maxHeartbeats 1000000 in
theorem refMakes_R2bl (o f k a b : Int) (n : ByteArray) (B off cap : Nat) (w : World) (hn : n.toList.isEmpty = false) (hn' : n.toList = [] ↔ False)
    (CI : Hid (∀ w, Calls Try.prog 12 #[.int .i64 o] w fun r w' => r = .returned (info n 2 f k) ∧ Below w.heap.size w w'))
    (HA : Hid (w.cell? ⟨B, off, none⟩ = some (.int .i64 a))) (HB : Hid (w.cell? ⟨B, off + 1, none⟩ = some (.int .i64 b))) (al : 0 ≤ a) (ah : a ≤ 4) (hbb : b < 0) :
    Calls Try.prog 10 #[.int .i64 o, .slice (some ⟨B, off, none⟩) 2 cap] w fun r w' => r = .returned (two (0, 2)) ∧ Below w.heap.size w w' := by
  have hlt := lt_of_cell_some HA.out
  go_enter Try.func10, Try.ntmps10
  go_wp2_with (go_at_call 12; refine (CI.out _).mono ?_; rintro e w1 ⟨rfl, hb⟩; have hlt1 : B < w1.heap.size := Nat.lt_of_lt_of_le hlt hb.size; have ka := (hb.cell (p := ⟨B, off, none⟩) hlt).trans HA.out; have kb := (hb.cell (p := ⟨B, off + 1, none⟩) hlt).trans HB.out)
  all_goals go_rounds 3
  all_goals go_ret2
  all_goals exact ⟨rfl, hb.alloc hb.size _⟩
set_option maxRecDepth 100000 in
set_option maxHeartbeats 1000000 in
theorem refMakes_R2bh (o f k a b : Int) (n : ByteArray) (B off cap : Nat) (w : World) (hn : n.toList.isEmpty = false) (hn' : n.toList = [] ↔ False)
    (CI : Hid (∀ w, Calls Try.prog 12 #[.int .i64 o] w fun r w' => r = .returned (info n 2 f k) ∧ Below w.heap.size w w'))
    (HA : Hid (w.cell? ⟨B, off, none⟩ = some (.int .i64 a))) (HB : Hid (w.cell? ⟨B, off + 1, none⟩ = some (.int .i64 b))) (al : 0 ≤ a) (ah : a ≤ 4) (hb : 4 < b) :
    Calls Try.prog 10 #[.int .i64 o, .slice (some ⟨B, off, none⟩) 2 cap] w fun r w' => r = .returned (two (0, 2)) ∧ Below w.heap.size w w' := by
  have hlt := lt_of_cell_some HA.out
  go_enter Try.func10, Try.ntmps10
  go_wp2_with (go_at_call 12; refine (CI.out _).mono ?_; rintro e w1 ⟨rfl, hb⟩; have hlt1 : B < w1.heap.size := Nat.lt_of_lt_of_le hlt hb.size; have ka := (hb.cell (p := ⟨B, off, none⟩) hlt).trans HA.out; have kb := (hb.cell (p := ⟨B, off + 1, none⟩) hlt).trans HB.out)
  all_goals go_rounds 3
  all_goals go_ret2
  all_goals exact ⟨rfl, hb.alloc hb.size _⟩
set_option maxRecDepth 100000 in
set_option maxHeartbeats 1000000 in
theorem refMakes_many (o f k : Int) (n : ByteArray) (m len : Nat) (p : Option Addr) (cap : Nat) (w : World) (hn : n.toList.isEmpty = false) (hn' : n.toList = [] ↔ False) (hl : len ≤ 100000)
    (CI : Hid (∀ w, Calls Try.prog 12 #[.int .i64 o] w fun r w' => r = .returned (info n m f k) ∧ Below w.heap.size w w')) (hm : ¬ len = m) :
    Calls Try.prog 10 #[.int .i64 o, .slice p len cap] w fun r w' => r = .returned (two (0, 2)) ∧ Below w.heap.size w w' := by
  have hm1 : ((len : Int) != (m : Int)) = true := by simp; omega
  go_enter Try.func10, Try.ntmps10
  go_wp2_with (go_at_call 12; refine (CI.out _).mono ?_; rintro e w1 ⟨rfl, hb⟩)
  all_goals go_ret2
  all_goals exact ⟨rfl, hb.alloc hb.size _⟩
set_option maxRecDepth 100000 in
set_option maxHeartbeats 1000000 in
theorem refMakes_none (o : Int) (len : Nat) (p : Option Addr) (cap : Nat) (w : World)
    (CI : Hid (∀ w, Calls Try.prog 12 #[.int .i64 o] w fun r w' => r = .returned (info ⟨#[]⟩ 0 0 0) ∧ Below w.heap.size w w')) :
    Calls Try.prog 10 #[.int .i64 o, .slice p len cap] w fun r w' => r = .returned (two (0, 2)) ∧ Below w.heap.size w w' := by
  go_enter Try.func10, Try.ntmps10
  go_wp2_with (go_at_call 12; refine (CI.out _).mono ?_; rintro e w1 ⟨rfl, hb⟩)
  all_goals go_ret2
  all_goals exact ⟨rfl, hb.alloc hb.size _⟩
end Go.Proofs.Ytoknfdgejiachaa

