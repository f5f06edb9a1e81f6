import Derived.Test.YtoknfdgejiachaaY4
import Derived.Deep.QuietTactic
import Derived.BigQuiet
import Derived.WalkSmall
namespace Go.Proofs.Ytoknfdgejiachaa
open Go.RowKit Go.Shelf
set_option maxRecDepth 100000 in
set_option maxHeartbeats 1000000 in
theorem refMakes_10l (o f k a : Int) (n : ByteArray) (B off cap : Nat) (w : World) (hn : n.toList.isEmpty = false) (hn' : n.toList = [] ↔ False)
    (CI : Hid (∀ w, Calls Try.prog 12 #[.int .i64 o] w fun r w' => r = .returned (info n 1 f k) ∧ Below w.heap.size w w'))
    (HA : Hid (w.cell? ⟨B, off, none⟩ = some (.int .i64 a))) (al : 0 ≤ a) (ah : a ≤ 4) (hf : (f != 0) = true) (z6 : (o == 6) = false) (z19 : (o == 19) = false) (a0 : (a != 0) = false) (hz : o < 6) :
    Calls Try.prog 10 #[.int .i64 o, .slice (some ⟨B, off, none⟩) 1 cap] w fun r w' => r = .returned (two (k, 0)) ∧ Below w.heap.size w w' := by
  have hlt := lt_of_cell_some HA.out
  go_enter Try.func10, Try.ntmps10
  go_wp2_with (go_at_call 12; refine (CI.out _).mono ?_; rintro e w1 ⟨rfl, hb⟩; have hlt1 : B < w1.heap.size := Nat.lt_of_lt_of_le hlt hb.size; have ka := (hb.cell (p := ⟨B, off, none⟩) hlt).trans HA.out)
  go_rounds 3
  refine wp_loop_rounds 3 ?_
  rw [rounds_succ]
  go_wp2
  go_quiet (fail)
  go_wp2
  rw [rounds_succ]
  go_wp2
  go_ret2
  first
    | exact ⟨rfl, below_drewN (hb.alloc hb.size _) _⟩
    | exact ⟨rfl, below_drewN (below_drewN (hb.alloc hb.size _) _) _⟩
set_option maxRecDepth 100000 in
set_option maxHeartbeats 1000000 in
theorem refMakes_10h (o f k a : Int) (n : ByteArray) (B off cap : Nat) (w : World) (hn : n.toList.isEmpty = false) (hn' : n.toList = [] ↔ False)
    (CI : Hid (∀ w, Calls Try.prog 12 #[.int .i64 o] w fun r w' => r = .returned (info n 1 f k) ∧ Below w.heap.size w w'))
    (HA : Hid (w.cell? ⟨B, off, none⟩ = some (.int .i64 a))) (al : 0 ≤ a) (ah : a ≤ 4) (hf : (f != 0) = true) (z6 : (o == 6) = false) (z19 : (o == 19) = false) (a0 : (a != 0) = false) (hz : 12 < o) :
    Calls Try.prog 10 #[.int .i64 o, .slice (some ⟨B, off, none⟩) 1 cap] w fun r w' => r = .returned (two (k, 0)) ∧ Below w.heap.size w w' := by
  have hlt := lt_of_cell_some HA.out
  go_enter Try.func10, Try.ntmps10
  go_wp2_with (go_at_call 12; refine (CI.out _).mono ?_; rintro e w1 ⟨rfl, hb⟩; have hlt1 : B < w1.heap.size := Nat.lt_of_lt_of_le hlt hb.size; have ka := (hb.cell (p := ⟨B, off, none⟩) hlt).trans HA.out)
  go_rounds 3
  refine wp_loop_rounds 3 ?_
  rw [rounds_succ]
  go_wp2
  go_quiet (fail)
  go_wp2
  rw [rounds_succ]
  go_wp2
  go_ret2
  first
    | exact ⟨rfl, below_drewN (hb.alloc hb.size _) _⟩
    | exact ⟨rfl, below_drewN (below_drewN (hb.alloc hb.size _) _) _⟩
set_option maxRecDepth 100000 in
set_option maxHeartbeats 1000000 in
theorem refMakes_1fl (o f k a : Int) (n : ByteArray) (B off cap : Nat) (w : World) (hn : n.toList.isEmpty = false) (hn' : n.toList = [] ↔ False)
    (CI : Hid (∀ w, Calls Try.prog 12 #[.int .i64 o] w fun r w' => r = .returned (info n 1 f k) ∧ Below w.heap.size w w'))
    (HA : Hid (w.cell? ⟨B, off, none⟩ = some (.int .i64 a))) (al : 0 ≤ a) (ah : a ≤ 4) (hf : (f != 0) = true) (z6 : (o == 6) = false) (z19 : (o == 19) = false) (a0 : (a != 0) = true) (af : (a != f) = false) (hz : o < 6) :
    Calls Try.prog 10 #[.int .i64 o, .slice (some ⟨B, off, none⟩) 1 cap] w fun r w' => r = .returned (two (k, 0)) ∧ Below w.heap.size w w' := by
  have hlt := lt_of_cell_some HA.out
  go_enter Try.func10, Try.ntmps10
  go_wp2_with (go_at_call 12; refine (CI.out _).mono ?_; rintro e w1 ⟨rfl, hb⟩; have hlt1 : B < w1.heap.size := Nat.lt_of_lt_of_le hlt hb.size; have ka := (hb.cell (p := ⟨B, off, none⟩) hlt).trans HA.out)
  go_rounds 3
  refine wp_loop_rounds 3 ?_
  rw [rounds_succ]
  go_wp2
  go_quiet (fail)
  go_wp2
  rw [rounds_succ]
  go_wp2
  go_ret2
  first
    | exact ⟨rfl, below_drewN (hb.alloc hb.size _) _⟩
    | exact ⟨rfl, below_drewN (below_drewN (hb.alloc hb.size _) _) _⟩
set_option maxRecDepth 100000 in
set_option maxHeartbeats 1000000 in
theorem refMakes_1fh (o f k a : Int) (n : ByteArray) (B off cap : Nat) (w : World) (hn : n.toList.isEmpty = false) (hn' : n.toList = [] ↔ False)
    (CI : Hid (∀ w, Calls Try.prog 12 #[.int .i64 o] w fun r w' => r = .returned (info n 1 f k) ∧ Below w.heap.size w w'))
    (HA : Hid (w.cell? ⟨B, off, none⟩ = some (.int .i64 a))) (al : 0 ≤ a) (ah : a ≤ 4) (hf : (f != 0) = true) (z6 : (o == 6) = false) (z19 : (o == 19) = false) (a0 : (a != 0) = true) (af : (a != f) = false) (hz : 12 < o) :
    Calls Try.prog 10 #[.int .i64 o, .slice (some ⟨B, off, none⟩) 1 cap] w fun r w' => r = .returned (two (k, 0)) ∧ Below w.heap.size w w' := by
  have hlt := lt_of_cell_some HA.out
  go_enter Try.func10, Try.ntmps10
  go_wp2_with (go_at_call 12; refine (CI.out _).mono ?_; rintro e w1 ⟨rfl, hb⟩; have hlt1 : B < w1.heap.size := Nat.lt_of_lt_of_le hlt hb.size; have ka := (hb.cell (p := ⟨B, off, none⟩) hlt).trans HA.out)
  go_rounds 3
  refine wp_loop_rounds 3 ?_
  rw [rounds_succ]
  go_wp2
  go_quiet (fail)
  go_wp2
  rw [rounds_succ]
  go_wp2
  go_ret2
  first
    | exact ⟨rfl, below_drewN (hb.alloc hb.size _) _⟩
    | exact ⟨rfl, below_drewN (below_drewN (hb.alloc hb.size _) _) _⟩
set_option maxRecDepth 100000 in
set_option maxHeartbeats 1000000 in
theorem refMakes_1b (o f k a : Int) (n : ByteArray) (B off cap : Nat) (w : World) (hn : n.toList.isEmpty = false) (hn' : n.toList = [] ↔ False)
    (CI : Hid (∀ w, Calls Try.prog 12 #[.int .i64 o] w fun r w' => r = .returned (info n 1 f k) ∧ Below w.heap.size w w'))
    (HA : Hid (w.cell? ⟨B, off, none⟩ = some (.int .i64 a))) (al : 0 ≤ a) (ah : a ≤ 4) (hf : (f != 0) = true) (z6 : (o == 6) = false) (z19 : (o == 19) = false) (a0 : (a != 0) = true) (af : (a != f) = true) :
    Calls Try.prog 10 #[.int .i64 o, .slice (some ⟨B, off, none⟩) 1 cap] w fun r w' => r = .returned (two (0, 120)) ∧ Below w.heap.size w w' := by
  have hlt := lt_of_cell_some HA.out
  go_enter Try.func10, Try.ntmps10
  go_wp2_with (go_at_call 12; refine (CI.out _).mono ?_; rintro e w1 ⟨rfl, hb⟩; have hlt1 : B < w1.heap.size := Nat.lt_of_lt_of_le hlt hb.size; have ka := (hb.cell (p := ⟨B, off, none⟩) hlt).trans HA.out)
  go_rounds 3
  refine wp_loop_rounds 3 ?_
  rw [rounds_succ]
  go_wp2
  go_quiet (fail)
  go_wp2
  go_ret2
  first
    | exact ⟨rfl, below_drewN (hb.alloc hb.size _) _⟩
    | exact ⟨rfl, below_drewN (below_drewN (hb.alloc hb.size _) _) _⟩
set_option maxRecDepth 100000 in
set_option maxHeartbeats 1000000 in
theorem refMakes_2b (o f k a b : Int) (n : ByteArray) (B off cap : Nat) (w : World) (hn : n.toList.isEmpty = false) (hn' : n.toList = [] ↔ False)
    (CI : Hid (∀ w, Calls Try.prog 12 #[.int .i64 o] w fun r w' => r = .returned (info n 2 f k) ∧ Below w.heap.size w w'))
    (HA : Hid (w.cell? ⟨B, off, none⟩ = some (.int .i64 a))) (HB : Hid (w.cell? ⟨B, off + 1, none⟩ = some (.int .i64 b))) (al : 0 ≤ a) (ah : a ≤ 4) (bl : 0 ≤ b) (bh : b ≤ 4) (hf : (f != 0) = true) (z6 : (o == 6) = false) (z19 : (o == 19) = false) (a0 : (a != 0) = true) (af : (a != f) = true) :
    Calls Try.prog 10 #[.int .i64 o, .slice (some ⟨B, off, none⟩) 2 cap] w fun r w' => r = .returned (two (0, 120)) ∧ Below w.heap.size w w' := by
  have hlt := lt_of_cell_some HA.out
  go_enter Try.func10, Try.ntmps10
  go_wp2_with (go_at_call 12; refine (CI.out _).mono ?_; rintro e w1 ⟨rfl, hb⟩; have hlt1 : B < w1.heap.size := Nat.lt_of_lt_of_le hlt hb.size; have ka := (hb.cell (p := ⟨B, off, none⟩) hlt).trans HA.out; have kb := (hb.cell (p := ⟨B, off + 1, none⟩) hlt).trans HB.out)
  go_rounds 3
  refine wp_loop_rounds 3 ?_
  rw [rounds_succ]
  go_wp2
  go_quiet (fail)
  go_wp2
  go_ret2
  first
    | exact ⟨rfl, below_drewN (hb.alloc hb.size _) _⟩
    | exact ⟨rfl, below_drewN (below_drewN (hb.alloc hb.size _) _) _⟩
set_option maxRecDepth 100000 in
set_option maxHeartbeats 1000000 in
theorem refMakes_20b (o f k a b : Int) (n : ByteArray) (B off cap : Nat) (w : World) (hn : n.toList.isEmpty = false) (hn' : n.toList = [] ↔ False)
    (CI : Hid (∀ w, Calls Try.prog 12 #[.int .i64 o] w fun r w' => r = .returned (info n 2 f k) ∧ Below w.heap.size w w'))
    (HA : Hid (w.cell? ⟨B, off, none⟩ = some (.int .i64 a))) (HB : Hid (w.cell? ⟨B, off + 1, none⟩ = some (.int .i64 b))) (al : 0 ≤ a) (ah : a ≤ 4) (bl : 0 ≤ b) (bh : b ≤ 4) (hf : (f != 0) = true) (z6 : (o == 6) = false) (z19 : (o == 19) = false) (a0 : (a != 0) = false) (b0 : (b != 0) = true) (bf : (b != f) = true) :
    Calls Try.prog 10 #[.int .i64 o, .slice (some ⟨B, off, none⟩) 2 cap] w fun r w' => r = .returned (two (0, 120)) ∧ Below w.heap.size w w' := by
  have hlt := lt_of_cell_some HA.out
  go_enter Try.func10, Try.ntmps10
  go_wp2_with (go_at_call 12; refine (CI.out _).mono ?_; rintro e w1 ⟨rfl, hb⟩; have hlt1 : B < w1.heap.size := Nat.lt_of_lt_of_le hlt hb.size; have ka := (hb.cell (p := ⟨B, off, none⟩) hlt).trans HA.out; have kb := (hb.cell (p := ⟨B, off + 1, none⟩) hlt).trans HB.out)
  go_rounds 3
  refine wp_loop_rounds 3 ?_
  rw [rounds_succ]
  go_wp2
  go_quiet (fail)
  go_wp2
  rw [rounds_succ]
  go_wp2
  go_quiet (fail)
  go_wp2
  go_ret2
  first
    | exact ⟨rfl, below_drewN (hb.alloc hb.size _) _⟩
    | exact ⟨rfl, below_drewN (below_drewN (hb.alloc hb.size _) _) _⟩
set_option maxRecDepth 100000 in
set_option maxHeartbeats 1000000 in
theorem refMakes_200l (o f k a b : Int) (n : ByteArray) (B off cap : Nat) (w : World) (hn : n.toList.isEmpty = false) (hn' : n.toList = [] ↔ False)
    (CI : Hid (∀ w, Calls Try.prog 12 #[.int .i64 o] w fun r w' => r = .returned (info n 2 f k) ∧ Below w.heap.size w w'))
    (HA : Hid (w.cell? ⟨B, off, none⟩ = some (.int .i64 a))) (HB : Hid (w.cell? ⟨B, off + 1, none⟩ = some (.int .i64 b))) (al : 0 ≤ a) (ah : a ≤ 4) (bl : 0 ≤ b) (bh : b ≤ 4) (hf : (f != 0) = true) (z6 : (o == 6) = false) (z19 : (o == 19) = false) (a0 : (a != 0) = false) (b0 : (b != 0) = false) (hz : o < 6) :
    Calls Try.prog 10 #[.int .i64 o, .slice (some ⟨B, off, none⟩) 2 cap] w fun r w' => r = .returned (two (k, 0)) ∧ Below w.heap.size w w' := by
  have hlt := lt_of_cell_some HA.out
  go_enter Try.func10, Try.ntmps10
  go_wp2_with (go_at_call 12; refine (CI.out _).mono ?_; rintro e w1 ⟨rfl, hb⟩; have hlt1 : B < w1.heap.size := Nat.lt_of_lt_of_le hlt hb.size; have ka := (hb.cell (p := ⟨B, off, none⟩) hlt).trans HA.out; have kb := (hb.cell (p := ⟨B, off + 1, none⟩) hlt).trans HB.out)
  go_rounds 3
  refine wp_loop_rounds 3 ?_
  rw [rounds_succ]
  go_wp2
  go_quiet (fail)
  go_wp2
  rw [rounds_succ]
  go_wp2
  go_quiet (fail)
  go_wp2
  rw [rounds_succ]
  go_wp2
  go_ret2
  first
    | exact ⟨rfl, below_drewN (hb.alloc hb.size _) _⟩
    | exact ⟨rfl, below_drewN (below_drewN (hb.alloc hb.size _) _) _⟩
set_option maxRecDepth 100000 in
set_option maxHeartbeats 1000000 in
theorem refMakes_200h (o f k a b : Int) (n : ByteArray) (B off cap : Nat) (w : World) (hn : n.toList.isEmpty = false) (hn' : n.toList = [] ↔ False)
    (CI : Hid (∀ w, Calls Try.prog 12 #[.int .i64 o] w fun r w' => r = .returned (info n 2 f k) ∧ Below w.heap.size w w'))
    (HA : Hid (w.cell? ⟨B, off, none⟩ = some (.int .i64 a))) (HB : Hid (w.cell? ⟨B, off + 1, none⟩ = some (.int .i64 b))) (al : 0 ≤ a) (ah : a ≤ 4) (bl : 0 ≤ b) (bh : b ≤ 4) (hf : (f != 0) = true) (z6 : (o == 6) = false) (z19 : (o == 19) = false) (a0 : (a != 0) = false) (b0 : (b != 0) = false) (hz : 12 < o) :
    Calls Try.prog 10 #[.int .i64 o, .slice (some ⟨B, off, none⟩) 2 cap] w fun r w' => r = .returned (two (k, 0)) ∧ Below w.heap.size w w' := by
  have hlt := lt_of_cell_some HA.out
  go_enter Try.func10, Try.ntmps10
  go_wp2_with (go_at_call 12; refine (CI.out _).mono ?_; rintro e w1 ⟨rfl, hb⟩; have hlt1 : B < w1.heap.size := Nat.lt_of_lt_of_le hlt hb.size; have ka := (hb.cell (p := ⟨B, off, none⟩) hlt).trans HA.out; have kb := (hb.cell (p := ⟨B, off + 1, none⟩) hlt).trans HB.out)
  go_rounds 3
  refine wp_loop_rounds 3 ?_
  rw [rounds_succ]
  go_wp2
  go_quiet (fail)
  go_wp2
  rw [rounds_succ]
  go_wp2
  go_quiet (fail)
  go_wp2
  rw [rounds_succ]
  go_wp2
  go_ret2
  first
    | exact ⟨rfl, below_drewN (hb.alloc hb.size _) _⟩
    | exact ⟨rfl, below_drewN (below_drewN (hb.alloc hb.size _) _) _⟩
set_option maxRecDepth 100000 in
set_option maxHeartbeats 1000000 in
theorem refMakes_20fl (o f k a b : Int) (n : ByteArray) (B off cap : Nat) (w : World) (hn : n.toList.isEmpty = false) (hn' : n.toList = [] ↔ False)
    (CI : Hid (∀ w, Calls Try.prog 12 #[.int .i64 o] w fun r w' => r = .returned (info n 2 f k) ∧ Below w.heap.size w w'))
    (HA : Hid (w.cell? ⟨B, off, none⟩ = some (.int .i64 a))) (HB : Hid (w.cell? ⟨B, off + 1, none⟩ = some (.int .i64 b))) (al : 0 ≤ a) (ah : a ≤ 4) (bl : 0 ≤ b) (bh : b ≤ 4) (hf : (f != 0) = true) (z6 : (o == 6) = false) (z19 : (o == 19) = false) (a0 : (a != 0) = false) (b0 : (b != 0) = true) (bf : (b != f) = false) (hz : o < 6) :
    Calls Try.prog 10 #[.int .i64 o, .slice (some ⟨B, off, none⟩) 2 cap] w fun r w' => r = .returned (two (k, 0)) ∧ Below w.heap.size w w' := by
  have hlt := lt_of_cell_some HA.out
  go_enter Try.func10, Try.ntmps10
  go_wp2_with (go_at_call 12; refine (CI.out _).mono ?_; rintro e w1 ⟨rfl, hb⟩; have hlt1 : B < w1.heap.size := Nat.lt_of_lt_of_le hlt hb.size; have ka := (hb.cell (p := ⟨B, off, none⟩) hlt).trans HA.out; have kb := (hb.cell (p := ⟨B, off + 1, none⟩) hlt).trans HB.out)
  go_rounds 3
  refine wp_loop_rounds 3 ?_
  rw [rounds_succ]
  go_wp2
  go_quiet (fail)
  go_wp2
  rw [rounds_succ]
  go_wp2
  go_quiet (fail)
  go_wp2
  rw [rounds_succ]
  go_wp2
  go_ret2
  first
    | exact ⟨rfl, below_drewN (hb.alloc hb.size _) _⟩
    | exact ⟨rfl, below_drewN (below_drewN (hb.alloc hb.size _) _) _⟩
set_option maxRecDepth 100000 in
set_option maxHeartbeats 1000000 in
theorem refMakes_20fh (o f k a b : Int) (n : ByteArray) (B off cap : Nat) (w : World) (hn : n.toList.isEmpty = false) (hn' : n.toList = [] ↔ False)
    (CI : Hid (∀ w, Calls Try.prog 12 #[.int .i64 o] w fun r w' => r = .returned (info n 2 f k) ∧ Below w.heap.size w w'))
    (HA : Hid (w.cell? ⟨B, off, none⟩ = some (.int .i64 a))) (HB : Hid (w.cell? ⟨B, off + 1, none⟩ = some (.int .i64 b))) (al : 0 ≤ a) (ah : a ≤ 4) (bl : 0 ≤ b) (bh : b ≤ 4) (hf : (f != 0) = true) (z6 : (o == 6) = false) (z19 : (o == 19) = false) (a0 : (a != 0) = false) (b0 : (b != 0) = true) (bf : (b != f) = false) (hz : 12 < o) :
    Calls Try.prog 10 #[.int .i64 o, .slice (some ⟨B, off, none⟩) 2 cap] w fun r w' => r = .returned (two (k, 0)) ∧ Below w.heap.size w w' := by
  have hlt := lt_of_cell_some HA.out
  go_enter Try.func10, Try.ntmps10
  go_wp2_with (go_at_call 12; refine (CI.out _).mono ?_; rintro e w1 ⟨rfl, hb⟩; have hlt1 : B < w1.heap.size := Nat.lt_of_lt_of_le hlt hb.size; have ka := (hb.cell (p := ⟨B, off, none⟩) hlt).trans HA.out; have kb := (hb.cell (p := ⟨B, off + 1, none⟩) hlt).trans HB.out)
  go_rounds 3
  refine wp_loop_rounds 3 ?_
  rw [rounds_succ]
  go_wp2
  go_quiet (fail)
  go_wp2
  rw [rounds_succ]
  go_wp2
  go_quiet (fail)
  go_wp2
  rw [rounds_succ]
  go_wp2
  go_ret2
  first
    | exact ⟨rfl, below_drewN (hb.alloc hb.size _) _⟩
    | exact ⟨rfl, below_drewN (below_drewN (hb.alloc hb.size _) _) _⟩
set_option maxRecDepth 100000 in
set_option maxHeartbeats 1000000 in
theorem refMakes_2fb (o f k a b : Int) (n : ByteArray) (B off cap : Nat) (w : World) (hn : n.toList.isEmpty = false) (hn' : n.toList = [] ↔ False)
    (CI : Hid (∀ w, Calls Try.prog 12 #[.int .i64 o] w fun r w' => r = .returned (info n 2 f k) ∧ Below w.heap.size w w'))
    (HA : Hid (w.cell? ⟨B, off, none⟩ = some (.int .i64 a))) (HB : Hid (w.cell? ⟨B, off + 1, none⟩ = some (.int .i64 b))) (al : 0 ≤ a) (ah : a ≤ 4) (bl : 0 ≤ b) (bh : b ≤ 4) (hf : (f != 0) = true) (z6 : (o == 6) = false) (z19 : (o == 19) = false) (a0 : (a != 0) = true) (af : (a != f) = false) (b0 : (b != 0) = true) (bf : (b != f) = true) :
    Calls Try.prog 10 #[.int .i64 o, .slice (some ⟨B, off, none⟩) 2 cap] w fun r w' => r = .returned (two (0, 120)) ∧ Below w.heap.size w w' := by
  have hlt := lt_of_cell_some HA.out
  go_enter Try.func10, Try.ntmps10
  go_wp2_with (go_at_call 12; refine (CI.out _).mono ?_; rintro e w1 ⟨rfl, hb⟩; have hlt1 : B < w1.heap.size := Nat.lt_of_lt_of_le hlt hb.size; have ka := (hb.cell (p := ⟨B, off, none⟩) hlt).trans HA.out; have kb := (hb.cell (p := ⟨B, off + 1, none⟩) hlt).trans HB.out)
  go_rounds 3
  refine wp_loop_rounds 3 ?_
  rw [rounds_succ]
  go_wp2
  go_quiet (fail)
  go_wp2
  rw [rounds_succ]
  go_wp2
  go_quiet (fail)
  go_wp2
  go_ret2
  first
    | exact ⟨rfl, below_drewN (hb.alloc hb.size _) _⟩
    | exact ⟨rfl, below_drewN (below_drewN (hb.alloc hb.size _) _) _⟩
set_option maxRecDepth 100000 in
set_option maxHeartbeats 1000000 in
theorem refMakes_2f0l (o f k a b : Int) (n : ByteArray) (B off cap : Nat) (w : World) (hn : n.toList.isEmpty = false) (hn' : n.toList = [] ↔ False)
    (CI : Hid (∀ w, Calls Try.prog 12 #[.int .i64 o] w fun r w' => r = .returned (info n 2 f k) ∧ Below w.heap.size w w'))
    (HA : Hid (w.cell? ⟨B, off, none⟩ = some (.int .i64 a))) (HB : Hid (w.cell? ⟨B, off + 1, none⟩ = some (.int .i64 b))) (al : 0 ≤ a) (ah : a ≤ 4) (bl : 0 ≤ b) (bh : b ≤ 4) (hf : (f != 0) = true) (z6 : (o == 6) = false) (z19 : (o == 19) = false) (a0 : (a != 0) = true) (af : (a != f) = false) (b0 : (b != 0) = false) (hz : o < 6) :
    Calls Try.prog 10 #[.int .i64 o, .slice (some ⟨B, off, none⟩) 2 cap] w fun r w' => r = .returned (two (k, 0)) ∧ Below w.heap.size w w' := by
  have hlt := lt_of_cell_some HA.out
  go_enter Try.func10, Try.ntmps10
  go_wp2_with (go_at_call 12; refine (CI.out _).mono ?_; rintro e w1 ⟨rfl, hb⟩; have hlt1 : B < w1.heap.size := Nat.lt_of_lt_of_le hlt hb.size; have ka := (hb.cell (p := ⟨B, off, none⟩) hlt).trans HA.out; have kb := (hb.cell (p := ⟨B, off + 1, none⟩) hlt).trans HB.out)
  go_rounds 3
  refine wp_loop_rounds 3 ?_
  rw [rounds_succ]
  go_wp2
  go_quiet (fail)
  go_wp2
  rw [rounds_succ]
  go_wp2
  go_quiet (fail)
  go_wp2
  rw [rounds_succ]
  go_wp2
  go_ret2
  first
    | exact ⟨rfl, below_drewN (hb.alloc hb.size _) _⟩
    | exact ⟨rfl, below_drewN (below_drewN (hb.alloc hb.size _) _) _⟩
set_option maxRecDepth 100000 in
set_option maxHeartbeats 1000000 in
theorem refMakes_2f0h (o f k a b : Int) (n : ByteArray) (B off cap : Nat) (w : World) (hn : n.toList.isEmpty = false) (hn' : n.toList = [] ↔ False)
    (CI : Hid (∀ w, Calls Try.prog 12 #[.int .i64 o] w fun r w' => r = .returned (info n 2 f k) ∧ Below w.heap.size w w'))
    (HA : Hid (w.cell? ⟨B, off, none⟩ = some (.int .i64 a))) (HB : Hid (w.cell? ⟨B, off + 1, none⟩ = some (.int .i64 b))) (al : 0 ≤ a) (ah : a ≤ 4) (bl : 0 ≤ b) (bh : b ≤ 4) (hf : (f != 0) = true) (z6 : (o == 6) = false) (z19 : (o == 19) = false) (a0 : (a != 0) = true) (af : (a != f) = false) (b0 : (b != 0) = false) (hz : 12 < o) :
    Calls Try.prog 10 #[.int .i64 o, .slice (some ⟨B, off, none⟩) 2 cap] w fun r w' => r = .returned (two (k, 0)) ∧ Below w.heap.size w w' := by
  have hlt := lt_of_cell_some HA.out
  go_enter Try.func10, Try.ntmps10
  go_wp2_with (go_at_call 12; refine (CI.out _).mono ?_; rintro e w1 ⟨rfl, hb⟩; have hlt1 : B < w1.heap.size := Nat.lt_of_lt_of_le hlt hb.size; have ka := (hb.cell (p := ⟨B, off, none⟩) hlt).trans HA.out; have kb := (hb.cell (p := ⟨B, off + 1, none⟩) hlt).trans HB.out)
  go_rounds 3
  refine wp_loop_rounds 3 ?_
  rw [rounds_succ]
  go_wp2
  go_quiet (fail)
  go_wp2
  rw [rounds_succ]
  go_wp2
  go_quiet (fail)
  go_wp2
  rw [rounds_succ]
  go_wp2
  go_ret2
  first
    | exact ⟨rfl, below_drewN (hb.alloc hb.size _) _⟩
    | exact ⟨rfl, below_drewN (below_drewN (hb.alloc hb.size _) _) _⟩
set_option maxRecDepth 100000 in
set_option maxHeartbeats 1000000 in
theorem refMakes_2ffl (o f k a b : Int) (n : ByteArray) (B off cap : Nat) (w : World) (hn : n.toList.isEmpty = false) (hn' : n.toList = [] ↔ False)
    (CI : Hid (∀ w, Calls Try.prog 12 #[.int .i64 o] w fun r w' => r = .returned (info n 2 f k) ∧ Below w.heap.size w w'))
    (HA : Hid (w.cell? ⟨B, off, none⟩ = some (.int .i64 a))) (HB : Hid (w.cell? ⟨B, off + 1, none⟩ = some (.int .i64 b))) (al : 0 ≤ a) (ah : a ≤ 4) (bl : 0 ≤ b) (bh : b ≤ 4) (hf : (f != 0) = true) (z6 : (o == 6) = false) (z19 : (o == 19) = false) (a0 : (a != 0) = true) (af : (a != f) = false) (b0 : (b != 0) = true) (bf : (b != f) = false) (hz : o < 6) :
    Calls Try.prog 10 #[.int .i64 o, .slice (some ⟨B, off, none⟩) 2 cap] w fun r w' => r = .returned (two (k, 0)) ∧ Below w.heap.size w w' := by
  have hlt := lt_of_cell_some HA.out
  go_enter Try.func10, Try.ntmps10
  go_wp2_with (go_at_call 12; refine (CI.out _).mono ?_; rintro e w1 ⟨rfl, hb⟩; have hlt1 : B < w1.heap.size := Nat.lt_of_lt_of_le hlt hb.size; have ka := (hb.cell (p := ⟨B, off, none⟩) hlt).trans HA.out; have kb := (hb.cell (p := ⟨B, off + 1, none⟩) hlt).trans HB.out)
  go_rounds 3
  refine wp_loop_rounds 3 ?_
  rw [rounds_succ]
  go_wp2
  go_quiet (fail)
  go_wp2
  rw [rounds_succ]
  go_wp2
  go_quiet (fail)
  go_wp2
  rw [rounds_succ]
  go_wp2
  go_ret2
  first
    | exact ⟨rfl, below_drewN (hb.alloc hb.size _) _⟩
    | exact ⟨rfl, below_drewN (below_drewN (hb.alloc hb.size _) _) _⟩
set_option maxRecDepth 100000 in
set_option maxHeartbeats 1000000 in
theorem refMakes_2ffh (o f k a b : Int) (n : ByteArray) (B off cap : Nat) (w : World) (hn : n.toList.isEmpty = false) (hn' : n.toList = [] ↔ False)
    (CI : Hid (∀ w, Calls Try.prog 12 #[.int .i64 o] w fun r w' => r = .returned (info n 2 f k) ∧ Below w.heap.size w w'))
    (HA : Hid (w.cell? ⟨B, off, none⟩ = some (.int .i64 a))) (HB : Hid (w.cell? ⟨B, off + 1, none⟩ = some (.int .i64 b))) (al : 0 ≤ a) (ah : a ≤ 4) (bl : 0 ≤ b) (bh : b ≤ 4) (hf : (f != 0) = true) (z6 : (o == 6) = false) (z19 : (o == 19) = false) (a0 : (a != 0) = true) (af : (a != f) = false) (b0 : (b != 0) = true) (bf : (b != f) = false) (hz : 12 < o) :
    Calls Try.prog 10 #[.int .i64 o, .slice (some ⟨B, off, none⟩) 2 cap] w fun r w' => r = .returned (two (k, 0)) ∧ Below w.heap.size w w' := by
  have hlt := lt_of_cell_some HA.out
  go_enter Try.func10, Try.ntmps10
  go_wp2_with (go_at_call 12; refine (CI.out _).mono ?_; rintro e w1 ⟨rfl, hb⟩; have hlt1 : B < w1.heap.size := Nat.lt_of_lt_of_le hlt hb.size; have ka := (hb.cell (p := ⟨B, off, none⟩) hlt).trans HA.out; have kb := (hb.cell (p := ⟨B, off + 1, none⟩) hlt).trans HB.out)
  go_rounds 3
  refine wp_loop_rounds 3 ?_
  rw [rounds_succ]
  go_wp2
  go_quiet (fail)
  go_wp2
  rw [rounds_succ]
  go_wp2
  go_quiet (fail)
  go_wp2
  rw [rounds_succ]
  go_wp2
  go_ret2
  first
    | exact ⟨rfl, below_drewN (hb.alloc hb.size _) _⟩
    | exact ⟨rfl, below_drewN (below_drewN (hb.alloc hb.size _) _) _⟩
end Go.Proofs.Ytoknfdgejiachaa

