import Derived.Test.YtoknfdgejiachaaY3
namespace Go.Proofs.Ytoknfdgejiachaa
open Go.RowKit Go.Shelf

/-- The name of an operator: of none the empty one. -/
def oname (m : Nat) : ByteArray := (#[⟨#[]⟩, ⟨#[43]⟩, ⟨#[45]⟩, ⟨#[42]⟩, ⟨#[47]⟩, ⟨#[37]⟩, ⟨#[124, 124]⟩, ⟨#[61]⟩, ⟨#[60, 62]⟩, ⟨#[60]⟩, ⟨#[60, 61]⟩, ⟨#[62]⟩, ⟨#[62, 61]⟩, ⟨#[97, 110, 100]⟩, ⟨#[111, 114]⟩, ⟨#[45]⟩, ⟨#[110, 111, 116]⟩, ⟨#[105, 115, 32, 110, 117, 108, 108]⟩, ⟨#[105, 115, 32, 110, 111, 116, 32, 110, 117, 108, 108]⟩, ⟨#[108, 101, 110, 103, 116, 104]⟩, ⟨#[97, 98, 115]⟩] : Array ByteArray)[m]!
abbrev info (n : ByteArray) (m o k : Int) : Value := .agg #[.string n, .int .i64 m, .int .i64 o, .int .i64 k]
def infoV (o : Int) : Value := if o < 1 ∨ 20 < o then info ⟨#[]⟩ 0 0 0 else info (oname o.toNat) (manyE o) (ofE o) (makeE o)
set_option maxRecDepth 100000 in
set_option maxHeartbeats 1000000 in
theorem refInfo_none (o : Int) (h : o < 1 ∨ 20 < o) (w : World) :
    Calls Try.prog 12 #[.int .i64 o] w fun r w' => r = .returned (info ⟨#[]⟩ 0 0 0) ∧ Below w.heap.size w w' := by
  rcases h with h | h
  all_goals
    go_enter Try.func12, Try.ntmps12
    go_wp2
    go_returns
    exact ⟨rfl, by go_grown⟩
set_option maxRecDepth 100000 in
set_option maxHeartbeats 1000000 in
theorem refInfo_1 (w : World) : Calls Try.prog 12 #[.int .i64 1] w fun r w' => r = .returned (info (oname 1) 2 2 2) ∧ Below w.heap.size w w' := by
  go_enter Try.func12, Try.ntmps12
  go_wp2
  go_returns
  exact ⟨rfl, by go_grown⟩
set_option maxRecDepth 100000 in
set_option maxHeartbeats 1000000 in
theorem refInfo_2 (w : World) : Calls Try.prog 12 #[.int .i64 2] w fun r w' => r = .returned (info (oname 2) 2 2 2) ∧ Below w.heap.size w w' := by
  go_enter Try.func12, Try.ntmps12
  go_wp2
  go_returns
  exact ⟨rfl, by go_grown⟩
set_option maxRecDepth 100000 in
set_option maxHeartbeats 1000000 in
theorem refInfo_3 (w : World) : Calls Try.prog 12 #[.int .i64 3] w fun r w' => r = .returned (info (oname 3) 2 2 2) ∧ Below w.heap.size w w' := by
  go_enter Try.func12, Try.ntmps12
  go_wp2
  go_returns
  exact ⟨rfl, by go_grown⟩
set_option maxRecDepth 100000 in
set_option maxHeartbeats 1000000 in
theorem refInfo_4 (w : World) : Calls Try.prog 12 #[.int .i64 4] w fun r w' => r = .returned (info (oname 4) 2 2 2) ∧ Below w.heap.size w w' := by
  go_enter Try.func12, Try.ntmps12
  go_wp2
  go_returns
  exact ⟨rfl, by go_grown⟩
set_option maxRecDepth 100000 in
set_option maxHeartbeats 1000000 in
theorem refInfo_5 (w : World) : Calls Try.prog 12 #[.int .i64 5] w fun r w' => r = .returned (info (oname 5) 2 2 2) ∧ Below w.heap.size w w' := by
  go_enter Try.func12, Try.ntmps12
  go_wp2
  go_returns
  exact ⟨rfl, by go_grown⟩
set_option maxRecDepth 100000 in
set_option maxHeartbeats 1000000 in
theorem refInfo_6 (w : World) : Calls Try.prog 12 #[.int .i64 6] w fun r w' => r = .returned (info (oname 6) 2 0 0) ∧ Below w.heap.size w w' := by
  go_enter Try.func12, Try.ntmps12
  go_wp2
  go_returns
  exact ⟨rfl, by go_grown⟩
set_option maxRecDepth 100000 in
set_option maxHeartbeats 1000000 in
theorem refInfo_7 (w : World) : Calls Try.prog 12 #[.int .i64 7] w fun r w' => r = .returned (info (oname 7) 2 0 1) ∧ Below w.heap.size w w' := by
  go_enter Try.func12, Try.ntmps12
  go_wp2
  go_returns
  exact ⟨rfl, by go_grown⟩
set_option maxRecDepth 100000 in
set_option maxHeartbeats 1000000 in
theorem refInfo_8 (w : World) : Calls Try.prog 12 #[.int .i64 8] w fun r w' => r = .returned (info (oname 8) 2 0 1) ∧ Below w.heap.size w w' := by
  go_enter Try.func12, Try.ntmps12
  go_wp2
  go_returns
  exact ⟨rfl, by go_grown⟩
set_option maxRecDepth 100000 in
set_option maxHeartbeats 1000000 in
theorem refInfo_9 (w : World) : Calls Try.prog 12 #[.int .i64 9] w fun r w' => r = .returned (info (oname 9) 2 0 1) ∧ Below w.heap.size w w' := by
  go_enter Try.func12, Try.ntmps12
  go_wp2
  go_returns
  exact ⟨rfl, by go_grown⟩
set_option maxRecDepth 100000 in
set_option maxHeartbeats 1000000 in
theorem refInfo_10 (w : World) : Calls Try.prog 12 #[.int .i64 10] w fun r w' => r = .returned (info (oname 10) 2 0 1) ∧ Below w.heap.size w w' := by
  go_enter Try.func12, Try.ntmps12
  go_wp2
  go_returns
  exact ⟨rfl, by go_grown⟩
set_option maxRecDepth 100000 in
set_option maxHeartbeats 1000000 in
theorem refInfo_11 (w : World) : Calls Try.prog 12 #[.int .i64 11] w fun r w' => r = .returned (info (oname 11) 2 0 1) ∧ Below w.heap.size w w' := by
  go_enter Try.func12, Try.ntmps12
  go_wp2
  go_returns
  exact ⟨rfl, by go_grown⟩
set_option maxRecDepth 100000 in
set_option maxHeartbeats 1000000 in
theorem refInfo_12 (w : World) : Calls Try.prog 12 #[.int .i64 12] w fun r w' => r = .returned (info (oname 12) 2 0 1) ∧ Below w.heap.size w w' := by
  go_enter Try.func12, Try.ntmps12
  go_wp2
  go_returns
  exact ⟨rfl, by go_grown⟩
set_option maxRecDepth 100000 in
set_option maxHeartbeats 1000000 in
theorem refInfo_13 (w : World) : Calls Try.prog 12 #[.int .i64 13] w fun r w' => r = .returned (info (oname 13) 2 1 1) ∧ Below w.heap.size w w' := by
  go_enter Try.func12, Try.ntmps12
  go_wp2
  go_returns
  exact ⟨rfl, by go_grown⟩
set_option maxRecDepth 100000 in
set_option maxHeartbeats 1000000 in
theorem refInfo_14 (w : World) : Calls Try.prog 12 #[.int .i64 14] w fun r w' => r = .returned (info (oname 14) 2 1 1) ∧ Below w.heap.size w w' := by
  go_enter Try.func12, Try.ntmps12
  go_wp2
  go_returns
  exact ⟨rfl, by go_grown⟩
set_option maxRecDepth 100000 in
set_option maxHeartbeats 1000000 in
theorem refInfo_15 (w : World) : Calls Try.prog 12 #[.int .i64 15] w fun r w' => r = .returned (info (oname 15) 1 2 2) ∧ Below w.heap.size w w' := by
  go_enter Try.func12, Try.ntmps12
  go_wp2
  go_returns
  exact ⟨rfl, by go_grown⟩
set_option maxRecDepth 100000 in
set_option maxHeartbeats 1000000 in
theorem refInfo_16 (w : World) : Calls Try.prog 12 #[.int .i64 16] w fun r w' => r = .returned (info (oname 16) 1 1 1) ∧ Below w.heap.size w w' := by
  go_enter Try.func12, Try.ntmps12
  go_wp2
  go_returns
  exact ⟨rfl, by go_grown⟩
set_option maxRecDepth 100000 in
set_option maxHeartbeats 1000000 in
theorem refInfo_17 (w : World) : Calls Try.prog 12 #[.int .i64 17] w fun r w' => r = .returned (info (oname 17) 1 0 1) ∧ Below w.heap.size w w' := by
  go_enter Try.func12, Try.ntmps12
  go_wp2
  go_returns
  exact ⟨rfl, by go_grown⟩
set_option maxRecDepth 100000 in
set_option maxHeartbeats 1000000 in
theorem refInfo_18 (w : World) : Calls Try.prog 12 #[.int .i64 18] w fun r w' => r = .returned (info (oname 18) 1 0 1) ∧ Below w.heap.size w w' := by
  go_enter Try.func12, Try.ntmps12
  go_wp2
  go_returns
  exact ⟨rfl, by go_grown⟩
set_option maxRecDepth 100000 in
set_option maxHeartbeats 1000000 in
theorem refInfo_19 (w : World) : Calls Try.prog 12 #[.int .i64 19] w fun r w' => r = .returned (info (oname 19) 1 0 2) ∧ Below w.heap.size w w' := by
  go_enter Try.func12, Try.ntmps12
  go_wp2
  go_returns
  exact ⟨rfl, by go_grown⟩
set_option maxRecDepth 100000 in
set_option maxHeartbeats 1000000 in
theorem refInfo_20 (w : World) : Calls Try.prog 12 #[.int .i64 20] w fun r w' => r = .returned (info (oname 20) 1 2 2) ∧ Below w.heap.size w w' := by
  go_enter Try.func12, Try.ntmps12
  go_wp2
  go_returns
  exact ⟨rfl, by go_grown⟩
theorem refInfo_any (o : Int) (w : World) : Calls Try.prog 12 #[.int .i64 o] w fun r w' => r = .returned (infoV o) ∧ Below w.heap.size w w' := by
  unfold infoV
  by_cases h : o < 1 ∨ 20 < o
  · rw [if_pos h]; exact refInfo_none o h w
  rw [if_neg h]
  obtain ⟨m, rfl⟩ : ∃ m : Nat, o = (m : Int) := ⟨o.toNat, by omega⟩
  have h1 : 1 ≤ m := by omega
  have h2 : m < 21 := by omega
  clear h
  obtain rfl | rfl | rfl | rfl | rfl | rfl | rfl | rfl | rfl | rfl | rfl | rfl | rfl | rfl | rfl | rfl | rfl | rfl | rfl | rfl : m = 1 ∨ m = 2 ∨ m = 3 ∨ m = 4 ∨ m = 5 ∨ m = 6 ∨ m = 7 ∨ m = 8 ∨ m = 9 ∨ m = 10 ∨ m = 11 ∨ m = 12 ∨ m = 13 ∨ m = 14 ∨ m = 15 ∨ m = 16 ∨ m = 17 ∨ m = 18 ∨ m = 19 ∨ m = 20 := by omega
  · exact refInfo_1 w
  · exact refInfo_2 w
  · exact refInfo_3 w
  · exact refInfo_4 w
  · exact refInfo_5 w
  · exact refInfo_6 w
  · exact refInfo_7 w
  · exact refInfo_8 w
  · exact refInfo_9 w
  · exact refInfo_10 w
  · exact refInfo_11 w
  · exact refInfo_12 w
  · exact refInfo_13 w
  · exact refInfo_14 w
  · exact refInfo_15 w
  · exact refInfo_16 w
  · exact refInfo_17 w
  · exact refInfo_18 w
  · exact refInfo_19 w
  · exact refInfo_20 w
end Go.Proofs.Ytoknfdgejiachaa

