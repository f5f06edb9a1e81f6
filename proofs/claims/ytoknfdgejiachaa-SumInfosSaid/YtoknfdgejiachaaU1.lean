import Derived.Test.YtoknfdgejiachaaL1
namespace Go.Proofs.Ytoknfdgejiachaa
open Go.RowKit Go.Shelf

/-- A number as a value. -/
abbrev ofN (n : Int) : V3 := (2, n, ⟨#[]⟩)
theorem check_n (n : Int) : checkV 2 n ⟨#[]⟩ = 0 := by
  have he : (⟨#[]⟩ : ByteArray).toList.isEmpty = true := by kernel_rfl
  unfold checkV mayB
  rw [if_neg (show ¬ 1000 < (⟨#[]⟩ : ByteArray).size by decide), if_neg (show ¬ (2 : Int) = 0 by decide), if_neg (show ¬ (2 : Int) = 1 by decide), if_pos (show (2 : Int) = 2 from rfl), he]
  rfl
theorem makes_nn (o : Int) (h1 : 1 ≤ o) (h5 : o ≤ 5) : makesE o [2, 2] = (2, 0) := by
  obtain rfl | rfl | rfl | rfl | rfl : o = 1 ∨ o = 2 ∨ o = 3 ∨ o = 4 ∨ o = 5 := by omega
  all_goals rfl
theorem makes_0n (o : Int) (h1 : 1 ≤ o) (h5 : o ≤ 5) : makesE o [0, 2] = (2, 0) := by
  obtain rfl | rfl | rfl | rfl | rfl : o = 1 ∨ o = 2 ∨ o = 3 ∨ o = 4 ∨ o = 5 := by omega
  all_goals rfl
theorem do_nn (o x y : Int) (h1 : 1 ≤ o) (h5 : o ≤ 5) : doE o [ofN x, ofN y] = numV (wholeE o x y) := by
  unfold doE
  simp only [List.any_cons, List.any_nil, check_n, ne_eq, not_true_eq_false, decide_false, Bool.or_self, List.map_cons, List.map_nil, makes_nn o h1 h5]
  rw [if_neg (by decide), if_neg (by decide)]
  show opE o (ofN x) (ofN y) = _
  unfold opE
  rw [if_neg (by omega), if_neg (by omega), if_neg (by omega), if_neg (by simp), if_neg (by omega), if_neg (by omega), if_neg (by omega), if_neg (by omega)]
theorem do_0n (o y : Int) (h1 : 1 ≤ o) (h5 : o ≤ 5) : doE o [nul, ofN y] = (nul, 0) := by
  unfold doE
  have hc : checkV 0 0 ⟨#[]⟩ = 0 := by kernel_rfl
  simp only [List.any_cons, List.any_nil, check_n, hc, ne_eq, not_true_eq_false, decide_false, Bool.or_self, List.map_cons, List.map_nil, makes_0n o h1 h5]
  rw [if_neg (by decide), if_neg (by decide)]
  show opE o nul (ofN y) = _
  unfold opE
  rw [if_neg (by omega), if_neg (by omega), if_neg (by omega), if_pos (Or.inl rfl)]
theorem numV_ok {p : Int × Int} (h : p.2 = 0) : numV p = (ofN p.1, 0) := by unfold numV; rw [if_pos h]
theorem numV_no {p : Int × Int} (h : ¬ p.2 = 0) : numV p = (nul, p.2) := by unfold numV; rw [if_neg h]
theorem fitE_in (x : Int) : In64 (fitE x).1 := by
  unfold fitE
  split
  · assumption
  · unfold In64; omega
theorem fits_n {n : Int} (h : In64 n) : (ofN n).2.2.size ≤ 100000 ∧ In64 (ofN n).2.1 := ⟨by show (⟨#[]⟩ : ByteArray).size ≤ 100000; decide, h⟩
theorem fits_0 : (nul : V3).2.2.size ≤ 100000 ∧ In64 (nul : V3).2.1 := ⟨by decide, by decide⟩
/-- Struct values of one number are alike, just if the numbers are. -/
theorem neq_same (k n : Int) (s : ByteArray) (w : World) : (binOp .neq 45 (.agg #[.int .i64 k, .int .i64 n, .string s]) (.agg #[.int .i64 k, .int .i64 n, .string s])).run Try.prog w = .ok (.bool false) w := by
  go_simp
  all_goals try simp
theorem eql_same (k n : Int) (s : ByteArray) (w : World) : (binOp .eql 45 (.agg #[.int .i64 k, .int .i64 n, .string s]) (.agg #[.int .i64 k, .int .i64 n, .string s])).run Try.prog w = .ok (.bool true) w := by
  go_simp
  all_goals try simp
end Go.Proofs.Ytoknfdgejiachaa

