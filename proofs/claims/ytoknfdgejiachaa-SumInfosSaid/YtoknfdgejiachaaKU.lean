import Derived.Test.YtoknfdgejiachaaKS
namespace Go.Proofs.Ytoknfdgejiachaa
open Go.RowKit Go.Shelf

theorem kn_ok {x : V3} (hc : checkV x.1 x.2.1 x.2.2 = 0) (hk : x.1 = 0 ∨ x.1 = 1) : knE x = knownI x.1 x.2.1 x.2.2 ∧ 0 ≤ knownI x.1 x.2.1 x.2.2 ∧ knownI x.1 x.2.1 x.2.2 ≤ 2 := by
  have h : 0 ≤ knownI x.1 x.2.1 x.2.2 ∧ knownI x.1 x.2.1 x.2.2 ≤ 2 := by
    unfold knownI
    rw [if_pos hc]
    rcases hk with hk | hk
    · rw [if_pos hk]; omega
    · rw [if_neg (by omega), if_pos hk]
      unfold checkV at hc
      by_cases h1 : 1000 < x.2.2.size
      · rw [if_pos h1] at hc; omega
      · rw [if_neg h1] at hc
        by_cases h2 : mayB x.1 x.2.1 x.2.2.toList.isEmpty = true
        · unfold mayB at h2
          rw [if_neg (by omega), if_pos hk] at h2
          simp at h2
          omega
        · rw [if_neg h2] at hc; omega
  exact ⟨by unfold knE; omega, h⟩
theorem and_eq {a b : Int} (ha : 0 ≤ a ∧ a ≤ 2) (hb : 0 ≤ b ∧ b ≤ 2) : bothI (bothI 1 a) b = bothI a b := by
  unfold bothI
  (repeat' split) <;> omega
theorem or_eq {a b : Int} (ha : 0 ≤ a ∧ a ≤ 2) (hb : 0 ≤ b ∧ b ≤ 2) : eitherI (eitherI 0 a) b = eitherI a b := by
  unfold eitherI bothI notI
  (repeat' split) <;> omega
/-- Where Do's way is walked: the values lie in memory and may be, and are of types that the operator takes. -/
structure WayAt (w : World) (B off : Nat) (o : Int) (l : List V3) : Prop where
  hc : CellsOf w (some ⟨B, off, none⟩) l
  hf : Fits l
  hg : GoodTo l l.length
  hb : ∀ x ∈ l, badT o x.1 = false
theorem do_1 (x y : V3) (B off cap : Nat) (w : World) (h : WayAt w B off 1 [x, y]) :
    Calls Try.prog 28 #[.agg #[.slice (some ⟨B, off, none⟩) 2 cap, .int .i64 1]] w fun r w' => r = endV (opE 1 x y) ∧ Below w.heap.size w w' := by
  by_cases hn : x.1 = 0 ∨ y.1 = 0
  · rw [show opE 1 x y = (nul, 0) by simp [opE, hn], endV_ok rfl]
    exact done_null 1 _ 2 cap (by decide) (by decide) (by decide) (by decide) w (Lib.hid (null_yes [x, y] _ cap (by simp) w h.hc (fun g => full_two.1 g hn)))
  · rw [show opE 1 x y = numV (wholeE 1 x.2.1 y.2.1) by simp [opE, hn]]
    refine done_plain 1 (numV (wholeE 1 x.2.1 y.2.1)) _ 2 cap 43 R_1 (by decide) (by decide) (by decide) (by decide) w (Lib.hid (null_no [x, y] _ cap (by simp) w h.hc (full_two.2 hn))) en_43 ix_1 fd_1 (fun w' hb => ?_)
    have hc' := cells_below h.hc hb
    have T1 := tells_first x [y] B off cap (by simp) w' hc'
    have T2 := tells_last2 x y B off cap w' hc'
    rw [endV_num]
    exact number_gen _ 2 cap 60 1 x.2.1 y.2.1 (wholeE 1 x.2.1 y.2.1) x.1 y.1 x.2.2 y.2.2 (fun A B => #[.pointer (some ⟨A, 0, none⟩), .pointer (some ⟨B, 0, none⟩)]) w' (Lib.hid T1) (Lib.hid T2) en_60 (Lib.hid fun A B w => numE_get1 A B w) (Lib.hid fun A B w ca cb => numC_1 A B x.2.1 y.2.1 (h.hf _ (List.mem_cons_self)).2 (h.hf _ (List.mem_cons_of_mem _ (List.mem_cons_self))).2 w ca cb)
theorem do_2 (x y : V3) (B off cap : Nat) (w : World) (h : WayAt w B off 2 [x, y]) :
    Calls Try.prog 28 #[.agg #[.slice (some ⟨B, off, none⟩) 2 cap, .int .i64 2]] w fun r w' => r = endV (opE 2 x y) ∧ Below w.heap.size w w' := by
  by_cases hn : x.1 = 0 ∨ y.1 = 0
  · rw [show opE 2 x y = (nul, 0) by simp [opE, hn], endV_ok rfl]
    exact done_null 2 _ 2 cap (by decide) (by decide) (by decide) (by decide) w (Lib.hid (null_yes [x, y] _ cap (by simp) w h.hc (fun g => full_two.1 g hn)))
  · rw [show opE 2 x y = numV (wholeE 2 x.2.1 y.2.1) by simp [opE, hn]]
    refine done_plain 2 (numV (wholeE 2 x.2.1 y.2.1)) _ 2 cap 43 R_2 (by decide) (by decide) (by decide) (by decide) w (Lib.hid (null_no [x, y] _ cap (by simp) w h.hc (full_two.2 hn))) en_43 ix_2 fd_2 (fun w' hb => ?_)
    have hc' := cells_below h.hc hb
    have T1 := tells_first x [y] B off cap (by simp) w' hc'
    have T2 := tells_last2 x y B off cap w' hc'
    rw [endV_num]
    exact number_gen _ 2 cap 62 2 x.2.1 y.2.1 (wholeE 2 x.2.1 y.2.1) x.1 y.1 x.2.2 y.2.2 (fun A B => #[.pointer (some ⟨A, 0, none⟩), .pointer (some ⟨B, 0, none⟩)]) w' (Lib.hid T1) (Lib.hid T2) en_62 (Lib.hid fun A B w => numE_get2 A B w) (Lib.hid fun A B w ca cb => numC_2 A B x.2.1 y.2.1 (h.hf _ (List.mem_cons_self)).2 (h.hf _ (List.mem_cons_of_mem _ (List.mem_cons_self))).2 w ca cb)
theorem do_3 (x y : V3) (B off cap : Nat) (w : World) (h : WayAt w B off 3 [x, y]) :
    Calls Try.prog 28 #[.agg #[.slice (some ⟨B, off, none⟩) 2 cap, .int .i64 3]] w fun r w' => r = endV (opE 3 x y) ∧ Below w.heap.size w w' := by
  by_cases hn : x.1 = 0 ∨ y.1 = 0
  · rw [show opE 3 x y = (nul, 0) by simp [opE, hn], endV_ok rfl]
    exact done_null 3 _ 2 cap (by decide) (by decide) (by decide) (by decide) w (Lib.hid (null_yes [x, y] _ cap (by simp) w h.hc (fun g => full_two.1 g hn)))
  · rw [show opE 3 x y = numV (wholeE 3 x.2.1 y.2.1) by simp [opE, hn]]
    refine done_plain 3 (numV (wholeE 3 x.2.1 y.2.1)) _ 2 cap 43 R_3 (by decide) (by decide) (by decide) (by decide) w (Lib.hid (null_no [x, y] _ cap (by simp) w h.hc (full_two.2 hn))) en_43 ix_3 fd_3 (fun w' hb => ?_)
    have hc' := cells_below h.hc hb
    have T1 := tells_first x [y] B off cap (by simp) w' hc'
    have T2 := tells_last2 x y B off cap w' hc'
    rw [endV_num]
    exact number_gen _ 2 cap 64 3 x.2.1 y.2.1 (wholeE 3 x.2.1 y.2.1) x.1 y.1 x.2.2 y.2.2 (fun A B => #[.pointer (some ⟨A, 0, none⟩), .pointer (some ⟨B, 0, none⟩)]) w' (Lib.hid T1) (Lib.hid T2) en_64 (Lib.hid fun A B w => numE_get3 A B w) (Lib.hid fun A B w ca cb => numC_3 A B x.2.1 y.2.1 (h.hf _ (List.mem_cons_self)).2 (h.hf _ (List.mem_cons_of_mem _ (List.mem_cons_self))).2 w ca cb)
theorem do_4 (x y : V3) (B off cap : Nat) (w : World) (h : WayAt w B off 4 [x, y]) :
    Calls Try.prog 28 #[.agg #[.slice (some ⟨B, off, none⟩) 2 cap, .int .i64 4]] w fun r w' => r = endV (opE 4 x y) ∧ Below w.heap.size w w' := by
  by_cases hn : x.1 = 0 ∨ y.1 = 0
  · rw [show opE 4 x y = (nul, 0) by simp [opE, hn], endV_ok rfl]
    exact done_null 4 _ 2 cap (by decide) (by decide) (by decide) (by decide) w (Lib.hid (null_yes [x, y] _ cap (by simp) w h.hc (fun g => full_two.1 g hn)))
  · rw [show opE 4 x y = numV (wholeE 4 x.2.1 y.2.1) by simp [opE, hn]]
    refine done_plain 4 (numV (wholeE 4 x.2.1 y.2.1)) _ 2 cap 43 R_4 (by decide) (by decide) (by decide) (by decide) w (Lib.hid (null_no [x, y] _ cap (by simp) w h.hc (full_two.2 hn))) en_43 ix_4 fd_4 (fun w' hb => ?_)
    have hc' := cells_below h.hc hb
    have T1 := tells_first x [y] B off cap (by simp) w' hc'
    have T2 := tells_last2 x y B off cap w' hc'
    rw [endV_num]
    exact number_gen _ 2 cap 66 4 x.2.1 y.2.1 (wholeE 4 x.2.1 y.2.1) x.1 y.1 x.2.2 y.2.2 (fun A B => #[.pointer (some ⟨A, 0, none⟩), .pointer (some ⟨B, 0, none⟩)]) w' (Lib.hid T1) (Lib.hid T2) en_66 (Lib.hid fun A B w => numE_get4 A B w) (Lib.hid fun A B w ca cb => numC_4 A B x.2.1 y.2.1 (h.hf _ (List.mem_cons_self)).2 (h.hf _ (List.mem_cons_of_mem _ (List.mem_cons_self))).2 w ca cb)
theorem do_5 (x y : V3) (B off cap : Nat) (w : World) (h : WayAt w B off 5 [x, y]) :
    Calls Try.prog 28 #[.agg #[.slice (some ⟨B, off, none⟩) 2 cap, .int .i64 5]] w fun r w' => r = endV (opE 5 x y) ∧ Below w.heap.size w w' := by
  by_cases hn : x.1 = 0 ∨ y.1 = 0
  · rw [show opE 5 x y = (nul, 0) by simp [opE, hn], endV_ok rfl]
    exact done_null 5 _ 2 cap (by decide) (by decide) (by decide) (by decide) w (Lib.hid (null_yes [x, y] _ cap (by simp) w h.hc (fun g => full_two.1 g hn)))
  · rw [show opE 5 x y = numV (wholeE 5 x.2.1 y.2.1) by simp [opE, hn]]
    refine done_plain 5 (numV (wholeE 5 x.2.1 y.2.1)) _ 2 cap 43 R_5 (by decide) (by decide) (by decide) (by decide) w (Lib.hid (null_no [x, y] _ cap (by simp) w h.hc (full_two.2 hn))) en_43 ix_5 fd_5 (fun w' hb => ?_)
    have hc' := cells_below h.hc hb
    have T1 := tells_first x [y] B off cap (by simp) w' hc'
    have T2 := tells_last2 x y B off cap w' hc'
    rw [endV_num]
    exact number_gen _ 2 cap 68 5 x.2.1 y.2.1 (wholeE 5 x.2.1 y.2.1) x.1 y.1 x.2.2 y.2.2 (fun A B => #[.pointer (some ⟨A, 0, none⟩), .pointer (some ⟨B, 0, none⟩)]) w' (Lib.hid T1) (Lib.hid T2) en_68 (Lib.hid fun A B w => numE_get5 A B w) (Lib.hid fun A B w ca cb => numC_5 A B x.2.1 y.2.1 (h.hf _ (List.mem_cons_self)).2 (h.hf _ (List.mem_cons_of_mem _ (List.mem_cons_self))).2 w ca cb)
theorem do_15 (x : V3) (B off cap : Nat) (w : World) (h : WayAt w B off 15 [x]) :
    Calls Try.prog 28 #[.agg #[.slice (some ⟨B, off, none⟩) 1 cap, .int .i64 15]] w fun r w' => r = endV (opE 15 x x) ∧ Below w.heap.size w w' := by
  by_cases hn : x.1 = 0
  · rw [show opE 15 x x = (nul, 0) by simp [opE, hn], endV_ok rfl]
    exact done_null 15 _ 1 cap (by decide) (by decide) (by decide) (by decide) w (Lib.hid (null_yes [x] _ cap (by simp) w h.hc (fun g => full_one.1 g hn)))
  · rw [show opE 15 x x = numV (wholeE 15 x.2.1 x.2.1) by simp [opE, hn]]
    refine done_plain 15 (numV (wholeE 15 x.2.1 x.2.1)) _ 1 cap 43 R_15 (by decide) (by decide) (by decide) (by decide) w (Lib.hid (null_no [x] _ cap (by simp) w h.hc (full_one.2 hn))) en_43 ix_15 fd_15 (fun w' hb => ?_)
    have hc' := cells_below h.hc hb
    have T1 := tells_first x [] B off cap (by simp) w' hc'
    have T2 := tells_last1 x B off cap w' hc'
    rw [endV_num]
    exact number_gen _ 1 cap 70 15 x.2.1 x.2.1 (wholeE 15 x.2.1 x.2.1) x.1 x.1 x.2.2 x.2.2 (fun A B => #[.pointer (some ⟨A, 0, none⟩)]) w' (Lib.hid T1) (Lib.hid T2) en_70 (Lib.hid fun A B w => numE_get15 A B w) (Lib.hid fun A B w ca cb => numC_15 A B x.2.1 x.2.1 (h.hf _ (List.mem_cons_self)).2 (h.hf _ (List.mem_cons_self)).2 w ca cb)
theorem do_20 (x : V3) (B off cap : Nat) (w : World) (h : WayAt w B off 20 [x]) :
    Calls Try.prog 28 #[.agg #[.slice (some ⟨B, off, none⟩) 1 cap, .int .i64 20]] w fun r w' => r = endV (opE 20 x x) ∧ Below w.heap.size w w' := by
  by_cases hn : x.1 = 0
  · rw [show opE 20 x x = (nul, 0) by simp [opE, hn], endV_ok rfl]
    exact done_null 20 _ 1 cap (by decide) (by decide) (by decide) (by decide) w (Lib.hid (null_yes [x] _ cap (by simp) w h.hc (fun g => full_one.1 g hn)))
  · rw [show opE 20 x x = numV (wholeE 20 x.2.1 x.2.1) by simp [opE, hn]]
    refine done_plain 20 (numV (wholeE 20 x.2.1 x.2.1)) _ 1 cap 43 R_20 (by decide) (by decide) (by decide) (by decide) w (Lib.hid (null_no [x] _ cap (by simp) w h.hc (full_one.2 hn))) en_43 ix_20 fd_20 (fun w' hb => ?_)
    have hc' := cells_below h.hc hb
    have T1 := tells_first x [] B off cap (by simp) w' hc'
    have T2 := tells_last1 x B off cap w' hc'
    rw [endV_num]
    exact number_gen _ 1 cap 71 20 x.2.1 x.2.1 (wholeE 20 x.2.1 x.2.1) x.1 x.1 x.2.2 x.2.2 (fun A B => #[.pointer (some ⟨A, 0, none⟩)]) w' (Lib.hid T1) (Lib.hid T2) en_71 (Lib.hid fun A B w => numE_get20 A B w) (Lib.hid fun A B w ca cb => numC_20 A B x.2.1 x.2.1 (h.hf _ (List.mem_cons_self)).2 (h.hf _ (List.mem_cons_self)).2 w ca cb)
theorem do_7 (x y : V3) (B off cap : Nat) (w : World) (h : WayAt w B off 7 [x, y]) :
    Calls Try.prog 28 #[.agg #[.slice (some ⟨B, off, none⟩) 2 cap, .int .i64 7]] w fun r w' => r = endV (opE 7 x y) ∧ Below w.heap.size w w' := by
  by_cases hn : x.1 = 0 ∨ y.1 = 0
  · rw [show opE 7 x y = (nul, 0) by simp [opE, hn], endV_ok rfl]
    exact done_null 7 _ 2 cap (by decide) (by decide) (by decide) (by decide) w (Lib.hid (null_yes [x, y] _ cap (by simp) w h.hc (fun g => full_two.1 g hn)))
  · rw [show opE 7 x y = (boolV (truthE 7 (ordV x.1 x.2.1 y.1 y.2.1 x.2.2 y.2.2)), 0) by simp [opE, hn]]
    refine done_plain 7 ((boolV (truthE 7 (ordV x.1 x.2.1 y.1 y.2.1 x.2.2 y.2.2)), 0)) _ 2 cap 45 R_7 (by decide) (by decide) (by decide) (by decide) w (Lib.hid (null_no [x, y] _ cap (by simp) w h.hc (full_two.2 hn))) en_45 ix_7 fd_7 (fun w' hb => ?_)
    have hc' := cells_below h.hc hb
    have T1 := tells_first x [y] B off cap (by simp) w' hc'
    have T2 := tells_last2 x y B off cap w' hc'
    rw [endV_ok rfl]
    exact order_gen _ 2 cap 74 7 (ordV x.1 x.2.1 y.1 y.2.1 x.2.2 y.2.2) (truthE 7 (ordV x.1 x.2.1 y.1 y.2.1 x.2.2 y.2.2)) x y w' (Lib.hid T1) (Lib.hid T2) (Lib.hid rfl) en_74 (Lib.hid fun A w => ordE_get7 A w) (Lib.hid fun A w ca => ordC_7 A _ w ca)
theorem do_8 (x y : V3) (B off cap : Nat) (w : World) (h : WayAt w B off 8 [x, y]) :
    Calls Try.prog 28 #[.agg #[.slice (some ⟨B, off, none⟩) 2 cap, .int .i64 8]] w fun r w' => r = endV (opE 8 x y) ∧ Below w.heap.size w w' := by
  by_cases hn : x.1 = 0 ∨ y.1 = 0
  · rw [show opE 8 x y = (nul, 0) by simp [opE, hn], endV_ok rfl]
    exact done_null 8 _ 2 cap (by decide) (by decide) (by decide) (by decide) w (Lib.hid (null_yes [x, y] _ cap (by simp) w h.hc (fun g => full_two.1 g hn)))
  · rw [show opE 8 x y = (boolV (truthE 8 (ordV x.1 x.2.1 y.1 y.2.1 x.2.2 y.2.2)), 0) by simp [opE, hn]]
    refine done_plain 8 ((boolV (truthE 8 (ordV x.1 x.2.1 y.1 y.2.1 x.2.2 y.2.2)), 0)) _ 2 cap 45 R_8 (by decide) (by decide) (by decide) (by decide) w (Lib.hid (null_no [x, y] _ cap (by simp) w h.hc (full_two.2 hn))) en_45 ix_8 fd_8 (fun w' hb => ?_)
    have hc' := cells_below h.hc hb
    have T1 := tells_first x [y] B off cap (by simp) w' hc'
    have T2 := tells_last2 x y B off cap w' hc'
    rw [endV_ok rfl]
    exact order_gen _ 2 cap 75 8 (ordV x.1 x.2.1 y.1 y.2.1 x.2.2 y.2.2) (truthE 8 (ordV x.1 x.2.1 y.1 y.2.1 x.2.2 y.2.2)) x y w' (Lib.hid T1) (Lib.hid T2) (Lib.hid rfl) en_75 (Lib.hid fun A w => ordE_get8 A w) (Lib.hid fun A w ca => ordC_8 A _ w ca)
theorem do_9 (x y : V3) (B off cap : Nat) (w : World) (h : WayAt w B off 9 [x, y]) :
    Calls Try.prog 28 #[.agg #[.slice (some ⟨B, off, none⟩) 2 cap, .int .i64 9]] w fun r w' => r = endV (opE 9 x y) ∧ Below w.heap.size w w' := by
  by_cases hn : x.1 = 0 ∨ y.1 = 0
  · rw [show opE 9 x y = (nul, 0) by simp [opE, hn], endV_ok rfl]
    exact done_null 9 _ 2 cap (by decide) (by decide) (by decide) (by decide) w (Lib.hid (null_yes [x, y] _ cap (by simp) w h.hc (fun g => full_two.1 g hn)))
  · rw [show opE 9 x y = (boolV (truthE 9 (ordV x.1 x.2.1 y.1 y.2.1 x.2.2 y.2.2)), 0) by simp [opE, hn]]
    refine done_plain 9 ((boolV (truthE 9 (ordV x.1 x.2.1 y.1 y.2.1 x.2.2 y.2.2)), 0)) _ 2 cap 45 R_9 (by decide) (by decide) (by decide) (by decide) w (Lib.hid (null_no [x, y] _ cap (by simp) w h.hc (full_two.2 hn))) en_45 ix_9 fd_9 (fun w' hb => ?_)
    have hc' := cells_below h.hc hb
    have T1 := tells_first x [y] B off cap (by simp) w' hc'
    have T2 := tells_last2 x y B off cap w' hc'
    rw [endV_ok rfl]
    exact order_gen _ 2 cap 76 9 (ordV x.1 x.2.1 y.1 y.2.1 x.2.2 y.2.2) (truthE 9 (ordV x.1 x.2.1 y.1 y.2.1 x.2.2 y.2.2)) x y w' (Lib.hid T1) (Lib.hid T2) (Lib.hid rfl) en_76 (Lib.hid fun A w => ordE_get9 A w) (Lib.hid fun A w ca => ordC_9 A _ w ca)
theorem do_10 (x y : V3) (B off cap : Nat) (w : World) (h : WayAt w B off 10 [x, y]) :
    Calls Try.prog 28 #[.agg #[.slice (some ⟨B, off, none⟩) 2 cap, .int .i64 10]] w fun r w' => r = endV (opE 10 x y) ∧ Below w.heap.size w w' := by
  by_cases hn : x.1 = 0 ∨ y.1 = 0
  · rw [show opE 10 x y = (nul, 0) by simp [opE, hn], endV_ok rfl]
    exact done_null 10 _ 2 cap (by decide) (by decide) (by decide) (by decide) w (Lib.hid (null_yes [x, y] _ cap (by simp) w h.hc (fun g => full_two.1 g hn)))
  · rw [show opE 10 x y = (boolV (truthE 10 (ordV x.1 x.2.1 y.1 y.2.1 x.2.2 y.2.2)), 0) by simp [opE, hn]]
    refine done_plain 10 ((boolV (truthE 10 (ordV x.1 x.2.1 y.1 y.2.1 x.2.2 y.2.2)), 0)) _ 2 cap 45 R_10 (by decide) (by decide) (by decide) (by decide) w (Lib.hid (null_no [x, y] _ cap (by simp) w h.hc (full_two.2 hn))) en_45 ix_10 fd_10 (fun w' hb => ?_)
    have hc' := cells_below h.hc hb
    have T1 := tells_first x [y] B off cap (by simp) w' hc'
    have T2 := tells_last2 x y B off cap w' hc'
    rw [endV_ok rfl]
    exact order_gen _ 2 cap 77 10 (ordV x.1 x.2.1 y.1 y.2.1 x.2.2 y.2.2) (truthE 10 (ordV x.1 x.2.1 y.1 y.2.1 x.2.2 y.2.2)) x y w' (Lib.hid T1) (Lib.hid T2) (Lib.hid rfl) en_77 (Lib.hid fun A w => ordE_get10 A w) (Lib.hid fun A w ca => ordC_10 A _ w ca)
theorem do_11 (x y : V3) (B off cap : Nat) (w : World) (h : WayAt w B off 11 [x, y]) :
    Calls Try.prog 28 #[.agg #[.slice (some ⟨B, off, none⟩) 2 cap, .int .i64 11]] w fun r w' => r = endV (opE 11 x y) ∧ Below w.heap.size w w' := by
  by_cases hn : x.1 = 0 ∨ y.1 = 0
  · rw [show opE 11 x y = (nul, 0) by simp [opE, hn], endV_ok rfl]
    exact done_null 11 _ 2 cap (by decide) (by decide) (by decide) (by decide) w (Lib.hid (null_yes [x, y] _ cap (by simp) w h.hc (fun g => full_two.1 g hn)))
  · rw [show opE 11 x y = (boolV (truthE 11 (ordV x.1 x.2.1 y.1 y.2.1 x.2.2 y.2.2)), 0) by simp [opE, hn]]
    refine done_plain 11 ((boolV (truthE 11 (ordV x.1 x.2.1 y.1 y.2.1 x.2.2 y.2.2)), 0)) _ 2 cap 45 R_11 (by decide) (by decide) (by decide) (by decide) w (Lib.hid (null_no [x, y] _ cap (by simp) w h.hc (full_two.2 hn))) en_45 ix_11 fd_11 (fun w' hb => ?_)
    have hc' := cells_below h.hc hb
    have T1 := tells_first x [y] B off cap (by simp) w' hc'
    have T2 := tells_last2 x y B off cap w' hc'
    rw [endV_ok rfl]
    exact order_gen _ 2 cap 78 11 (ordV x.1 x.2.1 y.1 y.2.1 x.2.2 y.2.2) (truthE 11 (ordV x.1 x.2.1 y.1 y.2.1 x.2.2 y.2.2)) x y w' (Lib.hid T1) (Lib.hid T2) (Lib.hid rfl) en_78 (Lib.hid fun A w => ordE_get11 A w) (Lib.hid fun A w ca => ordC_11 A _ w ca)
theorem do_12 (x y : V3) (B off cap : Nat) (w : World) (h : WayAt w B off 12 [x, y]) :
    Calls Try.prog 28 #[.agg #[.slice (some ⟨B, off, none⟩) 2 cap, .int .i64 12]] w fun r w' => r = endV (opE 12 x y) ∧ Below w.heap.size w w' := by
  by_cases hn : x.1 = 0 ∨ y.1 = 0
  · rw [show opE 12 x y = (nul, 0) by simp [opE, hn], endV_ok rfl]
    exact done_null 12 _ 2 cap (by decide) (by decide) (by decide) (by decide) w (Lib.hid (null_yes [x, y] _ cap (by simp) w h.hc (fun g => full_two.1 g hn)))
  · rw [show opE 12 x y = (boolV (truthE 12 (ordV x.1 x.2.1 y.1 y.2.1 x.2.2 y.2.2)), 0) by simp [opE, hn]]
    refine done_plain 12 ((boolV (truthE 12 (ordV x.1 x.2.1 y.1 y.2.1 x.2.2 y.2.2)), 0)) _ 2 cap 45 R_12 (by decide) (by decide) (by decide) (by decide) w (Lib.hid (null_no [x, y] _ cap (by simp) w h.hc (full_two.2 hn))) en_45 ix_12 fd_12 (fun w' hb => ?_)
    have hc' := cells_below h.hc hb
    have T1 := tells_first x [y] B off cap (by simp) w' hc'
    have T2 := tells_last2 x y B off cap w' hc'
    rw [endV_ok rfl]
    exact order_gen _ 2 cap 79 12 (ordV x.1 x.2.1 y.1 y.2.1 x.2.2 y.2.2) (truthE 12 (ordV x.1 x.2.1 y.1 y.2.1 x.2.2 y.2.2)) x y w' (Lib.hid T1) (Lib.hid T2) (Lib.hid rfl) en_79 (Lib.hid fun A w => ordE_get12 A w) (Lib.hid fun A w ca => ordC_12 A _ w ca)
theorem do_6 (x y : V3) (B off cap : Nat) (w : World) (h : WayAt w B off 6 [x, y]) :
    Calls Try.prog 28 #[.agg #[.slice (some ⟨B, off, none⟩) 2 cap, .int .i64 6]] w fun r w' => r = endV (opE 6 x y) ∧ Below w.heap.size w w' := by
  by_cases hn : x.1 = 0 ∨ y.1 = 0
  · rw [show opE 6 x y = (nul, 0) by simp [opE, hn], endV_ok rfl]
    exact done_null 6 _ 2 cap (by decide) (by decide) (by decide) (by decide) w (Lib.hid (null_yes [x, y] _ cap (by simp) w h.hc (fun g => full_two.1 g hn)))
  · rw [show opE 6 x y = (if 1000 < x.2.2.size + y.2.2.size then (nul, 3) else ((x.1, 0, x.2.2 ++ y.2.2), 0)) by simp [opE, hn]]
    refine done_plain 6 ((if 1000 < x.2.2.size + y.2.2.size then (nul, 3) else ((x.1, 0, x.2.2 ++ y.2.2), 0))) _ 2 cap 44 R_6 (by decide) (by decide) (by decide) (by decide) w (Lib.hid (null_no [x, y] _ cap (by simp) w h.hc (full_two.2 hn))) en_44 ix_6 fd_6 (fun w' hb => ?_)
    have hc' := cells_below h.hc hb
    have T1 := tells_first x [y] B off cap (by simp) w' hc'
    have T2 := tells_last2 x y B off cap w' hc'
    have f1 := (h.hf _ (List.mem_cons_self)).1
    have f2 := (h.hf _ (List.mem_cons_of_mem _ (List.mem_cons_self))).1
    by_cases hz : 1000 < x.2.2.size + y.2.2.size
    · rw [if_pos hz, endV_no (by decide)]
      exact joined_no _ 2 cap 6 x.1 x.2.1 y.1 y.2.1 x.2.2 y.2.2 f1 f2 (by omega) w' (Lib.hid T1) (Lib.hid T2)
    · rw [if_neg hz, endV_ok rfl]
      exact joined_ok _ 2 cap 6 x.1 x.2.1 y.1 y.2.1 x.2.2 y.2.2 f1 f2 (by omega) w' (Lib.hid T1) (Lib.hid T2)
theorem do_19 (x : V3) (B off cap : Nat) (w : World) (h : WayAt w B off 19 [x]) :
    Calls Try.prog 28 #[.agg #[.slice (some ⟨B, off, none⟩) 1 cap, .int .i64 19]] w fun r w' => r = endV (opE 19 x x) ∧ Below w.heap.size w w' := by
  by_cases hn : x.1 = 0
  · rw [show opE 19 x x = (nul, 0) by simp [opE, hn], endV_ok rfl]
    exact done_null 19 _ 1 cap (by decide) (by decide) (by decide) (by decide) w (Lib.hid (null_yes [x] _ cap (by simp) w h.hc (fun g => full_one.1 g hn)))
  · rw [show opE 19 x x = ((2, (x.2.2.size : Int), ⟨#[]⟩), 0) by simp [opE, hn]]
    refine done_plain 19 (((2, (x.2.2.size : Int), ⟨#[]⟩), 0)) _ 1 cap 48 R_19 (by decide) (by decide) (by decide) (by decide) w (Lib.hid (null_no [x] _ cap (by simp) w h.hc (full_one.2 hn))) en_48 ix_19 fd_19 (fun w' hb => ?_)
    have hc' := cells_below h.hc hb
    have T1 := tells_first x [] B off cap (by simp) w' hc'
    have T2 := tells_last1 x B off cap w' hc'
    rw [endV_ok rfl]
    exact length_any _ 1 cap 19 x.1 x.2.1 x.2.2 (h.hf _ (List.mem_cons_self)).1 w' (Lib.hid T1)
theorem do_16 (x : V3) (B off cap : Nat) (w : World) (h : WayAt w B off 16 [x]) :
    Calls Try.prog 28 #[.agg #[.slice (some ⟨B, off, none⟩) 1 cap, .int .i64 16]] w fun r w' => r = endV (opE 16 x x) ∧ Below w.heap.size w w' := by
  by_cases hn : x.1 = 0
  · rw [show opE 16 x x = (nul, 0) by simp [opE, hn], endV_ok rfl]
    exact done_null 16 _ 1 cap (by decide) (by decide) (by decide) (by decide) w (Lib.hid (null_yes [x] _ cap (by simp) w h.hc (fun g => full_one.1 g hn)))
  · rw [show opE 16 x x = (ofV (notI (knownI x.1 x.2.1 x.2.2)), 0) by simp [opE, hn]]
    refine done_plain 16 ((ofV (notI (knownI x.1 x.2.1 x.2.2)), 0)) _ 1 cap 46 R_16 (by decide) (by decide) (by decide) (by decide) w (Lib.hid (null_no [x] _ cap (by simp) w h.hc (full_one.2 hn))) en_46 ix_16 fd_16 (fun w' hb => ?_)
    have hc' := cells_below h.hc hb
    have T1 := tells_first x [] B off cap (by simp) w' hc'
    have T2 := tells_last1 x B off cap w' hc'
    have k := kn_ok (x := x) (h.hg 0 (by simp)) (by have := h.hb x (by simp); simp [badT, ofE] at this; omega)
    rw [endV_ok rfl, ← k.1]
    exact truth_gen _ 1 cap 86 16 (notI (knE x)) [knE x] w' (Lib.hid (truths_tell [x] _ cap (by simp) w' hc')) en_86 (Lib.hid fun A w => truE_get16 A w) (Lib.hid fun A t w ca hI => truC_16 A t (knE x) w ca hI)
theorem do_13 (x y : V3) (B off cap : Nat) (w : World) (h : WayAt w B off 13 [x, y]) :
    Calls Try.prog 28 #[.agg #[.slice (some ⟨B, off, none⟩) 2 cap, .int .i64 13]] w fun r w' => r = endV (opE 13 x y) ∧ Below w.heap.size w w' := by
  have k1 := kn_ok (x := x) (h.hg 0 (by simp)) (by have := h.hb x (by simp); simp [badT, ofE] at this; omega)
  have k2 := kn_ok (x := y) (h.hg 1 (by simp)) (by have := h.hb y (by simp); simp [badT, ofE] at this; omega)
  rw [show opE 13 x y = (ofV (bothI (knownI x.1 x.2.1 x.2.2) (knownI y.1 y.2.1 y.2.2)), 0) by simp [opE], endV_ok rfl]
  have e : bothI (knownI x.1 x.2.1 x.2.2) (knownI y.1 y.2.1 y.2.2) = bothI (bothI 1 (knE x)) (knE y) := by rw [k1.1, k2.1]; exact (and_eq k1.2 k2.2).symm
  rw [e]
  refine done_s13 (ofV (bothI (bothI 1 (knE x)) (knE y))) _ 2 cap 46 R_13 w en_46 ix_13 fd_13 (Lib.hid fun w' hb => ?_)
  exact truth_gen _ 2 cap 82 13 (bothI (bothI 1 (knE x)) (knE y)) [knE x, knE y] w' (Lib.hid (truths_tell [x, y] _ cap (by simp) w' (cells_below h.hc hb))) en_82 (Lib.hid fun A w => truE_get13 A w) (Lib.hid fun A t w ca hI => truC_13 A t (knE x) (knE y) w ca hI)
theorem do_14 (x y : V3) (B off cap : Nat) (w : World) (h : WayAt w B off 14 [x, y]) :
    Calls Try.prog 28 #[.agg #[.slice (some ⟨B, off, none⟩) 2 cap, .int .i64 14]] w fun r w' => r = endV (opE 14 x y) ∧ Below w.heap.size w w' := by
  have k1 := kn_ok (x := x) (h.hg 0 (by simp)) (by have := h.hb x (by simp); simp [badT, ofE] at this; omega)
  have k2 := kn_ok (x := y) (h.hg 1 (by simp)) (by have := h.hb y (by simp); simp [badT, ofE] at this; omega)
  rw [show opE 14 x y = (ofV (eitherI (knownI x.1 x.2.1 x.2.2) (knownI y.1 y.2.1 y.2.2)), 0) by simp [opE], endV_ok rfl]
  have e : eitherI (knownI x.1 x.2.1 x.2.2) (knownI y.1 y.2.1 y.2.2) = eitherI (eitherI 0 (knE x)) (knE y) := by rw [k1.1, k2.1]; exact (or_eq k1.2 k2.2).symm
  rw [e]
  refine done_s14 (ofV (eitherI (eitherI 0 (knE x)) (knE y))) _ 2 cap 46 R_14 w en_46 ix_14 fd_14 (Lib.hid fun w' hb => ?_)
  exact truth_gen _ 2 cap 84 14 (eitherI (eitherI 0 (knE x)) (knE y)) [knE x, knE y] w' (Lib.hid (truths_tell [x, y] _ cap (by simp) w' (cells_below h.hc hb))) en_84 (Lib.hid fun A w => truE_get14 A w) (Lib.hid fun A t w ca hI => truC_14 A t (knE x) (knE y) w ca hI)
theorem do_17 (x : V3) (B off cap : Nat) (w : World) (h : WayAt w B off 17 [x]) :
    Calls Try.prog 28 #[.agg #[.slice (some ⟨B, off, none⟩) 1 cap, .int .i64 17]] w fun r w' => r = endV (opE 17 x x) ∧ Below w.heap.size w w' := by
  rw [show opE 17 x x = (boolV (decide (x.1 = 0) == decide ((17 : Int) = 17)), 0) by simp [opE], endV_ok rfl]
  refine done_s17 (boolV (decide (x.1 = 0) == decide ((17 : Int) = 17))) _ 1 cap 47 R_17 w en_47 ix_17 fd_17 (Lib.hid fun w' hb => ?_)
  refine lack_any _ 1 cap 17 (decide (x.1 = 0)) w' (Lib.hid ?_)
  by_cases hn : x.1 = 0
  · rw [show decide (x.1 = 0) = true by simpa using hn]
    exact null_yes [x] _ cap (by simp) w' (cells_below h.hc hb) (fun g => full_one.1 g hn)
  · rw [show decide (x.1 = 0) = false by simpa using hn]
    exact null_no [x] _ cap (by simp) w' (cells_below h.hc hb) (full_one.2 hn)
theorem do_18 (x : V3) (B off cap : Nat) (w : World) (h : WayAt w B off 18 [x]) :
    Calls Try.prog 28 #[.agg #[.slice (some ⟨B, off, none⟩) 1 cap, .int .i64 18]] w fun r w' => r = endV (opE 18 x x) ∧ Below w.heap.size w w' := by
  rw [show opE 18 x x = (boolV (decide (x.1 = 0) == decide ((18 : Int) = 17)), 0) by simp [opE], endV_ok rfl]
  refine done_s18 (boolV (decide (x.1 = 0) == decide ((18 : Int) = 17))) _ 1 cap 47 R_18 w en_47 ix_18 fd_18 (Lib.hid fun w' hb => ?_)
  refine lack_any _ 1 cap 18 (decide (x.1 = 0)) w' (Lib.hid ?_)
  by_cases hn : x.1 = 0
  · rw [show decide (x.1 = 0) = true by simpa using hn]
    exact null_yes [x] _ cap (by simp) w' (cells_below h.hc hb) (fun g => full_one.1 g hn)
  · rw [show decide (x.1 = 0) = false by simpa using hn]
    exact null_no [x] _ cap (by simp) w' (cells_below h.hc hb) (full_one.2 hn)
theorem done_any (o : Int) (l : List V3) (p : Option Addr) (cap : Nat) (w : World) (hc : CellsOf w p l) (hf : Fits l) (hg : GoodTo l l.length) (hm : (makesE o (l.map (·.1))).2 = 0) :
    Calls Try.prog 28 #[.agg #[.slice p l.length cap, .int .i64 o]] w fun r w' => r = endV (opE o (l.headD nul) (l.getLastD nul)) ∧ Below w.heap.size w w' := by
  obtain ⟨ho, hn, _, hbt, _, _⟩ := makes_ok hm
  rw [List.length_map] at hn
  have hb : ∀ x ∈ l, badT o x.1 = false := by
    intro x hx
    rw [List.any_eq_false] at hbt
    simpa using hbt x.1 (List.mem_map_of_mem hx)
  by_cases h14 : o ≤ 14
  · have h2 : manyE o = 2 := by unfold manyE; rw [if_pos h14]
    rw [h2] at hn
    obtain ⟨x, y, rfl⟩ : ∃ x y, l = [x, y] := two_list hn
    obtain ⟨B, off, rfl, _⟩ := hc 0 (by simp)
    rcases (show o = 1 ∨ o = 2 ∨ o = 3 ∨ o = 4 ∨ o = 5 ∨ o = 6 ∨ o = 7 ∨ o = 8 ∨ o = 9 ∨ o = 10 ∨ o = 11 ∨ o = 12 ∨ o = 13 ∨ o = 14 by omega) with rfl | rfl | rfl | rfl | rfl | rfl | rfl | rfl | rfl | rfl | rfl | rfl | rfl | rfl
    · exact do_1 x y B off cap w ⟨hc, hf, hg, hb⟩
    · exact do_2 x y B off cap w ⟨hc, hf, hg, hb⟩
    · exact do_3 x y B off cap w ⟨hc, hf, hg, hb⟩
    · exact do_4 x y B off cap w ⟨hc, hf, hg, hb⟩
    · exact do_5 x y B off cap w ⟨hc, hf, hg, hb⟩
    · exact do_6 x y B off cap w ⟨hc, hf, hg, hb⟩
    · exact do_7 x y B off cap w ⟨hc, hf, hg, hb⟩
    · exact do_8 x y B off cap w ⟨hc, hf, hg, hb⟩
    · exact do_9 x y B off cap w ⟨hc, hf, hg, hb⟩
    · exact do_10 x y B off cap w ⟨hc, hf, hg, hb⟩
    · exact do_11 x y B off cap w ⟨hc, hf, hg, hb⟩
    · exact do_12 x y B off cap w ⟨hc, hf, hg, hb⟩
    · exact do_13 x y B off cap w ⟨hc, hf, hg, hb⟩
    · exact do_14 x y B off cap w ⟨hc, hf, hg, hb⟩
  · have h1 : manyE o = 1 := by unfold manyE; rw [if_neg h14]
    rw [h1] at hn
    obtain ⟨x, rfl⟩ : ∃ x, l = [x] := one_list hn
    obtain ⟨B, off, rfl, _⟩ := hc 0 (by simp)
    rcases (show o = 15 ∨ o = 16 ∨ o = 17 ∨ o = 18 ∨ o = 19 ∨ o = 20 by omega) with rfl | rfl | rfl | rfl | rfl | rfl
    · exact do_15 x B off cap w ⟨hc, hf, hg, hb⟩
    · exact do_16 x B off cap w ⟨hc, hf, hg, hb⟩
    · exact do_17 x B off cap w ⟨hc, hf, hg, hb⟩
    · exact do_18 x B off cap w ⟨hc, hf, hg, hb⟩
    · exact do_19 x B off cap w ⟨hc, hf, hg, hb⟩
    · exact do_20 x B off cap w ⟨hc, hf, hg, hb⟩
end Go.Proofs.Ytoknfdgejiachaa
