import Derived.Test.YtoknfdgejiachaaU2
namespace Go.Proofs.Ytoknfdgejiachaa
open Go.RowKit Go.Shelf

theorem numV_fits (p : Int × Int) (h : In64 p.1) : (numV p).1.2.2.size ≤ 100000 ∧ In64 (numV p).1.2.1 := by
  unfold numV
  split
  · exact fits_n h
  · exact fits_0
theorem whole_in (o a b : Int) (ha : In64 a) (hb : In64 b) : In64 (wholeE o a b).1 := by
  unfold wholeE
  repeat' split
  all_goals first
    | exact fitE_in _
    | (unfold In64; omega)
    | exact (quo_back a b (by assumption) ha).2
/-- SumUndoes' walk: for any two numbers of 64 bits, while package sum answers as its bundle says. -/
theorem undoes_any {Bs : World → Prop} (S : SumOk Bs) (m n : Int) (w : World) (hw : Bs w) (hm : In64 m) (hn : In64 n) :
    Calls Try.prog 6 #[.int .i64 m, .int .i64 n] w fun r w' => r = .returned (.bool true) ∧ Below w.heap.size w w' := by
  have D1 := do_nn 1 m n (by omega) (by omega)
  have D4 := do_nn 4 m n (by omega) (by omega)
  have D5 := do_nn 5 m n (by omega) (by omega)
  have f1 := numV_fits _ (whole_in 1 m n hm hn)
  -- the quotient
  have HQ : ∃ qv rv qe re, doE 4 [ofN m, ofN n] = (qv, qe) ∧ doE 5 [ofN m, ofN n] = (rv, re) ∧
      ((n = 0 ∧ qe = 121 ∧ re = 121) ∨ ((n == 0) = false ∧ n = -1 ∧ qe = 122) ∨ ((n == 0) = false ∧ qe = 0 ∧ re = 0 ∧ ∃ q r p, qv = ofN q ∧ rv = ofN r ∧ In64 q ∧ In64 r ∧ In64 p ∧ doE 3 [ofN q, ofN n] = (ofN p, 0) ∧ doE 1 [ofN p, ofN r] = (ofN m, 0))) := by
    rw [D4, D5]
    by_cases h0 : n = 0
    · subst h0
      exact ⟨nul, nul, 121, 121, rfl, rfl, .inl ⟨rfl, rfl, rfl⟩⟩
    have b0 : (n == 0) = false := by simpa using h0
    by_cases hq : (wholeE 4 m n).2 = 0
    · obtain ⟨u1, u2, u3⟩ := undo_quo m n hm h0 hq
      rw [numV_ok hq, numV_ok u1]
      refine ⟨_, _, _, _, rfl, rfl, .inr (.inr ⟨b0, rfl, rfl, (wholeE 4 m n).1, (wholeE 5 m n).1, (wholeE 3 (wholeE 4 m n).1 n).1, rfl, rfl, whole_in 4 m n hm hn, whole_in 5 m n hm hn, whole_in 3 _ n (whole_in 4 m n hm hn) hn, ?_, ?_⟩)⟩
      · rw [do_nn 3 _ _ (by omega) (by omega), numV_ok u2]
      · rw [do_nn 1 _ _ (by omega) (by omega), u3]
        rfl
    · obtain ⟨u1, u2⟩ := over_quo m n hm h0 hq
      rw [numV_no hq]
      exact ⟨_, (numV (wholeE 5 m n)).1, _, (numV (wholeE 5 m n)).2, rfl, rfl, .inr (.inl ⟨b0, u2, u1⟩)⟩
  obtain ⟨qv, rv, qe, re, d4, d5, hq⟩ := HQ
  by_cases h1 : (wholeE 1 m n).2 = 0
  · have e1 := numV_ok h1
    rw [e1] at D1
    have D2 : doE 2 [ofN (wholeE 1 m n).1, ofN n] = (ofN m, 0) := by
      rw [do_nn 2 _ _ (by omega) (by omega), undo_sum m n hm h1]
      rfl
    exact undoes_of S m n 0 (ofN (wholeE 1 m n).1) (ofN m) w hw hm hn (Lib.hid D1) (Lib.hid D2) (fits_n (whole_in 1 m n hm hn)) (Lib.hid (.inl ⟨rfl, rfl⟩)) qv rv qe re (Lib.hid d4) (Lib.hid d5) (Lib.hid hq)
  · have e1 := numV_no h1
    rw [e1] at D1
    exact undoes_of S m n _ nul nul w hw hm hn (Lib.hid D1) (Lib.hid (do_0n 2 n (by omega) (by omega))) fits_0 (Lib.hid (.inr (by simpa using h1))) qv rv qe re (Lib.hid d4) (Lib.hid d5) (Lib.hid hq)
end Go.Proofs.Ytoknfdgejiachaa

