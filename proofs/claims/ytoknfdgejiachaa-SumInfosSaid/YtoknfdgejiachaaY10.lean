import Derived.Test.YtoknfdgejiachaaY9A
import Derived.Test.YtoknfdgejiachaaY9B
import Derived.Test.YtoknfdgejiachaaY9C
import Derived.Test.YtoknfdgejiachaaY9D
import Derived.Test.YtoknfdgejiachaaY9E
import Derived.Test.YtoknfdgejiachaaY9F
namespace Go.Proofs.Ytoknfdgejiachaa
open Go.RowKit Go.Shelf

theorem eq_f {o k : Int} (h : o ≠ k) : (o == k) = false := by simpa using h
theorem eq_t {o k : Int} (h : o = k) : (o == k) = true := by simpa using h
/-- Which strings and numbers values may hold here: strings that fit, numbers of 64 bits. -/
def Fits (l : List V3) : Prop := ∀ x ∈ l, x.2.2.size ≤ 100000 ∧ In64 x.2.1
theorem any_one (x : V3) : ([x].any fun v => v.1 == 0) = (x.1 == 0) := by simp
theorem any_two (x y : V3) : ([x, y].any fun v => v.1 == 0) = (x.1 == 0 || y.1 == 0) := by simp
theorem two_list {l : List V3} (h : l.length = 2) : ∃ x y, l = [x, y] := by
  match l, h with
  | [x, y], _ => exact ⟨x, y, rfl⟩
theorem one_list {l : List V3} (h : l.length = 1) : ∃ x, l = [x] := by
  match l, h with
  | [x], _ => exact ⟨x, rfl⟩
theorem getD_mem {l : List V3} {i : Nat} (h : i < l.length) : l.getD i nul ∈ l := by
  simp [List.getD_eq_getElem?_getD, h]

theorem refDo_any (o : Int) (l : List V3) (v : Value) (w : World) (h : Vals w v l) (hf : Fits l) :
    Calls Try.prog 15 #[.int .i64 o, v] w fun r w' => r = .returned (.tuple #[val (doE o l).1, .int .i64 (doE o l).2]) ∧ Below w.heap.size w w' := by
  obtain ⟨p, cap, rfl, hl, hc⟩ := h
  by_cases hb : ∃ i, i < l.length ∧ checkV (l.getD i nul).1 (l.getD i nul).2.1 (l.getD i nul).2.2 ≠ 0
  · exact refDo_bad o l p cap w hl (Lib.hid hc) (Lib.hid hb)
  have hg : ∀ i, i < l.length → checkV (l.getD i nul).1 (l.getD i nul).2.1 (l.getD i nul).2.2 = 0 := fun i hi => Classical.byContradiction fun e => hb ⟨i, hi, e⟩
  have hany : l.any (fun v => decide (checkV v.1 v.2.1 v.2.2 ≠ 0)) = false := by
    rw [List.any_eq_false]
    intro x hx
    obtain ⟨i, hi, rfl⟩ := List.getElem_of_mem hx
    have := hg i hi
    rw [List.getD_eq_getElem?_getD, List.getElem?_eq_getElem hi] at this
    simpa using this
  have e0 : doE o l = if (makesE o (l.map (·.1))).2 ≠ 0 then (nul, (makesE o (l.map (·.1))).2) else opE o (l.headD nul) (l.getLastD nul) := by
    unfold doE
    rw [hany]
    rfl
  by_cases hm : (makesE o (l.map (·.1))).2 ≠ 0
  · rw [e0, if_pos hm]
    exact refDo_err o l p cap w hl (Lib.hid hc) (Lib.hid hg) (Lib.hid (by simpa using hm))
  rw [e0, if_neg hm]
  have hm : (makesE o (l.map (·.1))).2 = 0 := by omega
  obtain ⟨ho, hn, _, hbt, hsm, _⟩ := makes_ok hm
  rw [List.length_map] at hn
  by_cases h14 : o ≤ 14
  · have h2 : manyE o = 2 := by unfold manyE; rw [if_pos h14]
    rw [h2] at hn
    obtain ⟨x, y, rfl⟩ : ∃ x y, l = [x, y] := two_list hn
    · skip
      obtain ⟨xk, xn, xs⟩ := x
      obtain ⟨yk, yn, ys⟩ := y
      obtain ⟨sx, ix⟩ := hf _ (List.mem_cons_self)
      obtain ⟨sy, iy⟩ := hf _ (List.mem_cons_of_mem _ (List.mem_cons_self))
      simp only at sx ix sy iy
      show Calls Try.prog 15 #[.int .i64 o, .slice p [(xk, xn, xs), (yk, yn, ys)].length cap] w fun r w' => r = .returned (.tuple #[val (opE o (xk, xn, xs) (yk, yn, ys)).1, .int .i64 (opE o (xk, xn, xs) (yk, yn, ys)).2]) ∧ Below w.heap.size w w'
      unfold opE
      simp only
      by_cases h13 : o = 13
      · rw [if_pos h13]
        exact refDo_13 o xk xn yk yn xs ys _ p cap w hl (Lib.hid hc) (Lib.hid hg) (Lib.hid rfl) (Lib.hid hm) (eq_t h13)
      rw [if_neg h13]
      by_cases h14' : o = 14
      · rw [if_pos h14']
        exact refDo_14 o xk xn yk yn xs ys _ p cap w hl (Lib.hid hc) (Lib.hid hg) (Lib.hid rfl) (Lib.hid hm) (eq_f h13) (eq_t h14')
      rw [if_neg h14', if_neg (show ¬ (o = 17 ∨ o = 18) by omega)]
      have z17 : (o == 17) = false := eq_f (by omega)
      have z18 : (o == 18) = false := eq_f (by omega)
      have z16 : (o == 16) = false := eq_f (by omega)
      have z19 : (o == 19) = false := eq_f (by omega)
      by_cases hnul : xk = 0 ∨ yk = 0
      · rw [if_pos hnul]
        exact refDo_nul2 o xk xn yk yn xs ys _ p cap w hl (Lib.hid hc) (Lib.hid hg) (Lib.hid rfl) (Lib.hid hm) (eq_f h13) (eq_f h14') z17 z18 (Lib.hid (by rw [any_two]; simpa using hnul))
      have hsome : ([(xk, xn, xs), (yk, yn, ys)].any fun v => v.1 == 0) = false := by rw [any_two]; simpa using hnul
      rw [if_neg hnul, if_neg (show ¬ o = 16 by omega)]
      by_cases h6 : o = 6
      · rw [if_pos h6]
        by_cases hs : 1000 < xs.size + ys.size
        · rw [if_pos hs]
          exact refDo_catl o xk xn yk yn xs ys _ p cap w hl (Lib.hid hc) (Lib.hid hg) (Lib.hid rfl) (Lib.hid hm) (eq_f h13) (eq_f h14') z17 z18 z16 (eq_t h6) (Lib.hid hsome) sx sy hs
        · rw [if_neg hs]
          exact refDo_cat o xk xn yk yn xs ys _ p cap w hl (Lib.hid hc) (Lib.hid hg) (Lib.hid rfl) (Lib.hid hm) (eq_f h13) (eq_f h14') z17 z18 z16 (eq_t h6) (Lib.hid hsome) sx sy (by omega)
      rw [if_neg h6, if_neg (show ¬ o = 19 by omega)]
      by_cases hcmp : 7 ≤ o ∧ o ≤ 12
      · rw [if_pos hcmp]
        exact refDo_cmp o xk xn yk yn xs ys _ p cap w hl (Lib.hid hc) (Lib.hid hg) (Lib.hid rfl) (Lib.hid hm) (eq_f h13) (eq_f h14') z17 z18 z16 (eq_f h6) z19 hcmp.1 hcmp.2 (Lib.hid hsome)
      rw [if_neg hcmp]
      have ho7 : o < 7 := by omega
      unfold numV
      by_cases he : (wholeE o xn yn).2 = 0
      · rw [if_pos he]
        exact refDo_num2l o xk xn yk yn xs ys _ p cap w hl (Lib.hid hc) (Lib.hid hg) (Lib.hid rfl) (Lib.hid hm) (eq_f h13) (eq_f h14') z17 z18 z16 (eq_f h6) z19 ho7 (Lib.hid ix) (Lib.hid iy) (Lib.hid hsome) (Lib.hid (bne_f he))
      · rw [if_neg he]
        exact refDo_numx2l o xk xn yk yn xs ys _ p cap w hl (Lib.hid hc) (Lib.hid hg) (Lib.hid rfl) (Lib.hid hm) (eq_f h13) (eq_f h14') z17 z18 z16 (eq_f h6) z19 ho7 (Lib.hid ix) (Lib.hid iy) (Lib.hid hsome) (Lib.hid (bne_t he))
  · have h1 : manyE o = 1 := by unfold manyE; rw [if_neg h14]
    rw [h1] at hn
    obtain ⟨x, rfl⟩ : ∃ x, l = [x] := one_list hn
    · skip
      obtain ⟨xk, xn, xs⟩ := x
      obtain ⟨sx, ix⟩ := hf _ (List.mem_cons_self)
      simp only at sx ix
      show Calls Try.prog 15 #[.int .i64 o, .slice p [(xk, xn, xs)].length cap] w fun r w' => r = .returned (.tuple #[val (opE o (xk, xn, xs) (xk, xn, xs)).1, .int .i64 (opE o (xk, xn, xs) (xk, xn, xs)).2]) ∧ Below w.heap.size w w'
      unfold opE
      simp only
      have z13 : (o == 13) = false := eq_f (by omega)
      have z14 : (o == 14) = false := eq_f (by omega)
      have z6 : (o == 6) = false := eq_f (by omega)
      rw [if_neg (show ¬ o = 13 by omega), if_neg (show ¬ o = 14 by omega)]
      by_cases h17 : o = 17
      · rw [if_pos (Or.inl h17)]
        have e : (decide (xk = 0) == decide (o = 17)) = (xk == 0) := by simp [h17]; rfl
        rw [e]
        exact refDo_17 o xk xn xs _ p cap w hl (Lib.hid hc) (Lib.hid hg) (Lib.hid rfl) (Lib.hid hm) z13 z14 (eq_t h17)
      by_cases h18 : o = 18
      · rw [if_pos (Or.inr h18)]
        have e : (decide (xk = 0) == decide (o = 17)) = (!(xk == 0)) := by
          rw [h18]
          by_cases hx : xk = 0 <;> simp [hx]
        rw [e]
        exact refDo_18 o xk xn xs _ p cap w hl (Lib.hid hc) (Lib.hid hg) (Lib.hid rfl) (Lib.hid hm) z13 z14 (eq_f h17) (eq_t h18)
      rw [if_neg (show ¬ (o = 17 ∨ o = 18) by omega)]
      by_cases hnul : xk = 0
      · rw [if_pos (Or.inl hnul)]
        exact refDo_nul1 o xk xn xs _ p cap w hl (Lib.hid hc) (Lib.hid hg) (Lib.hid rfl) (Lib.hid hm) z13 z14 (eq_f h17) (eq_f h18) (Lib.hid (by rw [any_one]; simpa using hnul))
      have hsome : ([(xk, xn, xs)].any fun v => v.1 == 0) = false := by rw [any_one]; simpa using hnul
      rw [if_neg (show ¬ (xk = 0 ∨ xk = 0) by omega)]
      by_cases h16 : o = 16
      · rw [if_pos h16]
        exact refDo_not o xk xn xs _ p cap w hl (Lib.hid hc) (Lib.hid hg) (Lib.hid rfl) (Lib.hid hm) z13 z14 (eq_f h17) (eq_f h18) (eq_t h16) (Lib.hid hsome)
      rw [if_neg h16, if_neg (show ¬ o = 6 by omega)]
      by_cases h19 : o = 19
      · rw [if_pos h19]
        exact refDo_len o xk xn xs _ p cap w hl (Lib.hid hc) (Lib.hid hg) (Lib.hid rfl) (Lib.hid hm) z13 z14 (eq_f h17) (eq_f h18) (eq_f h16) z6 (eq_t h19) (Lib.hid hsome) sx
      rw [if_neg h19, if_neg (show ¬ (7 ≤ o ∧ o ≤ 12) by omega)]
      have ho12 : 12 < o := by omega
      unfold numV
      by_cases he : (wholeE o xn xn).2 = 0
      · rw [if_pos he]
        exact refDo_num1h o xk xn xs _ p cap w hl (Lib.hid hc) (Lib.hid hg) (Lib.hid rfl) (Lib.hid hm) z13 z14 (eq_f h17) (eq_f h18) (eq_f h16) z6 (eq_f h19) ho12 (Lib.hid ix) (Lib.hid ix) (Lib.hid hsome) (Lib.hid (bne_f he))
      · rw [if_neg he]
        exact refDo_numx1h o xk xn xs _ p cap w hl (Lib.hid hc) (Lib.hid hg) (Lib.hid rfl) (Lib.hid hm) z13 z14 (eq_f h17) (eq_f h18) (eq_f h16) z6 (eq_f h19) ho12 (Lib.hid ix) (Lib.hid ix) (Lib.hid hsome) (Lib.hid (bne_t he))
end Go.Proofs.Ytoknfdgejiachaa

