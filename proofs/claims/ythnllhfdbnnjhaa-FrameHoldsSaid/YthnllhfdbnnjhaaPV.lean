/- One bit turned over is seen: bytes that differ at one place from a head's, from a frame's, are none's. -/
import Derived.Test.YthnllhfdbnnjhaaPU
namespace Go.Proofs.Ythnllhfdbnnjhaa
open Go.RowKit Go.Shelf

theorem sumN_eq (l : List Nat) : ~~~ sumN l = sumE (l.map (BitVec.ofNat 8)) := by
  unfold sumN sumE
  rw [List.foldl_map]
theorem sum_flip (l : List Nat) (i v : Nat) (hi : i < l.length) (hb : l.getD i 0 < 256) (hv : v < 256) (hne : v ≠ l.getD i 0) : (~~~ sumN l).toNat ≠ (~~~ sumN (l.set i v)).toNat := by
  intro h
  have h1 := BitVec.eq_of_toNat_eq h
  rw [sumN_eq, sumN_eq] at h1
  have e1 : l = l.take i ++ l.getD i 0 :: l.drop (i + 1) := by
    rw [List.getD_eq_getElem?_getD, List.getElem?_eq_getElem hi]
    simp
  have e2 : l.set i v = l.take i ++ v :: l.drop (i + 1) := by rw [List.set_eq_take_append_cons_drop, if_pos hi]
  rw [e2] at h1
  conv at h1 => lhs; rw [e1]
  simp only [List.map_append, List.map_cons] at h1
  refine sum_unlike _ _ _ _ ?_ h1
  intro e
  have e3 := congrArg BitVec.toNat e
  simp only [BitVec.toNat_ofNat] at e3
  omega
theorem xor_bit : ∀ (b : Fin 256) (r : Fin 8), bits .xor .u8 (b.val : Int) ((2 : Int) ^ r.val % 256) = ((b.val ^^^ 2 ^ r.val : Nat) : Int) ∧ b.val ^^^ 2 ^ r.val < 256 ∧ b.val ^^^ 2 ^ r.val ≠ b.val := by decide +kernel
theorem bytesAt_set {w : World} {g : Nat} {l : List Nat} (h : BytesAt w (some ⟨g, 0, none⟩) l) (i v : Nat) (hi : i < l.length) : BytesAt (w.setCell ⟨g, i, none⟩ (.int .u8 v)) (some ⟨g, 0, none⟩) (l.set i v) := by
  intro j hj
  rw [List.length_set] at hj
  refine ⟨g, 0, rfl, ?_⟩
  obtain ⟨B, off, e, c⟩ := h j hj
  injection e with e
  injection e with e1 e2
  subst e1 e2
  by_cases hij : i = j
  · subst hij
    rw [Nat.zero_add] at c ⊢
    rw [World.cell?_setCell_same _ _ _ c]
    simp [List.getD_eq_getElem?_getD, List.getElem?_set, hi]
  · rw [World.cell?_setCell_other _ _ _ _ (by simp <;> omega), c]
    simp [List.getD_eq_getElem?_getD, List.getElem?_set, hij]
theorem getD_set_ne {l : List Nat} {j v : Nat} (hj : j < l.length) : (l.set j v).getD j 0 = v := by simp [List.getD_eq_getElem?_getD, hj]
theorem getD_part {T : List Nat} {a b j : Nat} (h1 : a ≤ j) (h2 : j < a + b) : ((T.drop a).take b).getD (j - a) 0 = T.getD j 0 := by
  simp only [List.getD_eq_getElem?_getD, List.getElem?_take, List.getElem?_drop]
  rw [if_pos (by omega), show a + (j - a) = j by omega]
theorem flip_head {S E n c j v : Nat} (hj : j < 64) (hne : v ≠ (headL S E n c).getD j 0) : isHead ((headL S E n c).set j v) = false := by
  have l1 := headL_length S E n c
  obtain ⟨c1, c2⟩ := headL_copy S E n c
  cases hh : isHead ((headL S E n c).set j v) with
  | false => rfl
  | true =>
    exfalso
    apply hne
    have hv := getD_set_ne (v := v) (l := headL S E n c) (j := j) (by omega)
    generalize hT : (headL S E n c).set j v = T at *
    simp only [isHead, Bool.and_eq_true, decide_eq_true_eq] at hh
    obtain ⟨⟨-, -⟩, h3⟩ := hh
    obtain ⟨e1, e2⟩ := headL_copy (hS T) (hE T) (hN T) (hC T)
    rw [h3] at e1 e2
    have hC : headC (hS T) (hE T) (hN T) (hC T) = headC S E n c := by
      rcases Nat.lt_or_ge j 28 with hm | hm
      · rw [← e2, ← c2, ← hT, List.drop_set_of_lt hm]
      · rw [← e1, ← c1, ← hT, List.take_set_of_le hm]
    have := headL_of hC
    rw [h3] at this
    rw [← hv, this]
theorem frameS_form (E i p : Nat) (cm : Bool) (n k : Nat) (bs : List Nat) : (frameS E i p cm n k bs).take 25 = frameB E i p cm n k ∧ ((frameS E i p cm n k bs).drop 25).take 4 = fixE 4 (~~~ sumN (frameB E i p cm n k ++ bs)).toNat ∧ ((frameS E i p cm n k bs).drop 29).take 35 = List.replicate 35 0 := by
  have h1 := frameB_length E i p cm n k
  have h2 := frameC_length E i p cm n k bs
  have h3 : (fixE 4 (~~~ sumN (frameB E i p cm n k ++ bs)).toNat).length = 4 := fixE_length _ _
  have e : frameS E i p cm n k bs = frameB E i p cm n k ++ (fixE 4 (~~~ sumN (frameB E i p cm n k ++ bs)).toNat ++ List.replicate 35 0) := by
    unfold frameS padL
    rw [h2]
    unfold frameC
    rw [List.append_assoc]
  rw [e]
  generalize frameB E i p cm n k = lb at *
  generalize fixE 4 (~~~ sumN (lb ++ bs)).toNat = lf at *
  refine ⟨?_, ?_, ?_⟩
  · rw [List.take_append_of_le_length (by omega), List.take_of_length_le (by omega)]
  · rw [List.drop_append_of_le_length (by omega), List.drop_of_length_le (by omega), List.nil_append, List.take_append_of_le_length (by omega), List.take_of_length_le (by omega)]
  · rw [← List.append_assoc, List.drop_append_of_le_length (by rw [List.length_append]; omega), List.drop_of_length_le (show (lb ++ lf).length ≤ 29 by rw [List.length_append]; omega), List.nil_append, List.take_of_length_le (by simp)]
theorem fix4_inj {a b : Nat} (ha : a < 4294967296) (hb : b < 4294967296) (h : fixE 4 a = fixE 4 b) : a = b := by
  have := congrArg foldN h
  rwa [foldN_fix _ _ (by omega), foldN_fix _ _ (by omega)] at this
theorem flip_frame {E i p n k j v : Nat} {cm : Bool} {bs : List Nat} (hbl : bs.length = 512) (hbb : ∀ b ∈ bs, b < 256) (hj : j < 576) (hv2 : v < 256) (hne : v ≠ (frameL E i p cm n k bs).getD j 0) : isFrame ((frameL E i p cm n k bs).set j v) = false := by
  have l1 := frameS_length E i p cm n k bs
  have l2 := frameB_length E i p cm n k
  have b2 := frameB_byte E i p cm n k
  obtain ⟨f1, f2, f3⟩ := frameS_form E i p cm n k bs
  cases hh : isFrame ((frameL E i p cm n k bs).set j v) with
  | false => rfl
  | true =>
    exfalso
    have hL : frameL E i p cm n k bs = frameS E i p cm n k bs ++ bs := rfl
    have hLl : (frameL E i p cm n k bs).length = 576 := by rw [hL, List.length_append]; omega
    have L25 : (frameL E i p cm n k bs).take 25 = frameB E i p cm n k := by rw [hL, List.take_append_of_le_length (by omega), f1]
    have L29 : ((frameL E i p cm n k bs).drop 25).take 4 = fixE 4 (~~~ sumN (frameB E i p cm n k ++ bs)).toNat := by rw [hL, List.drop_append_of_le_length (by omega), List.take_append_of_le_length (by rw [List.length_drop]; omega), f2]
    have L64 : ((frameL E i p cm n k bs).drop 29).take 35 = List.replicate 35 0 := by rw [hL, List.drop_append_of_le_length (by omega), List.take_append_of_le_length (by rw [List.length_drop]; omega), f3]
    have LD : (frameL E i p cm n k bs).drop 64 = bs := by rw [hL, List.drop_append_of_le_length (by omega), List.drop_of_length_le (by omega), List.nil_append]
    clear hL f1 f2 f3 l1
    have hv := getD_set_ne (v := v) (l := frameL E i p cm n k bs) (j := j) (by omega)
    generalize frameL E i p cm n k bs = L at *
    generalize frameB E i p cm n k = lb at *
    generalize hT : L.set j v = T at *
    simp only [isFrame, Bool.and_eq_true, decide_eq_true_eq] at hh
    obtain ⟨⟨hTl, -⟩, h3⟩ := hh
    obtain ⟨g1, g2, g3⟩ := frameS_form (fE T) (fI T) (fP T) (fM T) (fN T) (fK T) (T.drop 64)
    have lq := frameB_length (fE T) (fI T) (fP T) (fM T) (fN T) (fK T)
    rw [h3] at g1 g2 g3
    rw [List.take_take] at g1
    rw [List.drop_take, List.take_take] at g2 g3
    simp only [Nat.reduceSub, Nat.reduceLeDiff, Nat.min_eq_left, Nat.min_self] at g1 g2 g3
    generalize frameB (fE T) (fI T) (fP T) (fM T) (fN T) (fK T) = lb' at *
    have sl : (~~~ sumN (lb ++ bs)).toNat < 4294967296 := sumNot_lt _
    have sl' : (~~~ sumN (lb' ++ T.drop 64)).toNat < 4294967296 := sumNot_lt _
    have hbyte : ∀ q, (lb ++ bs).getD q 0 < 256 := fun q => by
      rw [List.getD_eq_getElem?_getD]
      cases hq : (lb ++ bs)[q]? with
      | none => simp
      | some x =>
        rcases List.mem_append.1 (List.mem_of_getElem? hq) with h | h
        · exact b2 x h
        · exact hbb x h
    rcases Nat.lt_or_ge j 25 with hm | hm
    · have e1 : T.drop 64 = bs := by rw [← hT, List.drop_set_of_lt (by omega), LD]
      have e2 : lb' = lb.set j v := by rw [← g1, ← L25, ← hT, List.take_set]
      have e3 : (T.drop 25).take 4 = (L.drop 25).take 4 := by rw [← hT, List.drop_set_of_lt (by omega)]
      rw [g2, L29] at e3
      have e4 := fix4_inj sl' sl e3
      rw [e1, e2] at e4
      refine sum_flip (lb ++ bs) j v (by rw [List.length_append]; omega) (hbyte j) hv2 ?_ ?_
      · intro e
        apply hne
        rw [e, ← L25, List.getD_eq_getElem?_getD, List.getElem?_append_left (by rw [List.length_take]; omega), List.getElem?_take, if_pos hm, List.getD_eq_getElem?_getD]
      · rw [List.set_append_left _ _ (by omega)]
        exact e4.symm
    · have e2 : lb' = lb := by rw [← g1, ← L25, ← hT, List.take_set_of_le hm]
      rcases Nat.lt_or_ge j 64 with hm2 | hm2
      · have e1 : T.drop 64 = bs := by rw [← hT, List.drop_set_of_lt (by omega), LD]
        rw [e1, e2] at g2
        rcases Nat.lt_or_ge j 29 with hm3 | hm3
        · apply hne
          rw [← hv, ← getD_part (T := T) (a := 25) (b := 4) hm (by omega), g2, ← L29, getD_part hm (by omega)]
        · apply hne
          rw [← hv, ← getD_part (T := T) (a := 29) (b := 35) hm3 (by omega), g3, ← L64, getD_part hm3 (by omega)]
      · have e1 : T.drop 64 = bs.set (j - 64) v := by rw [← hT, List.drop_set, if_neg (by omega), LD]
        have e3 : (T.drop 25).take 4 = (L.drop 25).take 4 := by rw [← hT, List.drop_set, if_neg (by omega), List.take_set_of_le (by omega)]
        rw [g2, L29] at e3
        have e4 := fix4_inj sl' sl e3
        rw [e1, e2] at e4
        refine sum_flip (lb ++ bs) (25 + (j - 64)) v (by rw [List.length_append]; omega) (hbyte _) hv2 ?_ ?_
        · intro e
          apply hne
          rw [e, List.getD_eq_getElem?_getD, List.getElem?_append_right (by omega), ← LD, List.getElem?_drop, List.getD_eq_getElem?_getD]
          congr 2
          omega
        · rw [List.set_append_right _ _ (by omega), show 25 + (j - 64) - lb.length = j - 64 by omega]
          exact e4.symm
end Go.Proofs.Ythnllhfdbnnjhaa
