/- Plain facts on the order of values, on truths and on literals, of which ValueHolds' and ValueTexts' walks make use. No condition. -/
import Derived.Test.YtcngoffmkbobhaaGreatDoorQ
import Derived.Test.YtcngoffmkbobhaaGreatDoorT16
import Derived.Sort.Walk0
namespace Go.Proofs.YtcngoffmkbobhaaGreatDoor
open Go.RowKit

theorem cmpI_flip (a b : Int) : cmpI b a = -cmpI a b := by unfold cmpI; (repeat split) <;> omega
theorem cmpI_range (a b : Int) : cmpI a b = -1 ∨ cmpI a b = 0 ∨ cmpI a b = 1 := by
  unfold cmpI
  split
  · simp
  · split <;> simp
theorem cmpI_zero (a b : Int) : cmpI a b = 0 ↔ a = b := by unfold cmpI; (repeat split) <;> omega
theorem cmpI_less (a b : Int) : cmpI a b = -1 ↔ a < b := by unfold cmpI; (repeat split) <;> omega

theorem lt_total (x y : List UInt8) : x < y ∨ x = y ∨ y < x := by
  rcases Classical.em (x < y) with h | h
  · exact .inl h
  rcases Classical.em (y < x) with h' | h'
  · exact .inr (.inr h')
  exact .inr (.inl (List.le_antisymm (List.not_lt.1 h') (List.not_lt.1 h)))
theorem cmpS_eq (a b : ByteArray) : cmpS a b = if a.toList < b.toList then -1 else if a.toList = b.toList then 0 else 1 := by
  unfold cmpS
  rw [bytesLess_eq]
  by_cases h : a.toList < b.toList
  · simp [h]
  · by_cases h' : a.toList = b.toList
    · simp [h', h]
    · simp [h', h]
theorem cmpS_flip (a b : ByteArray) : cmpS b a = -cmpS a b := by
  rw [cmpS_eq, cmpS_eq]
  rcases lt_total a.toList b.toList with h | h | h
  · have h1 : ¬ b.toList < a.toList := List.lt_asymm h
    have h2 : ¬ b.toList = a.toList := fun e => by rw [e] at h; exact List.lt_irrefl _ h
    simp [h, h1, h2]
  · simp [h, List.lt_irrefl]
  · have h1 : ¬ a.toList < b.toList := List.lt_asymm h
    have h2 : ¬ a.toList = b.toList := fun e => by rw [e] at h; exact List.lt_irrefl _ h
    simp [h, h1, h2]
theorem cmpS_range (a b : ByteArray) : cmpS a b = -1 ∨ cmpS a b = 0 ∨ cmpS a b = 1 := by
  rw [cmpS_eq]
  split
  · simp
  · split <;> simp
theorem toList_inj {a b : ByteArray} (h : a.toList = b.toList) : a = b := by
  rw [ByteArray.toList_eq, ByteArray.toList_eq] at h
  exact Go.WideShapes.bytes_inj h
theorem cmpS_zero (a b : ByteArray) : cmpS a b = 0 ↔ a = b := by
  rw [cmpS_eq]
  constructor
  · intro h
    by_cases h1 : a.toList < b.toList
    · simp [h1] at h
    · by_cases h2 : a.toList = b.toList
      · exact toList_inj h2
      · simp [h1, h2] at h
  · rintro rfl
    simp [List.lt_irrefl]
theorem cmpS_less (a b : ByteArray) : cmpS a b = -1 ↔ a.toList < b.toList := by
  rw [cmpS_eq]
  by_cases h1 : a.toList < b.toList
  · simp [h1]
  · by_cases h2 : a.toList = b.toList <;> simp [h1, h2]

theorem ordV_eq (k1 n1 k2 n2 : Int) (s1 s2 : ByteArray) : ordV k1 n1 k2 n2 s1 s2 = if cmpI k1 k2 ≠ 0 then cmpI k1 k2 else if cmpI n1 n2 ≠ 0 then cmpI n1 n2 else cmpS s1 s2 := by
  unfold ordV orL
  split
  · rfl
  · unfold orL
    split
    · rfl
    · unfold orL
      split
      · rfl
      · unfold orL; omega
theorem ordV_flip (k1 n1 k2 n2 : Int) (s1 s2 : ByteArray) : ordV k2 n2 k1 n1 s2 s1 = -ordV k1 n1 k2 n2 s1 s2 := by
  rw [ordV_eq, ordV_eq, cmpI_flip k1 k2, cmpI_flip n1 n2, cmpS_flip s1 s2]
  (repeat split) <;> omega
theorem ordV_range (k1 n1 k2 n2 : Int) (s1 s2 : ByteArray) : ordV k1 n1 k2 n2 s1 s2 = -1 ∨ ordV k1 n1 k2 n2 s1 s2 = 0 ∨ ordV k1 n1 k2 n2 s1 s2 = 1 := by
  rw [ordV_eq]
  split
  · exact cmpI_range _ _
  · split
    · exact cmpI_range _ _
    · exact cmpS_range _ _
theorem ordV_zero (k1 n1 k2 n2 : Int) (s1 s2 : ByteArray) : ordV k1 n1 k2 n2 s1 s2 = 0 ↔ k1 = k2 ∧ n1 = n2 ∧ s1 = s2 := by
  rw [ordV_eq]
  have hk := cmpI_zero k1 k2
  have hn := cmpI_zero n1 n2
  have hs := cmpS_zero s1 s2
  split
  · exact ⟨fun h => absurd h ‹_›, fun h => hk.2 h.1⟩
  · split
    · exact ⟨fun h => absurd h ‹_›, fun h => hn.2 h.2.1⟩
    · exact ⟨fun h => ⟨hk.1 (by omega), hn.1 (by omega), hs.1 h⟩, fun h => hs.2 h.2.2⟩
theorem ordV_less (k1 n1 k2 n2 : Int) (s1 s2 : ByteArray) : ordV k1 n1 k2 n2 s1 s2 = -1 ↔ k1 < k2 ∨ (k1 = k2 ∧ (n1 < n2 ∨ (n1 = n2 ∧ s1.toList < s2.toList))) := by
  rw [ordV_eq]
  have hk := cmpI_zero k1 k2
  have hn := cmpI_zero n1 n2
  have hk' := cmpI_less k1 k2
  have hn' := cmpI_less n1 n2
  have hs := cmpS_less s1 s2
  split
  · rw [hk']
    omega
  · have ek := hk.1 (by omega)
    split
    · rw [hn']
      omega
    · have en := hn.1 (by omega)
      rw [hs]
      exact ⟨fun h => .inr ⟨ek, .inr ⟨en, h⟩⟩, fun h => by rcases h with h | ⟨_, h | ⟨_, h⟩⟩ <;> first | exact h | omega⟩
/-- Of values that rise, or are the same, the last is no less than the first. -/
theorem ordV_trans (k1 n1 k2 n2 k3 n3 : Int) (s1 s2 s3 : ByteArray) : ¬ (ordV k1 n1 k2 n2 s1 s2 ≤ 0 ∧ ordV k2 n2 k3 n3 s2 s3 ≤ 0 ∧ 0 < ordV k1 n1 k3 n3 s1 s3) := by
  rintro ⟨h1, h2, h3⟩
  have a1 : ordV k1 n1 k2 n2 s1 s2 = -1 ∨ ordV k1 n1 k2 n2 s1 s2 = 0 := by rcases ordV_range k1 n1 k2 n2 s1 s2 with h | h | h <;> omega
  have a2 : ordV k2 n2 k3 n3 s2 s3 = -1 ∨ ordV k2 n2 k3 n3 s2 s3 = 0 := by rcases ordV_range k2 n2 k3 n3 s2 s3 with h | h | h <;> omega
  have a3 : ¬ (ordV k1 n1 k3 n3 s1 s3 = -1 ∨ ordV k1 n1 k3 n3 s1 s3 = 0) := by omega
  rw [ordV_less, ordV_zero] at a1 a2 a3
  apply a3
  rcases a1 with a1 | ⟨rfl, rfl, rfl⟩
  · rcases a2 with a2 | ⟨rfl, rfl, rfl⟩
    · left
      rcases a1 with b1 | ⟨rfl, b1⟩
      · rcases a2 with b2 | ⟨rfl, b2⟩ <;> (left; omega)
      · rcases a2 with b2 | ⟨rfl, b2⟩
        · left; omega
        · right
          refine ⟨rfl, ?_⟩
          rcases b1 with c1 | ⟨rfl, c1⟩
          · rcases b2 with c2 | ⟨rfl, c2⟩ <;> (left; omega)
          · rcases b2 with c2 | ⟨rfl, c2⟩
            · left; omega
            · exact .inr ⟨rfl, List.lt_trans c1 c2⟩
    · exact .inl a1
  · exact a2

theorem truth_both (a b : Int) : eitherI (eitherI 0 (notI a)) (notI b) = notI (bothI (bothI 1 a) b) := by
  unfold eitherI bothI notI
  (repeat split) <;> omega
theorem truth_not (a : Int) : notI (notI a) = bothI 1 a := by
  unfold bothI notI
  (repeat split) <;> omega

theorem suf (m : List UInt8) : Lib.hasSuffix (m ++ [39]) [39] = true := by
  unfold Lib.hasSuffix
  rw [List.isSuffixOf_iff_suffix]
  exact ⟨m, rfl⟩
theorem trim_suf (m : List UInt8) : Lib.trimSuffix (m ++ [39]) [39] = m := by
  unfold Lib.trimSuffix
  rw [if_pos (suf m)]
  simp
theorem trim_one (m : List UInt8) : Lib.trimPrefix (39 :: m) [39] = m := by
  unfold Lib.trimPrefix Lib.hasPrefix
  simp [List.isPrefixOf]
theorem trim_two (m : List UInt8) : Lib.trimPrefix (120 :: 39 :: m) [120, 39] = m := by
  unfold Lib.trimPrefix Lib.hasPrefix
  simp [List.isPrefixOf]
theorem parse_text (m : List UInt8) : parseE (39 :: (m ++ [39])) = if qs m false = true then if (Lib.replaceAll m [39, 39] [39]).length ≤ 1000 then (0, 3, 0, Lib.replaceAll m [39, 39] [39]) else (3, 0, 0, []) else (110, 0, 0, []) := by
  unfold parseE
  rw [if_neg (by simp), if_neg (by simp), if_neg (by simp), if_pos (by simp [Lib.hasPrefix, List.isPrefixOf])]
  rw [trim_one, if_pos (suf m), trim_suf]
theorem parse_blob (m : List UInt8) : parseE (120 :: 39 :: (m ++ [39])) = if m.length % 2 = 0 then (match unhex m with | some u => if u.length ≤ 1000 then ((0, 4, 0, u) : Int × Int × Int × List UInt8) else (3, 0, 0, []) | none => (110, 0, 0, [])) else (110, 0, 0, []) := by
  unfold parseE
  rw [if_neg (by simp), if_neg (by simp), if_neg (by simp), if_neg (by simp [Lib.hasPrefix, List.isPrefixOf]), if_pos (by simp [Lib.hasPrefix, List.isPrefixOf])]
  rw [trim_two, if_pos (suf m), trim_suf]
  rfl
theorem hexL_even : ∀ l : List UInt8, (hexL l).length % 2 = 0
  | [] => rfl
  | c :: l => by
    have e : hexL (c :: l) = (dg (c.toNat / 16)).toUInt8 :: (dg (c.toNat % 16)).toUInt8 :: hexL l := rfl
    have := hexL_even l
    rw [e]
    simp only [List.length_cons]
    omega
theorem parse_num (n : Int) (h0 : -9223372036854775808 ≤ n) (h1 : n ≤ 9223372036854775807) : parseE (Lib.itoa n) = (0, 2, n, []) := by
  obtain ⟨c, r, e, hc⟩ := itoa_head n
  have hp := parse_itoa n h0 h1
  unfold parseE
  have g : ∀ x : UInt8, ¬ (x = 45 ∨ (48 ≤ x.toNat ∧ x.toNat ≤ 57)) → c ≠ x := fun x hx hcx => hx (hcx ▸ hc)
  have g1 : c ≠ 110 := g 110 (by decide)
  have g2 : c ≠ 102 := g 102 (by decide)
  have g3 : c ≠ 116 := g 116 (by decide)
  have g4 : ¬ (39 : UInt8) = c := fun h => g 39 (by decide) h.symm
  have g5 : ¬ (120 : UInt8) = c := fun h => g 120 (by decide) h.symm
  rw [hp]
  rw [if_neg (by rw [e]; simp [g1]), if_neg (by rw [e]; simp [g2]), if_neg (by rw [e]; simp [g3]), if_neg (by rw [e]; simp [Lib.hasPrefix, List.isPrefixOf, g4]), if_neg (by rw [e]; simp [Lib.hasPrefix, List.isPrefixOf, g5])]
  simp

/-- Of a value that may be, the literal is read as the value. -/
theorem parse_lit (k n : Int) (s : ByteArray) (hc : checkV k n s = 0) (h0 : -9223372036854775808 ≤ n) (h1 : n ≤ 9223372036854775807) : parseE (litL k n s.data.toList) = (0, k, n, s.data.toList) := by
  unfold checkV at hc
  have hl : s.data.toList.length = s.size := (Lib.size_eq s).symm
  by_cases hs : 1000 < s.size
  · rw [if_pos hs] at hc; cases hc
  rw [if_neg hs] at hc
  by_cases hm : mayB k n s.toList.isEmpty = true
  · have he : s.toList.isEmpty = true → s.data.toList = [] := fun h => by rw [← toL]; simpa using h
    unfold mayB at hm
    unfold litL
    by_cases k0 : k = 0
    · subst k0
      simp only [if_true, Bool.and_eq_true, beq_iff_eq] at hm
      obtain ⟨rfl, h⟩ := hm
      rw [he h]
      decide
    rw [if_neg k0] at hm ⊢
    by_cases k1 : k = 1
    · subst k1
      simp only [if_true, Bool.and_eq_true, Bool.or_eq_true, beq_iff_eq] at hm
      obtain ⟨rfl | rfl, h⟩ := hm
      · rw [he h]; decide +kernel
      · rw [he h]; decide +kernel
    rw [if_neg k1] at hm ⊢
    by_cases k2 : k = 2
    · subst k2
      simp only [if_true] at hm
      rw [if_pos rfl, he hm]
      exact parse_num n h0 h1
    rw [if_neg k2] at hm ⊢
    by_cases k3 : k = 3
    · subst k3
      simp at hm
      subst hm
      rw [if_pos rfl, parse_text, if_pos (qs_dbl _), und_dbl, if_pos (by omega)]
    rw [if_neg k3]
    by_cases k4 : k = 4
    · subst k4
      simp at hm
      subst hm
      rw [parse_blob, if_pos (hexL_even _), unhex_hexL]
      simp only
      rw [if_pos (by omega)]
    · simp [k3, k4] at hm
  · rw [if_neg hm] at hc; cases hc

/-- Unlike values that may be have unlike literals. -/
theorem lit_apart (k1 n1 k2 n2 : Int) (s1 s2 : ByteArray) (h1 : checkV k1 n1 s1 = 0) (h2 : checkV k2 n2 s2 = 0) (l1 : -9223372036854775808 ≤ n1) (u1 : n1 ≤ 9223372036854775807) (l2 : -9223372036854775808 ≤ n2) (u2 : n2 ≤ 9223372036854775807) (h : litL k1 n1 s1.data.toList = litL k2 n2 s2.data.toList) : k1 = k2 ∧ n1 = n2 ∧ s1 = s2 := by
  have e1 := parse_lit k1 n1 s1 h1 l1 u1
  have e2 := parse_lit k2 n2 s2 h2 l2 u2
  rw [h, e2] at e1
  simp only [Prod.mk.injEq, true_and] at e1
  exact ⟨e1.1.symm, e1.2.1.symm, Go.WideShapes.bytes_inj e1.2.2.symm⟩
end Go.Proofs.YtcngoffmkbobhaaGreatDoor
