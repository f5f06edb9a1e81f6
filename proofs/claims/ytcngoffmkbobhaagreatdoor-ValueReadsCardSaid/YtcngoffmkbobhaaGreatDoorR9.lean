import Derived.Test.YtcngoffmkbobhaaGreatDoorR8
import Derived.Test.YtcngoffmkbobhaaGreatDoorQ3
namespace Go.Proofs.YtcngoffmkbobhaaGreatDoor
open Go.RowKit

theorem head_rest (s : ByteArray) (h0 : 0 < s.size) (c : UInt8) (hf : s[0]'h0 = c) : s.data.toList = c :: (s.extract 1 s.size).data.toList := by
  have hz := Lib.size_eq s
  have hl : 0 < s.data.toList.length := by omega
  have e0 : s[0]'h0 = s.data.toList[0]'hl := rfl
  have h45 : s.data.toList[0]'hl = c := by rw [← e0]; exact hf
  rw [← ByteArray.toList_eq (s.extract _ _), Lib.extract_toList]
  have e1 : (s.data.toList.drop 1).take (s.size - 1) = s.data.toList.drop 1 := List.take_of_length_le (by simp)
  rw [e1, ← h45]
  exact (List.drop_eq_getElem_cons hl)
theorem und_le (m : List UInt8) : (Lib.replaceAll m [39, 39] [39]).length ≤ m.length := by
  have key : ∀ (k : Nat) (m : List UInt8), m.length ≤ k → (Lib.replaceAll m [39, 39] [39]).length ≤ m.length := by
    intro k
    induction k with
    | zero => intro m hm; cases m with
      | nil => rw [replaceAll_nil _ _ (by decide)]; exact Nat.le_refl _
      | cons c m => simp at hm
    | succ k ih =>
      intro m hm
      cases m with
      | nil => rw [replaceAll_nil _ _ (by decide)]; exact Nat.le_refl _
      | cons c m =>
        simp at hm
        by_cases hc : c = 39
        · subst hc
          cases m with
          | nil =>
            rw [replaceAll_cons _ _ (by decide) (by decide)]
            have : ¬ List.isPrefixOf ([39, 39] : List UInt8) [39] = true := by decide
            rw [if_neg this, replaceAll_nil _ _ (by decide)]
            exact Nat.le_refl _
          | cons d m =>
            by_cases hd : d = 39
            · subst hd
              rw [und_quote]
              have := ih m (by simp at hm; omega)
              simp
              omega
            · rw [replaceAll_cons _ _ (by decide) (by decide)]
              have : ¬ List.isPrefixOf ([39, 39] : List UInt8) (39 :: d :: m) = true := by
                rw [List.isPrefixOf_iff_prefix]
                rintro ⟨t, e⟩
                simp at e
                exact hd e.1.symm
              rw [if_neg this]
              have := ih (d :: m) hm
              simp at this ⊢
              omega
        · rw [und_other _ _ hc]
          have := ih m hm
          simp
          omega
  exact key m.length m (Nat.le_refl _)
theorem check_t {u : List UInt8} (h : u.length ≤ 1000) : checkV 3 0 ⟨u.toArray⟩ = 0 := by
  unfold checkV
  rw [if_neg (by rw [Lib.size_eq]; simp; omega)]
  rfl
theorem check_s {u : List UInt8} (h : ¬ u.length ≤ 1000) : checkV 3 0 ⟨u.toArray⟩ = 3 := by
  unfold checkV
  rw [if_pos (by rw [Lib.size_eq]; simp; omega)]
theorem hexE_odd {m : List UInt8} (h : m.length % 2 = 1) : hexE m = (110, 0, 0, []) := by
  unfold hexE
  rw [if_neg (by omega)]

theorem refParse_any (s : ByteArray) (w : World) (hs : s.size ≤ 1000000) :
    Calls Tryz.prog 30 #[.string s] w fun r w' => r = .returned (rdV (parseE s.data.toList)) ∧ Below w.heap.size w w' := by
  have hz' := Lib.size_eq s
  by_cases h0 : s.data.toList = [110, 117, 108, 108]
  · obtain rfl : s = ⟨#[110, 117, 108, 108]⟩ := Go.WideShapes.bytes_inj h0
    exact rp_null w
  by_cases h1 : s.data.toList = [102, 97, 108, 115, 101]
  · obtain rfl : s = ⟨#[102, 97, 108, 115, 101]⟩ := Go.WideShapes.bytes_inj h1
    exact rp_false w
  by_cases h2 : s.data.toList = [116, 114, 117, 101]
  · obtain rfl : s = ⟨#[116, 114, 117, 101]⟩ := Go.WideShapes.bytes_inj h2
    exact rp_true w
  by_cases hw : ∃ n, Whole s.data.toList n
  · obtain ⟨n, hn⟩ := hw
    rw [parse_whole hn]
    exact rp_num s n w (beq_f h0) (beq_f h1) (beq_f h2) (fun w => whole_yes s n w hs hn)
  have hW : ∀ m, ¬ Whole s.data.toList m := fun m h => hw ⟨m, h⟩
  have HW : Hid (∀ w, Calls Tryz.prog 55 #[.string s] w fun r w' => ∃ n, r = .returned (.tuple #[.int .i64 n, .bool false]) ∧ w = w') := Lib.hid fun w => whole_no s w hs hW
  by_cases hz : s.size = 0
  · have hl : s.data.toList = [] := List.length_eq_zero_iff.1 (by omega)
    rw [parse_else h0 h1 h2 hW (by rw [hl]; simp) (by rw [hl]; simp)]
    exact rp_bad_e s w hs (beq_f h0) (beq_f h1) (beq_f h2) HW hz (fun w => quo_none s w hs (by rw [hl]; simp))
  have hz : 0 < s.size := by omega
  by_cases hc : (s[0]'hz).toNat = 120
  · have hl := head_rest s hz 120 (UInt8.toNat_inj.1 hc)
    have hr : (s.extract 1 s.size).size ≤ 1000000 := by
      have e1 := Lib.size_eq (s.extract 1 s.size)
      have e2 := congrArg List.length hl
      simp only [List.length_cons] at e2
      omega
    by_cases ht : ∃ m, (s.extract 1 s.size).data.toList = 39 :: (m ++ [39])
    · obtain ⟨m, hm⟩ := ht
      rw [hl, hm, parse_hex]
      by_cases hq : qs m false = true
      · have ho : m.length ≤ 1000000 := by
          have e1 := Lib.size_eq (s.extract 1 s.size)
          rw [hm] at e1
          simp at e1
          simp at hr
          omega
        have hu := und_le m
        have HQ : Hid (∀ w, Calls Tryz.prog 56 #[.string (s.extract 1 s.size)] w fun r w' => r = .returned (.tuple #[.string ⟨(Lib.replaceAll m [39, 39] [39]).toArray⟩, .bool true]) ∧ w = w') := Lib.hid fun w => by
          have := quo_some (s.extract 1 s.size) m w hr hm
          unfold quoR at this
          rw [if_pos hq, hq] at this
          exact this
        have hsz := size_of_list (Lib.replaceAll m [39, 39] [39])
        rw [hex_good]
        by_cases hev : (Lib.replaceAll m [39, 39] [39]).length % 2 = 0
        · exact rp_blob s _ w hs (beq_f h0) (beq_f h1) (beq_f h2) HW hz hc HQ (by omega) (by omega)
        · rw [hexE_odd (by omega)]
          exact rp_blob_odd s _ w hs (beq_f h0) (beq_f h1) (beq_f h2) HW hz hc HQ (by omega) (by omega)
      · have hq : qs m false = false := by simpa using hq
        rw [hex_bad hq]
        refine rp_bad_x s w hs (beq_f h0) (beq_f h1) (beq_f h2) HW hz hc (Lib.hid fun w => ?_)
        have := quo_some (s.extract 1 s.size) m w hr hm
        rw [quoR_bad hq] at this
        exact this
    · rw [parse_else h0 h1 h2 hW (fun m e => by rw [hl] at e; simp at e) (fun m e => ht ⟨m, by rw [hl] at e; simpa using e⟩)]
      exact rp_bad_x s w hs (beq_f h0) (beq_f h1) (beq_f h2) HW hz hc (Lib.hid fun w => quo_none (s.extract 1 s.size) w hr (fun m e => ht ⟨m, e⟩))
  · have hl := head_rest s hz _ rfl
    have hne : ∀ m, s.data.toList ≠ 120 :: 39 :: (m ++ [39]) := fun m e => by
      rw [hl] at e
      simp only [List.cons.injEq] at e
      exact hc (by rw [e.1]; rfl)
    by_cases ht : ∃ m, s.data.toList = 39 :: (m ++ [39])
    · obtain ⟨m, hm⟩ := ht
      rw [hm, parse_text]
      by_cases hq : qs m false = true
      · rw [if_pos hq]
        have HQ : Hid (∀ w, Calls Tryz.prog 56 #[.string s] w fun r w' => r = .returned (.tuple #[.string ⟨(Lib.replaceAll m [39, 39] [39]).toArray⟩, .bool true]) ∧ w = w') := Lib.hid fun w => by
          have := quo_some s m w hs hm
          unfold quoR at this
          rw [if_pos hq, hq] at this
          exact this
        by_cases hlen : (Lib.replaceAll m [39, 39] [39]).length ≤ 1000
        · rw [if_pos hlen]
          exact rp_text_ok s _ w hs (beq_f h0) (beq_f h1) (beq_f h2) HW hz hc HQ (Lib.hid (check_t hlen))
        · rw [if_neg hlen]
          exact rp_text_no s _ 3 w hs (beq_f h0) (beq_f h1) (beq_f h2) HW hz hc HQ (Lib.hid (check_s hlen)) rfl
      · rw [if_neg hq]
        have hq : qs m false = false := by simpa using hq
        refine rp_bad_n s w hs (beq_f h0) (beq_f h1) (beq_f h2) HW hz hc (Lib.hid fun w => ?_)
        have := quo_some s m w hs hm
        rw [quoR_bad hq] at this
        exact this
    · rw [parse_else h0 h1 h2 hW (fun m e => ht ⟨m, e⟩) hne]
      exact rp_bad_n s w hs (beq_f h0) (beq_f h1) (beq_f h2) HW hz hc (Lib.hid fun w => quo_none s w hs (fun m e => ht ⟨m, e⟩))

theorem dbl_und : ∀ (k : Nat) (m : List UInt8), m.length ≤ k → qs m false = true → dbl (Lib.replaceAll m [39, 39] [39]) = m := by
  intro k
  induction k with
  | zero => intro m hm _; cases m with
    | nil => rw [replaceAll_nil _ _ (by decide)]; rfl
    | cons c m => simp at hm
  | succ k ih =>
    intro m hm h
    cases m with
    | nil => rw [replaceAll_nil _ _ (by decide)]; rfl
    | cons c m =>
      simp at hm
      by_cases hc : c = 39
      · subst hc
        rw [qs_false_quote] at h
        cases m with
        | nil => cases h
        | cons d m =>
          by_cases hd : d = 39
          · subst hd
            rw [qs_true_quote] at h
            rw [und_quote]
            unfold dbl
            rw [if_pos rfl, ih m (by simp at hm; omega) h]
          · rw [qs_true_high _ _ hd] at h; cases h
      · rw [qs_false_other _ _ hc] at h
        rw [und_other _ _ hc]
        unfold dbl
        rw [if_neg hc, ih m hm h]
theorem dig_back : ∀ c : Fin 256, 0 ≤ dv c.val.toUInt8 → (dg (dv c.val.toUInt8).toNat).toUInt8 = c.val.toUInt8 := by decide +kernel
theorem dig_back' (c : UInt8) (h : ¬ dv c < 0) : (dg (dv c).toNat).toUInt8 = c := by
  have := dig_back ⟨c.toNat, c.toNat_lt⟩
  simp at this
  exact this (by omega)
theorem hexL_unhex : ∀ (k : Nat) (m u : List UInt8), m.length ≤ k → unhex m = some u → hexL u = m := by
  intro k
  induction k with
  | zero => intro m u hm h; cases m with
    | nil => unfold unhex at h; injection h with h; subst h; rfl
    | cons c m => simp at hm
  | succ k ih =>
    intro m u hm h
    match m, hm, h with
    | [], _, h => unfold unhex at h; injection h with h; subst h; rfl
    | [_], _, h => unfold unhex at h; cases h
    | a :: b :: m, hm, h =>
      unfold unhex at h
      by_cases hab : dv a < 0 ∨ dv b < 0
      · rw [if_pos hab] at h; cases h
      · rw [if_neg hab] at h
        cases hu : unhex m with
        | none => rw [hu] at h; cases h
        | some v =>
          rw [hu] at h
          simp only [Option.map_some, Option.some.injEq] at h
          subst h
          have ha := dv_lo a
          have hb := dv_lo b
          have e := ih m v (by simp at hm; omega) hu
          have hx : (dv a).toNat < 16 := by omega
          have hy : (dv b).toNat < 16 := by omega
          have ga := dig_back' a (by omega)
          have gb := dig_back' b (by omega)
          generalize (dv a).toNat = x at hx ga
          generalize (dv b).toNat = y at hy gb
          have ec : ((16 * x + y).toUInt8).toNat = 16 * x + y := by
            have : ((16 * x + y).toUInt8).toNat = (16 * x + y) % 256 := by simp
            omega
          unfold hexL at e ⊢
          rw [List.flatMap_cons, e, ec, show (16 * x + y) / 16 = x by omega, show (16 * x + y) % 16 = y by omega, ga, gb]
          rfl

/-- What Parse tells without an error has the text that was read as its literal. -/
theorem parse_back {l : List UInt8} (h : (parseE l).1 = 0) : checkV (parseE l).2.1 (parseE l).2.2.1 ⟨(parseE l).2.2.2.toArray⟩ = 0 ∧ litL (parseE l).2.1 (parseE l).2.2.1 (parseE l).2.2.2 = l ∧ -9223372036854775808 ≤ (parseE l).2.2.1 ∧ (parseE l).2.2.1 ≤ 9223372036854775807 ∧ (parseE l).2.2.2.length ≤ 1000 := by
  by_cases h0 : l = [110, 117, 108, 108]
  · subst h0
    have e : parseE [110, 117, 108, 108] = (0, 0, 0, []) := by decide +kernel
    rw [e]
    exact ⟨by decide +kernel, by decide +kernel, by decide, by decide, by decide⟩
  by_cases h1 : l = [102, 97, 108, 115, 101]
  · subst h1
    have e : parseE [102, 97, 108, 115, 101] = (0, 1, 0, []) := by decide +kernel
    rw [e]
    exact ⟨by decide +kernel, by decide +kernel, by decide, by decide, by decide⟩
  by_cases h2 : l = [116, 114, 117, 101]
  · subst h2
    have e : parseE [116, 114, 117, 101] = (0, 1, 1, []) := by decide +kernel
    rw [e]
    exact ⟨by decide +kernel, by decide +kernel, by decide, by decide, by decide⟩
  by_cases hw : ∃ n, Whole l n
  · obtain ⟨n, hn⟩ := hw
    rw [parse_whole hn]
    exact ⟨by show checkV 2 n ⟨#[]⟩ = 0; unfold checkV; rw [if_neg (by decide)]; simp [mayB], hn.2.2, hn.1, hn.2.1, by show 0 ≤ 1000; decide⟩
  have hW : ∀ m, ¬ Whole l m := fun m h => hw ⟨m, h⟩
  by_cases ht : ∃ m, l = 39 :: (m ++ [39])
  · obtain ⟨m, rfl⟩ := ht
    rw [parse_text] at h ⊢
    by_cases hq : qs m false = true
    · rw [if_pos hq] at h ⊢
      by_cases hlen : (Lib.replaceAll m [39, 39] [39]).length ≤ 1000
      · rw [if_pos hlen]
        exact ⟨check_t hlen, by show 39 :: (dbl _ ++ [39]) = _; rw [dbl_und m.length m (Nat.le_refl _) hq], by show (-9223372036854775808 : Int) ≤ 0; decide, by show (0 : Int) ≤ 9223372036854775807; decide, hlen⟩
      · rw [if_neg hlen] at h; cases h
    · rw [if_neg hq] at h; cases h
  by_cases hb : ∃ m, l = 120 :: 39 :: (m ++ [39])
  · obtain ⟨m, rfl⟩ := hb
    rw [parse_hex] at h ⊢
    by_cases hev : m.length % 2 = 0
    · cases hu : unhex m with
      | none => rw [hexE_none hu] at h; cases h
      | some u =>
        rw [hexE_some hev hu] at h ⊢
        by_cases hlen : u.length ≤ 1000
        · rw [if_pos hlen]
          exact ⟨check_u hlen, by show 120 :: 39 :: (hexL u ++ [39]) = _; rw [hexL_unhex m.length m u (Nat.le_refl _) hu], by show (-9223372036854775808 : Int) ≤ 0; decide, by show (0 : Int) ≤ 9223372036854775807; decide, hlen⟩
        · rw [if_neg hlen] at h; cases h
    · rw [hexE_odd (by omega)] at h; cases h
  rw [parse_else h0 h1 h2 hW (fun m e => ht ⟨m, e⟩) (fun m e => hb ⟨m, e⟩)] at h
  cases h
end Go.Proofs.YtcngoffmkbobhaaGreatDoor
