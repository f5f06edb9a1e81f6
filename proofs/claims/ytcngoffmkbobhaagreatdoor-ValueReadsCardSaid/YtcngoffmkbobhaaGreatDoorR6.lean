import Derived.Test.YtcngoffmkbobhaaGreatDoorR5
namespace Go.Proofs.YtcngoffmkbobhaaGreatDoor
open Go.RowKit

theorem whole_one {l : List UInt8} {m n : Int} (hm : Whole l m) (hn : Whole l n) : m = n := by
  have h1 := parse_itoa m hm.1 hm.2.1
  have h2 := parse_itoa n hn.1 hn.2.1
  rw [hm.2.2] at h1
  rw [hn.2.2, h1] at h2
  injection h2
theorem whole_yes (s : ByteArray) (n : Int) (w : World) (hs : s.size ≤ 1000000) (h : Whole s.data.toList n) :
    Calls Tryz.prog 55 #[.string s] w fun r w' => r = .returned (.tuple #[.int .i64 n, .bool true]) ∧ w = w' :=
  (whole_any s w hs).mono fun r w' ⟨m, b, hr, h1, h2, hw⟩ => by
    cases b with
    | false => exact absurd h (h2 rfl n)
    | true => exact ⟨by rw [hr, whole_one (h1 rfl) h], hw⟩
theorem whole_no (s : ByteArray) (w : World) (hs : s.size ≤ 1000000) (h : ∀ m, ¬ Whole s.data.toList m) :
    Calls Tryz.prog 55 #[.string s] w fun r w' => ∃ n, r = .returned (.tuple #[.int .i64 n, .bool false]) ∧ w = w' :=
  (whole_any s w hs).mono fun r w' ⟨m, b, hr, h1, h2, hw⟩ => by
    cases b with
    | false => exact ⟨m, hr, hw⟩
    | true => exact absurd (h1 rfl) (h m)

theorem intB_range {l : List UInt8} {n : Int} (h : Lib.parseIntB 64 l = .ok n) : -9223372036854775808 ≤ n ∧ n ≤ 9223372036854775807 := by
  have e63 : (2 : Nat) ^ (64 - 1) = 9223372036854775808 := by decide
  unfold Lib.parseIntB at h
  split at h
  · cases h
  · simp only at h
    split at h
    · cases h
    · cases h
    · rw [e63] at h
      split at h
      · cases h
      · split at h
        · cases h
        · injection h with h
          split at h <;> omega
theorem pre_one {l : List UInt8} (h : Lib.hasPrefix l [39] = true) : ∃ r, l = 39 :: r := by
  unfold Lib.hasPrefix at h
  rw [List.isPrefixOf_iff_prefix] at h
  obtain ⟨r, e⟩ := h
  exact ⟨r, e.symm⟩
theorem pre_two {l : List UInt8} (h : Lib.hasPrefix l [120, 39] = true) : ∃ r, l = 120 :: 39 :: r := by
  unfold Lib.hasPrefix at h
  rw [List.isPrefixOf_iff_prefix] at h
  obtain ⟨r, e⟩ := h
  exact ⟨r, e.symm⟩
theorem suf_one {l : List UInt8} (h : Lib.hasSuffix l [39] = true) : ∃ m, l = m ++ [39] := by
  unfold Lib.hasSuffix at h
  rw [List.isSuffixOf_iff_suffix] at h
  obtain ⟨r, e⟩ := h
  exact ⟨r, e.symm⟩
/-- What Parse tells of what is no word, no number, no text between quotes. -/
theorem parse_else {l : List UInt8} (h0 : ¬ l = [110, 117, 108, 108]) (h1 : ¬ l = [102, 97, 108, 115, 101]) (h2 : ¬ l = [116, 114, 117, 101]) (hW : ∀ m, ¬ Whole l m) (ht : ∀ m, l ≠ 39 :: (m ++ [39])) (hb : ∀ m, l ≠ 120 :: 39 :: (m ++ [39])) : parseE l = (110, 0, 0, []) := by
  unfold parseE
  rw [if_neg h0, if_neg h1, if_neg h2]
  by_cases hp : Lib.hasPrefix l [39] = true
  · rw [if_pos hp]
    obtain ⟨r, rfl⟩ := pre_one hp
    rw [trim_one]
    by_cases hs : Lib.hasSuffix r [39] = true
    · obtain ⟨m, rfl⟩ := suf_one hs
      exact absurd rfl (ht m)
    · rw [if_neg hs]
  · rw [if_neg hp]
    by_cases hq : Lib.hasPrefix l [120, 39] = true
    · rw [if_pos hq]
      obtain ⟨r, rfl⟩ := pre_two hq
      rw [trim_two]
      by_cases hs : Lib.hasSuffix r [39] = true
      · obtain ⟨m, rfl⟩ := suf_one hs
        exact absurd rfl (hb m)
      · rw [if_neg hs]
    · rw [if_neg hq]
      cases hn : Lib.parseIntB 64 l with
      | ok n =>
        simp only
        by_cases he : Lib.itoa n = l
        · exact absurd ⟨(intB_range hn).1, (intB_range hn).2, he⟩ (hW n)
        · rw [if_neg he]
      | _ => rfl
theorem parse_whole {l : List UInt8} {n : Int} (h : Whole l n) : parseE l = (0, 2, n, []) := by
  rw [← h.2.2]
  exact parse_num n h.1 h.2.1

/-- What is told of the digits between x' and '. -/
def hexE (m : List UInt8) : Int × Int × Int × List UInt8 :=
  if m.length % 2 = 0 then (match unhex m with | some u => if u.length ≤ 1000 then (0, 4, 0, u) else (3, 0, 0, []) | none => (110, 0, 0, [])) else (110, 0, 0, [])
theorem parse_hex (m : List UInt8) : parseE (120 :: 39 :: (m ++ [39])) = hexE m := parse_blob m
theorem qs_plain : ∀ m : List UInt8, (39 : UInt8) ∉ m → qs m false = true ∧ Lib.replaceAll m [39, 39] [39] = m
  | [], _ => ⟨rfl, replaceAll_nil _ _ (by decide)⟩
  | c :: m, h => by
    have hc : c ≠ 39 := fun e => h (by simp [e])
    obtain ⟨h1, h2⟩ := qs_plain m (fun h' => h (by simp [h']))
    rw [qs_false_other _ _ hc, und_other _ _ hc, h2]
    exact ⟨h1, rfl⟩
theorem und_mem : ∀ (k : Nat) (m : List UInt8), m.length ≤ k → (39 : UInt8) ∈ m → (39 : UInt8) ∈ Lib.replaceAll m [39, 39] [39] := by
  intro k
  induction k with
  | zero => intro m hm h; cases m with
    | nil => cases h
    | cons c m => simp at hm
  | succ k ih =>
    intro m hm h
    cases m with
    | nil => cases h
    | cons c m =>
      by_cases hc : c = 39
      · rw [replaceAll_cons _ _ (by decide) (by decide)]
        split
        · simp
        · simp [hc]
      · rw [und_other _ _ hc]
        simp only [List.mem_cons] at h ⊢
        rcases h with h | h
        · exact .inl h
        · exact .inr (ih m (by simp at hm; omega) h)
theorem dv_39 : dv 39 = -1 := by decide +kernel
theorem unhex_39 : ∀ (k : Nat) (m : List UInt8), m.length ≤ k → (39 : UInt8) ∈ m → unhex m = none := by
  intro k
  induction k with
  | zero => intro m hm h; cases m with
    | nil => cases h
    | cons c m => simp at hm
  | succ k ih =>
    intro m hm h
    match m, hm, h with
    | [], _, h => cases h
    | [_], _, _ => rfl
    | a :: b :: m, hm, h =>
      unfold unhex
      by_cases hab : dv a < 0 ∨ dv b < 0
      · rw [if_pos hab]
      · rw [if_neg hab]
        have ha : a ≠ 39 := fun e => hab (.inl (by rw [e, dv_39]; decide))
        have hb : b ≠ 39 := fun e => hab (.inr (by rw [e, dv_39]; decide))
        simp only [List.mem_cons] at h
        have h' : (39 : UInt8) ∈ m := by
          rcases h with h | h | h
          · exact absurd h.symm ha
          · exact absurd h.symm hb
          · exact h
        rw [ih m (by simp at hm; omega) h']
        rfl
theorem hexE_39 {m : List UInt8} (h : (39 : UInt8) ∈ m) : hexE m = (110, 0, 0, []) := by
  unfold hexE
  split
  · rw [unhex_39 m.length m (Nat.le_refl _) h]
  · rfl
theorem hex_bad {m : List UInt8} (h : qs m false = false) : hexE m = (110, 0, 0, []) := by
  by_cases h' : (39 : UInt8) ∈ m
  · exact hexE_39 h'
  · rw [(qs_plain m h').1] at h; cases h
theorem hex_good {m : List UInt8} : hexE m = hexE (Lib.replaceAll m [39, 39] [39]) := by
  by_cases h' : (39 : UInt8) ∈ m
  · rw [hexE_39 h', hexE_39 (und_mem m.length m (Nat.le_refl _) h')]
  · rw [(qs_plain m h').2]
end Go.Proofs.YtcngoffmkbobhaaGreatDoor
