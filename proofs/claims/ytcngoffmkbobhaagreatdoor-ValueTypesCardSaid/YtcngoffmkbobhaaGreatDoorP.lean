/- Plain facts on lists of bytes: quotes that stand twice, digits in pairs; nothing here speaks of a program. -/
import Derived.Lib.ReplaceLaws
import Derived.Lib.IndexLaws
import Derived.Laws.RangeAny
import Derived.Lib.OthersKept
namespace Go.Proofs.YtcngoffmkbobhaaGreatDoor

/-- Each quote of the bytes stands twice; odd: one quote has been met, and waits for its fellow. -/
def qs : List UInt8 → Bool → Bool
  | [], odd => !odd
  | c :: l, odd => if odd && !(c == 39) then false else qs l (c == 39 && !odd)

theorem qs_true_high (c : UInt8) (l : List UInt8) (h : c ≠ 39) : qs (c :: l) true = false := by simp [qs, h]
theorem qs_false_other (c : UInt8) (l : List UInt8) (h : c ≠ 39) : qs (c :: l) false = qs l false := by
  have : (c == 39) = false := by simpa using h
  simp [qs, this]
theorem qs_false_quote (l : List UInt8) : qs (39 :: l) false = qs l true := by simp [qs]
theorem qs_true_quote (l : List UInt8) : qs (39 :: l) true = qs l false := by simp [qs]

/-- Bytes that are no quotes are passed over. -/
theorem qs_skip : ∀ (n : Nat) (l : List UInt8), n ≤ l.length → (∀ k, k < n → l.getD k 0 ≠ 39) → qs l false = qs (l.drop n) false
  | 0, _, _, _ => rfl
  | n + 1, [], h, _ => by simp at h
  | n + 1, c :: l, h, hc => by
    have h0 : c ≠ 39 := by simpa using hc 0 (by omega)
    rw [qs_false_other c l h0, List.drop_succ_cons]
    exact qs_skip n l (by simpa using h) (fun k hk => by simpa using hc (k + 1) (by omega))

/-- A letter of more than one byte holds no quote: what decode passes over. -/
theorem dec_tail (s : ByteArray) (pos : Nat) (h : pos < s.size) (ha : 128 ≤ (s.get! pos).toNat) : ∀ k, k < (Utf8.decode s pos).2 → pos + k < s.size ∧ 128 ≤ (s.get! (pos + k)).toNat := by
  intro k hk
  by_cases h0 : k = 0
  · subst h0; exact ⟨h, ha⟩
  simp only [Utf8.decode, Nat.add_zero] at hk
  rw [if_neg (by omega)] at hk
  split at hk
  · rename_i hc
    simp only [Bool.and_eq_true, decide_eq_true_eq, beq_iff_eq] at hc
    split at hk
    · obtain rfl : k = 1 := by simp at hk; omega
      exact ⟨by omega, by omega⟩
    · simp at hk; omega
  · split at hk
    · rename_i hc
      simp only [Bool.and_eq_true, decide_eq_true_eq, beq_iff_eq] at hc
      split at hk
      · have hk2 : k = 1 ∨ k = 2 := by simp at hk; omega
        rcases hk2 with rfl | rfl
        · exact ⟨by omega, by omega⟩
        · exact ⟨by omega, by omega⟩
      · simp at hk; omega
    · split at hk
      · rename_i hc
        simp only [Bool.and_eq_true, decide_eq_true_eq, beq_iff_eq] at hc
        split at hk
        · have hk2 : k = 1 ∨ k = 2 ∨ k = 3 := by simp at hk; omega
          rcases hk2 with rfl | rfl | rfl
          · exact ⟨by omega, by omega⟩
          · exact ⟨by omega, by omega⟩
          · exact ⟨by omega, by omega⟩
        · simp at hk; omega
      · simp at hk; omega

/-! ### What ReplaceAll does, letter by letter -/

theorem replaceAll_nil (old new : List UInt8) (ho : old ≠ []) : Lib.replaceAll [] old new = [] := by
  unfold Lib.replaceAll Lib.replace
  split
  · rfl
  · have : Lib.index [] old = -1 := by simp [Lib.index, ho]
    simp [Lib.replaceNum, Lib.count_miss this, Lib.replaceK]

theorem replaceAll_hit (old new : List UInt8) (ho : old ≠ []) (hne : old ≠ new) (s : List UInt8) (i : Nat) (h : Lib.index s old = i) :
    Lib.replaceAll s old new = s.take i ++ new ++ Lib.replaceAll (s.drop (i + old.length)) old new := by
  have hb : (old == new) = false := by simpa using hne
  unfold Lib.replaceAll Lib.replace
  simp only [hb, Bool.false_eq_true, if_false]
  have hn : ∀ t : List UInt8, Lib.replaceNum t old (-1) = Lib.count t old := fun t => by simp [Lib.replaceNum]
  rw [hn, hn, Lib.count_hit ho h, Nat.add_comm 1, Lib.replaceK_hit old new _ s i h]

theorem replaceAll_miss (old new : List UInt8) (hne : old ≠ new) (s : List UInt8) (h : Lib.index s old = -1) : Lib.replaceAll s old new = s := by
  have hb : (old == new) = false := by simpa using hne
  unfold Lib.replaceAll Lib.replace
  simp [hb, Lib.replaceNum, Lib.count_miss h, Lib.replaceK]

theorem replaceAll_cons (old new : List UInt8) (ho : old ≠ []) (hne : old ≠ new) (b : UInt8) (l : List UInt8) :
    Lib.replaceAll (b :: l) old new = if old.isPrefixOf (b :: l) then new ++ Lib.replaceAll ((b :: l).drop old.length) old new else b :: Lib.replaceAll l old new := by
  by_cases hp : old.isPrefixOf (b :: l) = true
  · rw [if_pos hp]
    have h0 : Lib.index (b :: l) old = ((0 : Nat) : Int) := by simp [Lib.index, hp]
    rw [replaceAll_hit old new ho hne _ 0 h0]
    simp
  · rw [if_neg hp]
    have hge := Lib.index_ge l old
    by_cases hm : Lib.index l old = -1
    · have h1 : Lib.index (b :: l) old = -1 := by simp [Lib.index, hp, hm]
      rw [replaceAll_miss old new hne _ h1, replaceAll_miss old new hne _ hm]
    · obtain ⟨i, hi⟩ : ∃ i : Nat, Lib.index l old = i := ⟨(Lib.index l old).toNat, by omega⟩
      have h1 : Lib.index (b :: l) old = ((i + 1 : Nat) : Int) := by
        simp only [Lib.index, hp, hi]
        have : ¬ ((i : Int) == -1) = true := by simp
        rw [if_neg (by simp), if_neg this]
        omega
      rw [replaceAll_hit old new ho hne _ _ h1, replaceAll_hit old new ho hne _ _ hi]
      simp [Nat.add_right_comm]

/-- Each quote twice. -/
def dbl : List UInt8 → List UInt8
  | [] => []
  | c :: l => if c = 39 then 39 :: 39 :: dbl l else c :: dbl l
theorem dbl_eq : ∀ l : List UInt8, Lib.replaceAll l [39] [39, 39] = dbl l
  | [] => replaceAll_nil _ _ (by decide)
  | c :: l => by
    rw [replaceAll_cons _ _ (by decide) (by decide)]
    by_cases h : c = 39
    · subst h
      simp [dbl, List.isPrefixOf, dbl_eq l]
    · have : ¬ (39 : UInt8) = c := fun e => h e.symm
      simp [dbl, List.isPrefixOf, h, this, dbl_eq l]
theorem dbl_le : ∀ l : List UInt8, (dbl l).length ≤ 2 * l.length
  | [] => by simp [dbl]
  | c :: l => by
    have := dbl_le l
    unfold dbl
    split <;> simp <;> omega

/-- Two quotes become one. -/
theorem und_quote (l : List UInt8) : Lib.replaceAll (39 :: 39 :: l) [39, 39] [39] = 39 :: Lib.replaceAll l [39, 39] [39] := by
  rw [replaceAll_cons _ _ (by decide) (by decide)]
  simp [List.isPrefixOf]
theorem und_other (c : UInt8) (l : List UInt8) (h : c ≠ 39) : Lib.replaceAll (c :: l) [39, 39] [39] = c :: Lib.replaceAll l [39, 39] [39] := by
  rw [replaceAll_cons _ _ (by decide) (by decide)]
  have : ¬ (39 : UInt8) = c := fun e => h e.symm
  simp [List.isPrefixOf, this]
theorem und_dbl : ∀ l : List UInt8, Lib.replaceAll (dbl l) [39, 39] [39] = l
  | [] => replaceAll_nil _ _ (by decide)
  | c :: l => by
    by_cases h : c = 39
    · subst h
      simp [dbl, und_quote, und_dbl l]
    · simp [dbl, h, und_other c _ h, und_dbl l]
theorem qs_dbl : ∀ l : List UInt8, qs (dbl l) false = true
  | [] => rfl
  | c :: l => by
    by_cases h : c = 39
    · subst h
      simp [dbl, qs_false_quote, qs_true_quote, qs_dbl l]
    · simp [dbl, h, qs_false_other c _ h, qs_dbl l]
end Go.Proofs.YtcngoffmkbobhaaGreatDoor
