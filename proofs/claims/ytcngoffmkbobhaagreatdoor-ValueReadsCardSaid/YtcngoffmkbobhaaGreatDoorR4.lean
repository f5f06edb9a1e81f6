import Derived.Test.YtcngoffmkbobhaaGreatDoorR3
namespace Go.Proofs.YtcngoffmkbobhaaGreatDoor
open Go.RowKit

/-- A number whose text these bytes are. -/
def Whole (l : List UInt8) (n : Int) : Prop := -9223372036854775808 ≤ n ∧ n ≤ 9223372036854775807 ∧ Lib.itoa n = l
/-- The digits' number. -/
def val (l : List UInt8) : Nat := l.foldl (fun a c => 10 * a + (c.toNat - 48)) 0
theorem val_app (l : List UInt8) (c : UInt8) : val (l ++ [c]) = 10 * val l + (c.toNat - 48) := by unfold val; rw [List.foldl_append]; rfl
theorem fold_ge : ∀ (l : List UInt8) (x : Nat), x ≤ l.foldl (fun a c => 10 * a + (c.toNat - 48)) x
  | [], x => Nat.le_refl _
  | c :: l, x => by
    have := fold_ge l (10 * x + (c.toNat - 48))
    simp only [List.foldl_cons]
    omega
theorem val_ge (a b : List UInt8) : val a ≤ val (a ++ b) := by
  unfold val
  rw [List.foldl_append]
  exact fold_ge _ _
theorem val_take (l : List UInt8) (j : Nat) : val (l.take j) ≤ val l := by
  have := val_ge (l.take j) (l.drop j)
  rwa [List.take_append_drop] at this
theorem val_dec (u : Nat) : val (Lib.decDigits u) = u ∧ ∀ c ∈ Lib.decDigits u, 48 ≤ c.toNat ∧ c.toNat ≤ 57 := by
  have : ∀ (k u : Nat), u ≤ k → val (Lib.decDigits u) = u ∧ ∀ c ∈ Lib.decDigits u, 48 ≤ c.toNat ∧ c.toNat ≤ 57 := by
    intro k
    induction k with
    | zero =>
      intro u hu
      obtain rfl : u = 0 := by omega
      rw [dec_small (by omega)]
      exact ⟨rfl, fun c hc => by simp at hc; subst hc; decide⟩
    | succ k ih =>
      intro u hu
      by_cases h : u < 10
      · rw [dec_small h]
        refine ⟨?_, fun c hc => ?_⟩
        · have := digit_nat u h
          unfold val
          simp only [List.foldl_cons, List.foldl_nil]
          omega
        · simp only [List.mem_singleton] at hc
          have := digit_nat u h
          rw [hc]
          omega
      · rw [dec_big h]
        obtain ⟨h1, h2⟩ := ih (u / 10) (by omega)
        have h3 := digit_nat (u % 10) (by omega)
        refine ⟨?_, fun c hc => ?_⟩
        · rw [val_app, h1, h3]; omega
        · rcases List.mem_append.1 hc with hc | hc
          · exact h2 c hc
          · simp only [List.mem_singleton] at hc
            rw [hc]
            omega
  exact this u u (Nat.le_refl _)

/-- What a number's text has behind its sign, if it has one. -/
theorem whole_less {t : List UInt8} {n : Int} (h : Whole (45 :: t) n) : n < 0 ∧ t = Lib.decDigits n.natAbs := by
  obtain ⟨h0, h1, e⟩ := h
  unfold Lib.itoa at e
  split at e
  · exact ⟨‹_›, by simpa using e.symm⟩
  · obtain ⟨c, r, he, g1, g2⟩ := dec_head n.toNat
    rw [he] at e
    simp at e
    rw [e.1] at g1
    exact absurd g1 (by decide)
theorem whole_more {l : List UInt8} {n : Int} (hl : ∀ t, l ≠ 45 :: t) (h : Whole l n) : 0 ≤ n ∧ l = Lib.decDigits n.natAbs := by
  obtain ⟨h0, h1, e⟩ := h
  unfold Lib.itoa at e
  split at e
  · exact absurd e.symm (hl _)
  · exact ⟨by omega, by rw [← e, show n.toNat = n.natAbs by omega]⟩
theorem dec_facts {d : List UInt8} {u : Nat} (h : d = Lib.decDigits u) (hu : u ≤ 9223372036854775808) : 0 < d.length ∧ d.length ≤ 19 ∧ val d = u ∧ ∀ c ∈ d, 48 ≤ c.toNat ∧ c.toNat ≤ 57 := by
  subst h
  obtain ⟨c, r, e, _⟩ := dec_head u
  have h1 := dec_len 18 u (by omega)
  exact ⟨by rw [e]; simp, h1, (val_dec u).1, (val_dec u).2⟩


theorem no_m {d : List UInt8} (h : ∀ u, u ≤ 9223372036854775808 → d ≠ Lib.decDigits u) : ∀ m, ¬ Whole (45 :: d) m := fun m hw => by
  have h1 := hw.1
  have h2 := hw.2.1
  exact h m.natAbs (by omega) (whole_less hw).2
theorem no_p {d : List UInt8} (hl : ∀ t, d ≠ 45 :: t) (h : ∀ u, u ≤ 9223372036854775807 → d ≠ Lib.decDigits u) : ∀ m, ¬ Whole d m := fun m hw => by
  have h1 := hw.1
  have h2 := hw.2.1
  have h3 := whole_more hl hw
  exact h m.natAbs (by omega) h3.2
theorem nd_len {d : List UInt8} (h : d.length = 0 ∨ 19 < d.length) : ∀ u, u ≤ 9223372036854775808 → d ≠ Lib.decDigits u := fun u hu e => by
  have := dec_facts e hu
  omega
theorem nd_dig {d : List UInt8} {j : Nat} (hj : j < d.length) (h : d[j].toNat < 48 ∨ 57 < d[j].toNat) : ∀ u, u ≤ 9223372036854775808 → d ≠ Lib.decDigits u := fun u hu e => by
  have := (dec_facts e hu).2.2.2 d[j] (List.getElem_mem hj)
  omega
theorem nd_over {d : List UInt8} (h : 9223372036854775808 < val d) : ∀ u, u ≤ 9223372036854775808 → d ≠ Lib.decDigits u := fun u hu e => by
  have := (dec_facts e hu).2.2.1
  omega
theorem nd_more {d : List UInt8} (h : 9223372036854775807 < val d) : ∀ u, u ≤ 9223372036854775807 → d ≠ Lib.decDigits u := fun u hu e => by
  have := (dec_facts e (by omega)).2.2.1
  omega
theorem quo_neg (k : Nat) (h0 : 48 ≤ k) (h1 : k ≤ 57) : (-9223372036854775808 + ((k : Int) - 48)).tdiv 10 = -((((9223372036854775808 - (k - 48)) / 10 : Nat)) : Int) := by
  have e : (-9223372036854775808 + ((k : Int) - 48)) = -((9223372036854775808 - (k - 48) : Nat) : Int) := by omega
  rw [e, Int.neg_tdiv]
  rfl
theorem step_over {v k : Nat} (h0 : 48 ≤ k) (h1 : k ≤ 57) (h : -(v : Int) < (-9223372036854775808 + ((k : Int) - 48)).tdiv 10) : 9223372036854775808 < 10 * v + (k - 48) := by
  rw [quo_neg k h0 h1] at h
  omega
theorem step_stay {v k : Nat} (h0 : 48 ≤ k) (h1 : k ≤ 57) (h : (-9223372036854775808 + ((k : Int) - 48)).tdiv 10 ≤ -(v : Int)) : 10 * v + (k - 48) ≤ 9223372036854775808 := by
  rw [quo_neg k h0 h1] at h
  omega
theorem val_step (d : List UInt8) (j : Nat) (h : j < d.length) : val (d.take (j + 1)) = 10 * val (d.take j) + (d[j].toNat - 48) := by
  rw [List.take_succ_eq_append_getElem h, val_app]
theorem step_wrap {v k : Nat} (h0 : 48 ≤ k) (h1 : k ≤ 57) (h : 10 * v + (k - 48) ≤ 9223372036854775808) : wrap64 (wrap64 (10 * -(v : Int)) - ((k : Int) - 48)) = -((10 * v + (k - 48) : Nat) : Int) := by
  rw [IntWalk.wrap64_in (10 * -(v : Int)) ⟨by omega, by omega⟩, IntWalk.wrap64_in _ ⟨by omega, by omega⟩]
  omega
theorem val_over (d : List UInt8) (j : Nat) (h : j < d.length) (ho : 9223372036854775808 < 10 * val (d.take j) + (d[j].toNat - 48)) : 9223372036854775808 < val d := by
  rw [← val_step d j h] at ho
  have := val_take d (j + 1)
  omega
theorem take_digits {d : List UInt8} {j : Nat} (h : j < d.length) (hd : ∀ c ∈ d.take j, 48 ≤ c.toNat ∧ c.toNat ≤ 57) (h0 : 48 ≤ d[j].toNat) (h1 : d[j].toNat ≤ 57) : ∀ c ∈ d.take (j + 1), 48 ≤ c.toNat ∧ c.toNat ≤ 57 := by
  rw [List.take_succ_eq_append_getElem h]
  intro c hc
  rcases List.mem_append.1 hc with hc | hc
  · exact hd c hc
  · rw [List.mem_singleton.1 hc]; exact ⟨h0, h1⟩
theorem end_m {d : List UInt8} (hv : val d ≤ 9223372036854775808) : (∀ l, l = 45 :: d → (Lib.itoa (-(val d : Int)) == l) = true → Whole l (-(val d : Int))) ∧ (∀ l, l = 45 :: d → (Lib.itoa (-(val d : Int)) == l) = false → ∀ m, ¬ Whole l m) := by
  refine ⟨fun l hl h => ⟨by omega, by omega, by simpa using h⟩, fun l hl h m hw => ?_⟩
  subst hl
  have h1 := whole_less hw
  have h2 := hw.1
  have h3 := (dec_facts h1.2 (by omega)).2.2.1
  have : m = -(val d : Int) := by omega
  rw [← this, hw.2.2] at h
  simp at h
theorem end_p {d : List UInt8} (hl : ∀ t, d ≠ 45 :: t) (hv : val d ≤ 9223372036854775807) : ((Lib.itoa (val d : Int) == d) = true → Whole d (val d : Int)) ∧ ((Lib.itoa (val d : Int) == d) = false → ∀ m, ¬ Whole d m) := by
  refine ⟨fun h => ⟨by omega, by omega, by simpa using h⟩, fun h m hw => ?_⟩
  have h1 := whole_more hl hw
  have h2 := hw.2.1
  have h3 := (dec_facts h1.2 (by omega)).2.2.1
  have : m = (val d : Int) := by omega
  rw [← this, hw.2.2] at h
  simp at h
end Go.Proofs.YtcngoffmkbobhaaGreatDoor
