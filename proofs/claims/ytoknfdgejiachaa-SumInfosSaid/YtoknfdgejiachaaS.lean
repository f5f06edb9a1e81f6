/- The document's answers for operators as plain functions, and what follows from them; nothing here speaks of a program. No condition. -/
import Derived.Test.YtoknfdgejiachaaV
import Derived.Test.YtoknfdgejiachaaW
namespace Go.Proofs.Ytoknfdgejiachaa
open Go.RowKit

/-- How many values an operator takes; of which type they are (0: not just one); of which type it makes. -/
def manyE (o : Int) : Nat := if o ≤ 14 then 2 else 1
def ofE (o : Int) : Int := if o ≤ 5 ∨ o = 15 ∨ o = 20 then 2 else if o = 13 ∨ o = 14 ∨ o = 16 then 1 else 0
def makeE (o : Int) : Int := if o ≤ 5 ∨ o = 15 ∨ o = 19 ∨ o = 20 then 2 else if o = 6 then 0 else 1
/-- A type that no value of the operator may have. -/
def badT (o t : Int) : Bool := decide (ofE o ≠ 0 ∧ t ≠ 0 ∧ t ≠ ofE o) || decide ((o = 6 ∨ o = 19) ∧ (t = 1 ∨ t = 2))
/-- The type of what an operator makes of values of these types; an error. -/
def makesE (o : Int) (l : List Int) : Int × Int :=
  if o < 1 ∨ 20 < o then (0, 2)
  else if l.length ≠ manyE o then (0, 2)
  else if l.any (fun t => decide (t < 0 ∨ 4 < t)) then (0, 2)
  else if l.any (badT o) then (0, 120)
  else if 6 ≤ o ∧ o ≤ 12 ∧ l.headD 0 ≠ 0 ∧ l.getLastD 0 ≠ 0 ∧ l.headD 0 ≠ l.getLastD 0 then (0, 120)
  else if o = 6 then (max (l.headD 0) (l.getLastD 0), 0)
  else (makeE o, 0)

/-- A value: its kind, its number, its bytes. -/
abbrev V3 := Int × Int × ByteArray
abbrev nul : V3 := (0, 0, ⟨#[]⟩)
def ofV (a : Int) : V3 := (if a = 0 ∨ a = 1 then 1 else 0, if a = 1 then 1 else 0, ⟨#[]⟩)
def boolV (b : Bool) : V3 := if b then ofV 1 else ofV 0
def truthE (o n : Int) : Bool := if o = 7 then n == 0 else if o = 8 then n != 0 else if o = 9 then decide (n < 0) else if o = 10 then decide (n ≤ 0) else if o = 11 then decide (0 < n) else decide (0 ≤ n)
def numV (p : Int × Int) : V3 × Int := if p.2 = 0 then ((2, p.1, ⟨#[]⟩), 0) else (nul, p.2)
/-- What an operator makes of two values that may be, of types that it takes (of one: the same twice). -/
def opE (o : Int) (a b : V3) : V3 × Int :=
  if o = 13 then (ofV (bothI (knownI a.1 a.2.1 a.2.2) (knownI b.1 b.2.1 b.2.2)), 0)
  else if o = 14 then (ofV (eitherI (knownI a.1 a.2.1 a.2.2) (knownI b.1 b.2.1 b.2.2)), 0)
  else if o = 17 ∨ o = 18 then (boolV (decide (a.1 = 0) == decide (o = 17)), 0)
  else if a.1 = 0 ∨ b.1 = 0 then (nul, 0)
  else if o = 16 then (ofV (notI (knownI a.1 a.2.1 a.2.2)), 0)
  else if o = 6 then (if 1000 < a.2.2.size + b.2.2.size then (nul, 3) else ((a.1, 0, a.2.2 ++ b.2.2), 0))
  else if o = 19 then ((2, (a.2.2.size : Int), ⟨#[]⟩), 0)
  else if 7 ≤ o ∧ o ≤ 12 then (boolV (truthE o (ordV a.1 a.2.1 b.1 b.2.1 a.2.2 b.2.2)), 0)
  else numV (wholeE o a.2.1 b.2.1)
/-- What an operator makes of values; an error. -/
def doE (o : Int) (l : List V3) : V3 × Int :=
  if l.any (fun v => decide (checkV v.1 v.2.1 v.2.2 ≠ 0)) then (nul, 2)
  else if (makesE o (l.map (·.1))).2 ≠ 0 then (nul, (makesE o (l.map (·.1))).2)
  else opE o (l.headD nul) (l.getLastD nul)

theorem fitE_err (x : Int) : (fitE x).2 = 0 ∨ (fitE x).2 = 122 := by
  unfold fitE; split
  · exact .inl rfl
  · exact .inr rfl
theorem wholeE_err (o a b : Int) : (wholeE o a b).2 = 0 ∨ (wholeE o a b).2 = 121 ∨ (wholeE o a b).2 = 122 := by
  unfold wholeE
  repeat' split
  all_goals first
    | (exact .inl rfl)
    | (exact .inr (.inl rfl))
    | (rcases fitE_err _ with h | h; exact .inl h; exact .inr (.inr h))
theorem numV_kind (p : Int × Int) : (numV p).2 = p.2 ∧ (p.2 = 0 → (numV p).1.1 = 2) := by
  unfold numV
  split
  · exact ⟨by simp_all, fun _ => rfl⟩
  · exact ⟨rfl, fun h => absurd h (by assumption)⟩
theorem ofV_kind (a : Int) : ofV a = nul ∨ (ofV a).1 = 1 := by
  unfold ofV
  by_cases h : a = 0 ∨ a = 1
  · rw [if_pos h]; exact .inr rfl
  · rw [if_neg h, if_neg (fun e => h (.inr e))]; exact .inl rfl
theorem boolV_kind (b : Bool) : (boolV b).1 = 1 := by cases b <;> rfl
theorem makes_ok {o : Int} {l : List Int} (h : (makesE o l).2 = 0) : (1 ≤ o ∧ o ≤ 20) ∧ l.length = manyE o ∧ l.any (fun t => decide (t < 0 ∨ 4 < t)) = false ∧ l.any (badT o) = false ∧
    ¬ (6 ≤ o ∧ o ≤ 12 ∧ l.headD 0 ≠ 0 ∧ l.getLastD 0 ≠ 0 ∧ l.headD 0 ≠ l.getLastD 0) ∧ (makesE o l).1 = if o = 6 then max (l.headD 0) (l.getLastD 0) else makeE o := by
  unfold makesE at h ⊢
  by_cases h1 : o < 1 ∨ 20 < o
  · rw [if_pos h1] at h; cases h
  rw [if_neg h1] at h ⊢
  by_cases h2 : l.length ≠ manyE o
  · rw [if_pos h2] at h; cases h
  rw [if_neg h2] at h ⊢
  by_cases h3 : l.any (fun t => decide (t < 0 ∨ 4 < t)) = true
  · rw [if_pos h3] at h; cases h
  rw [if_neg h3] at h ⊢
  by_cases h4 : l.any (badT o) = true
  · rw [if_pos h4] at h; cases h
  rw [if_neg h4] at h ⊢
  by_cases h5 : 6 ≤ o ∧ o ≤ 12 ∧ l.headD 0 ≠ 0 ∧ l.getLastD 0 ≠ 0 ∧ l.headD 0 ≠ l.getLastD 0
  · rw [if_pos h5] at h; cases h
  rw [if_neg h5]
  refine ⟨by omega, by omega, by simpa using h3, by simpa using h4, h5, ?_⟩
  split <;> rfl
theorem makes_err (o : Int) (l : List Int) : (makesE o l).2 = 0 ∨ (makesE o l).2 = 2 ∨ (makesE o l).2 = 120 := by
  unfold makesE
  repeat' split
  all_goals first | exact .inl rfl | exact .inr (.inl rfl) | exact .inr (.inr rfl)
/-- What is made is null or of the type that is told. -/
theorem op_kind (o : Int) (l : List V3) (h : (makesE o (l.map (·.1))).2 = 0) :
    ((opE o (l.headD nul) (l.getLastD nul)).2 = 0 → (opE o (l.headD nul) (l.getLastD nul)).1 = nul ∨ (opE o (l.headD nul) (l.getLastD nul)).1.1 = (makesE o (l.map (·.1))).1) ∧ (opE o (l.headD nul) (l.getLastD nul)).2 ≠ 120 := by
  obtain ⟨ho, hl, _, hb, hs, ht⟩ := makes_ok h
  rw [ht]
  have hh : (l.map (·.1)).headD 0 = (l.headD nul).1 := by cases l <;> rfl
  have hg : (l.map (·.1)).getLastD 0 = (l.getLastD nul).1 := by
    rw [List.getLastD_eq_getLast?, List.getLastD_eq_getLast?, List.getLast?_map]
    cases l.getLast? <;> rfl
  rw [hh, hg] at hs ⊢
  generalize l.headD nul = a at hs ⊢
  generalize l.getLastD nul = b at hs ⊢
  unfold opE
  by_cases h13 : o = 13
  · rw [if_pos h13, if_neg (by omega)]
    exact ⟨fun _ => (ofV_kind _).imp id (fun e => by rw [e]; unfold makeE; rw [if_neg (by omega), if_neg (by omega)]), by show (0 : Int) ≠ 120; decide⟩
  rw [if_neg h13]
  by_cases h14 : o = 14
  · rw [if_pos h14, if_neg (by omega)]
    exact ⟨fun _ => (ofV_kind _).imp id (fun e => by rw [e]; unfold makeE; rw [if_neg (by omega), if_neg (by omega)]), by show (0 : Int) ≠ 120; decide⟩
  rw [if_neg h14]
  by_cases h17 : o = 17 ∨ o = 18
  · rw [if_pos h17, if_neg (by omega)]
    exact ⟨fun _ => .inr (by rw [boolV_kind]; unfold makeE; rw [if_neg (by omega), if_neg (by omega)]), by show (0 : Int) ≠ 120; decide⟩
  rw [if_neg h17]
  by_cases hn : a.1 = 0 ∨ b.1 = 0
  · rw [if_pos hn]
    exact ⟨fun _ => .inl rfl, by show (0 : Int) ≠ 120; decide⟩
  rw [if_neg hn]
  by_cases h16 : o = 16
  · rw [if_pos h16, if_neg (by omega)]
    exact ⟨fun _ => (ofV_kind _).imp id (fun e => by rw [e]; unfold makeE; rw [if_neg (by omega), if_neg (by omega)]), by show (0 : Int) ≠ 120; decide⟩
  rw [if_neg h16]
  by_cases h6 : o = 6
  · rw [if_pos h6, if_pos h6]
    by_cases hz : 1000 < a.2.2.size + b.2.2.size
    · rw [if_pos hz]
      exact ⟨fun h => (by cases h), by show (3 : Int) ≠ 120; decide⟩
    · rw [if_neg hz]
      have : a.1 = b.1 := Classical.byContradiction fun e => hs ⟨by omega, by omega, fun e => hn (.inl e), fun e => hn (.inr e), e⟩
      exact ⟨fun _ => .inr (by show a.1 = max a.1 b.1; omega), by show (0 : Int) ≠ 120; decide⟩
  rw [if_neg h6, if_neg h6]
  by_cases h19 : o = 19
  · rw [if_pos h19]
    exact ⟨fun _ => .inr (by show (2 : Int) = makeE o; unfold makeE; rw [if_pos (by omega)]), by show (0 : Int) ≠ 120; decide⟩
  rw [if_neg h19]
  by_cases hc : 7 ≤ o ∧ o ≤ 12
  · rw [if_pos hc]
    exact ⟨fun _ => .inr (by rw [boolV_kind]; unfold makeE; rw [if_neg (by omega), if_neg (by omega)]), by show (0 : Int) ≠ 120; decide⟩
  rw [if_neg hc]
  obtain ⟨e1, e2⟩ := numV_kind (wholeE o a.2.1 b.2.1)
  rw [e1]
  refine ⟨fun h => .inr ?_, ?_⟩
  · rw [e2 h]
    unfold makeE
    rw [if_pos (by omega)]
  · rcases wholeE_err o a.2.1 b.2.1 with h | h | h <;> rw [h] <;> decide
/-- P2.4 of the plain answers. -/
theorem sum_holds (o : Int) (l : List V3) :
    ((doE o l).2 = 0 → (makesE o (l.map (·.1))).2 = 0 ∧ ((doE o l).1 = nul ∨ (doE o l).1.1 = (makesE o (l.map (·.1))).1)) ∧
    ((doE o l).2 ≠ 0 → ((makesE o (l.map (·.1))).2 ≠ 120 ∨ (doE o l).2 = 120 ∨ (doE o l).2 = 2) ∧ ((doE o l).2 ≠ 120 ∨ (makesE o (l.map (·.1))).2 = 120)) := by
  unfold doE
  by_cases h1 : l.any (fun v => decide (checkV v.1 v.2.1 v.2.2 ≠ 0)) = true
  · rw [if_pos h1]
    exact ⟨fun h => (by cases h), fun _ => ⟨.inr (.inr rfl), .inl (by show (2 : Int) ≠ 120; decide)⟩⟩
  rw [if_neg h1]
  by_cases h2 : (makesE o (l.map (·.1))).2 ≠ 0
  · rw [if_pos h2]
    refine ⟨fun h => absurd h h2, fun _ => ⟨?_, ?_⟩⟩
    · by_cases h : (makesE o (l.map (·.1))).2 = 120
      · exact .inr (.inl h)
      · exact .inl h
    · by_cases h : (makesE o (l.map (·.1))).2 = 120
      · exact .inr h
      · exact .inl h
  rw [if_neg h2]
  have h2 : (makesE o (l.map (·.1))).2 = 0 := by omega
  obtain ⟨g1, g2⟩ := op_kind o l h2
  exact ⟨fun h => ⟨h2, g1 h⟩, fun _ => ⟨.inl (by rw [h2]; decide), .inl g2⟩⟩
end Go.Proofs.Ytoknfdgejiachaa
