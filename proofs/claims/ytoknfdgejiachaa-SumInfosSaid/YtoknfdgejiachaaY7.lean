import Derived.Test.YtoknfdgejiachaaY5
import Derived.Test.YtoknfdgejiachaaY6
namespace Go.Proofs.Ytoknfdgejiachaa
open Go.RowKit Go.Shelf

/-- A slice that reads as a list of numbers. -/
def Ints (w : World) (v : Value) (l : List Int) : Prop :=
  ∃ p cap, v = .slice p l.length cap ∧ l.length ≤ 100000 ∧ ∀ i, i < l.length → ∃ B off, p = some ⟨B, off, none⟩ ∧ w.cell? ⟨B, off + i, none⟩ = some (.int .i64 (l.getD i 0))

theorem ret_pair {p q : Int × Int} (h : p = q) : Ending.returned (two p) = .returned (two q) := by rw [h]
theorem makes_one (o a : Int) (h1 : 15 ≤ o) (h2 : o ≤ 20) : makesE o [a] = if a < 0 ∨ 4 < a then (0, 2) else if badT o a then (0, 120) else (makeE o, 0) := by
  unfold makesE
  have hm : manyE o = 1 := by unfold manyE; rw [if_neg (by omega)]
  rw [if_neg (by omega), hm, if_neg (by simp)]
  simp only [List.any_cons, List.any_nil, Bool.or_false, decide_eq_true_eq]
  rw [if_neg (show ¬ (6 ≤ o ∧ o ≤ 12 ∧ _) from fun h => by omega), if_neg (show ¬ o = 6 by omega)]
theorem makes_two (o a b : Int) (h1 : 1 ≤ o) (h2 : o ≤ 14) : makesE o [a, b] = if (a < 0 ∨ 4 < a) ∨ (b < 0 ∨ 4 < b) then (0, 2) else if badT o a || badT o b then (0, 120) else if 6 ≤ o ∧ o ≤ 12 ∧ a ≠ 0 ∧ b ≠ 0 ∧ a ≠ b then (0, 120) else if o = 6 then (max a b, 0) else (makeE o, 0) := by
  unfold makesE
  have hm : manyE o = 2 := by unfold manyE; rw [if_pos (by omega)]
  rw [if_neg (by omega), hm, if_neg (by simp)]
  simp only [List.any_cons, List.any_nil, Bool.or_false, Bool.or_eq_true, decide_eq_true_eq]
  rfl
theorem badT_in (o t f : Int) (hf : ofE o = f) (h0 : f ≠ 0) (h6 : o ≠ 6) (h19 : o ≠ 19) : badT o t = ((t != 0) && (t != f)) := by
  unfold badT
  rw [hf]
  by_cases a : t = 0 <;> by_cases b : t = f <;> simp [a, b, h0, h6, h19]
theorem name_some (m : Nat) (h1 : 1 ≤ m) (h2 : m ≤ 20) : (oname m).toList.isEmpty = false ∧ ((oname m).toList = [] ↔ False) := by
  have key : ∀ s : ByteArray, s.toList.isEmpty = false → s.toList.isEmpty = false ∧ (s.toList = [] ↔ False) := fun s h => ⟨h, by
    constructor
    · intro g; rw [g] at h; cases h
    · exact False.elim⟩
  apply key
  rw [toL]
  obtain rfl | rfl | rfl | rfl | rfl | rfl | rfl | rfl | rfl | rfl | rfl | rfl | rfl | rfl | rfl | rfl | rfl | rfl | rfl | rfl : m = 1 ∨ m = 2 ∨ m = 3 ∨ m = 4 ∨ m = 5 ∨ m = 6 ∨ m = 7 ∨ m = 8 ∨ m = 9 ∨ m = 10 ∨ m = 11 ∨ m = 12 ∨ m = 13 ∨ m = 14 ∨ m = 15 ∨ m = 16 ∨ m = 17 ∨ m = 18 ∨ m = 19 ∨ m = 20 := by omega
  all_goals rfl
theorem bne_t {a b : Int} (h : a ≠ b) : (a != b) = true := by simpa using h
theorem bne_f {a b : Int} (h : a = b) : (a != b) = false := by simpa using h

theorem refMakes_any (o : Int) (l : List Int) (v : Value) (w : World) (h : Ints w v l) :
    Calls Try.prog 10 #[.int .i64 o, v] w fun r w' => r = .returned (two (makesE o l)) ∧ Below w.heap.size w w' := by
  obtain ⟨p, cap, rfl, hl, hc⟩ := h
  by_cases ho : o < 1 ∨ 20 < o
  · have e : makesE o l = (0, 2) := by unfold makesE; rw [if_pos ho]
    rw [e]
    exact refMakes_none o _ p cap w (Lib.hid fun w => refInfo_none o ho w)
  have hi : infoV o = info (oname o.toNat) (manyE o) (ofE o) (makeE o) := by unfold infoV; rw [if_neg ho]
  have CI : ∀ w, Calls Try.prog 12 #[.int .i64 o] w fun r w' => r = .returned (info (oname o.toNat) (manyE o) (ofE o) (makeE o)) ∧ Below w.heap.size w w' := fun w => by rw [← hi]; exact refInfo_any o w
  obtain ⟨n1, n2⟩ := name_some o.toNat (by omega) (by omega)
  generalize oname o.toNat = n at CI n1 n2
  by_cases hm : ¬ l.length = manyE o
  · have e : makesE o l = (0, 2) := by unfold makesE; rw [if_neg ho, if_pos hm]
    rw [e]
    exact refMakes_many o _ _ n (manyE o) l.length p cap w n1 n2 hl (Lib.hid CI) hm
  have hm : l.length = manyE o := Classical.not_not.1 hm
  by_cases h14 : o ≤ 14
  · have hm2 : manyE o = 2 := by unfold manyE; rw [if_pos h14]
    rw [hm2] at hm CI
    match l, hm with
    | [a, b], _ =>
      obtain ⟨B, off, rfl, ca⟩ := hc 0 (by simp)
      obtain ⟨B', off', e', cb⟩ := hc 1 (by simp)
      simp only [Option.some.injEq, Addr.mk.injEq] at e'
      obtain ⟨rfl, rfl, -⟩ := e'
      simp only [Nat.add_zero, List.getD_cons_zero, List.getD_cons_succ] at ca cb
      rw [makes_two o a b (by omega) h14]
      by_cases hr : (a < 0 ∨ 4 < a) ∨ (b < 0 ∨ 4 < b)
      · rw [if_pos hr]
        by_cases ha : a < 0 ∨ 4 < a
        · rcases ha with ha | ha
          · exact refMakes_R2l o _ _ a b n B off cap w n1 n2 (Lib.hid CI) (Lib.hid ca) (Lib.hid cb) ha
          · exact refMakes_R2h o _ _ a b n B off cap w n1 n2 (Lib.hid CI) (Lib.hid ca) (Lib.hid cb) ha
        · rcases hr with hr | hr | hr
          · exact absurd hr ha
          · exact refMakes_R2bl o _ _ a b n B off cap w n1 n2 (Lib.hid CI) (Lib.hid ca) (Lib.hid cb) (by omega) (by omega) hr
          · exact refMakes_R2bh o _ _ a b n B off cap w n1 n2 (Lib.hid CI) (Lib.hid ca) (Lib.hid cb) (by omega) (by omega) hr
      rw [if_neg hr]
      by_cases h6 : o = 6
      · subst h6
        have e : (if badT 6 a || badT 6 b then ((0 : Int), (120 : Int)) else if 6 ≤ (6 : Int) ∧ (6 : Int) ≤ 12 ∧ a ≠ 0 ∧ b ≠ 0 ∧ a ≠ b then (0, 120) else if (6 : Int) = 6 then (max a b, 0) else (makeE 6, 0)) = mkCat a b := by
          unfold mkCat
          have k : ∀ t, badT 6 t = notText t := fun t => by unfold badT notText; simp [ofE]
          rw [k, k]
          simp
        rw [e]
        exact refMakes_Zcat _ _ a b n B off cap w n1 n2 (Lib.hid CI) (Lib.hid ca) (Lib.hid cb) (by omega) (by omega) (by omega) (by omega) (bne_f rfl)
      by_cases hcmp : 7 ≤ o ∧ o ≤ 12
      · have hf : ofE o = 0 := by unfold ofE; rw [if_neg (by omega), if_neg (by omega)]
        have k : ∀ t, badT o t = false := fun t => by unfold badT; rw [hf]; simp; omega
        rw [k, k]
        have e : (if (false || false) = true then ((0 : Int), (120 : Int)) else if 6 ≤ o ∧ o ≤ 12 ∧ a ≠ 0 ∧ b ≠ 0 ∧ a ≠ b then (0, 120) else if o = 6 then (max a b, 0) else (makeE o, 0)) = mkCmp (makeE o) a b := by
          unfold mkCmp
          rw [if_neg (by decide), if_neg h6]
          by_cases g : a ≠ 0 ∧ b ≠ 0 ∧ a ≠ b
          · rw [if_pos ⟨by omega, by omega, g⟩, if_pos g]
          · rw [if_neg (fun x => g x.2.2), if_neg g]
        rw [e]
        exact refMakes_Zcmp o _ _ a b n B off cap w n1 n2 (Lib.hid CI) (Lib.hid ca) (Lib.hid cb) (by omega) (by omega) (by omega) (by omega) (bne_f hf) (by simp; omega) (by simp; omega) hcmp.1 hcmp.2
      have h0 : ofE o ≠ 0 := by unfold ofE; split; decide; rw [if_pos (by omega)]; decide
      rw [badT_in o a _ rfl h0 h6 (by omega), badT_in o b _ rfl h0 h6 (by omega)]
      have g1 : ¬ (6 ≤ o ∧ o ≤ 12 ∧ a ≠ 0 ∧ b ≠ 0 ∧ a ≠ b) := by omega
      rw [if_neg g1, if_neg h6]
      have z6 : (o == 6) = false := by simpa using h6
      have z19 : (o == 19) = false := by simp; omega
      have f0 := bne_t h0
      generalize ofE o = f at *
      generalize makeE o = k at *
      have ho' : o < 6 ∨ 12 < o := by omega
      by_cases a0 : a = 0
      · by_cases b0 : b = 0
        · rw [bne_f a0, bne_f b0]
          rcases ho' with hz | hz
          · exact refMakes_200l o _ _ a b n B off cap w n1 n2 (Lib.hid CI) (Lib.hid ca) (Lib.hid cb) (by omega) (by omega) (by omega) (by omega) f0 z6 z19 (bne_f a0) (bne_f b0) hz
          · exact refMakes_200h o _ _ a b n B off cap w n1 n2 (Lib.hid CI) (Lib.hid ca) (Lib.hid cb) (by omega) (by omega) (by omega) (by omega) f0 z6 z19 (bne_f a0) (bne_f b0) hz
        · by_cases bf : b = f
          · rw [bne_f a0, bne_t b0, bne_f bf]
            rcases ho' with hz | hz
            · exact refMakes_20fl o _ _ a b n B off cap w n1 n2 (Lib.hid CI) (Lib.hid ca) (Lib.hid cb) (by omega) (by omega) (by omega) (by omega) f0 z6 z19 (bne_f a0) (bne_t b0) (bne_f bf) hz
            · exact refMakes_20fh o _ _ a b n B off cap w n1 n2 (Lib.hid CI) (Lib.hid ca) (Lib.hid cb) (by omega) (by omega) (by omega) (by omega) f0 z6 z19 (bne_f a0) (bne_t b0) (bne_f bf) hz
          · rw [bne_f a0, bne_t b0, bne_t bf]
            exact refMakes_20b o _ _ a b n B off cap w n1 n2 (Lib.hid CI) (Lib.hid ca) (Lib.hid cb) (by omega) (by omega) (by omega) (by omega) f0 z6 z19 (bne_f a0) (bne_t b0) (bne_t bf)
      · by_cases af : a = f
        · by_cases b0 : b = 0
          · rw [bne_t a0, bne_f af, bne_f b0]
            rcases ho' with hz | hz
            · exact refMakes_2f0l o _ _ a b n B off cap w n1 n2 (Lib.hid CI) (Lib.hid ca) (Lib.hid cb) (by omega) (by omega) (by omega) (by omega) f0 z6 z19 (bne_t a0) (bne_f af) (bne_f b0) hz
            · exact refMakes_2f0h o _ _ a b n B off cap w n1 n2 (Lib.hid CI) (Lib.hid ca) (Lib.hid cb) (by omega) (by omega) (by omega) (by omega) f0 z6 z19 (bne_t a0) (bne_f af) (bne_f b0) hz
          · by_cases bf : b = f
            · rw [bne_t a0, bne_f af, bne_t b0, bne_f bf]
              rcases ho' with hz | hz
              · exact refMakes_2ffl o _ _ a b n B off cap w n1 n2 (Lib.hid CI) (Lib.hid ca) (Lib.hid cb) (by omega) (by omega) (by omega) (by omega) f0 z6 z19 (bne_t a0) (bne_f af) (bne_t b0) (bne_f bf) hz
              · exact refMakes_2ffh o _ _ a b n B off cap w n1 n2 (Lib.hid CI) (Lib.hid ca) (Lib.hid cb) (by omega) (by omega) (by omega) (by omega) f0 z6 z19 (bne_t a0) (bne_f af) (bne_t b0) (bne_f bf) hz
            · rw [bne_t a0, bne_f af, bne_t b0, bne_t bf]
              exact refMakes_2fb o _ _ a b n B off cap w n1 n2 (Lib.hid CI) (Lib.hid ca) (Lib.hid cb) (by omega) (by omega) (by omega) (by omega) f0 z6 z19 (bne_t a0) (bne_f af) (bne_t b0) (bne_t bf)
        · rw [bne_t a0, bne_t af]
          exact refMakes_2b o _ _ a b n B off cap w n1 n2 (Lib.hid CI) (Lib.hid ca) (Lib.hid cb) (by omega) (by omega) (by omega) (by omega) f0 z6 z19 (bne_t a0) (bne_t af)
  · have hm1 : manyE o = 1 := by unfold manyE; rw [if_neg h14]
    rw [hm1] at hm CI
    match l, hm with
    | [a], _ =>
      obtain ⟨B, off, rfl, ca⟩ := hc 0 (by simp)
      simp only [Nat.add_zero, List.getD_cons_zero] at ca
      rw [makes_one o a (by omega) (by omega)]
      by_cases hr : a < 0 ∨ 4 < a
      · rw [if_pos hr]
        rcases hr with ha | ha
        · exact refMakes_R1l o _ _ a n B off cap w n1 n2 (Lib.hid CI) (Lib.hid ca) ha
        · exact refMakes_R1h o _ _ a n B off cap w n1 n2 (Lib.hid CI) (Lib.hid ca) ha
      rw [if_neg hr]
      by_cases h19 : o = 19
      · subst h19
        have e : (if badT 19 a = true then ((0 : Int), (120 : Int)) else (makeE 19, 0)) = mkLen (makeE 19) a := by
          unfold mkLen
          have k : badT 19 a = notText a := by unfold badT notText; simp [ofE]
          rw [k]
        rw [e]
        exact refMakes_Zlen _ _ a n B off cap w n1 n2 (Lib.hid CI) (Lib.hid ca) (by omega) (by omega) (bne_f rfl)
      by_cases h17 : o = 17 ∨ o = 18
      · have hf : ofE o = 0 := by unfold ofE; rw [if_neg (by omega), if_neg (by omega)]
        have k : badT o a = false := by unfold badT; rw [hf]; simp; omega
        rw [k, if_neg (by decide)]
        exact refMakes_Zany o _ _ a n B off cap w n1 n2 (Lib.hid CI) (Lib.hid ca) (by omega) (by omega) (bne_f hf) (by simp; omega) (by simp; omega) (by omega)
      have h0 : ofE o ≠ 0 := by unfold ofE; split; decide; rw [if_pos (by omega)]; decide
      rw [badT_in o a _ rfl h0 (by omega) h19]
      have z6 : (o == 6) = false := by simp; omega
      have z19 : (o == 19) = false := by simpa using h19
      have f0 := bne_t h0
      generalize ofE o = f at *
      generalize makeE o = k at *
      by_cases a0 : a = 0
      · rw [bne_f a0]
        exact refMakes_10h o _ _ a n B off cap w n1 n2 (Lib.hid CI) (Lib.hid ca) (by omega) (by omega) f0 z6 z19 (bne_f a0) (by omega)
      · by_cases af : a = f
        · rw [bne_t a0, bne_f af]
          exact refMakes_1fh o _ _ a n B off cap w n1 n2 (Lib.hid CI) (Lib.hid ca) (by omega) (by omega) f0 z6 z19 (bne_t a0) (bne_f af) (by omega)
        · rw [bne_t a0, bne_t af]
          exact refMakes_1b o _ _ a n B off cap w n1 n2 (Lib.hid CI) (Lib.hid ca) (by omega) (by omega) f0 z6 z19 (bne_t a0) (bne_t af)
end Go.Proofs.Ytoknfdgejiachaa

