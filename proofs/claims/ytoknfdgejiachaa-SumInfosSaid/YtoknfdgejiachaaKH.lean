import Derived.Test.YtoknfdgejiachaaKG
import Derived.Test.YtoknfdgejiachaaKB
namespace Go.Proofs.Ytoknfdgejiachaa
open Go.RowKit Go.Shelf

theorem p1_all : ∀ (o : Fin 21) (a : Fin 5), 1 ≤ o.val → manyE (o.val : Int) = 1 → makesE (o.val : Int) [(a.val : Int)] = if tkB (o.val : Int) (ofE (o.val : Int)) (a.val : Int) then (orE (makeE (o.val : Int)) (a.val : Int), 0) else (0, 120) := by decide +kernel
theorem p2_all : ∀ (o : Fin 21) (a b : Fin 5), 1 ≤ o.val → manyE (o.val : Int) = 2 → makesE (o.val : Int) [(a.val : Int), (b.val : Int)] = if comB (a.val : Int) (b.val : Int) then (if tkB (o.val : Int) (ofE (o.val : Int)) (comT (a.val : Int) (b.val : Int)) then (orE (makeE (o.val : Int)) (comT (a.val : Int) (b.val : Int)), 0) else (0, 120)) else (0, 120) := by decide +kernel
theorem makes_1 (o a : Int) (ho : 1 ≤ o ∧ o ≤ 20) (hm : manyE o = 1) (ha : 0 ≤ a ∧ a ≤ 4) : makesE o [a] = if tkB o (ofE o) a then (orE (makeE o) a, 0) else (0, 120) := by
  have := p1_all ⟨o.toNat, by omega⟩ ⟨a.toNat, by omega⟩
  simp only [show ((o.toNat : Nat) : Int) = o by omega, show ((a.toNat : Nat) : Int) = a by omega] at this
  exact this (by omega) hm
theorem makes_2 (o a b : Int) (ho : 1 ≤ o ∧ o ≤ 20) (hm : manyE o = 2) (ha : 0 ≤ a ∧ a ≤ 4) (hb : 0 ≤ b ∧ b ≤ 4) :
    makesE o [a, b] = if comB a b then (if tkB o (ofE o) (comT a b) then (orE (makeE o) (comT a b), 0) else (0, 120)) else (0, 120) := by
  have := p2_all ⟨o.toNat, by omega⟩ ⟨a.toNat, by omega⟩ ⟨b.toNat, by omega⟩
  simp only [show ((o.toNat : Nat) : Int) = o by omega, show ((a.toNat : Nat) : Int) = a by omega, show ((b.toNat : Nat) : Int) = b by omega] at this
  exact this (by omega) hm
theorem ty_ok {t : Int} : (t = 0 ∨ tyB t = true) ↔ (0 ≤ t ∧ t ≤ 4) := by
  unfold tyB
  rw [decide_eq_true_iff]
  omega
set_option maxRecDepth 100000 in
set_option maxHeartbeats 1000000 in
theorem made_none (o : Int) (h : Hid (¬ (1 ≤ o ∧ o ≤ 20))) (p : Option Addr) (n cap : Nat) (w : World) :
    Calls Try.prog 20 #[.int .i64 o, .slice p n cap] w fun r w' => r = .panicked (gaveUp 2) ∧ Below w.heap.size w w' := by
  go_enter Try.func20, Try.ntmps20
  go_wp2_with (first
    | (go_at_call 8; refine (info_no o h.out _).mono ?_; rintro e w1 ⟨rfl, b1⟩)
    | (go_at_call 25; with_reducible refine (need_no _ _).mono ?_; rintro e w' ⟨rfl, rfl⟩))
  exact ⟨rfl, rfl, b1.alloc b1.size _⟩
set_option maxRecDepth 100000 in
set_option maxHeartbeats 1000000 in
theorem made_many (o f k : Int) (m : Nat) (nm : ByteArray) (C : Hid (InfoOk o nm m f k)) (p : Option Addr) (n cap : Nat) (hn : n ≤ 100000) (hm : m ≤ 2) (h : Hid (¬ n = m)) (w : World) :
    Calls Try.prog 20 #[.int .i64 o, .slice p n cap] w fun r w' => r = .panicked (gaveUp 2) ∧ Below w.heap.size w w' := by
  have e1 : ((n : Int) == (m : Int)) = false := by have := h.out; simp; omega
  go_enter Try.func20, Try.ntmps20
  go_wp2_with (first
    | (go_at_call 8; refine (C.out _).mono ?_; rintro e w1 ⟨rfl, b1⟩)
    | (go_at_call 25; with_reducible refine (need_no _ _).mono ?_; rintro e w' ⟨rfl, rfl⟩))
  exact ⟨rfl, rfl, b1.alloc b1.size _⟩
theorem infoOk {o : Int} (h : 1 ≤ o ∧ o ≤ 20) : InfoOk o (oname o.toNat) (manyE o) (ofE o) (makeE o) := fun w => info_yes o h w
theorem made_any (o : Int) (l : List Int) (v : Value) (w : World) (hI : Ints w v l) (hl : l.length ≤ 4) :
    Calls Try.prog 20 #[.int .i64 o, v] w fun r w' => r = endN (makesE o l) ∧ Below w.heap.size w w' := by
  obtain ⟨p, cap, rfl, hl2, hc⟩ := hI
  by_cases ho : 1 ≤ o ∧ o ≤ 20
  · by_cases hm : l.length = manyE o
    · have hne : 0 < l.length := by rw [hm]; unfold manyE; split <;> omega
      obtain ⟨B, off, rfl, _⟩ := hc 0 hne
      have cl : IntsAt w B off l := by
        intro i hi
        obtain ⟨B', off', e, h⟩ := hc i hi
        injection e with e; injection e with e1 e2
        subst e1; subst e2
        exact h
      have C := infoOk ho
      rw [← hm] at C
      by_cases hg : TypesTo l l.length
      · match l, hm, hne, hg, cl, C, hl2 with
        | [a], hm, _, hg, cl, C, hl2 =>
          have ga := ty_ok.1 (hg 0 (by simp))
          rw [makes_1 o a ho hm.symm (by simpa using ga)]
          have CM : ∀ W : World, IntsAt W B off [a] → Calls Try.prog 40 #[.int .i64 0, .slice (some ⟨B, off, none⟩) [a].length cap] W fun r w' => r = .returned (.tuple #[.int .i64 a, .bool true]) ∧ W = w' := fun W h => common_1 a B off cap W (h 0 (by simp))
          by_cases ht : tkB o (ofE o) a = true
          · rw [if_pos ht]
            exact made_ok o (ofE o) (makeE o) a (oname o.toNat) [a] (Lib.hid C) hl2 (Lib.hid hg) B off cap w (Lib.hid cl) (Lib.hid CM) (Lib.hid (by rw [← ht]; exact takes_any o (ofE o) a))
          · rw [if_neg ht]
            exact made_wrong o (ofE o) (makeE o) a (oname o.toNat) [a] (Lib.hid C) hl2 (Lib.hid hg) B off cap w (Lib.hid cl) (Lib.hid CM) (Lib.hid (by rw [← show tkB o (ofE o) a = false by simpa using ht]; exact takes_any o (ofE o) a))
        | [a, b], hm, _, hg, cl, C, hl2 =>
          have ga := ty_ok.1 (hg 0 (by simp))
          have gb := ty_ok.1 (hg 1 (by simp))
          rw [makes_2 o a b ho hm.symm (by simpa using ga) (by simpa using gb)]
          have CM : ∀ W : World, IntsAt W B off [a, b] → Calls Try.prog 40 #[.int .i64 0, .slice (some ⟨B, off, none⟩) [a, b].length cap] W fun r w' => r = .returned (.tuple #[.int .i64 (if comB a b then comT a b else 0), .bool (comB a b)]) ∧ W = w' := fun W h => common_2 a b B off cap W (h 0 (by simp)) (h 1 (by simp))
          by_cases hcm : comB a b = true
          · rw [if_pos hcm]
            rw [hcm] at CM
            simp only [if_true] at CM
            by_cases ht : tkB o (ofE o) (comT a b) = true
            · rw [if_pos ht]
              exact made_ok o (ofE o) (makeE o) (comT a b) (oname o.toNat) [a, b] (Lib.hid C) hl2 (Lib.hid hg) B off cap w (Lib.hid cl) (Lib.hid CM) (Lib.hid (by rw [← ht]; exact takes_any o (ofE o) (comT a b)))
            · rw [if_neg ht]
              exact made_wrong o (ofE o) (makeE o) (comT a b) (oname o.toNat) [a, b] (Lib.hid C) hl2 (Lib.hid hg) B off cap w (Lib.hid cl) (Lib.hid CM) (Lib.hid (by rw [← show tkB o (ofE o) (comT a b) = false by simpa using ht]; exact takes_any o (ofE o) (comT a b)))
          · rw [if_neg hcm]
            rw [show comB a b = false by simpa using hcm] at CM
            exact made_unlike o (ofE o) (makeE o) 0 (oname o.toNat) [a, b] (Lib.hid C) hl2 (Lib.hid hg) B off cap w (Lib.hid cl) (Lib.hid (by simpa using CM))
        | a :: b :: c :: l', hm, _, _, _, _, _ =>
          exfalso
          unfold manyE at hm
          simp at hm
          split at hm <;> omega
      · have e : makesE o l = (0, 2) := by
          unfold makesE
          rw [if_neg (by omega), if_neg (by omega), if_pos]
          rw [List.any_eq_true]
          have : ∃ i, i < l.length ∧ ¬ (l.getD i 0 = 0 ∨ tyB (l.getD i 0) = true) := by
            apply Classical.byContradiction
            intro hx
            exact hg fun i hi => Classical.byContradiction fun hy => hx ⟨i, hi, hy⟩
          obtain ⟨i, hi, hb⟩ := this
          rw [ty_ok] at hb
          refine ⟨l.getD i 0, ?_, by rw [decide_eq_true_iff]; omega⟩
          rw [List.getD_eq_getElem?_getD, List.getElem?_eq_getElem hi]
          exact List.getElem_mem _
        rw [e]
        exact made_bad o (ofE o) (makeE o) (oname o.toNat) l (Lib.hid C) hl2 (Lib.hid hg) B off cap w (Lib.hid cl)
    · have e : makesE o l = (0, 2) := by unfold makesE; rw [if_neg (by omega), if_pos hm]
      rw [e]
      exact made_many o (ofE o) (makeE o) (manyE o) (oname o.toNat) (Lib.hid (infoOk ho)) p l.length cap hl2 (by unfold manyE; split <;> omega) (Lib.hid hm) w
  · have e : makesE o l = (0, 2) := by unfold makesE; rw [if_pos (by omega)]
    rw [e]
    exact made_none o (Lib.hid ho) p l.length cap w
end Go.Proofs.Ytoknfdgejiachaa
