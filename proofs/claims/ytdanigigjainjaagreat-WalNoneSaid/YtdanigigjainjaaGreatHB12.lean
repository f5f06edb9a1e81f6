/- WalNone: for every input the call returns true and leaves its arguments as they were. Condition: none besides the form's own. -/
import Derived.Test.YtdanigigjainjaaGreatHB11
import Derived.Test.YtdanigigjainjaaGreatRows
namespace Go.Proofs.YtdanigigjainjaaGreat
open Go.RowKit Go.Shelf
attribute [local go_sem] Oper.semAt_some

set_option maxRecDepth 100000 in
set_option maxHeartbeats 2000000 in
theorem dnew_no (n : Int) (w : World) (hn : n < 1 ∨ 40000 < n) : Calls Tryz.prog 7 #[.int .i64 n] w fun r w' => r = .returned (.tuple #[.pointer none, .int .i64 2]) ∧ w = w' := by
  by_cases h1 : n < 1
  · go_enter Tryz.func7, Tryz.ntmps7
    go_wp2
    refine bodyPost_ret (v := .tuple #[.pointer none, .int .i64 2]) ?_ rfl ⟨rfl, rfl⟩
    simp [results, Tryz.results7, go_sem]
  · have h2 : 40000 < n := by omega
    go_enter Tryz.func7, Tryz.ntmps7
    go_wp2
    refine bodyPost_ret (v := .tuple #[.pointer none, .int .i64 2]) ?_ rfl ⟨rfl, rfl⟩
    simp [results, Tryz.results7, go_sem]
theorem eqip (a : Addr) (w : World) (d : Nat) : (Op.equalIn (d + 1) 24 (.pointer (some a)) (.pointer (some a))).run Tryz.prog w = .ok true w := by
  unfold Op.equalIn
  simp [go_sem, sameAddr]
theorem neqp (a : Addr) (w : World) : (binOp .neq 24 (.pointer (some a)) (.pointer (some a))).run Tryz.prog w = .ok (.bool false) w := by
  have e : (Op.equalIn Op.maxDepth 24 (.pointer (some a)) (.pointer (some a))).run Tryz.prog w = .ok true w := eqip a w 9999
  simp [binOp, Op.equal, go_sem, e]
theorem neqpg (a : Addr) (x y : Operand) (w : World) : (eqGuard .neq 24 x y (.pointer (some a)) (.pointer (some a))).run Tryz.prog w = .ok () w := by
  go_simp
theorem eqi53 (f : Fn) (a b : Array Value) (w : World) (d : Nat) : (Op.equalIn (d + 1) 53 (.func f a b) .nilFunc).run Tryz.prog w = .ok false w := by
  unfold Op.equalIn
  simp [go_sem]
/-- A function that was made is not nil. -/
theorem eq53 (f : Fn) (a b : Array Value) (w : World) : (binOp .eql 53 (.func f a b) .nilFunc).run Tryz.prog w = .ok (.bool false) w := by
  have e : (Op.equalIn Op.maxDepth 53 (.func f a b) .nilFunc).run Tryz.prog w = .ok false w := eqi53 f a b w 9999
  simp [binOp, Op.equal, go_sem, e]
theorem eqg53 (f : Fn) (a b : Array Value) (x y : Operand) (w : World) : (eqGuard .eql 53 x y (.func f a b) .nilFunc).run Tryz.prog w = .ok () w := by
  go_simp
set_option maxRecDepth 100000 in
set_option maxHeartbeats 8000000 in
theorem walnone_bad (f pg n : Int) (w : World) (hn : n < 1 ∨ 40000 < n) : Calls Tryz.prog 3 #[.agg #[.int .i64 f, .int .i64 pg], .int .i64 n] w fun r w' => r = .returned (.bool true) ∧ Below w.heap.size w w' := by
  obtain ⟨w0, hw0⟩ : ∃ w0, w0 = (w.alloc (.cells #[.int .i64 f, .int .i64 pg] 23)).alloc (.cells #[.bool false] 4) := ⟨_, rfl⟩
  have hb0 : Below w.heap.size w w0 := by subst hw0; exact ((Below.refl _ _).alloc (Nat.le_refl _) _).alloc (by simp) _
  have hy0 : w0.heap[w.heap.size + 1]? = some (.cells #[.bool false] 4 (0, 0)) := by subst hw0; exact heap2 w _ _
  have HY0 := Lib.hid (And.intro hb0 hy0)
  have CN := Lib.hid (dnew_no n w0 hn)
  have NM := Lib.hid num06
  have WK := Lib.hid (works06 w0)
  clear hb0 hy0
  go_enter Tryz.func3, Tryz.ntmps3
  go_upto_region 1 with fail
  try rw [← hw0]
  clear hw0
  go_upto_region 2 with (first
    | (go_at_call 7; refine CN.out.mono ?_; rintro e w1 ⟨rfl, rfl⟩)
    | fail)
  by_cases h1 : n < 1
  · go_wp2_with (first
      | (go_at_call 8; (with_reducible refine (NM.out _ _).mono ?_); rintro e wn ⟨rfl, rfl⟩)
      | (go_at_call 9; refine WK.out.mono ?_; rintro e w2 ⟨rfl, hb2⟩; have HB2 := Lib.hid hb2; have hy2 := (hb2.block _ (Array.getElem?_eq_some_iff.1 HY0.out.2).1).trans HY0.out.2; have z0 := (cell_of_row w2 _ 0 _ _ _ hy2).trans rfl; have z1 : w2.frozen? ⟨w.heap.size + 1, 0, none⟩ = false := frozen_of_row w2 _ 0 _ _ hy2; have HZ2 := Lib.hid hy2; clear hb2 hy2)
      | fail)
    have c0 := (cell_of_row _ _ 0 _ _ _ (row_set HZ2.out (i := 0) (.bool true))).trans rfl
    refine bodyPost_ret (v := .bool true) ?_ rfl ⟨rfl, (kbT HY0.out.1 HB2.out).setCell (by show w.heap.size ≤ w.heap.size + 1; omega) _⟩
    simp [results, Tryz.results3, go_sem, c0]
  · have h2 : 40000 < n := by omega
    go_wp2_with (first
      | (go_at_call 8; (with_reducible refine (NM.out _ _).mono ?_); rintro e wn ⟨rfl, rfl⟩)
      | (go_at_call 9; refine WK.out.mono ?_; rintro e w2 ⟨rfl, hb2⟩; have HB2 := Lib.hid hb2; have hy2 := (hb2.block _ (Array.getElem?_eq_some_iff.1 HY0.out.2).1).trans HY0.out.2; have z0 := (cell_of_row w2 _ 0 _ _ _ hy2).trans rfl; have z1 : w2.frozen? ⟨w.heap.size + 1, 0, none⟩ = false := frozen_of_row w2 _ 0 _ _ hy2; have HZ2 := Lib.hid hy2; clear hb2 hy2)
      | fail)
    have c0 := (cell_of_row _ _ 0 _ _ _ (row_set HZ2.out (i := 0) (.bool true))).trans rfl
    refine bodyPost_ret (v := .bool true) ?_ rfl ⟨rfl, (kbT HY0.out.1 HB2.out).setCell (by show w.heap.size ≤ w.heap.size + 1; omega) _⟩
    simp [results, Tryz.results3, go_sem, c0]
set_option maxRecDepth 100000 in
set_option maxHeartbeats 16000000 in
theorem walnone_fit0 (f pg N : Nat) (hN : N = 2 + 9 * f + 8 * pg) (hp : 1 ≤ f ∧ f ≤ 2000 ∧ 1 ≤ pg ∧ pg ≤ 2000) (w : World) (hn : 1 ≤ N ∧ N ≤ 40000) (hodd : (N : Int) % 2 = 0) : Calls Tryz.prog 3 #[.agg #[.int .i64 (f : Int), .int .i64 (pg : Int)], .int .i64 (N : Int)] w fun r w' => r = .returned (.bool true) ∧ Below w.heap.size w w' := by
  obtain ⟨w0, hw0⟩ : ∃ w0, w0 = (w.alloc (.cells #[.int .i64 (f : Int), .int .i64 (pg : Int)] 23)).alloc (.cells #[.bool false] 4) := ⟨_, rfl⟩
  have hb0 : Below w.heap.size w w0 := by subst hw0; exact ((Below.refl _ _).alloc (Nat.le_refl _) _).alloc (by simp) _
  have hx0 : w0.heap[w.heap.size]? = some (.cells #[.int .i64 (f : Int), .int .i64 (pg : Int)] 23 (0, 0)) := by subst hw0; exact (Below.heap_alloc _ _ _ (by simp)).trans (heap_alloc_new w _)
  have hy0 : w0.heap[w.heap.size + 1]? = some (.cells #[.bool false] 4 (0, 0)) := by subst hw0; exact heap2 w _ _
  have hs0 : w.heap.size + 2 = w0.heap.size := by subst hw0; simp
  have HC : Hid (∀ W, Below w0.heap.size w0 W → W.cell? ⟨w.heap.size, 0, none⟩ = some (.int .i64 (f : Int)) ∧ W.cell? ⟨w.heap.size, 1, none⟩ = some (.int .i64 (pg : Int)) ∧ W.heap[w.heap.size + 1]? = some (.cells #[.bool false] 4 (0, 0))) := Lib.hid fun W hb => by
    have e1 := (hb.block _ (Array.getElem?_eq_some_iff.1 hx0).1).trans hx0
    exact ⟨(cell_of_row _ _ 0 _ _ _ e1).trans rfl, (cell_of_row _ _ 1 _ _ _ e1).trans rfl, (hb.block _ (Array.getElem?_eq_some_iff.1 hy0).1).trans hy0⟩
  have HB0 := Lib.hid (And.intro hb0 hs0)
  have NM := Lib.hid num06
  have WK := Lib.hid works06
  have CN := Lib.hid (new_step (n := N) w0 w0 (Below.refl _ _) hn)
  have CR := Lib.hid fun W => right_any (f : Int) (pg : Int) W
  have hpl : planOk (f : Int) (pg : Int) = true := by unfold planOk; simp only [Bool.and_eq_true, decide_eq_true_eq]; omega
  have hneq : ((N : Int) != 2 + 9 * (f : Int) + 8 * (pg : Int)) = false := by have : (N : Int) = 2 + 9 * (f : Int) + 8 * (pg : Int) := by omega
                                                                              rw [this]; simp
  have COp : Hid (∀ W Bd, DiskN w0 W Bd (Dk.newS N) → Calls Tryz.prog 10 #[.pointer (some ⟨Bd, 0, none⟩), .agg #[.int .i64 (f : Int), .int .i64 (pg : Int)]] W fun r w' => ∃ B s, r = .returned (.tuple #[.pointer (some ⟨B, 0, none⟩), .int .i64 0]) ∧ LogN w0 w' B Bd s f pg 1 1 0 [] 0) := Lib.hid fun W Bd hd => by
    rw [hN] at hd
    refine (fresh_step hd hp).mono ?_
    rintro r w' ⟨s', B, rfl, -, -, -, h⟩
    exact ⟨B, s', rfl, h⟩
  have CDo : Hid (∀ W B Bd s, LogN w0 W B Bd s f pg 1 1 0 [] 0 → Calls Tryz.prog 13 #[.pointer (some ⟨B, 0, none⟩)] W fun r w' => r = .returned (.pointer (some ⟨Bd, 0, none⟩)) ∧ Below W.heap.size W w') := Lib.hid fun W B Bd s h => by
    obtain ⟨F, ⟨mb, Fd, X, g, r⟩, -, -⟩ := h
    exact ldisk_any _ _ W (whole_of B _ W r.log)
  have CSE : Hid (∀ W, Calls Tryz.prog 12 #[.agg #[.int .i64 (f : Int), .int .i64 (pg : Int)]] W fun r w' => r = .returned (.int .i64 (2 + 9 * (f : Int) + 8 * (pg : Int))) ∧ Below W.heap.size W w') := Lib.hid fun W => refSectors_any (f : Int) (pg : Int) W hpl
  rw [hpl] at CR
  have h1 : ¬ ((N : Int) < 1) := by omega
  have h2 : ¬ (40000 < (N : Int)) := by omega
  have hodd2 : ((N : Int).tmod 2 == 1) = false := by
    rw [Int.tmod_eq_emod_of_nonneg (by omega), hodd]
    rfl
  have hoddn : N % 2 = 0 := by omega
  obtain ⟨p0, p1, -⟩ := HC.out w0 (Below.refl _ _)
  clear hb0 hx0 hy0 hs0 hN hp hpl
  refine (callsIn_wide (n := 9)).1 ?_
  refine callsIn_of_wp_marks Tryz.func3 rfl trivial ?_ rfl
  simp only [Tryz.ntmps3, List.size_toArray, List.length_cons, List.length_nil, Nat.reduceAdd, Nat.reduceSub, Array.replicate_succ, Array.replicate_zero, List.push_toArray, List.append_toArray, List.nil_append, List.cons_append]
  refine wpIn_wide.2 ?_
  go_upto_region 1 with fail
  try rw [← hw0]
  clear hw0
  go_upto_region 4 with (first
    | (go_at_call 7; refine CN.out.mono ?_; rintro e w1 ⟨Bd, rfl, hd1⟩; have HD1 := Lib.hid hd1; obtain ⟨p0, p1, -⟩ := HC.out w1 hd1.since; clear hd1)
    | fail)
  go_upto_region 5 with (first
    | (go_at_call 10; refine (COp.out w1 Bd HD1.out).mono ?_; rintro e w2 ⟨B, s2, rfl, hl2⟩; have HL2 := Lib.hid hl2; have HB2 : Hid (Below w0.heap.size w0 w2) := Lib.hid hl2.since; obtain ⟨p0, p1, -⟩ := HC.out w2 hl2.since; clear hl2)
    | fail)
  have hpe := fun w => neqp ⟨Bd, 0, none⟩ w
  have hpg := fun x y w => neqpg ⟨Bd, 0, none⟩ x y w
  go_upto_region 10 with (first
    | (go_at_call 8; (with_reducible refine (NM.out _ _).mono ?_); rintro e wn ⟨rfl, rfl⟩)
    | (go_at_call 11; refine (CR.out w2).mono ?_; rintro e w3 ⟨rfl, hb3⟩; have HB3 := Lib.hid (kbT HB2.out hb3); have HB23 := Lib.hid hb3; obtain ⟨p0, p1, -⟩ := HC.out w3 (kbT HB2.out hb3); clear hb3)
    | (go_at_call 12; refine (CSE.out w3).mono ?_; rintro e w4 ⟨rfl, hb4⟩; have HB4 := Lib.hid (kbT HB3.out hb4); have HB24 := Lib.hid (kbT HB23.out hb4); clear hb4 p0 p1)
    | (go_at_call 13; refine (CDo.out w4 B Bd s2 (HL2.out.below HB24.out)).mono ?_; rintro e w5 ⟨rfl, hb5⟩; have HB5 := Lib.hid (kbT HB4.out hb5); clear hb5)
    | fail)
  try clear p0 p1
  clear hpe hpg
  go_upto_region 13 with fail
  obtain ⟨pa, hpa⟩ : ∃ pa : Option Addr, pa = none := ⟨_, rfl⟩
  obtain ⟨w6, hw6⟩ : ∃ w6, w6 = w5 := ⟨_, rfl⟩
  have HB6 : Hid (Below w0.heap.size w0 w6) := Lib.hid (by rw [hw6]; exact HB5.out)
  have HWI : Hid (∀ W, Below w6.heap.size w6 W → WholeIs (.pointer pa) W .zero) := Lib.hid fun W hb => by
    rw [hpa]
    exact whole_none W
  rw [← hw6]
  rw [hpa] at HWI
  clear hw6 hpa
  have CMn : Hid (∀ W, Below w6.heap.size w6 W → Calls Tryz.prog 14 #[.pointer none] W fun r w' => r = .returned (.tuple #[.int .i64 0, .int .i64 0]) ∧ Below W.heap.size W w') := Lib.hid fun W hb => many_any (.pointer none) .zero W (HWI.out W hb) (by decide)
  have CPg : Hid (∀ W, Below w6.heap.size w6 W → Calls Tryz.prog 15 #[.pointer none, .int .i64 0] W fun r w' => ∃ t, r = .returned (.tuple #[t, .bool false]) ∧ Below W.heap.size W w') := Lib.hid fun W hb => page_none (.pointer none) .zero 0 W (HWI.out W hb) rfl
  have COn : Hid (∀ W, Calls Tryz.prog 10 #[.pointer none, .agg #[.int .i64 (f : Int), .int .i64 (pg : Int)]] W fun r w' => r = .returned (.tuple #[.pointer none, .int .i64 1]) ∧ Below W.heap.size W w') := Lib.hid fun W => open_nil (f : Int) (pg : Int) W
  have CPs : Hid (∀ W, Below w6.heap.size w6 W → Calls Tryz.prog 16 #[.pointer none] W fun r w' => ∃ b, r = .returned (.func (.func 46) #[] #[.pointer (some ⟨b, 0, none⟩)]) ∧ W.heap.size ≤ b ∧ w'.heap[b]? = some (.cells #[.map none] 42 (0, 0)) ∧ Below W.heap.size W w') := Lib.hid fun W hb => pages_none (.pointer none) .zero W (HWI.out W hb) rfl
  have CAp : Hid (∀ W, Below w6.heap.size w6 W → Calls Tryz.prog 17 #[.pointer none, .int .i64 0, .slice none 0 0] W fun r w' => r = .returned (.int .i64 1) ∧ Below W.heap.size W w') := Lib.hid fun W hb => append_none none .zero 0 none 0 0 W (HWI.out W hb) rfl
  have CRs : Hid (∀ W, Below w6.heap.size w6 W → Calls Tryz.prog 18 #[.pointer none] W fun r w' => r = .returned (.int .i64 1) ∧ Below W.heap.size W w') := Lib.hid fun W hb => reset_none (.pointer none) .zero W (HWI.out W hb) rfl
  have CSz : Hid (∀ W, Below w6.heap.size w6 W → Calls Tryz.prog 19 #[.pointer none] W fun r w' => r = .returned (.int .i64 0) ∧ Below W.heap.size W w') := Lib.hid fun W hb => size_any (.pointer none) .zero W (HWI.out W hb)
  have CEp : Hid (∀ W, Below w6.heap.size w6 W → Calls Tryz.prog 20 #[.pointer none] W fun r w' => r = .returned (.int .u64 0) ∧ Below W.heap.size W w') := Lib.hid fun W hb => epoch_any (.pointer none) .zero W (HWI.out W hb)
  have CDk : Hid (∀ W, Below w6.heap.size w6 W → Calls Tryz.prog 13 #[.pointer none] W fun r w' => r = .returned (.pointer none) ∧ Below W.heap.size W w') := Lib.hid fun W hb => ldisk_any (.pointer none) .zero W (HWI.out W hb)
  go_upto_region 17 with (first
    | (go_at_call 14; refine (CMn.out w6 (Below.refl _ _)).mono ?_; rintro e w7 ⟨rfl, hb7⟩; have HB7 := Lib.hid hb7; clear hb7)
    | (go_at_call 15; refine (CPg.out w7 HB7.out).mono ?_; rintro e w8 ⟨t8, rfl, hb8⟩; have HB8 := Lib.hid (kbT HB7.out hb8); obtain ⟨p0, p1, -⟩ := HC.out w8 (kbT HB6.out HB8.out); clear hb8)
    | (go_at_call 10; refine (COn.out w8).mono ?_; rintro e w9 ⟨rfl, hb9⟩; have HB9 := Lib.hid (kbT HB8.out hb9); clear hb9 p0 p1)
    | (go_at_call 16; refine (CPs.out w9 HB9.out).mono ?_; rintro e w10 ⟨b, rfl, hbb, hrb, hb10⟩; have HB10 := Lib.hid (kbT HB9.out hb10); have HRB := Lib.hid hrb; clear hb10 hrb hbb)
    | fail)
  have hq := fun w => eq53 (.func 46) #[] #[.pointer (some ⟨b, 0, none⟩)] w
  have hqg := fun x y w => eqg53 (.func 46) #[] #[.pointer (some ⟨b, 0, none⟩)] x y w
  go_upto_region 19 with fail
  clear hq hqg
  refine (wpIn_wide (n := 9)).1 ?_
  gi_wp2
  refine (wpIn_wide (n := 9)).1 ?_
  apply wpIn_block
  refine range_norm 0 (fun D V => V.heap[D]? = some (.deferred (some [])) ∧ w10.heap.size ≤ D ∧ Below w10.heap.size w10 V) (fun _ _ h => h) ?_ ?_
  · refine' range_low (n := 9) (ι := Unit) rfl (by decide) (gf := 46) (lb := #[.pointer (some ⟨b, 0, none⟩)]) rfl trivial (enters_of Tryz.func46 (by kernel_rfl) rfl)
      (pages_low (9 - 1) (by decide) (mo := none) (nn := 0) (g := fun _ => none) (bt := fun _ => []) (X := fun _ => False) (fun _ => rfl) (by omega) (fun k hk => by rw [keysV_none] at hk; cases hk) (fun k hk => hk.elim) ((cell_of_row w10 _ 0 _ _ _ HRB.out).trans rfl)) (fun x _ V => False) (fun x i A l o o' hl hc h => h)
      (fun k h => h.elim (fun h => by cases h) (fun h => h.elim)) (Below.refl _ _) (fun _ => rfl)
      (fun pre V => Below w10.heap.size w10 V) (fun c pre V => False)
      (fun s A C h hB hb => h.trans (hb.mono (by omega)))
      (fun c s A C h hB hb => h) (Below.refl _ _)
      (fun x i => { tmps := #[], defers := [] }) ?assign ?body ?done ?stop
    case assign =>
      intro ly2 x V K hs hT hK
      have := hT.1
      rw [keysV_none] at this
      cases this
    case body =>
      rintro ly2 pre x i V hI hs hlen hsp hG
      exact hG.elim
    case done =>
      rintro D xs V hD hxs hI hK
      exact ⟨.inl rfl, D, rfl, hK, hD, hI⟩
    case stop =>
      rintro D c pre V hD hsp h hK
      exact h.elim
  · rintro D V ⟨hK, hD, hBV⟩
    have HBV := Lib.hid hBV
    have HKD := Lib.hid (And.intro hK hD)
    have HV := Lib.hid (kbT HB10.out hBV)
    clear hK hD hBV
    gi_wp2
    go_wp2_with (first
      | (go_at_call 8; (with_reducible refine (NM.out _ _).mono ?_); rintro e wn ⟨rfl, rfl⟩)
      | (go_at_call 17; refine (CAp.out V HV.out).mono ?_; rintro e v1 ⟨rfl, hb1⟩; have HA1 := Lib.hid hb1; have HV1 := Lib.hid (kbT HV.out hb1); clear hb1)
      | (go_at_call 18; refine (CRs.out v1 HV1.out).mono ?_; rintro e v2 ⟨rfl, hb2⟩; have HA2 := Lib.hid (kbT HA1.out hb2); have HV2 := Lib.hid (kbT HV1.out hb2); clear hb2)
      | (go_at_call 19; refine (CSz.out v2 HV2.out).mono ?_; rintro e v3 ⟨rfl, hb3⟩; have HA3 := Lib.hid (kbT HA2.out hb3); have HV3 := Lib.hid (kbT HV2.out hb3); clear hb3)
      | (go_at_call 20; refine (CEp.out v3 HV3.out).mono ?_; rintro e v4 ⟨rfl, hb4⟩; have HA4 := Lib.hid (kbT HA3.out hb4); have HV4 := Lib.hid (kbT HV3.out hb4); clear hb4)
      | (go_at_call 13; refine (CDk.out v4 HV4.out).mono ?_; rintro e v5 ⟨rfl, hb5⟩; have HA5 := Lib.hid (kbT HA4.out hb5); have HV5 := Lib.hid (kbT HV4.out hb5); clear hb5)
      | (go_at_call 9; refine (WK.out v5).mono ?_; rintro e v6 ⟨rfl, hb6⟩; have HA6 := Lib.hid (kbT HA5.out hb6); have HV6 := Lib.hid (kbT HV5.out hb6); have hy6 := (HC.out v6 (kbT HB6.out HV6.out)).2.2; have z0 := (cell_of_row v6 _ 0 _ _ _ hy6).trans rfl; have z1 : v6.frozen? ⟨w.heap.size + 1, 0, none⟩ = false := frozen_of_row v6 _ 0 _ _ hy6; have HZ6 := Lib.hid hy6; clear hb6 hy6)
      | fail)
    have hD : w10.heap.size ≤ D := HKD.out.2
    have hD1 : D ≠ w.heap.size + 1 := by
      have a1 := HB0.out.2
      have a2 := HB6.out.size
      have a3 := HB10.out.size
      omega
    have hDl : D < V.heap.size := (Array.getElem?_eq_some_iff.1 HKD.out.1).1
    have c0 := (cell_of_row _ _ 0 _ _ _ (row_set HZ6.out (i := 0) (.bool true))).trans rfl
    have hq : (v6.setCell ⟨w.heap.size + 1, 0, none⟩ (.bool true)).heap[D]? = some (.deferred (some [])) := (Below.heap_setCell _ _ _ _ (by show D ≠ w.heap.size + 1; exact hD1)).trans ((HA6.out.block _ hDl).trans HKD.out.1)
    have hb5 : Below w.heap.size w (v6.setCell ⟨w.heap.size + 1, 0, none⟩ (.bool true)) := (kbT HB0.out.1 (kbT HB6.out HV6.out)).setCell (by show w.heap.size ≤ w.heap.size + 1; omega) _
    generalize v6.setCell ⟨w.heap.size + 1, 0, none⟩ (.bool true) = W5 at c0 hq hb5 ⊢
    have c1 : (W5.putObj D (.deferred none)).cell? ⟨w.heap.size + 1, 0, none⟩ = some (.bool true) := (World.cell?_of_block (World.putObj_heap_other (by show w.heap.size + 1 ≠ D; omega))).trans c0
    have hDw : w.heap.size ≤ D := by
      have a1 := HB0.out.2
      have a2 := HB6.out.size
      have a3 := HB10.out.size
      omega
    have hb6 := hb5.trans (belowK_b (w := w) (Nat.le_refl _) W5 D _ (.deferred none) hDw hq rfl rfl)
    refine ⟨by simp, .inl ⟨_, _, rfl, run_takeDeferred hq, ?_⟩⟩
    refine ⟨.bool true, ?_, rfl, hb6⟩
    simp [results, Tryz.results3, go_sem, c1]
set_option maxRecDepth 100000 in
set_option maxHeartbeats 16000000 in
theorem walnone_fit1 (f pg N : Nat) (hN : N = 2 + 9 * f + 8 * pg) (hp : 1 ≤ f ∧ f ≤ 2000 ∧ 1 ≤ pg ∧ pg ≤ 2000) (w : World) (hn : 1 ≤ N ∧ N ≤ 40000) (hodd : (N : Int) % 2 = 1) : Calls Tryz.prog 3 #[.agg #[.int .i64 (f : Int), .int .i64 (pg : Int)], .int .i64 (N : Int)] w fun r w' => r = .returned (.bool true) ∧ Below w.heap.size w w' := by
  obtain ⟨w0, hw0⟩ : ∃ w0, w0 = (w.alloc (.cells #[.int .i64 (f : Int), .int .i64 (pg : Int)] 23)).alloc (.cells #[.bool false] 4) := ⟨_, rfl⟩
  have hb0 : Below w.heap.size w w0 := by subst hw0; exact ((Below.refl _ _).alloc (Nat.le_refl _) _).alloc (by simp) _
  have hx0 : w0.heap[w.heap.size]? = some (.cells #[.int .i64 (f : Int), .int .i64 (pg : Int)] 23 (0, 0)) := by subst hw0; exact (Below.heap_alloc _ _ _ (by simp)).trans (heap_alloc_new w _)
  have hy0 : w0.heap[w.heap.size + 1]? = some (.cells #[.bool false] 4 (0, 0)) := by subst hw0; exact heap2 w _ _
  have hs0 : w.heap.size + 2 = w0.heap.size := by subst hw0; simp
  have HC : Hid (∀ W, Below w0.heap.size w0 W → W.cell? ⟨w.heap.size, 0, none⟩ = some (.int .i64 (f : Int)) ∧ W.cell? ⟨w.heap.size, 1, none⟩ = some (.int .i64 (pg : Int)) ∧ W.heap[w.heap.size + 1]? = some (.cells #[.bool false] 4 (0, 0))) := Lib.hid fun W hb => by
    have e1 := (hb.block _ (Array.getElem?_eq_some_iff.1 hx0).1).trans hx0
    exact ⟨(cell_of_row _ _ 0 _ _ _ e1).trans rfl, (cell_of_row _ _ 1 _ _ _ e1).trans rfl, (hb.block _ (Array.getElem?_eq_some_iff.1 hy0).1).trans hy0⟩
  have HB0 := Lib.hid (And.intro hb0 hs0)
  have NM := Lib.hid num06
  have WK := Lib.hid works06
  have CN := Lib.hid (new_step (n := N) w0 w0 (Below.refl _ _) hn)
  have CR := Lib.hid fun W => right_any (f : Int) (pg : Int) W
  have hpl : planOk (f : Int) (pg : Int) = true := by unfold planOk; simp only [Bool.and_eq_true, decide_eq_true_eq]; omega
  have hneq : ((N : Int) != 2 + 9 * (f : Int) + 8 * (pg : Int)) = false := by have : (N : Int) = 2 + 9 * (f : Int) + 8 * (pg : Int) := by omega
                                                                              rw [this]; simp
  have COp : Hid (∀ W Bd, DiskN w0 W Bd (Dk.newS N) → Calls Tryz.prog 10 #[.pointer (some ⟨Bd, 0, none⟩), .agg #[.int .i64 (f : Int), .int .i64 (pg : Int)]] W fun r w' => ∃ B s, r = .returned (.tuple #[.pointer (some ⟨B, 0, none⟩), .int .i64 0]) ∧ LogN w0 w' B Bd s f pg 1 1 0 [] 0) := Lib.hid fun W Bd hd => by
    rw [hN] at hd
    refine (fresh_step hd hp).mono ?_
    rintro r w' ⟨s', B, rfl, -, -, -, h⟩
    exact ⟨B, s', rfl, h⟩
  have CDo : Hid (∀ W B Bd s, LogN w0 W B Bd s f pg 1 1 0 [] 0 → Calls Tryz.prog 13 #[.pointer (some ⟨B, 0, none⟩)] W fun r w' => r = .returned (.pointer (some ⟨Bd, 0, none⟩)) ∧ Below W.heap.size W w') := Lib.hid fun W B Bd s h => by
    obtain ⟨F, ⟨mb, Fd, X, g, r⟩, -, -⟩ := h
    exact ldisk_any _ _ W (whole_of B _ W r.log)
  have CSE : Hid (∀ W, Calls Tryz.prog 12 #[.agg #[.int .i64 (f : Int), .int .i64 (pg : Int)]] W fun r w' => r = .returned (.int .i64 (2 + 9 * (f : Int) + 8 * (pg : Int))) ∧ Below W.heap.size W w') := Lib.hid fun W => refSectors_any (f : Int) (pg : Int) W hpl
  rw [hpl] at CR
  have h1 : ¬ ((N : Int) < 1) := by omega
  have h2 : ¬ (40000 < (N : Int)) := by omega
  have hodd2 : ((N : Int).tmod 2 == 1) = true := by
    rw [Int.tmod_eq_emod_of_nonneg (by omega), hodd]
    rfl
  have hoddn : N % 2 = 1 := by omega
  obtain ⟨p0, p1, -⟩ := HC.out w0 (Below.refl _ _)
  clear hb0 hx0 hy0 hs0 hN hp hpl
  refine (callsIn_wide (n := 9)).1 ?_
  refine callsIn_of_wp_marks Tryz.func3 rfl trivial ?_ rfl
  simp only [Tryz.ntmps3, List.size_toArray, List.length_cons, List.length_nil, Nat.reduceAdd, Nat.reduceSub, Array.replicate_succ, Array.replicate_zero, List.push_toArray, List.append_toArray, List.nil_append, List.cons_append]
  refine wpIn_wide.2 ?_
  go_upto_region 1 with fail
  try rw [← hw0]
  clear hw0
  go_upto_region 4 with (first
    | (go_at_call 7; refine CN.out.mono ?_; rintro e w1 ⟨Bd, rfl, hd1⟩; have HD1 := Lib.hid hd1; obtain ⟨p0, p1, -⟩ := HC.out w1 hd1.since; clear hd1)
    | fail)
  go_upto_region 5 with (first
    | (go_at_call 10; refine (COp.out w1 Bd HD1.out).mono ?_; rintro e w2 ⟨B, s2, rfl, hl2⟩; have HL2 := Lib.hid hl2; have HB2 : Hid (Below w0.heap.size w0 w2) := Lib.hid hl2.since; obtain ⟨p0, p1, -⟩ := HC.out w2 hl2.since; clear hl2)
    | fail)
  have hpe := fun w => neqp ⟨Bd, 0, none⟩ w
  have hpg := fun x y w => neqpg ⟨Bd, 0, none⟩ x y w
  go_upto_region 10 with (first
    | (go_at_call 8; (with_reducible refine (NM.out _ _).mono ?_); rintro e wn ⟨rfl, rfl⟩)
    | (go_at_call 11; refine (CR.out w2).mono ?_; rintro e w3 ⟨rfl, hb3⟩; have HB3 := Lib.hid (kbT HB2.out hb3); have HB23 := Lib.hid hb3; obtain ⟨p0, p1, -⟩ := HC.out w3 (kbT HB2.out hb3); clear hb3)
    | (go_at_call 12; refine (CSE.out w3).mono ?_; rintro e w4 ⟨rfl, hb4⟩; have HB4 := Lib.hid (kbT HB3.out hb4); have HB24 := Lib.hid (kbT HB23.out hb4); clear hb4 p0 p1)
    | (go_at_call 13; refine (CDo.out w4 B Bd s2 (HL2.out.below HB24.out)).mono ?_; rintro e w5 ⟨rfl, hb5⟩; have HB5 := Lib.hid (kbT HB4.out hb5); clear hb5)
    | fail)
  try clear p0 p1
  clear hpe hpg
  have hz := zeroLog
  simp only [LogV.zero] at hz
  go_upto_region 13 with fail
  clear hz
  obtain ⟨pa, hpa⟩ : ∃ pa : Option Addr, pa = some ⟨w5.heap.size, 0, none⟩ := ⟨_, rfl⟩
  obtain ⟨w6, hw6⟩ : ∃ w6, w6 = w5.alloc (.cells #[.pointer none, .int .i64 0, .int .i64 0, .int .u64 0, .int .u64 0, .int .i64 0, .int .u32 0, .int .i64 0, .map none] 46) := ⟨_, rfl⟩
  have HB6 : Hid (Below w0.heap.size w0 w6) := Lib.hid (by rw [hw6]; exact (HB5.out).alloc (HB5.out).size _)
  have HWI : Hid (∀ W, Below w6.heap.size w6 W → WholeIs (.pointer pa) W .zero) := Lib.hid fun W hb => by
    rw [hpa]
    exact whole_of _ .zero W (logAt_below (by rw [hw6]; exact heap_alloc_new _ _) hb)
  rw [← hw6, ← hpa]
  clear hw6 hpa
  have CMn : Hid (∀ W, Below w6.heap.size w6 W → Calls Tryz.prog 14 #[.pointer pa] W fun r w' => r = .returned (.tuple #[.int .i64 0, .int .i64 0]) ∧ Below W.heap.size W w') := Lib.hid fun W hb => many_any (.pointer pa) .zero W (HWI.out W hb) (by decide)
  have CPg : Hid (∀ W, Below w6.heap.size w6 W → Calls Tryz.prog 15 #[.pointer pa, .int .i64 0] W fun r w' => ∃ t, r = .returned (.tuple #[t, .bool false]) ∧ Below W.heap.size W w') := Lib.hid fun W hb => page_none (.pointer pa) .zero 0 W (HWI.out W hb) rfl
  have COn : Hid (∀ W, Calls Tryz.prog 10 #[.pointer none, .agg #[.int .i64 (f : Int), .int .i64 (pg : Int)]] W fun r w' => r = .returned (.tuple #[.pointer none, .int .i64 1]) ∧ Below W.heap.size W w') := Lib.hid fun W => open_nil (f : Int) (pg : Int) W
  have CPs : Hid (∀ W, Below w6.heap.size w6 W → Calls Tryz.prog 16 #[.pointer pa] W fun r w' => ∃ b, r = .returned (.func (.func 46) #[] #[.pointer (some ⟨b, 0, none⟩)]) ∧ W.heap.size ≤ b ∧ w'.heap[b]? = some (.cells #[.map none] 42 (0, 0)) ∧ Below W.heap.size W w') := Lib.hid fun W hb => pages_none (.pointer pa) .zero W (HWI.out W hb) rfl
  have CAp : Hid (∀ W, Below w6.heap.size w6 W → Calls Tryz.prog 17 #[.pointer pa, .int .i64 0, .slice none 0 0] W fun r w' => r = .returned (.int .i64 1) ∧ Below W.heap.size W w') := Lib.hid fun W hb => append_none pa .zero 0 none 0 0 W (HWI.out W hb) rfl
  have CRs : Hid (∀ W, Below w6.heap.size w6 W → Calls Tryz.prog 18 #[.pointer pa] W fun r w' => r = .returned (.int .i64 1) ∧ Below W.heap.size W w') := Lib.hid fun W hb => reset_none (.pointer pa) .zero W (HWI.out W hb) rfl
  have CSz : Hid (∀ W, Below w6.heap.size w6 W → Calls Tryz.prog 19 #[.pointer pa] W fun r w' => r = .returned (.int .i64 0) ∧ Below W.heap.size W w') := Lib.hid fun W hb => size_any (.pointer pa) .zero W (HWI.out W hb)
  have CEp : Hid (∀ W, Below w6.heap.size w6 W → Calls Tryz.prog 20 #[.pointer pa] W fun r w' => r = .returned (.int .u64 0) ∧ Below W.heap.size W w') := Lib.hid fun W hb => epoch_any (.pointer pa) .zero W (HWI.out W hb)
  have CDk : Hid (∀ W, Below w6.heap.size w6 W → Calls Tryz.prog 13 #[.pointer pa] W fun r w' => r = .returned (.pointer none) ∧ Below W.heap.size W w') := Lib.hid fun W hb => ldisk_any (.pointer pa) .zero W (HWI.out W hb)
  go_upto_region 17 with (first
    | (go_at_call 14; refine (CMn.out w6 (Below.refl _ _)).mono ?_; rintro e w7 ⟨rfl, hb7⟩; have HB7 := Lib.hid hb7; clear hb7)
    | (go_at_call 15; refine (CPg.out w7 HB7.out).mono ?_; rintro e w8 ⟨t8, rfl, hb8⟩; have HB8 := Lib.hid (kbT HB7.out hb8); obtain ⟨p0, p1, -⟩ := HC.out w8 (kbT HB6.out HB8.out); clear hb8)
    | (go_at_call 10; refine (COn.out w8).mono ?_; rintro e w9 ⟨rfl, hb9⟩; have HB9 := Lib.hid (kbT HB8.out hb9); clear hb9 p0 p1)
    | (go_at_call 16; refine (CPs.out w9 HB9.out).mono ?_; rintro e w10 ⟨b, rfl, hbb, hrb, hb10⟩; have HB10 := Lib.hid (kbT HB9.out hb10); have HRB := Lib.hid hrb; clear hb10 hrb hbb)
    | fail)
  have hq := fun w => eq53 (.func 46) #[] #[.pointer (some ⟨b, 0, none⟩)] w
  have hqg := fun x y w => eqg53 (.func 46) #[] #[.pointer (some ⟨b, 0, none⟩)] x y w
  go_upto_region 19 with fail
  clear hq hqg
  refine (wpIn_wide (n := 9)).1 ?_
  gi_wp2
  refine (wpIn_wide (n := 9)).1 ?_
  apply wpIn_block
  refine range_norm 0 (fun D V => V.heap[D]? = some (.deferred (some [])) ∧ w10.heap.size ≤ D ∧ Below w10.heap.size w10 V) (fun _ _ h => h) ?_ ?_
  · refine' range_low (n := 9) (ι := Unit) rfl (by decide) (gf := 46) (lb := #[.pointer (some ⟨b, 0, none⟩)]) rfl trivial (enters_of Tryz.func46 (by kernel_rfl) rfl)
      (pages_low (9 - 1) (by decide) (mo := none) (nn := 0) (g := fun _ => none) (bt := fun _ => []) (X := fun _ => False) (fun _ => rfl) (by omega) (fun k hk => by rw [keysV_none] at hk; cases hk) (fun k hk => hk.elim) ((cell_of_row w10 _ 0 _ _ _ HRB.out).trans rfl)) (fun x _ V => False) (fun x i A l o o' hl hc h => h)
      (fun k h => h.elim (fun h => by cases h) (fun h => h.elim)) (Below.refl _ _) (fun _ => rfl)
      (fun pre V => Below w10.heap.size w10 V) (fun c pre V => False)
      (fun s A C h hB hb => h.trans (hb.mono (by omega)))
      (fun c s A C h hB hb => h) (Below.refl _ _)
      (fun x i => { tmps := #[], defers := [] }) ?assign ?body ?done ?stop
    case assign =>
      intro ly2 x V K hs hT hK
      have := hT.1
      rw [keysV_none] at this
      cases this
    case body =>
      rintro ly2 pre x i V hI hs hlen hsp hG
      exact hG.elim
    case done =>
      rintro D xs V hD hxs hI hK
      exact ⟨.inl rfl, D, rfl, hK, hD, hI⟩
    case stop =>
      rintro D c pre V hD hsp h hK
      exact h.elim
  · rintro D V ⟨hK, hD, hBV⟩
    have HBV := Lib.hid hBV
    have HKD := Lib.hid (And.intro hK hD)
    have HV := Lib.hid (kbT HB10.out hBV)
    clear hK hD hBV
    gi_wp2
    go_wp2_with (first
      | (go_at_call 8; (with_reducible refine (NM.out _ _).mono ?_); rintro e wn ⟨rfl, rfl⟩)
      | (go_at_call 17; refine (CAp.out V HV.out).mono ?_; rintro e v1 ⟨rfl, hb1⟩; have HA1 := Lib.hid hb1; have HV1 := Lib.hid (kbT HV.out hb1); clear hb1)
      | (go_at_call 18; refine (CRs.out v1 HV1.out).mono ?_; rintro e v2 ⟨rfl, hb2⟩; have HA2 := Lib.hid (kbT HA1.out hb2); have HV2 := Lib.hid (kbT HV1.out hb2); clear hb2)
      | (go_at_call 19; refine (CSz.out v2 HV2.out).mono ?_; rintro e v3 ⟨rfl, hb3⟩; have HA3 := Lib.hid (kbT HA2.out hb3); have HV3 := Lib.hid (kbT HV2.out hb3); clear hb3)
      | (go_at_call 20; refine (CEp.out v3 HV3.out).mono ?_; rintro e v4 ⟨rfl, hb4⟩; have HA4 := Lib.hid (kbT HA3.out hb4); have HV4 := Lib.hid (kbT HV3.out hb4); clear hb4)
      | (go_at_call 13; refine (CDk.out v4 HV4.out).mono ?_; rintro e v5 ⟨rfl, hb5⟩; have HA5 := Lib.hid (kbT HA4.out hb5); have HV5 := Lib.hid (kbT HV4.out hb5); clear hb5)
      | (go_at_call 9; refine (WK.out v5).mono ?_; rintro e v6 ⟨rfl, hb6⟩; have HA6 := Lib.hid (kbT HA5.out hb6); have HV6 := Lib.hid (kbT HV5.out hb6); have hy6 := (HC.out v6 (kbT HB6.out HV6.out)).2.2; have z0 := (cell_of_row v6 _ 0 _ _ _ hy6).trans rfl; have z1 : v6.frozen? ⟨w.heap.size + 1, 0, none⟩ = false := frozen_of_row v6 _ 0 _ _ hy6; have HZ6 := Lib.hid hy6; clear hb6 hy6)
      | fail)
    have hD : w10.heap.size ≤ D := HKD.out.2
    have hD1 : D ≠ w.heap.size + 1 := by
      have a1 := HB0.out.2
      have a2 := HB6.out.size
      have a3 := HB10.out.size
      omega
    have hDl : D < V.heap.size := (Array.getElem?_eq_some_iff.1 HKD.out.1).1
    have c0 := (cell_of_row _ _ 0 _ _ _ (row_set HZ6.out (i := 0) (.bool true))).trans rfl
    have hq : (v6.setCell ⟨w.heap.size + 1, 0, none⟩ (.bool true)).heap[D]? = some (.deferred (some [])) := (Below.heap_setCell _ _ _ _ (by show D ≠ w.heap.size + 1; exact hD1)).trans ((HA6.out.block _ hDl).trans HKD.out.1)
    have hb5 : Below w.heap.size w (v6.setCell ⟨w.heap.size + 1, 0, none⟩ (.bool true)) := (kbT HB0.out.1 (kbT HB6.out HV6.out)).setCell (by show w.heap.size ≤ w.heap.size + 1; omega) _
    generalize v6.setCell ⟨w.heap.size + 1, 0, none⟩ (.bool true) = W5 at c0 hq hb5 ⊢
    have c1 : (W5.putObj D (.deferred none)).cell? ⟨w.heap.size + 1, 0, none⟩ = some (.bool true) := (World.cell?_of_block (World.putObj_heap_other (by show w.heap.size + 1 ≠ D; omega))).trans c0
    have hDw : w.heap.size ≤ D := by
      have a1 := HB0.out.2
      have a2 := HB6.out.size
      have a3 := HB10.out.size
      omega
    have hb6 := hb5.trans (belowK_b (w := w) (Nat.le_refl _) W5 D _ (.deferred none) hDw hq rfl rfl)
    refine ⟨by simp, .inl ⟨_, _, rfl, run_takeDeferred hq, ?_⟩⟩
    refine ⟨.bool true, ?_, rfl, hb6⟩
    simp [results, Tryz.results3, go_sem, c1]
set_option maxRecDepth 100000 in
set_option maxHeartbeats 16000000 in
theorem walnone_noplan0 (f pg : Int) (N : Nat) (hpl : planOk f pg = false) (w : World) (hn : 1 ≤ N ∧ N ≤ 40000) (hodd : (N : Int) % 2 = 0) : Calls Tryz.prog 3 #[.agg #[.int .i64 f, .int .i64 pg], .int .i64 (N : Int)] w fun r w' => r = .returned (.bool true) ∧ Below w.heap.size w w' := by
  obtain ⟨w0, hw0⟩ : ∃ w0, w0 = (w.alloc (.cells #[.int .i64 f, .int .i64 pg] 23)).alloc (.cells #[.bool false] 4) := ⟨_, rfl⟩
  have hb0 : Below w.heap.size w w0 := by subst hw0; exact ((Below.refl _ _).alloc (Nat.le_refl _) _).alloc (by simp) _
  have hx0 : w0.heap[w.heap.size]? = some (.cells #[.int .i64 f, .int .i64 pg] 23 (0, 0)) := by subst hw0; exact (Below.heap_alloc _ _ _ (by simp)).trans (heap_alloc_new w _)
  have hy0 : w0.heap[w.heap.size + 1]? = some (.cells #[.bool false] 4 (0, 0)) := by subst hw0; exact heap2 w _ _
  have hs0 : w.heap.size + 2 = w0.heap.size := by subst hw0; simp
  have HC : Hid (∀ W, Below w0.heap.size w0 W → W.cell? ⟨w.heap.size, 0, none⟩ = some (.int .i64 f) ∧ W.cell? ⟨w.heap.size, 1, none⟩ = some (.int .i64 pg) ∧ W.heap[w.heap.size + 1]? = some (.cells #[.bool false] 4 (0, 0))) := Lib.hid fun W hb => by
    have e1 := (hb.block _ (Array.getElem?_eq_some_iff.1 hx0).1).trans hx0
    exact ⟨(cell_of_row _ _ 0 _ _ _ e1).trans rfl, (cell_of_row _ _ 1 _ _ _ e1).trans rfl, (hb.block _ (Array.getElem?_eq_some_iff.1 hy0).1).trans hy0⟩
  have HB0 := Lib.hid (And.intro hb0 hs0)
  have NM := Lib.hid num06
  have WK := Lib.hid works06
  have CN := Lib.hid (new_step (n := N) w0 w0 (Below.refl _ _) hn)
  have CR := Lib.hid fun W => right_any f pg W
  have hu : unfitE f pg N = 2 := by unfold unfitE planE; simp [hpl]
  have COp : Hid (∀ W Bd, DiskN w0 W Bd (Dk.newS N) → Calls Tryz.prog 10 #[.pointer (some ⟨Bd, 0, none⟩), .agg #[.int .i64 f, .int .i64 pg]] W fun r w' => r = .returned (.tuple #[.pointer none, .int .i64 2]) ∧ Below w0.heap.size w0 w') := Lib.hid fun W Bd hd => by
    obtain ⟨F, hR, hF, hb⟩ := hd
    have h := open_unfit Bd (Dk.newS N) f pg F W hR (by show 1 ≤ N; omega) (by show unfitE f pg N ≠ 0; rw [hu]; decide)
    refine h.mono ?_
    rintro r w' ⟨rfl, hb2⟩
    refine ⟨?_, kbT hb hb2⟩
    show Ending.returned (.tuple #[.pointer none, .int .i64 (unfitE f pg N)]) = _
    rw [hu]
  rw [hpl] at CR
  have h1 : ¬ ((N : Int) < 1) := by omega
  have h2 : ¬ (40000 < (N : Int)) := by omega
  have hodd2 : ((N : Int).tmod 2 == 1) = false := by
    rw [Int.tmod_eq_emod_of_nonneg (by omega), hodd]
    rfl
  have hoddn : N % 2 = 0 := by omega
  obtain ⟨p0, p1, -⟩ := HC.out w0 (Below.refl _ _)
  clear hb0 hx0 hy0 hs0 hpl hu
  refine (callsIn_wide (n := 9)).1 ?_
  refine callsIn_of_wp_marks Tryz.func3 rfl trivial ?_ rfl
  simp only [Tryz.ntmps3, List.size_toArray, List.length_cons, List.length_nil, Nat.reduceAdd, Nat.reduceSub, Array.replicate_succ, Array.replicate_zero, List.push_toArray, List.append_toArray, List.nil_append, List.cons_append]
  refine wpIn_wide.2 ?_
  go_upto_region 1 with fail
  try rw [← hw0]
  clear hw0
  go_upto_region 4 with (first
    | (go_at_call 7; refine CN.out.mono ?_; rintro e w1 ⟨Bd, rfl, hd1⟩; have HD1 := Lib.hid hd1; obtain ⟨p0, p1, -⟩ := HC.out w1 hd1.since; clear hd1)
    | fail)
  go_upto_region 5 with (first
    | (go_at_call 10; refine (COp.out w1 Bd HD1.out).mono ?_; rintro e w2 ⟨rfl, hb2⟩; have HB2 := Lib.hid hb2; obtain ⟨p0, p1, -⟩ := HC.out w2 hb2; clear hb2)
    | fail)
  go_upto_region 10 with (first
    | (go_at_call 8; (with_reducible refine (NM.out _ _).mono ?_); rintro e wn ⟨rfl, rfl⟩)
    | (go_at_call 11; refine (CR.out w2).mono ?_; rintro e w3 ⟨rfl, hb3⟩; have HB3 := Lib.hid (kbT HB2.out hb3); obtain ⟨p0, p1, -⟩ := HC.out w3 (kbT HB2.out hb3); clear hb3)
    | fail)
  try clear p0 p1
  go_upto_region 13 with fail
  obtain ⟨pa, hpa⟩ : ∃ pa : Option Addr, pa = none := ⟨_, rfl⟩
  obtain ⟨w6, hw6⟩ : ∃ w6, w6 = w3 := ⟨_, rfl⟩
  have HB6 : Hid (Below w0.heap.size w0 w6) := Lib.hid (by rw [hw6]; exact HB3.out)
  have HWI : Hid (∀ W, Below w6.heap.size w6 W → WholeIs (.pointer pa) W .zero) := Lib.hid fun W hb => by
    rw [hpa]
    exact whole_none W
  rw [← hw6]
  rw [hpa] at HWI
  clear hw6 hpa
  have CMn : Hid (∀ W, Below w6.heap.size w6 W → Calls Tryz.prog 14 #[.pointer none] W fun r w' => r = .returned (.tuple #[.int .i64 0, .int .i64 0]) ∧ Below W.heap.size W w') := Lib.hid fun W hb => many_any (.pointer none) .zero W (HWI.out W hb) (by decide)
  have CPg : Hid (∀ W, Below w6.heap.size w6 W → Calls Tryz.prog 15 #[.pointer none, .int .i64 0] W fun r w' => ∃ t, r = .returned (.tuple #[t, .bool false]) ∧ Below W.heap.size W w') := Lib.hid fun W hb => page_none (.pointer none) .zero 0 W (HWI.out W hb) rfl
  have COn : Hid (∀ W, Calls Tryz.prog 10 #[.pointer none, .agg #[.int .i64 f, .int .i64 pg]] W fun r w' => r = .returned (.tuple #[.pointer none, .int .i64 1]) ∧ Below W.heap.size W w') := Lib.hid fun W => open_nil f pg W
  have CPs : Hid (∀ W, Below w6.heap.size w6 W → Calls Tryz.prog 16 #[.pointer none] W fun r w' => ∃ b, r = .returned (.func (.func 46) #[] #[.pointer (some ⟨b, 0, none⟩)]) ∧ W.heap.size ≤ b ∧ w'.heap[b]? = some (.cells #[.map none] 42 (0, 0)) ∧ Below W.heap.size W w') := Lib.hid fun W hb => pages_none (.pointer none) .zero W (HWI.out W hb) rfl
  have CAp : Hid (∀ W, Below w6.heap.size w6 W → Calls Tryz.prog 17 #[.pointer none, .int .i64 0, .slice none 0 0] W fun r w' => r = .returned (.int .i64 1) ∧ Below W.heap.size W w') := Lib.hid fun W hb => append_none none .zero 0 none 0 0 W (HWI.out W hb) rfl
  have CRs : Hid (∀ W, Below w6.heap.size w6 W → Calls Tryz.prog 18 #[.pointer none] W fun r w' => r = .returned (.int .i64 1) ∧ Below W.heap.size W w') := Lib.hid fun W hb => reset_none (.pointer none) .zero W (HWI.out W hb) rfl
  have CSz : Hid (∀ W, Below w6.heap.size w6 W → Calls Tryz.prog 19 #[.pointer none] W fun r w' => r = .returned (.int .i64 0) ∧ Below W.heap.size W w') := Lib.hid fun W hb => size_any (.pointer none) .zero W (HWI.out W hb)
  have CEp : Hid (∀ W, Below w6.heap.size w6 W → Calls Tryz.prog 20 #[.pointer none] W fun r w' => r = .returned (.int .u64 0) ∧ Below W.heap.size W w') := Lib.hid fun W hb => epoch_any (.pointer none) .zero W (HWI.out W hb)
  have CDk : Hid (∀ W, Below w6.heap.size w6 W → Calls Tryz.prog 13 #[.pointer none] W fun r w' => r = .returned (.pointer none) ∧ Below W.heap.size W w') := Lib.hid fun W hb => ldisk_any (.pointer none) .zero W (HWI.out W hb)
  go_upto_region 17 with (first
    | (go_at_call 14; refine (CMn.out w6 (Below.refl _ _)).mono ?_; rintro e w7 ⟨rfl, hb7⟩; have HB7 := Lib.hid hb7; clear hb7)
    | (go_at_call 15; refine (CPg.out w7 HB7.out).mono ?_; rintro e w8 ⟨t8, rfl, hb8⟩; have HB8 := Lib.hid (kbT HB7.out hb8); obtain ⟨p0, p1, -⟩ := HC.out w8 (kbT HB6.out HB8.out); clear hb8)
    | (go_at_call 10; refine (COn.out w8).mono ?_; rintro e w9 ⟨rfl, hb9⟩; have HB9 := Lib.hid (kbT HB8.out hb9); clear hb9 p0 p1)
    | (go_at_call 16; refine (CPs.out w9 HB9.out).mono ?_; rintro e w10 ⟨b, rfl, hbb, hrb, hb10⟩; have HB10 := Lib.hid (kbT HB9.out hb10); have HRB := Lib.hid hrb; clear hb10 hrb hbb)
    | fail)
  have hq := fun w => eq53 (.func 46) #[] #[.pointer (some ⟨b, 0, none⟩)] w
  have hqg := fun x y w => eqg53 (.func 46) #[] #[.pointer (some ⟨b, 0, none⟩)] x y w
  go_upto_region 19 with fail
  clear hq hqg
  refine (wpIn_wide (n := 9)).1 ?_
  gi_wp2
  refine (wpIn_wide (n := 9)).1 ?_
  apply wpIn_block
  refine range_norm 0 (fun D V => V.heap[D]? = some (.deferred (some [])) ∧ w10.heap.size ≤ D ∧ Below w10.heap.size w10 V) (fun _ _ h => h) ?_ ?_
  · refine' range_low (n := 9) (ι := Unit) rfl (by decide) (gf := 46) (lb := #[.pointer (some ⟨b, 0, none⟩)]) rfl trivial (enters_of Tryz.func46 (by kernel_rfl) rfl)
      (pages_low (9 - 1) (by decide) (mo := none) (nn := 0) (g := fun _ => none) (bt := fun _ => []) (X := fun _ => False) (fun _ => rfl) (by omega) (fun k hk => by rw [keysV_none] at hk; cases hk) (fun k hk => hk.elim) ((cell_of_row w10 _ 0 _ _ _ HRB.out).trans rfl)) (fun x _ V => False) (fun x i A l o o' hl hc h => h)
      (fun k h => h.elim (fun h => by cases h) (fun h => h.elim)) (Below.refl _ _) (fun _ => rfl)
      (fun pre V => Below w10.heap.size w10 V) (fun c pre V => False)
      (fun s A C h hB hb => h.trans (hb.mono (by omega)))
      (fun c s A C h hB hb => h) (Below.refl _ _)
      (fun x i => { tmps := #[], defers := [] }) ?assign ?body ?done ?stop
    case assign =>
      intro ly2 x V K hs hT hK
      have := hT.1
      rw [keysV_none] at this
      cases this
    case body =>
      rintro ly2 pre x i V hI hs hlen hsp hG
      exact hG.elim
    case done =>
      rintro D xs V hD hxs hI hK
      exact ⟨.inl rfl, D, rfl, hK, hD, hI⟩
    case stop =>
      rintro D c pre V hD hsp h hK
      exact h.elim
  · rintro D V ⟨hK, hD, hBV⟩
    have HBV := Lib.hid hBV
    have HKD := Lib.hid (And.intro hK hD)
    have HV := Lib.hid (kbT HB10.out hBV)
    clear hK hD hBV
    gi_wp2
    go_wp2_with (first
      | (go_at_call 8; (with_reducible refine (NM.out _ _).mono ?_); rintro e wn ⟨rfl, rfl⟩)
      | (go_at_call 17; refine (CAp.out V HV.out).mono ?_; rintro e v1 ⟨rfl, hb1⟩; have HA1 := Lib.hid hb1; have HV1 := Lib.hid (kbT HV.out hb1); clear hb1)
      | (go_at_call 18; refine (CRs.out v1 HV1.out).mono ?_; rintro e v2 ⟨rfl, hb2⟩; have HA2 := Lib.hid (kbT HA1.out hb2); have HV2 := Lib.hid (kbT HV1.out hb2); clear hb2)
      | (go_at_call 19; refine (CSz.out v2 HV2.out).mono ?_; rintro e v3 ⟨rfl, hb3⟩; have HA3 := Lib.hid (kbT HA2.out hb3); have HV3 := Lib.hid (kbT HV2.out hb3); clear hb3)
      | (go_at_call 20; refine (CEp.out v3 HV3.out).mono ?_; rintro e v4 ⟨rfl, hb4⟩; have HA4 := Lib.hid (kbT HA3.out hb4); have HV4 := Lib.hid (kbT HV3.out hb4); clear hb4)
      | (go_at_call 13; refine (CDk.out v4 HV4.out).mono ?_; rintro e v5 ⟨rfl, hb5⟩; have HA5 := Lib.hid (kbT HA4.out hb5); have HV5 := Lib.hid (kbT HV4.out hb5); clear hb5)
      | (go_at_call 9; refine (WK.out v5).mono ?_; rintro e v6 ⟨rfl, hb6⟩; have HA6 := Lib.hid (kbT HA5.out hb6); have HV6 := Lib.hid (kbT HV5.out hb6); have hy6 := (HC.out v6 (kbT HB6.out HV6.out)).2.2; have z0 := (cell_of_row v6 _ 0 _ _ _ hy6).trans rfl; have z1 : v6.frozen? ⟨w.heap.size + 1, 0, none⟩ = false := frozen_of_row v6 _ 0 _ _ hy6; have HZ6 := Lib.hid hy6; clear hb6 hy6)
      | fail)
    have hD : w10.heap.size ≤ D := HKD.out.2
    have hD1 : D ≠ w.heap.size + 1 := by
      have a1 := HB0.out.2
      have a2 := HB6.out.size
      have a3 := HB10.out.size
      omega
    have hDl : D < V.heap.size := (Array.getElem?_eq_some_iff.1 HKD.out.1).1
    have c0 := (cell_of_row _ _ 0 _ _ _ (row_set HZ6.out (i := 0) (.bool true))).trans rfl
    have hq : (v6.setCell ⟨w.heap.size + 1, 0, none⟩ (.bool true)).heap[D]? = some (.deferred (some [])) := (Below.heap_setCell _ _ _ _ (by show D ≠ w.heap.size + 1; exact hD1)).trans ((HA6.out.block _ hDl).trans HKD.out.1)
    have hb5 : Below w.heap.size w (v6.setCell ⟨w.heap.size + 1, 0, none⟩ (.bool true)) := (kbT HB0.out.1 (kbT HB6.out HV6.out)).setCell (by show w.heap.size ≤ w.heap.size + 1; omega) _
    generalize v6.setCell ⟨w.heap.size + 1, 0, none⟩ (.bool true) = W5 at c0 hq hb5 ⊢
    have c1 : (W5.putObj D (.deferred none)).cell? ⟨w.heap.size + 1, 0, none⟩ = some (.bool true) := (World.cell?_of_block (World.putObj_heap_other (by show w.heap.size + 1 ≠ D; omega))).trans c0
    have hDw : w.heap.size ≤ D := by
      have a1 := HB0.out.2
      have a2 := HB6.out.size
      have a3 := HB10.out.size
      omega
    have hb6 := hb5.trans (belowK_b (w := w) (Nat.le_refl _) W5 D _ (.deferred none) hDw hq rfl rfl)
    refine ⟨by simp, .inl ⟨_, _, rfl, run_takeDeferred hq, ?_⟩⟩
    refine ⟨.bool true, ?_, rfl, hb6⟩
    simp [results, Tryz.results3, go_sem, c1]
set_option maxRecDepth 100000 in
set_option maxHeartbeats 16000000 in
theorem walnone_noplan1 (f pg : Int) (N : Nat) (hpl : planOk f pg = false) (w : World) (hn : 1 ≤ N ∧ N ≤ 40000) (hodd : (N : Int) % 2 = 1) : Calls Tryz.prog 3 #[.agg #[.int .i64 f, .int .i64 pg], .int .i64 (N : Int)] w fun r w' => r = .returned (.bool true) ∧ Below w.heap.size w w' := by
  obtain ⟨w0, hw0⟩ : ∃ w0, w0 = (w.alloc (.cells #[.int .i64 f, .int .i64 pg] 23)).alloc (.cells #[.bool false] 4) := ⟨_, rfl⟩
  have hb0 : Below w.heap.size w w0 := by subst hw0; exact ((Below.refl _ _).alloc (Nat.le_refl _) _).alloc (by simp) _
  have hx0 : w0.heap[w.heap.size]? = some (.cells #[.int .i64 f, .int .i64 pg] 23 (0, 0)) := by subst hw0; exact (Below.heap_alloc _ _ _ (by simp)).trans (heap_alloc_new w _)
  have hy0 : w0.heap[w.heap.size + 1]? = some (.cells #[.bool false] 4 (0, 0)) := by subst hw0; exact heap2 w _ _
  have hs0 : w.heap.size + 2 = w0.heap.size := by subst hw0; simp
  have HC : Hid (∀ W, Below w0.heap.size w0 W → W.cell? ⟨w.heap.size, 0, none⟩ = some (.int .i64 f) ∧ W.cell? ⟨w.heap.size, 1, none⟩ = some (.int .i64 pg) ∧ W.heap[w.heap.size + 1]? = some (.cells #[.bool false] 4 (0, 0))) := Lib.hid fun W hb => by
    have e1 := (hb.block _ (Array.getElem?_eq_some_iff.1 hx0).1).trans hx0
    exact ⟨(cell_of_row _ _ 0 _ _ _ e1).trans rfl, (cell_of_row _ _ 1 _ _ _ e1).trans rfl, (hb.block _ (Array.getElem?_eq_some_iff.1 hy0).1).trans hy0⟩
  have HB0 := Lib.hid (And.intro hb0 hs0)
  have NM := Lib.hid num06
  have WK := Lib.hid works06
  have CN := Lib.hid (new_step (n := N) w0 w0 (Below.refl _ _) hn)
  have CR := Lib.hid fun W => right_any f pg W
  have hu : unfitE f pg N = 2 := by unfold unfitE planE; simp [hpl]
  have COp : Hid (∀ W Bd, DiskN w0 W Bd (Dk.newS N) → Calls Tryz.prog 10 #[.pointer (some ⟨Bd, 0, none⟩), .agg #[.int .i64 f, .int .i64 pg]] W fun r w' => r = .returned (.tuple #[.pointer none, .int .i64 2]) ∧ Below w0.heap.size w0 w') := Lib.hid fun W Bd hd => by
    obtain ⟨F, hR, hF, hb⟩ := hd
    have h := open_unfit Bd (Dk.newS N) f pg F W hR (by show 1 ≤ N; omega) (by show unfitE f pg N ≠ 0; rw [hu]; decide)
    refine h.mono ?_
    rintro r w' ⟨rfl, hb2⟩
    refine ⟨?_, kbT hb hb2⟩
    show Ending.returned (.tuple #[.pointer none, .int .i64 (unfitE f pg N)]) = _
    rw [hu]
  rw [hpl] at CR
  have h1 : ¬ ((N : Int) < 1) := by omega
  have h2 : ¬ (40000 < (N : Int)) := by omega
  have hodd2 : ((N : Int).tmod 2 == 1) = true := by
    rw [Int.tmod_eq_emod_of_nonneg (by omega), hodd]
    rfl
  have hoddn : N % 2 = 1 := by omega
  obtain ⟨p0, p1, -⟩ := HC.out w0 (Below.refl _ _)
  clear hb0 hx0 hy0 hs0 hpl hu
  refine (callsIn_wide (n := 9)).1 ?_
  refine callsIn_of_wp_marks Tryz.func3 rfl trivial ?_ rfl
  simp only [Tryz.ntmps3, List.size_toArray, List.length_cons, List.length_nil, Nat.reduceAdd, Nat.reduceSub, Array.replicate_succ, Array.replicate_zero, List.push_toArray, List.append_toArray, List.nil_append, List.cons_append]
  refine wpIn_wide.2 ?_
  go_upto_region 1 with fail
  try rw [← hw0]
  clear hw0
  go_upto_region 4 with (first
    | (go_at_call 7; refine CN.out.mono ?_; rintro e w1 ⟨Bd, rfl, hd1⟩; have HD1 := Lib.hid hd1; obtain ⟨p0, p1, -⟩ := HC.out w1 hd1.since; clear hd1)
    | fail)
  go_upto_region 5 with (first
    | (go_at_call 10; refine (COp.out w1 Bd HD1.out).mono ?_; rintro e w2 ⟨rfl, hb2⟩; have HB2 := Lib.hid hb2; obtain ⟨p0, p1, -⟩ := HC.out w2 hb2; clear hb2)
    | fail)
  go_upto_region 10 with (first
    | (go_at_call 8; (with_reducible refine (NM.out _ _).mono ?_); rintro e wn ⟨rfl, rfl⟩)
    | (go_at_call 11; refine (CR.out w2).mono ?_; rintro e w3 ⟨rfl, hb3⟩; have HB3 := Lib.hid (kbT HB2.out hb3); obtain ⟨p0, p1, -⟩ := HC.out w3 (kbT HB2.out hb3); clear hb3)
    | fail)
  try clear p0 p1
  have hz := zeroLog
  simp only [LogV.zero] at hz
  go_upto_region 13 with fail
  clear hz
  obtain ⟨pa, hpa⟩ : ∃ pa : Option Addr, pa = some ⟨w3.heap.size, 0, none⟩ := ⟨_, rfl⟩
  obtain ⟨w6, hw6⟩ : ∃ w6, w6 = w3.alloc (.cells #[.pointer none, .int .i64 0, .int .i64 0, .int .u64 0, .int .u64 0, .int .i64 0, .int .u32 0, .int .i64 0, .map none] 46) := ⟨_, rfl⟩
  have HB6 : Hid (Below w0.heap.size w0 w6) := Lib.hid (by rw [hw6]; exact (HB3.out).alloc (HB3.out).size _)
  have HWI : Hid (∀ W, Below w6.heap.size w6 W → WholeIs (.pointer pa) W .zero) := Lib.hid fun W hb => by
    rw [hpa]
    exact whole_of _ .zero W (logAt_below (by rw [hw6]; exact heap_alloc_new _ _) hb)
  rw [← hw6, ← hpa]
  clear hw6 hpa
  have CMn : Hid (∀ W, Below w6.heap.size w6 W → Calls Tryz.prog 14 #[.pointer pa] W fun r w' => r = .returned (.tuple #[.int .i64 0, .int .i64 0]) ∧ Below W.heap.size W w') := Lib.hid fun W hb => many_any (.pointer pa) .zero W (HWI.out W hb) (by decide)
  have CPg : Hid (∀ W, Below w6.heap.size w6 W → Calls Tryz.prog 15 #[.pointer pa, .int .i64 0] W fun r w' => ∃ t, r = .returned (.tuple #[t, .bool false]) ∧ Below W.heap.size W w') := Lib.hid fun W hb => page_none (.pointer pa) .zero 0 W (HWI.out W hb) rfl
  have COn : Hid (∀ W, Calls Tryz.prog 10 #[.pointer none, .agg #[.int .i64 f, .int .i64 pg]] W fun r w' => r = .returned (.tuple #[.pointer none, .int .i64 1]) ∧ Below W.heap.size W w') := Lib.hid fun W => open_nil f pg W
  have CPs : Hid (∀ W, Below w6.heap.size w6 W → Calls Tryz.prog 16 #[.pointer pa] W fun r w' => ∃ b, r = .returned (.func (.func 46) #[] #[.pointer (some ⟨b, 0, none⟩)]) ∧ W.heap.size ≤ b ∧ w'.heap[b]? = some (.cells #[.map none] 42 (0, 0)) ∧ Below W.heap.size W w') := Lib.hid fun W hb => pages_none (.pointer pa) .zero W (HWI.out W hb) rfl
  have CAp : Hid (∀ W, Below w6.heap.size w6 W → Calls Tryz.prog 17 #[.pointer pa, .int .i64 0, .slice none 0 0] W fun r w' => r = .returned (.int .i64 1) ∧ Below W.heap.size W w') := Lib.hid fun W hb => append_none pa .zero 0 none 0 0 W (HWI.out W hb) rfl
  have CRs : Hid (∀ W, Below w6.heap.size w6 W → Calls Tryz.prog 18 #[.pointer pa] W fun r w' => r = .returned (.int .i64 1) ∧ Below W.heap.size W w') := Lib.hid fun W hb => reset_none (.pointer pa) .zero W (HWI.out W hb) rfl
  have CSz : Hid (∀ W, Below w6.heap.size w6 W → Calls Tryz.prog 19 #[.pointer pa] W fun r w' => r = .returned (.int .i64 0) ∧ Below W.heap.size W w') := Lib.hid fun W hb => size_any (.pointer pa) .zero W (HWI.out W hb)
  have CEp : Hid (∀ W, Below w6.heap.size w6 W → Calls Tryz.prog 20 #[.pointer pa] W fun r w' => r = .returned (.int .u64 0) ∧ Below W.heap.size W w') := Lib.hid fun W hb => epoch_any (.pointer pa) .zero W (HWI.out W hb)
  have CDk : Hid (∀ W, Below w6.heap.size w6 W → Calls Tryz.prog 13 #[.pointer pa] W fun r w' => r = .returned (.pointer none) ∧ Below W.heap.size W w') := Lib.hid fun W hb => ldisk_any (.pointer pa) .zero W (HWI.out W hb)
  go_upto_region 17 with (first
    | (go_at_call 14; refine (CMn.out w6 (Below.refl _ _)).mono ?_; rintro e w7 ⟨rfl, hb7⟩; have HB7 := Lib.hid hb7; clear hb7)
    | (go_at_call 15; refine (CPg.out w7 HB7.out).mono ?_; rintro e w8 ⟨t8, rfl, hb8⟩; have HB8 := Lib.hid (kbT HB7.out hb8); obtain ⟨p0, p1, -⟩ := HC.out w8 (kbT HB6.out HB8.out); clear hb8)
    | (go_at_call 10; refine (COn.out w8).mono ?_; rintro e w9 ⟨rfl, hb9⟩; have HB9 := Lib.hid (kbT HB8.out hb9); clear hb9 p0 p1)
    | (go_at_call 16; refine (CPs.out w9 HB9.out).mono ?_; rintro e w10 ⟨b, rfl, hbb, hrb, hb10⟩; have HB10 := Lib.hid (kbT HB9.out hb10); have HRB := Lib.hid hrb; clear hb10 hrb hbb)
    | fail)
  have hq := fun w => eq53 (.func 46) #[] #[.pointer (some ⟨b, 0, none⟩)] w
  have hqg := fun x y w => eqg53 (.func 46) #[] #[.pointer (some ⟨b, 0, none⟩)] x y w
  go_upto_region 19 with fail
  clear hq hqg
  refine (wpIn_wide (n := 9)).1 ?_
  gi_wp2
  refine (wpIn_wide (n := 9)).1 ?_
  apply wpIn_block
  refine range_norm 0 (fun D V => V.heap[D]? = some (.deferred (some [])) ∧ w10.heap.size ≤ D ∧ Below w10.heap.size w10 V) (fun _ _ h => h) ?_ ?_
  · refine' range_low (n := 9) (ι := Unit) rfl (by decide) (gf := 46) (lb := #[.pointer (some ⟨b, 0, none⟩)]) rfl trivial (enters_of Tryz.func46 (by kernel_rfl) rfl)
      (pages_low (9 - 1) (by decide) (mo := none) (nn := 0) (g := fun _ => none) (bt := fun _ => []) (X := fun _ => False) (fun _ => rfl) (by omega) (fun k hk => by rw [keysV_none] at hk; cases hk) (fun k hk => hk.elim) ((cell_of_row w10 _ 0 _ _ _ HRB.out).trans rfl)) (fun x _ V => False) (fun x i A l o o' hl hc h => h)
      (fun k h => h.elim (fun h => by cases h) (fun h => h.elim)) (Below.refl _ _) (fun _ => rfl)
      (fun pre V => Below w10.heap.size w10 V) (fun c pre V => False)
      (fun s A C h hB hb => h.trans (hb.mono (by omega)))
      (fun c s A C h hB hb => h) (Below.refl _ _)
      (fun x i => { tmps := #[], defers := [] }) ?assign ?body ?done ?stop
    case assign =>
      intro ly2 x V K hs hT hK
      have := hT.1
      rw [keysV_none] at this
      cases this
    case body =>
      rintro ly2 pre x i V hI hs hlen hsp hG
      exact hG.elim
    case done =>
      rintro D xs V hD hxs hI hK
      exact ⟨.inl rfl, D, rfl, hK, hD, hI⟩
    case stop =>
      rintro D c pre V hD hsp h hK
      exact h.elim
  · rintro D V ⟨hK, hD, hBV⟩
    have HBV := Lib.hid hBV
    have HKD := Lib.hid (And.intro hK hD)
    have HV := Lib.hid (kbT HB10.out hBV)
    clear hK hD hBV
    gi_wp2
    go_wp2_with (first
      | (go_at_call 8; (with_reducible refine (NM.out _ _).mono ?_); rintro e wn ⟨rfl, rfl⟩)
      | (go_at_call 17; refine (CAp.out V HV.out).mono ?_; rintro e v1 ⟨rfl, hb1⟩; have HA1 := Lib.hid hb1; have HV1 := Lib.hid (kbT HV.out hb1); clear hb1)
      | (go_at_call 18; refine (CRs.out v1 HV1.out).mono ?_; rintro e v2 ⟨rfl, hb2⟩; have HA2 := Lib.hid (kbT HA1.out hb2); have HV2 := Lib.hid (kbT HV1.out hb2); clear hb2)
      | (go_at_call 19; refine (CSz.out v2 HV2.out).mono ?_; rintro e v3 ⟨rfl, hb3⟩; have HA3 := Lib.hid (kbT HA2.out hb3); have HV3 := Lib.hid (kbT HV2.out hb3); clear hb3)
      | (go_at_call 20; refine (CEp.out v3 HV3.out).mono ?_; rintro e v4 ⟨rfl, hb4⟩; have HA4 := Lib.hid (kbT HA3.out hb4); have HV4 := Lib.hid (kbT HV3.out hb4); clear hb4)
      | (go_at_call 13; refine (CDk.out v4 HV4.out).mono ?_; rintro e v5 ⟨rfl, hb5⟩; have HA5 := Lib.hid (kbT HA4.out hb5); have HV5 := Lib.hid (kbT HV4.out hb5); clear hb5)
      | (go_at_call 9; refine (WK.out v5).mono ?_; rintro e v6 ⟨rfl, hb6⟩; have HA6 := Lib.hid (kbT HA5.out hb6); have HV6 := Lib.hid (kbT HV5.out hb6); have hy6 := (HC.out v6 (kbT HB6.out HV6.out)).2.2; have z0 := (cell_of_row v6 _ 0 _ _ _ hy6).trans rfl; have z1 : v6.frozen? ⟨w.heap.size + 1, 0, none⟩ = false := frozen_of_row v6 _ 0 _ _ hy6; have HZ6 := Lib.hid hy6; clear hb6 hy6)
      | fail)
    have hD : w10.heap.size ≤ D := HKD.out.2
    have hD1 : D ≠ w.heap.size + 1 := by
      have a1 := HB0.out.2
      have a2 := HB6.out.size
      have a3 := HB10.out.size
      omega
    have hDl : D < V.heap.size := (Array.getElem?_eq_some_iff.1 HKD.out.1).1
    have c0 := (cell_of_row _ _ 0 _ _ _ (row_set HZ6.out (i := 0) (.bool true))).trans rfl
    have hq : (v6.setCell ⟨w.heap.size + 1, 0, none⟩ (.bool true)).heap[D]? = some (.deferred (some [])) := (Below.heap_setCell _ _ _ _ (by show D ≠ w.heap.size + 1; exact hD1)).trans ((HA6.out.block _ hDl).trans HKD.out.1)
    have hb5 : Below w.heap.size w (v6.setCell ⟨w.heap.size + 1, 0, none⟩ (.bool true)) := (kbT HB0.out.1 (kbT HB6.out HV6.out)).setCell (by show w.heap.size ≤ w.heap.size + 1; omega) _
    generalize v6.setCell ⟨w.heap.size + 1, 0, none⟩ (.bool true) = W5 at c0 hq hb5 ⊢
    have c1 : (W5.putObj D (.deferred none)).cell? ⟨w.heap.size + 1, 0, none⟩ = some (.bool true) := (World.cell?_of_block (World.putObj_heap_other (by show w.heap.size + 1 ≠ D; omega))).trans c0
    have hDw : w.heap.size ≤ D := by
      have a1 := HB0.out.2
      have a2 := HB6.out.size
      have a3 := HB10.out.size
      omega
    have hb6 := hb5.trans (belowK_b (w := w) (Nat.le_refl _) W5 D _ (.deferred none) hDw hq rfl rfl)
    refine ⟨by simp, .inl ⟨_, _, rfl, run_takeDeferred hq, ?_⟩⟩
    refine ⟨.bool true, ?_, rfl, hb6⟩
    simp [results, Tryz.results3, go_sem, c1]
set_option maxRecDepth 100000 in
set_option maxHeartbeats 16000000 in
theorem walnone_nofit0 (f pg : Int) (N : Nat) (hpl : planOk f pg = true) (hN : (N : Int) ≠ 2 + 9 * f + 8 * pg) (w : World) (hn : 1 ≤ N ∧ N ≤ 40000) (hodd : (N : Int) % 2 = 0) : Calls Tryz.prog 3 #[.agg #[.int .i64 f, .int .i64 pg], .int .i64 (N : Int)] w fun r w' => r = .returned (.bool true) ∧ Below w.heap.size w w' := by
  obtain ⟨w0, hw0⟩ : ∃ w0, w0 = (w.alloc (.cells #[.int .i64 f, .int .i64 pg] 23)).alloc (.cells #[.bool false] 4) := ⟨_, rfl⟩
  have hb0 : Below w.heap.size w w0 := by subst hw0; exact ((Below.refl _ _).alloc (Nat.le_refl _) _).alloc (by simp) _
  have hx0 : w0.heap[w.heap.size]? = some (.cells #[.int .i64 f, .int .i64 pg] 23 (0, 0)) := by subst hw0; exact (Below.heap_alloc _ _ _ (by simp)).trans (heap_alloc_new w _)
  have hy0 : w0.heap[w.heap.size + 1]? = some (.cells #[.bool false] 4 (0, 0)) := by subst hw0; exact heap2 w _ _
  have hs0 : w.heap.size + 2 = w0.heap.size := by subst hw0; simp
  have HC : Hid (∀ W, Below w0.heap.size w0 W → W.cell? ⟨w.heap.size, 0, none⟩ = some (.int .i64 f) ∧ W.cell? ⟨w.heap.size, 1, none⟩ = some (.int .i64 pg) ∧ W.heap[w.heap.size + 1]? = some (.cells #[.bool false] 4 (0, 0))) := Lib.hid fun W hb => by
    have e1 := (hb.block _ (Array.getElem?_eq_some_iff.1 hx0).1).trans hx0
    exact ⟨(cell_of_row _ _ 0 _ _ _ e1).trans rfl, (cell_of_row _ _ 1 _ _ _ e1).trans rfl, (hb.block _ (Array.getElem?_eq_some_iff.1 hy0).1).trans hy0⟩
  have HB0 := Lib.hid (And.intro hb0 hs0)
  have NM := Lib.hid num06
  have WK := Lib.hid works06
  have CN := Lib.hid (new_step (n := N) w0 w0 (Below.refl _ _) hn)
  have CR := Lib.hid fun W => right_any f pg W
  have hu : unfitE f pg N = 2 := by unfold unfitE planE secsE; simp [hpl]; omega
  have hneq : ((N : Int) != 2 + 9 * f + 8 * pg) = true := by simpa using hN
  have COp : Hid (∀ W Bd, DiskN w0 W Bd (Dk.newS N) → Calls Tryz.prog 10 #[.pointer (some ⟨Bd, 0, none⟩), .agg #[.int .i64 f, .int .i64 pg]] W fun r w' => r = .returned (.tuple #[.pointer none, .int .i64 2]) ∧ Below w0.heap.size w0 w') := Lib.hid fun W Bd hd => by
    obtain ⟨F, hR, hF, hb⟩ := hd
    have h := open_unfit Bd (Dk.newS N) f pg F W hR (by show 1 ≤ N; omega) (by show unfitE f pg N ≠ 0; rw [hu]; decide)
    refine h.mono ?_
    rintro r w' ⟨rfl, hb2⟩
    refine ⟨?_, kbT hb hb2⟩
    show Ending.returned (.tuple #[.pointer none, .int .i64 (unfitE f pg N)]) = _
    rw [hu]
  have CSE : Hid (∀ W, Calls Tryz.prog 12 #[.agg #[.int .i64 f, .int .i64 pg]] W fun r w' => r = .returned (.int .i64 (2 + 9 * f + 8 * pg)) ∧ Below W.heap.size W w') := Lib.hid fun W => refSectors_any f pg W hpl
  rw [hpl] at CR
  have h1 : ¬ ((N : Int) < 1) := by omega
  have h2 : ¬ (40000 < (N : Int)) := by omega
  have hodd2 : ((N : Int).tmod 2 == 1) = false := by
    rw [Int.tmod_eq_emod_of_nonneg (by omega), hodd]
    rfl
  have hoddn : N % 2 = 0 := by omega
  obtain ⟨p0, p1, -⟩ := HC.out w0 (Below.refl _ _)
  clear hb0 hx0 hy0 hs0 hN hpl hu
  refine (callsIn_wide (n := 9)).1 ?_
  refine callsIn_of_wp_marks Tryz.func3 rfl trivial ?_ rfl
  simp only [Tryz.ntmps3, List.size_toArray, List.length_cons, List.length_nil, Nat.reduceAdd, Nat.reduceSub, Array.replicate_succ, Array.replicate_zero, List.push_toArray, List.append_toArray, List.nil_append, List.cons_append]
  refine wpIn_wide.2 ?_
  go_upto_region 1 with fail
  try rw [← hw0]
  clear hw0
  go_upto_region 4 with (first
    | (go_at_call 7; refine CN.out.mono ?_; rintro e w1 ⟨Bd, rfl, hd1⟩; have HD1 := Lib.hid hd1; obtain ⟨p0, p1, -⟩ := HC.out w1 hd1.since; clear hd1)
    | fail)
  go_upto_region 5 with (first
    | (go_at_call 10; refine (COp.out w1 Bd HD1.out).mono ?_; rintro e w2 ⟨rfl, hb2⟩; have HB2 := Lib.hid hb2; obtain ⟨p0, p1, -⟩ := HC.out w2 hb2; clear hb2)
    | fail)
  go_upto_region 10 with (first
    | (go_at_call 8; (with_reducible refine (NM.out _ _).mono ?_); rintro e wn ⟨rfl, rfl⟩)
    | (go_at_call 11; refine (CR.out w2).mono ?_; rintro e w3 ⟨rfl, hb3⟩; have HB3 := Lib.hid (kbT HB2.out hb3); obtain ⟨p0, p1, -⟩ := HC.out w3 (kbT HB2.out hb3); clear hb3)
    | (go_at_call 12; refine (CSE.out w3).mono ?_; rintro e w4 ⟨rfl, hb4⟩; have HB4 := Lib.hid (kbT HB3.out hb4); clear hb4 p0 p1)
    | fail)
  try clear p0 p1
  go_upto_region 13 with fail
  obtain ⟨pa, hpa⟩ : ∃ pa : Option Addr, pa = none := ⟨_, rfl⟩
  obtain ⟨w6, hw6⟩ : ∃ w6, w6 = w4 := ⟨_, rfl⟩
  have HB6 : Hid (Below w0.heap.size w0 w6) := Lib.hid (by rw [hw6]; exact HB4.out)
  have HWI : Hid (∀ W, Below w6.heap.size w6 W → WholeIs (.pointer pa) W .zero) := Lib.hid fun W hb => by
    rw [hpa]
    exact whole_none W
  rw [← hw6]
  rw [hpa] at HWI
  clear hw6 hpa
  have CMn : Hid (∀ W, Below w6.heap.size w6 W → Calls Tryz.prog 14 #[.pointer none] W fun r w' => r = .returned (.tuple #[.int .i64 0, .int .i64 0]) ∧ Below W.heap.size W w') := Lib.hid fun W hb => many_any (.pointer none) .zero W (HWI.out W hb) (by decide)
  have CPg : Hid (∀ W, Below w6.heap.size w6 W → Calls Tryz.prog 15 #[.pointer none, .int .i64 0] W fun r w' => ∃ t, r = .returned (.tuple #[t, .bool false]) ∧ Below W.heap.size W w') := Lib.hid fun W hb => page_none (.pointer none) .zero 0 W (HWI.out W hb) rfl
  have COn : Hid (∀ W, Calls Tryz.prog 10 #[.pointer none, .agg #[.int .i64 f, .int .i64 pg]] W fun r w' => r = .returned (.tuple #[.pointer none, .int .i64 1]) ∧ Below W.heap.size W w') := Lib.hid fun W => open_nil f pg W
  have CPs : Hid (∀ W, Below w6.heap.size w6 W → Calls Tryz.prog 16 #[.pointer none] W fun r w' => ∃ b, r = .returned (.func (.func 46) #[] #[.pointer (some ⟨b, 0, none⟩)]) ∧ W.heap.size ≤ b ∧ w'.heap[b]? = some (.cells #[.map none] 42 (0, 0)) ∧ Below W.heap.size W w') := Lib.hid fun W hb => pages_none (.pointer none) .zero W (HWI.out W hb) rfl
  have CAp : Hid (∀ W, Below w6.heap.size w6 W → Calls Tryz.prog 17 #[.pointer none, .int .i64 0, .slice none 0 0] W fun r w' => r = .returned (.int .i64 1) ∧ Below W.heap.size W w') := Lib.hid fun W hb => append_none none .zero 0 none 0 0 W (HWI.out W hb) rfl
  have CRs : Hid (∀ W, Below w6.heap.size w6 W → Calls Tryz.prog 18 #[.pointer none] W fun r w' => r = .returned (.int .i64 1) ∧ Below W.heap.size W w') := Lib.hid fun W hb => reset_none (.pointer none) .zero W (HWI.out W hb) rfl
  have CSz : Hid (∀ W, Below w6.heap.size w6 W → Calls Tryz.prog 19 #[.pointer none] W fun r w' => r = .returned (.int .i64 0) ∧ Below W.heap.size W w') := Lib.hid fun W hb => size_any (.pointer none) .zero W (HWI.out W hb)
  have CEp : Hid (∀ W, Below w6.heap.size w6 W → Calls Tryz.prog 20 #[.pointer none] W fun r w' => r = .returned (.int .u64 0) ∧ Below W.heap.size W w') := Lib.hid fun W hb => epoch_any (.pointer none) .zero W (HWI.out W hb)
  have CDk : Hid (∀ W, Below w6.heap.size w6 W → Calls Tryz.prog 13 #[.pointer none] W fun r w' => r = .returned (.pointer none) ∧ Below W.heap.size W w') := Lib.hid fun W hb => ldisk_any (.pointer none) .zero W (HWI.out W hb)
  go_upto_region 17 with (first
    | (go_at_call 14; refine (CMn.out w6 (Below.refl _ _)).mono ?_; rintro e w7 ⟨rfl, hb7⟩; have HB7 := Lib.hid hb7; clear hb7)
    | (go_at_call 15; refine (CPg.out w7 HB7.out).mono ?_; rintro e w8 ⟨t8, rfl, hb8⟩; have HB8 := Lib.hid (kbT HB7.out hb8); obtain ⟨p0, p1, -⟩ := HC.out w8 (kbT HB6.out HB8.out); clear hb8)
    | (go_at_call 10; refine (COn.out w8).mono ?_; rintro e w9 ⟨rfl, hb9⟩; have HB9 := Lib.hid (kbT HB8.out hb9); clear hb9 p0 p1)
    | (go_at_call 16; refine (CPs.out w9 HB9.out).mono ?_; rintro e w10 ⟨b, rfl, hbb, hrb, hb10⟩; have HB10 := Lib.hid (kbT HB9.out hb10); have HRB := Lib.hid hrb; clear hb10 hrb hbb)
    | fail)
  have hq := fun w => eq53 (.func 46) #[] #[.pointer (some ⟨b, 0, none⟩)] w
  have hqg := fun x y w => eqg53 (.func 46) #[] #[.pointer (some ⟨b, 0, none⟩)] x y w
  go_upto_region 19 with fail
  clear hq hqg
  refine (wpIn_wide (n := 9)).1 ?_
  gi_wp2
  refine (wpIn_wide (n := 9)).1 ?_
  apply wpIn_block
  refine range_norm 0 (fun D V => V.heap[D]? = some (.deferred (some [])) ∧ w10.heap.size ≤ D ∧ Below w10.heap.size w10 V) (fun _ _ h => h) ?_ ?_
  · refine' range_low (n := 9) (ι := Unit) rfl (by decide) (gf := 46) (lb := #[.pointer (some ⟨b, 0, none⟩)]) rfl trivial (enters_of Tryz.func46 (by kernel_rfl) rfl)
      (pages_low (9 - 1) (by decide) (mo := none) (nn := 0) (g := fun _ => none) (bt := fun _ => []) (X := fun _ => False) (fun _ => rfl) (by omega) (fun k hk => by rw [keysV_none] at hk; cases hk) (fun k hk => hk.elim) ((cell_of_row w10 _ 0 _ _ _ HRB.out).trans rfl)) (fun x _ V => False) (fun x i A l o o' hl hc h => h)
      (fun k h => h.elim (fun h => by cases h) (fun h => h.elim)) (Below.refl _ _) (fun _ => rfl)
      (fun pre V => Below w10.heap.size w10 V) (fun c pre V => False)
      (fun s A C h hB hb => h.trans (hb.mono (by omega)))
      (fun c s A C h hB hb => h) (Below.refl _ _)
      (fun x i => { tmps := #[], defers := [] }) ?assign ?body ?done ?stop
    case assign =>
      intro ly2 x V K hs hT hK
      have := hT.1
      rw [keysV_none] at this
      cases this
    case body =>
      rintro ly2 pre x i V hI hs hlen hsp hG
      exact hG.elim
    case done =>
      rintro D xs V hD hxs hI hK
      exact ⟨.inl rfl, D, rfl, hK, hD, hI⟩
    case stop =>
      rintro D c pre V hD hsp h hK
      exact h.elim
  · rintro D V ⟨hK, hD, hBV⟩
    have HBV := Lib.hid hBV
    have HKD := Lib.hid (And.intro hK hD)
    have HV := Lib.hid (kbT HB10.out hBV)
    clear hK hD hBV
    gi_wp2
    go_wp2_with (first
      | (go_at_call 8; (with_reducible refine (NM.out _ _).mono ?_); rintro e wn ⟨rfl, rfl⟩)
      | (go_at_call 17; refine (CAp.out V HV.out).mono ?_; rintro e v1 ⟨rfl, hb1⟩; have HA1 := Lib.hid hb1; have HV1 := Lib.hid (kbT HV.out hb1); clear hb1)
      | (go_at_call 18; refine (CRs.out v1 HV1.out).mono ?_; rintro e v2 ⟨rfl, hb2⟩; have HA2 := Lib.hid (kbT HA1.out hb2); have HV2 := Lib.hid (kbT HV1.out hb2); clear hb2)
      | (go_at_call 19; refine (CSz.out v2 HV2.out).mono ?_; rintro e v3 ⟨rfl, hb3⟩; have HA3 := Lib.hid (kbT HA2.out hb3); have HV3 := Lib.hid (kbT HV2.out hb3); clear hb3)
      | (go_at_call 20; refine (CEp.out v3 HV3.out).mono ?_; rintro e v4 ⟨rfl, hb4⟩; have HA4 := Lib.hid (kbT HA3.out hb4); have HV4 := Lib.hid (kbT HV3.out hb4); clear hb4)
      | (go_at_call 13; refine (CDk.out v4 HV4.out).mono ?_; rintro e v5 ⟨rfl, hb5⟩; have HA5 := Lib.hid (kbT HA4.out hb5); have HV5 := Lib.hid (kbT HV4.out hb5); clear hb5)
      | (go_at_call 9; refine (WK.out v5).mono ?_; rintro e v6 ⟨rfl, hb6⟩; have HA6 := Lib.hid (kbT HA5.out hb6); have HV6 := Lib.hid (kbT HV5.out hb6); have hy6 := (HC.out v6 (kbT HB6.out HV6.out)).2.2; have z0 := (cell_of_row v6 _ 0 _ _ _ hy6).trans rfl; have z1 : v6.frozen? ⟨w.heap.size + 1, 0, none⟩ = false := frozen_of_row v6 _ 0 _ _ hy6; have HZ6 := Lib.hid hy6; clear hb6 hy6)
      | fail)
    have hD : w10.heap.size ≤ D := HKD.out.2
    have hD1 : D ≠ w.heap.size + 1 := by
      have a1 := HB0.out.2
      have a2 := HB6.out.size
      have a3 := HB10.out.size
      omega
    have hDl : D < V.heap.size := (Array.getElem?_eq_some_iff.1 HKD.out.1).1
    have c0 := (cell_of_row _ _ 0 _ _ _ (row_set HZ6.out (i := 0) (.bool true))).trans rfl
    have hq : (v6.setCell ⟨w.heap.size + 1, 0, none⟩ (.bool true)).heap[D]? = some (.deferred (some [])) := (Below.heap_setCell _ _ _ _ (by show D ≠ w.heap.size + 1; exact hD1)).trans ((HA6.out.block _ hDl).trans HKD.out.1)
    have hb5 : Below w.heap.size w (v6.setCell ⟨w.heap.size + 1, 0, none⟩ (.bool true)) := (kbT HB0.out.1 (kbT HB6.out HV6.out)).setCell (by show w.heap.size ≤ w.heap.size + 1; omega) _
    generalize v6.setCell ⟨w.heap.size + 1, 0, none⟩ (.bool true) = W5 at c0 hq hb5 ⊢
    have c1 : (W5.putObj D (.deferred none)).cell? ⟨w.heap.size + 1, 0, none⟩ = some (.bool true) := (World.cell?_of_block (World.putObj_heap_other (by show w.heap.size + 1 ≠ D; omega))).trans c0
    have hDw : w.heap.size ≤ D := by
      have a1 := HB0.out.2
      have a2 := HB6.out.size
      have a3 := HB10.out.size
      omega
    have hb6 := hb5.trans (belowK_b (w := w) (Nat.le_refl _) W5 D _ (.deferred none) hDw hq rfl rfl)
    refine ⟨by simp, .inl ⟨_, _, rfl, run_takeDeferred hq, ?_⟩⟩
    refine ⟨.bool true, ?_, rfl, hb6⟩
    simp [results, Tryz.results3, go_sem, c1]
set_option maxRecDepth 100000 in
set_option maxHeartbeats 16000000 in
theorem walnone_nofit1 (f pg : Int) (N : Nat) (hpl : planOk f pg = true) (hN : (N : Int) ≠ 2 + 9 * f + 8 * pg) (w : World) (hn : 1 ≤ N ∧ N ≤ 40000) (hodd : (N : Int) % 2 = 1) : Calls Tryz.prog 3 #[.agg #[.int .i64 f, .int .i64 pg], .int .i64 (N : Int)] w fun r w' => r = .returned (.bool true) ∧ Below w.heap.size w w' := by
  obtain ⟨w0, hw0⟩ : ∃ w0, w0 = (w.alloc (.cells #[.int .i64 f, .int .i64 pg] 23)).alloc (.cells #[.bool false] 4) := ⟨_, rfl⟩
  have hb0 : Below w.heap.size w w0 := by subst hw0; exact ((Below.refl _ _).alloc (Nat.le_refl _) _).alloc (by simp) _
  have hx0 : w0.heap[w.heap.size]? = some (.cells #[.int .i64 f, .int .i64 pg] 23 (0, 0)) := by subst hw0; exact (Below.heap_alloc _ _ _ (by simp)).trans (heap_alloc_new w _)
  have hy0 : w0.heap[w.heap.size + 1]? = some (.cells #[.bool false] 4 (0, 0)) := by subst hw0; exact heap2 w _ _
  have hs0 : w.heap.size + 2 = w0.heap.size := by subst hw0; simp
  have HC : Hid (∀ W, Below w0.heap.size w0 W → W.cell? ⟨w.heap.size, 0, none⟩ = some (.int .i64 f) ∧ W.cell? ⟨w.heap.size, 1, none⟩ = some (.int .i64 pg) ∧ W.heap[w.heap.size + 1]? = some (.cells #[.bool false] 4 (0, 0))) := Lib.hid fun W hb => by
    have e1 := (hb.block _ (Array.getElem?_eq_some_iff.1 hx0).1).trans hx0
    exact ⟨(cell_of_row _ _ 0 _ _ _ e1).trans rfl, (cell_of_row _ _ 1 _ _ _ e1).trans rfl, (hb.block _ (Array.getElem?_eq_some_iff.1 hy0).1).trans hy0⟩
  have HB0 := Lib.hid (And.intro hb0 hs0)
  have NM := Lib.hid num06
  have WK := Lib.hid works06
  have CN := Lib.hid (new_step (n := N) w0 w0 (Below.refl _ _) hn)
  have CR := Lib.hid fun W => right_any f pg W
  have hu : unfitE f pg N = 2 := by unfold unfitE planE secsE; simp [hpl]; omega
  have hneq : ((N : Int) != 2 + 9 * f + 8 * pg) = true := by simpa using hN
  have COp : Hid (∀ W Bd, DiskN w0 W Bd (Dk.newS N) → Calls Tryz.prog 10 #[.pointer (some ⟨Bd, 0, none⟩), .agg #[.int .i64 f, .int .i64 pg]] W fun r w' => r = .returned (.tuple #[.pointer none, .int .i64 2]) ∧ Below w0.heap.size w0 w') := Lib.hid fun W Bd hd => by
    obtain ⟨F, hR, hF, hb⟩ := hd
    have h := open_unfit Bd (Dk.newS N) f pg F W hR (by show 1 ≤ N; omega) (by show unfitE f pg N ≠ 0; rw [hu]; decide)
    refine h.mono ?_
    rintro r w' ⟨rfl, hb2⟩
    refine ⟨?_, kbT hb hb2⟩
    show Ending.returned (.tuple #[.pointer none, .int .i64 (unfitE f pg N)]) = _
    rw [hu]
  have CSE : Hid (∀ W, Calls Tryz.prog 12 #[.agg #[.int .i64 f, .int .i64 pg]] W fun r w' => r = .returned (.int .i64 (2 + 9 * f + 8 * pg)) ∧ Below W.heap.size W w') := Lib.hid fun W => refSectors_any f pg W hpl
  rw [hpl] at CR
  have h1 : ¬ ((N : Int) < 1) := by omega
  have h2 : ¬ (40000 < (N : Int)) := by omega
  have hodd2 : ((N : Int).tmod 2 == 1) = true := by
    rw [Int.tmod_eq_emod_of_nonneg (by omega), hodd]
    rfl
  have hoddn : N % 2 = 1 := by omega
  obtain ⟨p0, p1, -⟩ := HC.out w0 (Below.refl _ _)
  clear hb0 hx0 hy0 hs0 hN hpl hu
  refine (callsIn_wide (n := 9)).1 ?_
  refine callsIn_of_wp_marks Tryz.func3 rfl trivial ?_ rfl
  simp only [Tryz.ntmps3, List.size_toArray, List.length_cons, List.length_nil, Nat.reduceAdd, Nat.reduceSub, Array.replicate_succ, Array.replicate_zero, List.push_toArray, List.append_toArray, List.nil_append, List.cons_append]
  refine wpIn_wide.2 ?_
  go_upto_region 1 with fail
  try rw [← hw0]
  clear hw0
  go_upto_region 4 with (first
    | (go_at_call 7; refine CN.out.mono ?_; rintro e w1 ⟨Bd, rfl, hd1⟩; have HD1 := Lib.hid hd1; obtain ⟨p0, p1, -⟩ := HC.out w1 hd1.since; clear hd1)
    | fail)
  go_upto_region 5 with (first
    | (go_at_call 10; refine (COp.out w1 Bd HD1.out).mono ?_; rintro e w2 ⟨rfl, hb2⟩; have HB2 := Lib.hid hb2; obtain ⟨p0, p1, -⟩ := HC.out w2 hb2; clear hb2)
    | fail)
  go_upto_region 10 with (first
    | (go_at_call 8; (with_reducible refine (NM.out _ _).mono ?_); rintro e wn ⟨rfl, rfl⟩)
    | (go_at_call 11; refine (CR.out w2).mono ?_; rintro e w3 ⟨rfl, hb3⟩; have HB3 := Lib.hid (kbT HB2.out hb3); obtain ⟨p0, p1, -⟩ := HC.out w3 (kbT HB2.out hb3); clear hb3)
    | (go_at_call 12; refine (CSE.out w3).mono ?_; rintro e w4 ⟨rfl, hb4⟩; have HB4 := Lib.hid (kbT HB3.out hb4); clear hb4 p0 p1)
    | fail)
  try clear p0 p1
  have hz := zeroLog
  simp only [LogV.zero] at hz
  go_upto_region 13 with fail
  clear hz
  obtain ⟨pa, hpa⟩ : ∃ pa : Option Addr, pa = some ⟨w4.heap.size, 0, none⟩ := ⟨_, rfl⟩
  obtain ⟨w6, hw6⟩ : ∃ w6, w6 = w4.alloc (.cells #[.pointer none, .int .i64 0, .int .i64 0, .int .u64 0, .int .u64 0, .int .i64 0, .int .u32 0, .int .i64 0, .map none] 46) := ⟨_, rfl⟩
  have HB6 : Hid (Below w0.heap.size w0 w6) := Lib.hid (by rw [hw6]; exact (HB4.out).alloc (HB4.out).size _)
  have HWI : Hid (∀ W, Below w6.heap.size w6 W → WholeIs (.pointer pa) W .zero) := Lib.hid fun W hb => by
    rw [hpa]
    exact whole_of _ .zero W (logAt_below (by rw [hw6]; exact heap_alloc_new _ _) hb)
  rw [← hw6, ← hpa]
  clear hw6 hpa
  have CMn : Hid (∀ W, Below w6.heap.size w6 W → Calls Tryz.prog 14 #[.pointer pa] W fun r w' => r = .returned (.tuple #[.int .i64 0, .int .i64 0]) ∧ Below W.heap.size W w') := Lib.hid fun W hb => many_any (.pointer pa) .zero W (HWI.out W hb) (by decide)
  have CPg : Hid (∀ W, Below w6.heap.size w6 W → Calls Tryz.prog 15 #[.pointer pa, .int .i64 0] W fun r w' => ∃ t, r = .returned (.tuple #[t, .bool false]) ∧ Below W.heap.size W w') := Lib.hid fun W hb => page_none (.pointer pa) .zero 0 W (HWI.out W hb) rfl
  have COn : Hid (∀ W, Calls Tryz.prog 10 #[.pointer none, .agg #[.int .i64 f, .int .i64 pg]] W fun r w' => r = .returned (.tuple #[.pointer none, .int .i64 1]) ∧ Below W.heap.size W w') := Lib.hid fun W => open_nil f pg W
  have CPs : Hid (∀ W, Below w6.heap.size w6 W → Calls Tryz.prog 16 #[.pointer pa] W fun r w' => ∃ b, r = .returned (.func (.func 46) #[] #[.pointer (some ⟨b, 0, none⟩)]) ∧ W.heap.size ≤ b ∧ w'.heap[b]? = some (.cells #[.map none] 42 (0, 0)) ∧ Below W.heap.size W w') := Lib.hid fun W hb => pages_none (.pointer pa) .zero W (HWI.out W hb) rfl
  have CAp : Hid (∀ W, Below w6.heap.size w6 W → Calls Tryz.prog 17 #[.pointer pa, .int .i64 0, .slice none 0 0] W fun r w' => r = .returned (.int .i64 1) ∧ Below W.heap.size W w') := Lib.hid fun W hb => append_none pa .zero 0 none 0 0 W (HWI.out W hb) rfl
  have CRs : Hid (∀ W, Below w6.heap.size w6 W → Calls Tryz.prog 18 #[.pointer pa] W fun r w' => r = .returned (.int .i64 1) ∧ Below W.heap.size W w') := Lib.hid fun W hb => reset_none (.pointer pa) .zero W (HWI.out W hb) rfl
  have CSz : Hid (∀ W, Below w6.heap.size w6 W → Calls Tryz.prog 19 #[.pointer pa] W fun r w' => r = .returned (.int .i64 0) ∧ Below W.heap.size W w') := Lib.hid fun W hb => size_any (.pointer pa) .zero W (HWI.out W hb)
  have CEp : Hid (∀ W, Below w6.heap.size w6 W → Calls Tryz.prog 20 #[.pointer pa] W fun r w' => r = .returned (.int .u64 0) ∧ Below W.heap.size W w') := Lib.hid fun W hb => epoch_any (.pointer pa) .zero W (HWI.out W hb)
  have CDk : Hid (∀ W, Below w6.heap.size w6 W → Calls Tryz.prog 13 #[.pointer pa] W fun r w' => r = .returned (.pointer none) ∧ Below W.heap.size W w') := Lib.hid fun W hb => ldisk_any (.pointer pa) .zero W (HWI.out W hb)
  go_upto_region 17 with (first
    | (go_at_call 14; refine (CMn.out w6 (Below.refl _ _)).mono ?_; rintro e w7 ⟨rfl, hb7⟩; have HB7 := Lib.hid hb7; clear hb7)
    | (go_at_call 15; refine (CPg.out w7 HB7.out).mono ?_; rintro e w8 ⟨t8, rfl, hb8⟩; have HB8 := Lib.hid (kbT HB7.out hb8); obtain ⟨p0, p1, -⟩ := HC.out w8 (kbT HB6.out HB8.out); clear hb8)
    | (go_at_call 10; refine (COn.out w8).mono ?_; rintro e w9 ⟨rfl, hb9⟩; have HB9 := Lib.hid (kbT HB8.out hb9); clear hb9 p0 p1)
    | (go_at_call 16; refine (CPs.out w9 HB9.out).mono ?_; rintro e w10 ⟨b, rfl, hbb, hrb, hb10⟩; have HB10 := Lib.hid (kbT HB9.out hb10); have HRB := Lib.hid hrb; clear hb10 hrb hbb)
    | fail)
  have hq := fun w => eq53 (.func 46) #[] #[.pointer (some ⟨b, 0, none⟩)] w
  have hqg := fun x y w => eqg53 (.func 46) #[] #[.pointer (some ⟨b, 0, none⟩)] x y w
  go_upto_region 19 with fail
  clear hq hqg
  refine (wpIn_wide (n := 9)).1 ?_
  gi_wp2
  refine (wpIn_wide (n := 9)).1 ?_
  apply wpIn_block
  refine range_norm 0 (fun D V => V.heap[D]? = some (.deferred (some [])) ∧ w10.heap.size ≤ D ∧ Below w10.heap.size w10 V) (fun _ _ h => h) ?_ ?_
  · refine' range_low (n := 9) (ι := Unit) rfl (by decide) (gf := 46) (lb := #[.pointer (some ⟨b, 0, none⟩)]) rfl trivial (enters_of Tryz.func46 (by kernel_rfl) rfl)
      (pages_low (9 - 1) (by decide) (mo := none) (nn := 0) (g := fun _ => none) (bt := fun _ => []) (X := fun _ => False) (fun _ => rfl) (by omega) (fun k hk => by rw [keysV_none] at hk; cases hk) (fun k hk => hk.elim) ((cell_of_row w10 _ 0 _ _ _ HRB.out).trans rfl)) (fun x _ V => False) (fun x i A l o o' hl hc h => h)
      (fun k h => h.elim (fun h => by cases h) (fun h => h.elim)) (Below.refl _ _) (fun _ => rfl)
      (fun pre V => Below w10.heap.size w10 V) (fun c pre V => False)
      (fun s A C h hB hb => h.trans (hb.mono (by omega)))
      (fun c s A C h hB hb => h) (Below.refl _ _)
      (fun x i => { tmps := #[], defers := [] }) ?assign ?body ?done ?stop
    case assign =>
      intro ly2 x V K hs hT hK
      have := hT.1
      rw [keysV_none] at this
      cases this
    case body =>
      rintro ly2 pre x i V hI hs hlen hsp hG
      exact hG.elim
    case done =>
      rintro D xs V hD hxs hI hK
      exact ⟨.inl rfl, D, rfl, hK, hD, hI⟩
    case stop =>
      rintro D c pre V hD hsp h hK
      exact h.elim
  · rintro D V ⟨hK, hD, hBV⟩
    have HBV := Lib.hid hBV
    have HKD := Lib.hid (And.intro hK hD)
    have HV := Lib.hid (kbT HB10.out hBV)
    clear hK hD hBV
    gi_wp2
    go_wp2_with (first
      | (go_at_call 8; (with_reducible refine (NM.out _ _).mono ?_); rintro e wn ⟨rfl, rfl⟩)
      | (go_at_call 17; refine (CAp.out V HV.out).mono ?_; rintro e v1 ⟨rfl, hb1⟩; have HA1 := Lib.hid hb1; have HV1 := Lib.hid (kbT HV.out hb1); clear hb1)
      | (go_at_call 18; refine (CRs.out v1 HV1.out).mono ?_; rintro e v2 ⟨rfl, hb2⟩; have HA2 := Lib.hid (kbT HA1.out hb2); have HV2 := Lib.hid (kbT HV1.out hb2); clear hb2)
      | (go_at_call 19; refine (CSz.out v2 HV2.out).mono ?_; rintro e v3 ⟨rfl, hb3⟩; have HA3 := Lib.hid (kbT HA2.out hb3); have HV3 := Lib.hid (kbT HV2.out hb3); clear hb3)
      | (go_at_call 20; refine (CEp.out v3 HV3.out).mono ?_; rintro e v4 ⟨rfl, hb4⟩; have HA4 := Lib.hid (kbT HA3.out hb4); have HV4 := Lib.hid (kbT HV3.out hb4); clear hb4)
      | (go_at_call 13; refine (CDk.out v4 HV4.out).mono ?_; rintro e v5 ⟨rfl, hb5⟩; have HA5 := Lib.hid (kbT HA4.out hb5); have HV5 := Lib.hid (kbT HV4.out hb5); clear hb5)
      | (go_at_call 9; refine (WK.out v5).mono ?_; rintro e v6 ⟨rfl, hb6⟩; have HA6 := Lib.hid (kbT HA5.out hb6); have HV6 := Lib.hid (kbT HV5.out hb6); have hy6 := (HC.out v6 (kbT HB6.out HV6.out)).2.2; have z0 := (cell_of_row v6 _ 0 _ _ _ hy6).trans rfl; have z1 : v6.frozen? ⟨w.heap.size + 1, 0, none⟩ = false := frozen_of_row v6 _ 0 _ _ hy6; have HZ6 := Lib.hid hy6; clear hb6 hy6)
      | fail)
    have hD : w10.heap.size ≤ D := HKD.out.2
    have hD1 : D ≠ w.heap.size + 1 := by
      have a1 := HB0.out.2
      have a2 := HB6.out.size
      have a3 := HB10.out.size
      omega
    have hDl : D < V.heap.size := (Array.getElem?_eq_some_iff.1 HKD.out.1).1
    have c0 := (cell_of_row _ _ 0 _ _ _ (row_set HZ6.out (i := 0) (.bool true))).trans rfl
    have hq : (v6.setCell ⟨w.heap.size + 1, 0, none⟩ (.bool true)).heap[D]? = some (.deferred (some [])) := (Below.heap_setCell _ _ _ _ (by show D ≠ w.heap.size + 1; exact hD1)).trans ((HA6.out.block _ hDl).trans HKD.out.1)
    have hb5 : Below w.heap.size w (v6.setCell ⟨w.heap.size + 1, 0, none⟩ (.bool true)) := (kbT HB0.out.1 (kbT HB6.out HV6.out)).setCell (by show w.heap.size ≤ w.heap.size + 1; omega) _
    generalize v6.setCell ⟨w.heap.size + 1, 0, none⟩ (.bool true) = W5 at c0 hq hb5 ⊢
    have c1 : (W5.putObj D (.deferred none)).cell? ⟨w.heap.size + 1, 0, none⟩ = some (.bool true) := (World.cell?_of_block (World.putObj_heap_other (by show w.heap.size + 1 ≠ D; omega))).trans c0
    have hDw : w.heap.size ≤ D := by
      have a1 := HB0.out.2
      have a2 := HB6.out.size
      have a3 := HB10.out.size
      omega
    have hb6 := hb5.trans (belowK_b (w := w) (Nat.le_refl _) W5 D _ (.deferred none) hDw hq rfl rfl)
    refine ⟨by simp, .inl ⟨_, _, rfl, run_takeDeferred hq, ?_⟩⟩
    refine ⟨.bool true, ?_, rfl, hb6⟩
    simp [results, Tryz.results3, go_sem, c1]
end Go.Proofs.YtdanigigjainjaaGreat
namespace Go.Proofs.YtdanigigjainjaaGreat.WalNn
open Go.ChangeShapes Go.WideShapes Go.ChangeAt Go.RowKit Go.Joins

theorem walnone_any (f pg n : Int) (w : World) : Calls Tryz.prog 3 #[.agg #[.int .i64 f, .int .i64 pg], .int .i64 n] w fun r w' => r = .returned (.bool true) ∧ Below w.heap.size w w' := by
  by_cases hb : n < 1 ∨ 40000 < n
  · exact walnone_bad f pg n w hb
  obtain ⟨N, rfl⟩ : ∃ N : Nat, n = N := ⟨n.toNat, by omega⟩
  have hn : 1 ≤ N ∧ N ≤ 40000 := by omega
  have hodd : (N : Int) % 2 = 0 ∨ (N : Int) % 2 = 1 := by omega
  cases hpl : planOk f pg with
  | false => exact hodd.elim (fun h => walnone_noplan0 f pg N hpl w hn h) (fun h => walnone_noplan1 f pg N hpl w hn h)
  | true =>
    by_cases hN : (N : Int) = 2 + 9 * f + 8 * pg
    · obtain ⟨fn, pn, rfl, rfl, hp⟩ := plan_nat hpl
      have hN2 : N = 2 + 9 * fn + 8 * pn := by omega
      exact hodd.elim (fun h => walnone_fit0 fn pn N hN2 hp w hn h) (fun h => walnone_fit1 fn pn N hN2 hp w hn h)
    · exact hodd.elim (fun h => walnone_nofit0 f pg N hpl hN w hn h) (fun h => walnone_nofit1 f pg N hpl hN w hn h)

set_option maxRecDepth 100000 in
theorem contract (H : Type) (enc : TypeId × Value → H) (W : World) (base : Nat) (args : Array Value) (ds gs : List (DataW H)) (before : List MemPlace)
    (hval : ∀ (j : Nat) t v, Tryz.f3.params[j]? = some t → args[j]? = some v → Value.okWide Tryz.prog W .any base t v)
    (hW : DataW.Whole enc Tryz.prog Tryz.f3.params.toList Rows.walNoneSpec.vars false W args.toList ds gs before) :
    Calls Tryz.prog 3 args W fun e W' => ∃ v, e = .returned v ∧ Rows.walNoneSpec.post enc Tryz.prog Tryz.f3 false true false false W args v W' := by
  have hW' := hW
  obtain ⟨p, q, hA0, hV, rfl, hfz, hnd⟩ := hW
  have hA : DataW.TrodAll enc Tryz.prog W 0 (fun _ => true) true Tryz.f3.params.toList args.toList ds p := hA0
  rw [Tryz.params3] at hA hval
  obtain ⟨v0, vs0, d0, ds0, p0, q0, hargs, rfl, rfl, h0, r0⟩ := trodAll_cons hA
  obtain ⟨v1, vs1, d1, ds1, p1, q1, rfl, rfl, rfl, h1, r1⟩ := trodAll_cons r0
  obtain ⟨rfl, rfl, rfl⟩ := trodAll_nil r1
  obtain rfl : args = #[v0, v1] := by cases args; simp_all
  obtain ⟨rfl, rfl⟩ := trodVars_none hV
  have hpl := open_plan (hval 0 _ v0 rfl rfl) h0
  obtain ⟨n, rfl, rfl, rfl, wb⟩ := open_int Tryz.underlying3 (hval 1 3 v1 rfl rfl) h1
  obtain ⟨f, pg, rfl, -⟩ := hpl
  have fin := walnone_any f pg n W
  refine fin.mono fun e W' ⟨he, hb⟩ => ⟨_, he, law_true hW' rfl ⟨rfl, rfl, rfl⟩ (by kernel_rfl) (by kernel_rfl) hb⟩

theorem reads (os : Os) {H : Type} (enc : TypeId × Value → H) : ∃ places, DataW.whole enc Tryz.prog ((laidWorld os).forCall (fun _ _ => 0) ⟨#[], #[.agg #[.int .i64 0, .int .i64 0], .int .i64 0], []⟩).memory Tryz.f3.params.toList Rows.walNoneSpec.vars false (#[.agg #[.int .i64 0, .int .i64 0], .int .i64 0] : Array Value).toList 9 = some ([.agg [.lit (.int .i64 0), .lit (.int .i64 0)], .lit (.int .i64 0)], [], places) :=
  ⟨[], by kernel_rfl⟩

set_option maxRecDepth 100000 in
theorem lifted (os : Os) (started : os.Started) (H : Type) (enc : TypeId × Value → H) (F : Stop.Interp) :
    ReturnsInHanded {} Tryz.checked os 3 .any ((OpenSpec.ofChange Rows.walNoneSpec).preRow enc Tryz.prog Tryz.f3 Rows.walNoneRow.domain false Rows.walNoneRow.laid) (((OpenSpec.ofChange Rows.walNoneSpec).at F).post enc Tryz.prog Tryz.f3 false true false false) := by
  obtain ⟨places, hx⟩ := reads os enc
  refine returnsInHanded_of_row (C := Tryz.checked) (s := OpenSpec.ofChange Rows.walNoneSpec) own started (by kernel_rfl) Tryz.func3
    (witness_row_at (enc := enc) (C := Tryz.checked) false (laidWorld os) #[.agg #[.int .i64 0, .int .i64 0], .int .i64 0] rfl (by kernel_rfl) (by kernel_rfl) (by kernel_rfl)
      (OpenSpec.preRow_of_cond 9 hx (by kernel_rfl) (fun k hk => by cases hk) (by kernel_rfl) (laid_met os _))) ?_
  intro W base args ds gs before hval hW _ _ hsz hL hsh _
  exact contract H enc W base args ds gs before hval hW

theorem said : Rows.WalNoneSaid :=
  OpenClaim.holds_of_cond 3 Tryz.f3 rfl rfl rfl rfl rfl rfl rfl ⟨rfl, rfl, rfl, rfl, rfl⟩ rfl rfl rfl rfl rfl (by kernel_rfl) Tryz.func3 (by kernel_rfl)
    (of_decide_eq_true (by kernel_rfl)) (by unfold Func.isWrapper; first | (rw [if_pos (by decide +kernel)]; kernel_rfl) | (rw [if_neg (by decide +kernel)]; exact ⟨rfl, rfl⟩))
    (fun os started H enc _ F => by rw [OpenClaim.pre_eq_preRow]; exact lifted os started H enc F)
end Go.Proofs.YtdanigigjainjaaGreat.WalNn
namespace Go.Proofs.YtdanigigjainjaaGreat
theorem walNone_holds : Rows.WalNoneSaid := WalNn.said
end Go.Proofs.YtdanigigjainjaaGreat
