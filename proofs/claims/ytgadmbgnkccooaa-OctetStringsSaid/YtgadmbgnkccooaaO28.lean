import Derived.Test.YtgadmbgnkccooaaO27
namespace Go.Proofs.Ytgadmbgnkccooaa
open Go.RowKit Go.Shelf

theorem kbD {w w1 : World} (h : Below w.drew.heap.size w.drew w1) : Below w.heap.size w w1 := ((Below.refl _ _).drew).trans h
theorem bytesAt_drewN {w : World} {p : Option Addr} {l : List Nat} (h : BytesAt w p l) (n : Nat) : BytesAt (w.drewN n) p l := fun i hi => by
  obtain ⟨B, off, e, c⟩ := h i hi
  exact ⟨B, off, e, by rw [← c]; simp⟩
theorem str_beq (s t : ByteArray) : (s.toList == t.toList) = decide (s = t) := by
  rw [ByteArray.toList_eq, ByteArray.toList_eq]
  by_cases h : s = t
  · subst h; simp
  · rw [decide_eq_false h]
    apply Bool.eq_false_iff.2
    intro e
    have e2 := eq_of_beq e
    apply h
    cases s; cases t
    simp only [ByteArray.mk.injEq]
    exact Array.toList_inj.1 e2
theorem RowB.own' {w w' : World} {l : List Nat} {t : Value} (h : RowB w l t w') (hne : l ≠ []) :
    ∃ g cap, t = .slice (some ⟨g, 0, none⟩) l.length cap ∧ l.length ≤ cap ∧ cap ≤ maxLen ∧ BytesAt w' (some ⟨g, 0, none⟩) l ∧ (∀ i, w'.frozen? ⟨g, i, none⟩ = false) ∧ w.heap.size ≤ g := by
  have h2 := h
  obtain ⟨p, cap, e, hc, hm, hb, hg⟩ := h2.at'
  obtain ⟨⟨h0, h1⟩, hB⟩ := h
  rcases h1 with ⟨-, hn⟩ | ⟨g, cap', cur, e2, hg2, hh, -⟩
  · exact absurd (List.eq_nil_of_length_eq_zero hn) hne
  · rw [e] at e2
    injection e2 with e3 e4 e5
    subst e3
    refine ⟨g, cap, e, hc, hm, hb, fun i => ?_, hg2⟩
    unfold World.frozen?
    rw [hh]
    simp
theorem below_any {w w1 w2 : World} (h1 : Below w.heap.size w w1) (h2 : Below w1.heap.size w1 w2) : Below w.heap.size w w2 := h1.trans (h2.mono h1.size)
theorem begins_same (X : Nat) : (numE X).take (numE X).length = numE X := List.take_length
set_option maxRecDepth 100000 in
set_option maxHeartbeats 4000000 in
theorem holds_any (X Y : Nat) (hX : X < 2 ^ 64) (hY : Y < 2 ^ 64) (l : List Nat) (p : Option Addr) (cap : Nat) (bit : Int) (w : World) (hl : l.length ≤ maxLen) (hb : ∀ b ∈ l, b < 256) (hc : Hid (BytesAt w p l)) :
    Calls Try.prog 6 #[.agg #[.int .u64 X, .int .u64 Y], .slice p l.length cap, .int .i64 bit] w fun r w' => r = .returned (.bool true) ∧ Below w.heap.size w w' := by
  have WK := Lib.hid works_any
  have HB := Lib.hid hb
  clear hb
  by_cases hgo : ¬ l.length ≤ 300 ∨ bit < 0 ∨ 8 * (l.length : Int) ≤ bit
  · rcases (show 300 < l.length ∨ (l.length ≤ 300 ∧ bit < 0) ∨ (l.length ≤ 300 ∧ 0 ≤ bit ∧ 8 * (l.length : Int) ≤ bit) by omega) with h | ⟨h, h2⟩ | ⟨h, h2, h3⟩
    all_goals
      clear hgo
      go_enter Try.func6, Try.ntmps6
      go_wp2_with (go_at_call 7; refine (WK.out _).mono ?_; rintro e w7 ⟨rfl, hb7⟩; have HB7 := Lib.hid (kbA hb7); clear hb7)
      go_ret
      exact ⟨rfl, HB7.out⟩
  obtain ⟨h300, hbit0, hbit⟩ : l.length ≤ 300 ∧ 0 ≤ bit ∧ bit < 8 * (l.length : Int) := by omega
  clear hgo
  go_enter Try.func6, Try.ntmps6
  go_wp2_with fail
  have NX : Hid (∀ w, Calls Try.prog 8 #[.int .u64 X] w fun r w' => ∃ t, r = .returned t ∧ RowB w (numE X) t w') := Lib.hid fun w => number_any X w hX
  have NY : Hid (∀ w, Calls Try.prog 8 #[.int .u64 Y] w fun r w' => ∃ t, r = .returned t ∧ RowB w (numE Y) t w') := Lib.hid fun w => number_any Y w hY
  go_cut [7, 8] from 26 to 31 (fun x y wx => ∃ px cx py cy, x = .slice px (numE X).length cx ∧ y = .slice py (numE Y).length cy ∧ (numE X).length ≤ cx ∧ (numE Y).length ≤ cy ∧ cy ≤ 9223372036854775807 ∧ Hid (BytesAt wx px (numE X) ∧ BytesAt wx py (numE Y)) ∧ wx.cell? ⟨w.heap.size, 0, none⟩ = some (.int .u64 X) ∧ wx.cell? ⟨w.heap.size, 1, none⟩ = some (.int .u64 Y) ∧ Hid (Below w.heap.size w wx))
  case first =>
    have B0 : Below w.heap.size w (w.alloc (.cells #[.int .u64 X, .int .u64 Y] 54)) := (Below.refl _ _).alloc (Nat.le_refl _) _
    have s0 : w.heap.size < (w.alloc (.cells #[.int .u64 X, .int .u64 Y] 54)).heap.size := by simp
    have c0 : (w.alloc (.cells #[.int .u64 X, .int .u64 Y] 54)).cell? ⟨w.heap.size, 0, none⟩ = some (.int .u64 X) := by go_cell
    have c1 : (w.alloc (.cells #[.int .u64 X, .int .u64 Y] 54)).cell? ⟨w.heap.size, 1, none⟩ = some (.int .u64 Y) := by go_cell
    generalize w.alloc (.cells #[.int .u64 X, .int .u64 Y] 54) = W0 at *
    have MK : Hid (∀ w', Below W0.heap.size W0 w' → w'.cell? ⟨w.heap.size, 0, none⟩ = some (.int .u64 X) ∧ w'.cell? ⟨w.heap.size, 1, none⟩ = some (.int .u64 Y)) := Lib.hid fun w' h => ⟨(h.cell (p := ⟨w.heap.size, 0, none⟩) s0).trans c0, (h.cell (p := ⟨w.heap.size, 1, none⟩) s0).trans c1⟩
    go_region_with ((first
      | (go_at_call 8; with_reducible refine (NX.out _).mono ?_; rintro e wa ⟨t, rfl, hr⟩; obtain ⟨px, cx, rfl, hcx, -, hbx, -⟩ := hr.at'
         have B1 : Below W0.heap.size W0 wa := (by first | exact kbT B1 hr.2 | exact kbD hr.2)
         try (have hby := bytesAt_below hby hr.2)
         obtain ⟨c0, c1⟩ := MK.out _ B1)
      | (go_at_call 8; with_reducible refine (NY.out _).mono ?_; rintro e wa ⟨t, rfl, hr⟩; obtain ⟨py, cy, rfl, hcy, hcym, hby, -⟩ := hr.at'
         have B1 : Below W0.heap.size W0 wa := (by first | exact kbT B1 hr.2 | exact kbD hr.2)
         try (have hbx := bytesAt_below hbx hr.2)
         obtain ⟨c0, c1⟩ := MK.out _ B1)))
    all_goals (go_wp2_with fail; go_meet; exact ⟨px, cx, py, cy, rfl, rfl, hcx, hcy, by unfold maxLen at hcym; omega, Lib.hid ⟨hbx, hby⟩, c0, c1, Lib.hid (kbT B0 B1)⟩)
  case rest =>
    rename World => w1
    obtain ⟨px, cx, py, cy, rfl, rfl, hcx, hcy, hcy2, HXY, c0, c1, HB1⟩ := hcut
    go_wp2_with fail
    go_cut [9] from 32 to 46 (fun b wx => b = .bool (decide (X = Y)) ∧ wx.cell? ⟨w.heap.size, 0, none⟩ = some (.int .u64 X) ∧ wx.cell? ⟨w.heap.size, 1, none⟩ = some (.int .u64 Y) ∧ Hid (Below w.heap.size w wx))
    case first =>
      have cvX : ∀ n, (convert 23 9 (.slice px (numE X).length cx)).run Try.prog (w1.drewN n) = .ok (.string (strOf (numE X))) (w1.drewN n) := fun n => conv_at _ px cx (numE X) (numE_byte hX) (bytesAt_drewN HXY.out.1 n)
      by_cases hle : (numE X).length ≤ (numE Y).length
      · have ht : ((numE Y).take (numE X).length).length = (numE X).length := by simp; omega
        have cvY : ∀ n, (convert 23 9 (.slice py (numE X).length cy)).run Try.prog (w1.drewN n) = .ok (.string (strOf ((numE Y).take (numE X).length))) (w1.drewN n) := fun n => by
          have := conv_at (w1.drewN n) py cy ((numE Y).take (numE X).length) (fun b hb => numE_byte hY b (List.mem_of_mem_take hb)) (bytesAt_take (bytesAt_drewN HXY.out.2 n) _)
          rw [ht] at this
          exact this
        clear ht
        have hlx : (numE X).length ≤ cy := by omega
        have HE : Hid ((strOf ((numE Y).take (numE X).length) = strOf (numE X)) ↔ X = Y) := Lib.hid ⟨fun h => (num_begins X Y hX hY).1 ⟨hle, strOf_inj (fun b hb => numE_byte hY b (List.mem_of_mem_take hb)) (numE_byte hX) h⟩, fun h => by rw [((num_begins X Y hX hY).2 h).2]⟩
        generalize (numE X).length = LX at *
        generalize (numE Y).length = LY at *
        generalize strOf (numE X) = SX at *
        generalize strOf ((numE Y).take LX) = SY at *
        go_quiet (fail)
        go_wp2_with fail
        go_meet
        exact ⟨by rw [str_beq]; exact congrArg Value.bool (decide_eq_decide.2 HE.out), by rw [← c0]; simp, by rw [← c1]; simp, Lib.hid (below_drewN HB1.out _)⟩
      · have hne : X ≠ Y := fun h => hle (by rw [h]; exact Nat.le_refl _)
        generalize (numE X).length = LX at *
        generalize (numE Y).length = LY at *
        go_quiet (fail)
        go_wp2_with fail
        go_meet
        exact ⟨by rw [decide_eq_false hne], by rw [← c0]; simp, by rw [← c1]; simp, Lib.hid (below_drewN HB1.out _)⟩
    case rest =>
      clear HXY hcx hcy hcy2 c0 c1 HB1 NX NY
      rename World => w2
      obtain ⟨rfl, c0, c1, HB2⟩ := hcut
      obtain ⟨K, rfl⟩ := Int.eq_ofNat_of_zero_le hbit0
      have hKl : K / 8 < l.length := by omega
      obtain ⟨B, off, rfl, -⟩ := hc.out (K / 8) hKl
      obtain ⟨j0, hj, hz0, hz1, hz2⟩ := info_parts info5
      have hown : (w2.alloc (.cells #[] 5)).ownsRow w2.heap.size 5 1 (.slice (some ⟨w2.heap.size, 0, none⟩) 0 0) 0 [] := ⟨rfl, .inr ⟨w2.heap.size, 0, #[], rfl, Nat.le_refl _, heap_alloc_new _ _, Nat.le_refl _, by unfold maxLen; omega, rfl, rfl⟩⟩
      have hBa : Below w2.heap.size w2 (w2.alloc (.cells #[] 5)) := (Below.refl _ _).alloc (Nat.le_refl _) _
      have hcW := bytesAt_below (bytesAt_below hc.out HB2.out) hBa
      go_wp2_with (at_builtin; refine wpList_append_own _ rfl _ _ 23 rfl w2.heap.size 5 j0 (.int .u8 0) 1 1 Try.underlying23 hj hz0 hz1 hz2 rfl (by decide) _ _ _ rfl hown ⟨B, off, none⟩ l.length cap (l.map fun (v : Nat) => Value.int .u8 (v : Int)) rfl (by simp) ?c1 ?c2 ?c3 ?c4 ?c5 ?_)
      case c1 =>
        intro j u hu
        have hjl : j < l.length := by
          have := (List.getElem?_eq_some_iff.1 hu).1
          simpa using this
        obtain ⟨B', off', e, c⟩ := hcW j hjl
        injection e with e
        injection e with e1 e2
        subst e1 e2
        rw [addr_plain, c]
        simp [hjl] at hu
        simp [List.getD_eq_getElem?_getD, hjl, hu]
      case c2 => simp [Value.oneCell']
      case c3 => unfold maxLen; omega
      case c4 => omega
      case c5 => simp
      intro t' w3 hown3 hgrow3 _
      have hR3 : RowB w2 l t' w3 := ⟨by simpa using hown3, hBa.grown hgrow3 (by simp) (fun j hj => (hown.lt j hj).1)⟩
      clear hown3 hgrow3 hcW hown hBa
      obtain ⟨g, gc, rfl, hgc, hgm, hgb, hgf, hgw⟩ := hR3.own' (fun h => by rw [h] at hKl; simp at hKl)
      have HB3 := Lib.hid (below_any HB2.out hR3.2)
      have hw2 := lt_of_cell_some c0
      have c0' := (hR3.2.cell (p := ⟨w.heap.size, 0, none⟩) hw2).trans c0
      have c1' := (hR3.2.cell (p := ⟨w.heap.size, 1, none⟩) hw2).trans c1
      clear hR3 c0 c1
      obtain ⟨B', off', e, hcv⟩ := hgb (K / 8) hKl
      injection e with e
      injection e with e1 e2
      subst e1 e2
      rw [Nat.zero_add] at hcv
      obtain ⟨v, hv⟩ : ∃ v, v = l.getD (K / 8) 0 := ⟨_, rfl⟩
      rw [← hv] at hcv
      have hvb : v < 256 := by rw [hv]; exact (byte_of HB.out hKl).1
      obtain ⟨x1, x2, x3⟩ := xor_bit ⟨v, hvb⟩ ⟨K % 8, by omega⟩
      simp only at x1 x2 x3
      generalize v ^^^ 2 ^ (K % 8) = v' at x1 x2 x3
      have hdx : ((X : Int) == (Y : Int)) = decide (X = Y) := by
        by_cases h : X = Y
        · subst h; simp
        · rw [decide_eq_false h]; simp; omega
      have HGB := Lib.hid (bytesAt_set hgb (K / 8) v' hKl)
      have HSF := Lib.hid (sum_flip l (K / 8) v' hKl (by rw [← hv]; exact hvb) x2 (by rw [← hv]; exact x3))
      have hfz := hgf (K / 8)
      clear hgb hv
      have HB4 := Lib.hid (HB3.out.setCell (p := ⟨g, K / 8, none⟩) (Nat.le_trans HB2.out.size hgw) (.int .u8 v'))
      have hs4 : (w3.setCell ⟨g, K / 8, none⟩ (.int .u8 v')).heap.size = w3.heap.size := by simp [World.setCell]
      have S1 := sum_one l (some ⟨B, off, none⟩) cap (w3.setCell ⟨g, K / 8, none⟩ (.int .u8 v')) (by omega) HB.out (bytesAt_below hc.out HB4.out)
      rw [hs4] at S1
      have S2 : Hid (∀ w5, BytesAt w5 (some ⟨g, 0, none⟩) (l.set (K / 8) v') → Calls Try.prog 24 #[.slice (some ⟨w5.heap.size, 0, none⟩) 1 1] (w5.alloc (.cells #[.slice (some ⟨g, 0, none⟩) l.length gc] 23)) fun r w' => r = .returned (.int .u32 (~~~ sumN (l.set (K / 8) v')).toNat) ∧ Below (w5.heap.size + 1) (w5.alloc (.cells #[.slice (some ⟨g, 0, none⟩) l.length gc] 23)) w') := Lib.hid fun w5 h => by
        have := sum_one (l.set (K / 8) v') (some ⟨g, 0, none⟩) gc w5 (by rw [List.length_set]; omega) (fun b hb => by
          rcases List.mem_or_eq_of_mem_set hb with hb | rfl
          · exact HB.out b hb
          · exact x2) h
        rw [List.length_set] at this
        exact this
      have HS1 := Lib.hid S1
      clear S1
      have hnb : (((~~~ sumN l).toNat : Int) == ((~~~ sumN (l.set (K / 8) v')).toNat : Int)) = false := by
        have := HSF.out
        simp only [beq_eq_false_iff_ne, ne_eq]
        omega
      have hnc : (((~~~ sumN l).toNat : Int) != ((~~~ sumN (l.set (K / 8) v')).toNat : Int)) = true := by
        simp only [bne, hnb, Bool.not_false]
      have hnd : (~~~ sumN l).toNat ≠ (~~~ sumN (l.set (K / 8) v')).toNat := HSF.out
      generalize (~~~ sumN l).toNat = A1 at *
      generalize (~~~ sumN (l.set (K / 8) v')).toNat = A2 at *
      clear HSF hgf
      go_wp2_with fail
      refine HS1.out.mono ?_
      rintro e w5 ⟨rfl, hb5⟩
      have hb5' : Below (w3.setCell ⟨g, K / 8, none⟩ (.int .u8 v')).heap.size (w3.setCell ⟨g, K / 8, none⟩ (.int .u8 v')) w5 := by
        rw [hs4]
        exact ((Below.refl _ _).alloc (by rw [hs4]; exact Nat.le_refl _) _).trans (hb5.mono (by omega))
      have HB5 := Lib.hid (below_any HB4.out hb5')
      have HG5 := Lib.hid (bytesAt_below HGB.out hb5')
      clear hb5 hb5'
      go_wp2_with fail
      refine (S2.out w5 HG5.out).mono ?_
      rintro e w6 ⟨rfl, hb6⟩
      have HB6 : Hid (Below w.heap.size w w6) := Lib.hid (below_any HB5.out (((Below.refl _ _).alloc (Nat.le_refl _) _).trans (hb6.mono (by omega))))
      clear hb6
      go_wp2_with fail
      refine (WK.out _).mono ?_
      rintro e w7 ⟨rfl, hb7⟩
      have HB7 := Lib.hid (below_any HB6.out hb7)
      clear hb7
      go_wp2_with fail
      go_ret
      exact ⟨rfl, HB7.out⟩
end Go.Proofs.Ytgadmbgnkccooaa
