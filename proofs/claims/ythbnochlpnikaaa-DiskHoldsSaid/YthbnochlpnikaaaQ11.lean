/- The document's Same. -/
import Derived.Test.YthbnochlpnikaaaQ9
import Derived.Deep.QuietTactic
import Derived.BigQuiet
namespace Go.Proofs.Ythbnochlpnikaaa
open Go.RowKit Go.Shelf

/-- Do two disks stand alike? -/
noncomputable def sameB (a b : DS) : Bool := by
  classical exact decide (sameS a b)
theorem sameB_true {a b : DS} (h : sameS a b) : sameB a b = true := by unfold sameB; simp [h]
theorem sameB_false {a b : DS} (h : ¬ sameS a b) : sameB a b = false := by unfold sameB; simp [h]
theorem lastS_none {l : List (Nat × ByteArray)} {k : Nat} (h : ∀ w ∈ l, w.1 ≠ k) : lastS l k = secS 0 := lastS_apart [] l k h
/-- It is enough to look at the sectors that were written. -/
theorem same_enough {l m : List (Nat × ByteArray)} (h : ∀ w ∈ l ++ m, lastS l w.1 = lastS m w.1) (k : Nat) : lastS l k = lastS m k := by
  by_cases hk : ∃ w ∈ l ++ m, w.1 = k
  · obtain ⟨w, hw, rfl⟩ := hk
    exact h w hw
  · have hn : ∀ w ∈ l ++ m, w.1 ≠ k := fun w hw e => hk ⟨w, hw, e⟩
    rw [lastS_none (fun w hw => hn w (List.mem_append.2 (.inl hw))), lastS_none (fun w hw => hn w (List.mem_append.2 (.inr hw)))]
theorem eqW (x y : Nat × ByteArray) (w : World) : (binOp .neq 80 (.agg #[.int .i64 x.1, .string x.2]) (.agg #[.int .i64 y.1, .string y.2])).run Try.prog w = .ok (.bool (!decide (x = y))) w := by
  go_simp
  by_cases h : x = y
  · subst h; simp
  · rw [decide_eq_false h]
    by_cases h1 : (x.1 : Int) = (y.1 : Int)
    · rw [if_pos h1]
      have h2 : ¬ x.2.toList = y.2.toList := fun e => h (Prod.ext (by omega) (by
        have := str_beq x.2 y.2
        rw [e] at this
        simpa using this.symm))
      rw [if_neg h2]
      rfl
    · rw [if_neg h1]
      rfl
theorem same_prefix {l m : List (Nat × ByteArray)} {n : Nat} (hl : l.length = m.length) (hn : l.length ≤ n) (h : ∀ j, j < n → l[j]? = m[j]?) : l = m := by
  apply List.ext_getElem?
  intro j
  by_cases hj : j < n
  · exact h j hj
  · rw [List.getElem?_eq_none (by omega), List.getElem?_eq_none (by omega)]
set_option maxRecDepth 100000 in
set_option maxHeartbeats 2000000 in
theorem refSame_any (a b : DS) (p : Option Addr) (c : Nat) (q : Option Addr) (d : Nat) (p2 : Option Addr) (c2 : Nat) (q2 : Option Addr) (d2 : Nat) (w : World) (hfa : Few a) (hfb : Few b) (R : Hid (RefAt w a p c q d)) (R2 : Hid (RefAt w b p2 c2 q2 d2)) :
    Calls Try.prog 11 #[refV a p c q d, refV b p2 c2 q2 d2] w fun r w' => r = .returned (.bool (sameB a b)) ∧ Below w.heap.size w w' := by
  unfold refV
  by_cases h1 : a.many = b.many
  case neg =>
    rw [sameB_false (fun h => h1 h.1)]
    have hz : ((a.many : Int) != (b.many : Int)) = true := by simp; omega
    clear h1
    go_enter Try.func11, Try.ntmps11
    go_wp2
    go_ret
    exact ⟨rfl, by go_grown⟩
  have hz : ((a.many : Int) != (b.many : Int)) = false := by simp; omega
  by_cases h2 : a.left = b.left
  case neg =>
    rw [sameB_false (fun h => h2 h.2.1)]
    have hy : (a.left != b.left) = true := by simpa using h2
    clear h1 h2
    go_enter Try.func11, Try.ntmps11
    go_wp2
    go_ret
    exact ⟨rfl, by go_grown⟩
  have hy : (a.left != b.left) = false := by simpa using h2
  by_cases h3 : a.loose.length = b.loose.length
  case neg =>
    rw [sameB_false (fun h => h3 (by rw [h.2.2.1]))]
    have hx : ((a.loose.length : Int) != (b.loose.length : Int)) = true := by simp; omega
    clear h1 h2 h3
    go_enter Try.func11, Try.ntmps11
    go_wp2
    go_ret
    exact ⟨rfl, by go_grown⟩
  have hx : ((a.loose.length : Int) != (b.loose.length : Int)) = false := by simp; omega
  have H1 := Lib.hid h1
  have H2 := Lib.hid h2
  have H3 := Lib.hid h3
  have hle : a.loose.length ≤ b.loose.length := by omega
  clear h1 h2 h3
  obtain ⟨hfa1, hfa2⟩ := hfa
  obtain ⟨hfb1, hfb2⟩ := hfb
  generalize hW0 : (w.alloc (.cells #[.int .i64 a.many, .slice p a.sync.length c, .slice q a.loose.length d, .int .i64 a.left] 35)).alloc (.cells #[.int .i64 b.many, .slice p2 b.sync.length c2, .slice q2 b.loose.length d2, .int .i64 b.left] 35) = w0
  have B0 : Below w.heap.size w w0 := by subst hW0; exact ((Below.refl _ _).alloc (Nat.le_refl _) _).alloc (by simp) _
  have BA : BoxAt w0 w.heap.size (.int .i64 a.many) (.slice p a.sync.length c) (.slice q a.loose.length d) (.int .i64 a.left) := by
    subst hW0
    exact (BoxAt.new w _ _ _ _ _).below ((Below.refl _ _).alloc (Nat.le_refl _) _)
  have BB : BoxAt w0 (w.heap.size + 1) (.int .i64 b.many) (.slice p2 b.sync.length c2) (.slice q2 b.loose.length d2) (.int .i64 b.left) := by
    subst hW0
    have e : (w.alloc (.cells #[.int .i64 a.many, .slice p a.sync.length c, .slice q a.loose.length d, .int .i64 a.left] 35)).heap.size = w.heap.size + 1 := by simp
    have := BoxAt.new (w.alloc (.cells #[.int .i64 a.many, .slice p a.sync.length c, .slice q a.loose.length d, .int .i64 a.left] 35)) (.int .i64 b.many) (.slice p2 b.sync.length c2) (.slice q2 b.loose.length d2) (.int .i64 b.left) 35
    rw [e] at this
    exact this
  have hsz : w.heap.size + 1 < w0.heap.size := by subst hW0; simp
  have KA : Hid (∀ w', Below w0.heap.size w0 w' → BoxAt w' w.heap.size (.int .i64 a.many) (.slice p a.sync.length c) (.slice q a.loose.length d) (.int .i64 a.left)) := Lib.hid fun w' h => BA.below h
  have KB : Hid (∀ w', Below w0.heap.size w0 w' → BoxAt w' (w.heap.size + 1) (.int .i64 b.many) (.slice p2 b.sync.length c2) (.slice q2 b.loose.length d2) (.int .i64 b.left)) := Lib.hid fun w' h => BB.below h
  have LA := Lib.hid (R.out.loose.below B0)
  have LB := Lib.hid (R2.out.loose.below B0)
  have SA := Lib.hid (R.out.sync.below B0)
  have SB := Lib.hid (R2.out.sync.below B0)
  have hq1 := Lib.hid R.out.pc
  have hq2 := Lib.hid R2.out.pc
  have HB0 := Lib.hid B0
  clear B0 R R2
  obtain ⟨x0, x1, x2, x3, f0, f1, f2, f3⟩ := BA
  obtain ⟨y0, y1, y2, y3, g0, g1, g2, g3⟩ := BB
  go_enter Try.func11, Try.ntmps11
  go_wp2
  clear hW0
  go_loopw [5] (fun i wr => ∃ n : Nat, n ≤ a.loose.length ∧ i = .int .i64 n ∧ Hid (∀ j, j < n → a.loose[j]? = b.loose[j]?) ∧ Hid (Below w0.heap.size w0 wr)) (fun i _ => (a.loose.length - intOf i).toNat)
  case atStart => exact ⟨0, Nat.zero_le _, by first | rfl | go_num, Lib.hid (fun j hj => by omega), Lib.hid (Below.refl _ _)⟩
  case round =>
    obtain ⟨n, hn, rfl, HP, HBr⟩ := hrel
    clear x0 x1 x2 x3 f0 f1 f2 f3 y0 y1 y2 y3 g0 g1 g2 g3
    obtain ⟨x0, x1, x2, x3, f0, f1, f2, f3⟩ := KA.out _ HBr.out
    obtain ⟨y0, y1, y2, y3, g0, g1, g2, g3⟩ := KB.out _ HBr.out
    by_cases hlt : n < a.loose.length
    · obtain ⟨x, hxx⟩ : ∃ x, a.loose[n]? = some x := ⟨_, List.getElem?_eq_getElem hlt⟩
      obtain ⟨y, hyy⟩ : ∃ y, b.loose[n]? = some y := ⟨_, List.getElem?_eq_getElem (by omega)⟩
      obtain ⟨B, off, rfl, c1, e1⟩ := LA.out.below HBr.out n x hxx
      obtain ⟨B2, off2, rfl, c3, e3⟩ := LB.out.below HBr.out n y hyy
      have HXX := Lib.hid hxx
      have HYY := Lib.hid hyy
      clear hxx hyy
      rw [show off + 2 * n = off + n * 2 by omega] at c1
      rw [show off + (2 * n + 1) = off + n * 2 + 1 by omega] at e1
      rw [show off2 + 2 * n = off2 + n * 2 by omega] at c3
      rw [show off2 + (2 * n + 1) = off2 + n * 2 + 1 by omega] at e3
      have hlt2 : n < b.loose.length := by omega
      have hi1 : (0 : Int) ≤ (n : Int) := by omega
      have hi2 : (n : Int) < (a.loose.length : Int) := by omega
      have hi3 : (n : Int) < (b.loose.length : Int) := by omega
      by_cases hxy : x = y
      · have HE : Hid (x = y) := Lib.hid hxy
        have hq : ∀ w : World, (binOp .neq 80 (.agg #[.int .i64 x.1, .string x.2]) (.agg #[.int .i64 y.1, .string y.2])).run Try.prog w = .ok (.bool false) w := fun w => by rw [eqW, hxy]; simp
        clear hxy
        go_wp2_with fail
        go_quiet (fail)
        go_wp2_with fail
        go_roundw
        case rel => exact ⟨n + 1, hlt, by first | rfl | go_num, Lib.hid (fun j hj => by
            rcases Nat.lt_succ_iff_lt_or_eq.1 hj with h | h
            · exact HP.out j h
            · rw [h, HXX.out, HYY.out, HE.out]), Lib.hid (below_drewN HBr.out _)⟩
        case measure => simp [intOf]; omega
      · have hq : ∀ w : World, (binOp .neq 80 (.agg #[.int .i64 x.1, .string x.2]) (.agg #[.int .i64 y.1, .string y.2])).run Try.prog w = .ok (.bool true) w := fun w => by rw [eqW, decide_eq_false hxy]; rfl
        have HS : Hid (sameB a b = false) := Lib.hid (sameB_false (fun h => by
          have e := HXX.out
          rw [h.2.2.1, HYY.out] at e
          injection e with e
          exact hxy e.symm))
        clear hxy
        go_wp2_with fail
        go_quiet (fail)
        go_wp2_with fail
        go_ret
        exact ⟨by rw [HS.out]; rfl, below_any HB0.out (below_drewN HBr.out _)⟩
    · have HEL : Hid (a.loose = b.loose) := Lib.hid (same_prefix H3.out (by omega) HP.out)
      have RowE : Hid (RowW wr.drew [] (.slice (some ⟨wr.heap.size, 0, none⟩) 0 0) (wr.alloc (.cells #[] 80)).drew) := Lib.hid (RowW.empty wr.drew)
      have hbd : Below w0.heap.size w0 wr.drew := HBr.out.drew
      have HBD := Lib.hid hbd
      clear hbd
      have KS : Hid (∀ w', Below wr.drew.heap.size wr.drew w' → w'.cell? ⟨w.heap.size, 1, none⟩ = some (.slice p a.sync.length c) ∧ w'.cell? ⟨w.heap.size + 1, 1, none⟩ = some (.slice p2 b.sync.length c2) ∧ Below wr.drew.heap.size wr.drew w') := Lib.hid fun w' h =>
        ⟨(KA.out w' (HBD.out.trans (h.mono HBD.out.size))).x1, (KB.out w' (HBD.out.trans (h.mono HBD.out.size))).x1, h⟩
      have HN : Hid (([] ++ a.sync ++ b.sync).length = a.sync.length + b.sync.length) := Lib.hid (by simp)
      have HBx : Hid (Below wr.drew.heap.size wr.drew (wr.alloc (.cells #[] 80)).drew) := Lib.hid RowE.out.2
      go_wp2_with fail
      go_region_held3 (fun w' => w'.cell? ⟨w.heap.size, 1, none⟩ = some (.slice p a.sync.length c) ∧ w'.cell? ⟨w.heap.size + 1, 1, none⟩ = some (.slice p2 b.sync.length c2) ∧ Below wr.drew.heap.size wr.drew w')
        (first
          | assumption
          | (with_reducible exact KS.out _ (Below.refl _ _))
          | (with_reducible exact KS.out _ HBx.out))
        (first
          | (refine step_append_writes rfl (.tmp 47) (.tmp 49) rfl rfl RowE.out rfl hq1.out (SA.out.below (HBD.out.trans (HBx.out.mono HBD.out.size))) (by simp; omega) ?_; intro v1 w1 hR1; have HBx := Lib.hid hR1.2; have RowB1 := Lib.hid hR1; clear hR1)
          | (refine step_append_writes rfl (.tmp 50) (.tmp 52) rfl rfl RowB1.out rfl hq2.out (SB.out.below (HBD.out.trans (HBx.out.mono HBD.out.size))) (by simp; omega) ?_; intro v2 w2 hR2; have HBx := Lib.hid hR2.2; obtain ⟨pa, ca, rfl, hla, hma, hwa, hna, -⟩ := hR2.at'; rw [HN.out]; rw [HN.out] at hla; have HWA := Lib.hid hwa; clear hwa hR2))
      have HB2 := Lib.hid (HBD.out.trans (HBx.out.mono HBD.out.size))
      clear HBx
      have HAL : Hid ([] ++ a.sync ++ b.sync = a.sync ++ b.sync) := Lib.hid rfl
      rw [HAL.out] at HWA
      generalize hall : a.sync ++ b.sync = all at *
      have Hall := Lib.hid hall
      have hal : all.length ≤ 100000 := by rw [← hall]; simp; omega
      clear hall
      have hal2 : all.length = a.sync.length + b.sync.length := by rw [← Hall.out]; simp
      have Hal := Lib.hid hal2
      clear hal2
      go_wp2_with fail
      go_loopw [7] (fun i wr => ∃ m : Nat, m ≤ a.sync.length + b.sync.length ∧ i = .int .i64 m ∧ Hid (∀ j x, j < m → all[j]? = some x → lastS a.sync x.1 = lastS b.sync x.1) ∧ Hid (Below w2.heap.size w2 wr)) (fun i _ => (a.sync.length + b.sync.length - intOf i).toNat)
      case atStart => exact ⟨0, Nat.zero_le _, by first | rfl | go_num, Lib.hid (fun j x hj => by omega), Lib.hid (Below.refl _ _)⟩
      case round =>
        clear RowB1 RowE KS
        rename World => wy
        obtain ⟨m, hm, rfl, HPm, HBm⟩ := hrel
        have HBW := Lib.hid (HB2.out.trans (HBm.out.mono HB2.out.size))
        by_cases hltm : m < a.sync.length + b.sync.length
        · obtain ⟨x, hxx⟩ : ∃ x, all[m]? = some x := ⟨_, List.getElem?_eq_getElem (by have := Hal.out; omega)⟩
          obtain ⟨B, off, rfl, c1, -⟩ := HWA.out.below HBm.out m x hxx
          have HXX := Lib.hid hxx
          clear hxx
          rw [show off + 2 * m = off + m * 2 by omega] at c1
          have hi1 : (0 : Int) ≤ (m : Int) := by omega
          have hi2 : (m : Int) < ((a.sync.length + b.sync.length : Nat) : Int) := by omega
          have hi3 : (m : Int) < (a.sync.length : Int) + (b.sync.length : Int) := by omega
          have CA : Hid (∀ w', Below wy.heap.size wy w' → Calls Try.prog 31 #[.slice p a.sync.length c, .int .i64 x.1] w' fun r w2 => r = .returned (.string (lastS a.sync x.1)) ∧ Below w'.heap.size w' w2) := Lib.hid fun w' h => last_any a.sync p c x.1 w' (by omega) (Lib.hid (SA.out.below (HBW.out.trans (h.mono HBW.out.size))))
          have CB : Hid (∀ w', Below wy.heap.size wy w' → Calls Try.prog 31 #[.slice p2 b.sync.length c2, .int .i64 x.1] w' fun r w2 => r = .returned (.string (lastS b.sync x.1)) ∧ Below w'.heap.size w' w2) := Lib.hid fun w' h => last_any b.sync p2 c2 x.1 w' (by omega) (Lib.hid (SB.out.below (HBW.out.trans (h.mono HBW.out.size))))
          have hcs := lt_of_cell_some c1
          have KS : Hid (∀ w', Below wy.heap.size wy w' → w'.cell? ⟨w.heap.size, 1, none⟩ = some (.slice p a.sync.length c) ∧ w'.cell? ⟨w.heap.size + 1, 1, none⟩ = some (.slice p2 b.sync.length c2) ∧ w'.cell? ⟨B, off + m * 2, none⟩ = some (.int .i64 x.1) ∧ Below wy.heap.size wy w') := Lib.hid fun w' h =>
            ⟨(KA.out w' (HBW.out.trans (h.mono HBW.out.size))).x1, (KB.out w' (HBW.out.trans (h.mono HBW.out.size))).x1, (h.cell (p := ⟨B, off + m * 2, none⟩) hcs).trans c1, h⟩
          have HBx : Hid (Below wy.heap.size wy wy.drew) := Lib.hid (Below.refl _ _).drew
          by_cases hE : lastS a.sync x.1 = lastS b.sync x.1
          · have HE := Lib.hid hE
            rw [← hE] at CB
            clear hE
            go_wp2_with fail
            go_region_held3 (fun w' => w'.cell? ⟨w.heap.size, 1, none⟩ = some (.slice p a.sync.length c) ∧ w'.cell? ⟨w.heap.size + 1, 1, none⟩ = some (.slice p2 b.sync.length c2) ∧ w'.cell? ⟨B, off + m * 2, none⟩ = some (.int .i64 x.1) ∧ Below wy.heap.size wy w')
              (first
                | assumption
                | (with_reducible exact KS.out _ HBx.out))
              (first
                | (go_at_call 31; (with_reducible refine (CA.out _ HBx.out).mono ?_); rintro e w3 ⟨rfl, hb3⟩; have HBx := Lib.hid (below_any HBx.out hb3); clear hb3)
                | (go_at_call 31; (with_reducible refine (CB.out _ HBx.out).mono ?_); rintro e w4 ⟨rfl, hb4⟩; have HBx := Lib.hid (below_any HBx.out hb4); clear hb4))
            go_wp2_with fail
            go_roundw
            case rel => exact ⟨m + 1, hltm, by first | rfl | go_num, Lib.hid (fun j z hj hz => by
                rcases Nat.lt_succ_iff_lt_or_eq.1 hj with h | h
                · exact HPm.out j z h hz
                · subst h
                  rw [HXX.out] at hz
                  injection hz with hz
                  subst hz
                  exact HE.out), Lib.hid (HBm.out.trans (HBx.out.mono HBm.out.size))⟩
            case measure => simp [intOf]; omega
          · have HS : Hid (sameB a b = false) := Lib.hid (sameB_false (fun h => hE (h.2.2.2 x.1)))
            have hs1 : ((lastS a.sync x.1).toList == (lastS b.sync x.1).toList) = false := by rw [str_beq, decide_eq_false hE]
            have hs2 : ((lastS a.sync x.1).toList != (lastS b.sync x.1).toList) = true := by unfold bne; rw [hs1]; rfl
            clear hE
            generalize lastS a.sync x.1 = S1 at *
            generalize lastS b.sync x.1 = S2 at *
            go_wp2_with fail
            go_region_held3 (fun w' => w'.cell? ⟨w.heap.size, 1, none⟩ = some (.slice p a.sync.length c) ∧ w'.cell? ⟨w.heap.size + 1, 1, none⟩ = some (.slice p2 b.sync.length c2) ∧ w'.cell? ⟨B, off + m * 2, none⟩ = some (.int .i64 x.1) ∧ Below wy.heap.size wy w')
              (first
                | assumption
                | (with_reducible exact KS.out _ HBx.out))
              (first
                | (go_at_call 31; (with_reducible refine (CA.out _ HBx.out).mono ?_); rintro e w3 ⟨rfl, hb3⟩; have HBx := Lib.hid (below_any HBx.out hb3); clear hb3)
                | (go_at_call 31; (with_reducible refine (CB.out _ HBx.out).mono ?_); rintro e w4 ⟨rfl, hb4⟩; have HBx := Lib.hid (below_any HBx.out hb4); clear hb4))
            go_wp2_with fail
            go_ret
            exact ⟨by rw [HS.out]; rfl, below_any HB0.out (HBW.out.trans (HBx.out.mono HBW.out.size))⟩
        · have HS : Hid (sameB a b = true) := Lib.hid (sameB_true ⟨H1.out, H2.out, HEL.out, same_enough (fun x hx => by
            rw [Hall.out] at hx
            obtain ⟨j, hj, e⟩ := List.mem_iff_getElem.1 hx
            exact HPm.out j x (by have := Hal.out; omega) (by rw [List.getElem?_eq_getElem hj, e]))⟩)
          go_wp2_with fail
          go_ret
          exact ⟨by rw [HS.out]; rfl, below_any HB0.out HBW.out⟩
end Go.Proofs.Ythbnochlpnikaaa
