/- The document's Crash: which writes are kept; the last of them. -/
import Derived.Test.YthbnochlpnikaaaQ9
namespace Go.Proofs.Ythbnochlpnikaaa
open Go.RowKit Go.Shelf

/-- A slice of truths. -/
def BoolsAt (w : World) (p : Option Addr) (l : List Bool) : Prop := ∀ i b, l[i]? = some b → ∃ B off, p = some ⟨B, off, none⟩ ∧ w.cell? ⟨B, off + i, none⟩ = some (.bool b)
theorem BoolsAt.below {w w' : World} {p : Option Addr} {l : List Bool} (h : BoolsAt w p l) (hb : Below w.heap.size w w') : BoolsAt w' p l := fun i b hi => by
  obtain ⟨B, off, e, c⟩ := h i b hi
  exact ⟨B, off, e, below_kept hb _ _ c⟩
theorem tornF_next {keep : List Bool} {n : Nat} {b : Bool} (h : keep[n]? = some b) : tornF keep (n + 1) = if b = true then (n : Int) else tornF keep n := by
  show (if keep.getD n false then _ else _) = _
  rw [List.getD_eq_getElem?_getD, h]
  rfl
theorem crashF_no {keep : List Bool} {loose sync : List (Nat × ByteArray)} {tear n : Nat} {torn : Int} (h : keep[n]? = some false) : crashF keep loose tear torn sync (n + 1) = crashF keep loose tear torn sync n := by
  show (if keep.getD n false then _ else _) = _
  rw [List.getD_eq_getElem?_getD, h]
  rfl
theorem crashF_yes {keep : List Bool} {loose sync : List (Nat × ByteArray)} {tear n : Nat} {torn : Int} {x : Nat × ByteArray} (h : keep[n]? = some true) (hx : loose[n]? = some x) :
    crashF keep loose tear torn sync (n + 1) = crashF keep loose tear torn sync n ++ [(x.1, if (n : Int) = torn ∧ 0 < tear then tornB tear x.2 (lastS (crashF keep loose tear torn sync n) x.1) else x.2)] := by
  show (if keep.getD n false then _ else _) = _
  rw [List.getD_eq_getElem?_getD, h, List.getD_eq_getElem?_getD, hx]
  rfl
theorem crashF_length (keep : List Bool) (loose sync : List (Nat × ByteArray)) (tear : Nat) (torn : Int) : ∀ n, (crashF keep loose tear torn sync n).length ≤ sync.length + n
  | 0 => Nat.le_refl _
  | n + 1 => by
    have := crashF_length keep loose sync tear torn n
    unfold crashF
    split
    · simp; omega
    · omega
theorem crashS_arg {s : DS} {tear : Int} {keep : List Bool} (h : tear < 0 ∨ 63 < tear) : crashS s tear keep = (s, 2) := by unfold crashS; rw [if_pos h]
theorem crashS_ok {s : DS} {tear : Nat} {keep : List Bool} (h : tear ≤ 63) : crashS s tear keep = (⟨s.many, crashF keep s.loose tear (tornS s keep) s.sync (tornS s keep + 1).toNat, [], -1⟩, 0) := by
  unfold crashS; rw [if_neg (by omega)]; rfl
set_option maxRecDepth 100000 in
set_option maxHeartbeats 1000000 in
theorem refCrash_arg (s : DS) (p : Option Addr) (c : Nat) (q : Option Addr) (d : Nat) (tear : Int) (kv : Value) (ht : tear < 0 ∨ 63 < tear) (w : World) (R : Hid (RefAt w s p c q d)) :
    Calls Try.prog 26 #[refV s p c q d, .int .i64 tear, kv] w (RefPost w p q (s, 2)) := by
  have fin : ∀ (e : Int) (w' : World), Below w.heap.size w w' → RefPost w p q (s, e) (.returned (.tuple #[refV s p c q d, .int .i64 e])) w' := fun e w' hb => ⟨p, c, q, d, rfl, R.out.below hb, .left, .right, hb⟩
  unfold refV at fin ⊢
  have FIN := Lib.hid fin
  clear fin R
  rcases (show tear < 0 ∨ (¬ tear < 0 ∧ 63 < tear) by omega) with h | ⟨h, h2⟩
  all_goals
    clear ht
    go_enter Try.func26, Try.ntmps26
    go_wp2
    refine bodyPost_ret (v := .tuple #[_, .int .i64 2]) ?_ rfl (FIN.out 2 _ ?_)
    · simp [results, Try.results26, go_sem]
    · go_grown
theorem RowW.keep {w0 wr w' : World} {l : List (Nat × ByteArray)} {t : Value} (h : RowW w0 l t wr) (hb : Below wr.heap.size wr w') : RowW w0 l t w' := by
  obtain ⟨⟨h0, h1⟩, hB⟩ := h
  refine ⟨⟨h0, ?_⟩, hB.trans (hb.mono hB.size)⟩
  rcases h1 with h1 | ⟨g, cap, cur, e, hg, hh, rest⟩
  · exact .inl h1
  · have hgl : g < wr.heap.size := (Array.getElem?_eq_some_iff.1 hh).1
    exact .inr ⟨g, cap, cur, e, hg, (hb.block g hgl).trans hh, rest⟩
theorem torn_parts (x L : ByteArray) (t : Nat) (ht : t ≤ 63) (hx : x.size = 64) (hL : L.size = 64) :
    ∃ P1 P2 : ByteArray, (∀ w, (Instr.slice 9 (.string x) none (some (.int .i64 t)) none).run Try.prog w = .ok (.string P1) w) ∧ (∀ w, (Instr.slice 9 (.string L) (some (.int .i64 t)) none none).run Try.prog w = .ok (.string P2) w) ∧
      ¬ 9223372036854775807 < P1.size + P2.size ∧ P1 ++ P2 = tornB t x L := by
  have h1 : t ≤ x.size := by omega
  have h2 : t ≤ L.size := by omega
  refine ⟨x.extract 0 t, L.extract t L.size, fun w => by clear hx hL; go_simp, fun w => by clear hx hL; go_simp, ?_, by unfold tornB; rw [hL]⟩
  rw [ByteArray.size_extract, ByteArray.size_extract]
  omega
set_option maxRecDepth 100000 in
set_option maxHeartbeats 2000000 in
theorem refCrash_ok (s : DS) (p : Option Addr) (c : Nat) (q : Option Addr) (d : Nat) (tear : Nat) (ht : tear ≤ 63) (kp : Option Addr) (keep : List Bool) (kc : Nat) (w : World) (hf : Few s) (hk : keep.length ≤ 30000) (hW : Whole s) (R : Hid (RefAt w s p c q d)) (HK : Hid (BoolsAt w kp keep)) :
    Calls Try.prog 26 #[refV s p c q d, .int .i64 tear, .slice kp keep.length kc] w (RefPost w p q (⟨s.many, crashF keep s.loose tear (tornS s keep) s.sync (tornS s keep + 1).toNat, [], -1⟩, 0)) := by
  obtain ⟨hf1, hf2⟩ := hf
  unfold refV
  generalize hW0 : (w.alloc (.cells #[.int .i64 s.many, .slice p s.sync.length c, .slice q s.loose.length d, .int .i64 s.left] 35)).alloc (.cells #[.int .i64 0, .slice none 0 0, .slice none 0 0, .int .i64 0] 35) = w0
  have B0 : Below w.heap.size w w0 := by subst hW0; exact ((Below.refl _ _).alloc (Nat.le_refl _) _).alloc (by simp) _
  have BA : BoxAt w0 w.heap.size (.int .i64 s.many) (.slice p s.sync.length c) (.slice q s.loose.length d) (.int .i64 s.left) := by
    subst hW0
    exact (BoxAt.new w _ _ _ _ _).below ((Below.refl _ _).alloc (Nat.le_refl _) _)
  have BR : BoxAt w0 (w.heap.size + 1) (.int .i64 0) (.slice none 0 0) (.slice none 0 0) (.int .i64 0) := by
    subst hW0
    have e : (w.alloc (.cells #[.int .i64 s.many, .slice p s.sync.length c, .slice q s.loose.length d, .int .i64 s.left] 35)).heap.size = w.heap.size + 1 := by simp
    have := BoxAt.new (w.alloc (.cells #[.int .i64 s.many, .slice p s.sync.length c, .slice q s.loose.length d, .int .i64 s.left] 35)) (.int .i64 0) (.slice none 0 0) (.slice none 0 0) (.int .i64 0) 35
    rw [e] at this
    exact this
  have hsz : w.heap.size + 1 < w0.heap.size := by subst hW0; simp
  have RowE : Hid (RowW w0 [] (.slice (some ⟨w0.heap.size, 0, none⟩) 0 0) (w0.alloc (.cells #[] 80))) := Lib.hid (RowW.empty w0)
  have KA : Hid (∀ w', Below w0.heap.size w0 w' → BoxAt w' w.heap.size (.int .i64 s.many) (.slice p s.sync.length c) (.slice q s.loose.length d) (.int .i64 s.left)) := Lib.hid fun w' h => BA.below h
  have KR : Hid (∀ w', Below w0.heap.size w0 w' → BoxAt w' (w.heap.size + 1) (.int .i64 0) (.slice none 0 0) (.slice none 0 0) (.int .i64 0)) := Lib.hid fun w' h => BR.below h
  have RL := Lib.hid (R.out.loose.below B0)
  have RS := Lib.hid (R.out.sync.below B0)
  have RK := Lib.hid (HK.out.below B0)
  have hq1 := Lib.hid R.out.pc
  clear BA BR R HK
  have z1 : (w0.alloc (.cells #[] 80)).cell? ⟨w.heap.size, 1, none⟩ = some (.slice p s.sync.length c) := (KA.out _ RowE.out.2).x1
  have HB0 := Lib.hid B0
  clear B0
  have TR := tornS_range s keep
  go_enter Try.func26, Try.ntmps26
  go_wp2_with (at_builtin; refine wpList_append_writes rfl (.tmp 20) (.tmp 22) rfl rfl RowE.out rfl hq1.out (RS.out.below RowE.out.2) ?c1 ?_)
  case c1 => first | omega | (simp; omega)
  intro v1 w1 hR1
  clear hW0 z1
  have HR1 := Lib.hid hR1
  obtain ⟨x0, x1, x2, x3, f0, f1, f2, f3⟩ := KA.out _ hR1.2
  have RK1 := Lib.hid (RK.out.below hR1.2)
  clear hR1
  go_wp2
  go_loop [9, 10] (fun t i => ∃ n : Nat, n ≤ s.loose.length ∧ n ≤ keep.length ∧ i = .int .i64 n ∧ t = .int .i64 (tornF keep n)) (fun _ i => (s.loose.length - intOf i).toNat)
  case atStart => exact ⟨0, Nat.zero_le _, Nat.zero_le _, by first | rfl | go_num, rfl⟩
  case round =>
    obtain ⟨n, hn1, hn2, rfl, rfl⟩ := hrel
    by_cases hlt : n < s.loose.length ∧ n < keep.length
    · obtain ⟨hl1, hl2⟩ := hlt
      obtain ⟨b, hb⟩ : ∃ b, keep[n]? = some b := ⟨_, List.getElem?_eq_getElem hl2⟩
      obtain ⟨B, off, rfl, c1⟩ := RK1.out n b hb
      have ht := tornF_next hb
      clear hb
      cases b with
      | true =>
        rw [if_pos rfl] at ht
        have HT := Lib.hid ht
        clear ht
        go_wp2
        go_round
        case rel => exact ⟨n + 1, hl1, hl2, by first | rfl | go_num, by rw [HT.out]⟩
        case measure => simp [intOf]; omega
      | false =>
        rw [if_neg (by decide)] at ht
        have HT := Lib.hid ht
        clear ht
        go_wp2
        go_round
        case rel => exact ⟨n + 1, hl1, hl2, by first | rfl | go_num, by rw [HT.out]⟩
        case measure => simp [intOf]; omega
    · have hT : tornF keep n = tornS s keep := by
        unfold tornS
        rw [show min s.loose.length keep.length = n by omega]
      rw [hT]
      clear hT
      have hend : ¬ n < s.loose.length ∨ (n < s.loose.length ∧ ¬ n < keep.length) := by omega
      clear hlt
      generalize htorn : tornS s keep = torn at *
      clear htorn
      obtain ⟨N, hN⟩ : ∃ N, N = (torn + 1).toNat := ⟨_, rfl⟩
      have htN : torn = (N : Int) - 1 := by omega
      rw [← hN] at TR ⊢
      clear hN
      subst htN
      obtain ⟨TR0, TR1, TR2⟩ := TR
      clear TR0
      rcases hend with he | ⟨he1, he2⟩
      all_goals
        go_wp2
        go_loopw [8, 11] (fun o i wr => ∃ (n : Nat), n ≤ N ∧ i = .int .i64 n ∧ Hid (RowW w0 (crashF keep s.loose tear ((N : Int) - 1) s.sync n) o wr)) (fun _ i _ => (N - intOf i).toNat)
        case atStart => exact ⟨0, Nat.zero_le _, by first | rfl | go_num, HR1⟩
        case round =>
          obtain ⟨n, hn, rfl, HR⟩ := hrel
          have hcl := Lib.hid (crashF_length keep s.loose s.sync tear ((N : Int) - 1) n)
          obtain ⟨x0, x1, x2, x3, f0, f1, f2, f3⟩ := KA.out _ HR.out.2
          have hws := HR.out.2.size
          by_cases hlt : n < N
          · obtain ⟨b, hb⟩ : ∃ b, keep[n]? = some b := ⟨_, List.getElem?_eq_getElem (by omega)⟩
            obtain ⟨B, off, rfl, c1⟩ := RK.out.below HR.out.2 n b hb
            cases b with
            | false =>
              have HF := Lib.hid (crashF_no (loose := s.loose) (sync := s.sync) (tear := tear) (torn := (N : Int) - 1) hb)
              clear hb
              go_wp2
              go_roundw
              case rel => exact ⟨n + 1, hlt, by first | rfl | go_num, by rw [HF.out]; exact HR⟩
              case measure => simp [intOf]; omega
            | true =>
              obtain ⟨x, hx⟩ : ∃ x, s.loose[n]? = some x := ⟨_, List.getElem?_eq_getElem (by omega)⟩
              have HF := Lib.hid (crashF_yes (sync := s.sync) (tear := tear) (torn := (N : Int) - 1) hb hx)
              obtain ⟨C, coff, rfl, d1, d2⟩ := RL.out.below HR.out.2 n x hx
              have HX : Hid (x ∈ s.loose) := Lib.hid (List.mem_of_getElem? hx)
              clear hb hx
              have e1 : coff + 2 * n = coff + n * 2 := by omega
              have e2 : coff + (2 * n + 1) = coff + n * 2 + 1 := by omega
              rw [e1] at d1
              rw [e2] at d2
              clear e1 e2
              by_cases hT : (n : Int) = (N : Int) - 1 ∧ 0 < tear
              · have hg1 : ((n : Int) == (N : Int) - 1) = true := by simp only [beq_iff_eq]; exact hT.1
                have hg3 : 0 < tear := hT.2
                have HT := Lib.hid hT
                clear hT
                go_wp2
                obtain ⟨pv, cv, rfl, -, -, hwv, hnv, -⟩ := HR.out.at'
                have hxm := (hW.loose x (HX.out)).2
                obtain ⟨LA, hLA⟩ : ∃ S, S = lastS (crashF keep s.loose tear ((N : Int) - 1) s.sync n) x.1 := ⟨_, rfl⟩
                have hla : LA.size = 64 := by rw [hLA]; exact lastS_size (fun w hw => (crashF_whole ht hW.sync hW.loose n (by omega) w hw).2) _
                obtain ⟨P1, P2, hs1, hs2, hs3, hs4⟩ := torn_parts x.2 LA tear ht hxm hla
                have HP := Lib.hid hs4
                clear hs4
                have HLA := Lib.hid hLA
                have Hla := Lib.hid hla
                have Hxm := Lib.hid hxm
                clear hLA hla hxm
                have hBn : Hid (Below wr.heap.size wr (wr.alloc (.cells #[.int .i64 x.1, .string x.2] 80)).drew) := Lib.hid ((Below.refl _ _).alloc (Nat.le_refl _) _).drew
                have LC : Hid (∀ w', Below wr.heap.size wr w' → Calls Try.prog 31 #[.slice pv (crashF keep s.loose tear ((N : Int) - 1) s.sync n).length cv, .int .i64 x.1] w' fun r w2 => r = .returned (.string LA) ∧ Below w'.heap.size w' w2) := Lib.hid fun w' h => by
                  rw [HLA.out]
                  exact last_any _ pv cv x.1 w' (by have := hcl.out; omega) (Lib.hid (hwv.below h))
                have g0 : (wr.alloc (.cells #[.int .i64 x.1, .string x.2] 80)).cell? ⟨wr.heap.size, 0, none⟩ = some (.int .i64 x.1) := by go_cell
                have g1 : (wr.alloc (.cells #[.int .i64 x.1, .string x.2] 80)).cell? ⟨wr.heap.size, 1, none⟩ = some (.string x.2) := by go_cell
                have g2 : (wr.alloc (.cells #[.int .i64 x.1, .string x.2] 80)).frozen? ⟨wr.heap.size, 1, none⟩ = false := by go_cell
                have hgz : (wr.alloc (.cells #[.int .i64 x.1, .string x.2] 80)).heap.size = wr.heap.size + 1 := by simp
                generalize wr.alloc (.cells #[.int .i64 x.1, .string x.2] 80) = wg at *
                have Hgz := Lib.hid hgz
                clear hgz
                have KG : Hid (∀ w', Below wg.drew.heap.size wg.drew w' → w'.cell? ⟨wr.heap.size, 0, none⟩ = some (.int .i64 x.1) ∧ w'.cell? ⟨wr.heap.size, 1, none⟩ = some (.string x.2) ∧ w'.frozen? ⟨wr.heap.size, 1, none⟩ = false) := Lib.hid fun w' h => by
                  have hz : wr.heap.size < wg.drew.heap.size := by have := Hgz.out; simp; omega
                  exact ⟨(h.cell (p := ⟨wr.heap.size, 0, none⟩) hz).trans (by simpa using g0), (h.cell (p := ⟨wr.heap.size, 1, none⟩) hz).trans (by simpa using g1), (h.frozen (p := ⟨wr.heap.size, 1, none⟩) hz).trans (by simpa using g2)⟩
                generalize (crashF keep s.loose tear ((N : Int) - 1) s.sync n).length = LN at *
                go_region_with ((first
                    | (go_at_call 31; (with_reducible refine (LC.out _ hBn.out).mono ?_); rintro e w3 ⟨rfl, hb3⟩; obtain ⟨k0, k1, k2⟩ := KG.out _ hb3
                       have q0 : (w3.setCell ⟨wr.heap.size, 1, none⟩ (.string (P1 ++ P2))).cell? ⟨wr.heap.size, 0, none⟩ = some (.int .i64 x.1) := by go_cell
                       have q1 : (w3.setCell ⟨wr.heap.size, 1, none⟩ (.string (P1 ++ P2))).cell? ⟨wr.heap.size, 1, none⟩ = some (.string (P1 ++ P2)) := by go_cell
                       have HB4 : Hid (Below wr.heap.size wr (w3.setCell ⟨wr.heap.size, 1, none⟩ (.string (P1 ++ P2)))) := Lib.hid ((below_any hBn.out hb3).setCell (Nat.le_refl _) _)
                       clear hb3)))
                all_goals
                  generalize w3.setCell ⟨wr.heap.size, 1, none⟩ (.string (P1 ++ P2)) = w4 at *
                  have O1 := Lib.hid (writesAt_one w4 x.1 (P1 ++ P2) 80)
                  have HR4 := Lib.hid (HR.out.keep (below_any HB4.out ((Below.refl w4.heap.size w4).alloc (Nat.le_refl _) (.cells #[.int .i64 x.1, .string (P1 ++ P2)] 80))))
                  go_wp2_with (at_builtin; refine wpList_append_writes rfl (.tmp 76) (.tmp 78) rfl rfl HR4.out rfl (fun e => by cases e) O1.out ?c3 ?_)
                  case c3 => have := crashF_length keep s.loose s.sync tear ((N : Int) - 1) n; simp; omega
                  intro v5 w5 hR5
                  have HR5 := Lib.hid hR5
                  clear hR5
                  go_wp2
                  go_roundw
                  case rel => exact ⟨n + 1, hlt, by first | rfl | go_num, by rw [HF.out, if_pos HT.out, ← HLA.out, ← HP.out]; exact HR5⟩
                  case measure => simp [intOf]; omega
              · have hn2 : (((n : Int) == (N : Int) - 1) = false) ∨ (((n : Int) == (N : Int) - 1) = true ∧ ¬ 0 < tear) := by
                  by_cases h : (n : Int) = (N : Int) - 1
                  · exact .inr ⟨by simp only [beq_iff_eq]; exact h, fun h2 => hT ⟨h, h2⟩⟩
                  · exact .inl (by simp only [beq_eq_false_iff_ne, ne_eq]; exact h)
                have HT := Lib.hid hT
                clear hT
                obtain ⟨pv, cv, rfl, -, -, hwv, hnv, -⟩ := HR.out.at'
                clear hwv hnv
                have O1 := writesAt_one (wr.alloc (.cells #[.int .i64 x.1, .string x.2] 80)) x.1 x.2 80
                rw [show (wr.alloc (.cells #[.int .i64 x.1, .string x.2] 80)).heap.size = wr.heap.size + 1 by simp] at O1
                have HO1 := Lib.hid O1
                clear O1
                have HR4 := Lib.hid (HR.out.keep (((Below.refl wr.heap.size wr).alloc (Nat.le_refl _) (.cells #[.int .i64 x.1, .string x.2] 80)).alloc (by simp) (.cells #[.int .i64 x.1, .string x.2] 80)))
                rcases hn2 with hg1 | ⟨hg1, hg3⟩
                all_goals
                  go_wp2_with (at_builtin; refine wpList_append_writes rfl (.tmp 76) (.tmp 78) rfl rfl HR4.out rfl (fun e => by cases e) HO1.out ?c4 ?_)
                  case c4 => have := crashF_length keep s.loose s.sync tear ((N : Int) - 1) n; simp; omega
                  intro v5 w5 hR5
                  have HR5 := Lib.hid hR5
                  clear hR5
                  go_wp2
                  go_roundw
                  case rel => exact ⟨n + 1, hlt, by first | rfl | go_num, by rw [HF.out, if_neg HT.out]; exact HR5⟩
                  case measure => simp [intOf]; omega
          · obtain rfl : n = N := by omega
            obtain ⟨y0, y1, y2, y3, g0, g1, g2, g3⟩ := KR.out _ HR.out.2
            obtain ⟨pv, cv, rfl, hlv, hmv, hwv, hnv, hgv⟩ := HR.out.at'
            have HWV := Lib.hid hwv
            have HBW := Lib.hid (below_any HB0.out HR.out.2)
            have HG2 : Hid (∀ B off, pv = some ⟨B, off, none⟩ → B ≠ w.heap.size + 1) := Lib.hid (fun B off e => by have := hgv B off e; omega)
            have HG3 : Hid (∀ B off, pv = some ⟨B, off, none⟩ → w.heap.size ≤ B) := Lib.hid (fun B off e => by have := hgv B off e; omega)
            clear hwv hgv
            have HCL := Lib.hid hlv
            have HE : Hid (((n : Int) - 1 + 1).toNat = n) := Lib.hid (by omega)
            clear hlv
            go_wp2
            refine bodyPost_ret (v := .tuple #[.agg #[.int .i64 s.many, .slice pv (crashF keep s.loose tear ((n : Int) - 1) s.sync n).length cv, .slice none 0 0, .int .i64 (-1)], .int .i64 0]) ?_ rfl ⟨pv, cv, none, 0, ?_, ?_, fun B off e => .inr (.inr (HG3.out B off e)), .none, ?_⟩
            focus simp [results, Try.results26, go_sem, y0, y1, y2, y3]
            focus (unfold refV; simp)
            focus exact refAt_same (s := ⟨s.many, crashF keep s.loose tear ((n : Int) - 1) s.sync n, [], -1⟩) ⟨hnv, fun _ => rfl, ⟨HCL.out, by unfold maxLen at hmv; omega⟩, by simp, (((HWV.out.set HG2.out _ _).set HG2.out _ _).set HG2.out _ _).set HG2.out _ _, WritesAt.nil _ _⟩ (by show crashF keep s.loose tear ((n : Int) - 1) s.sync ((n : Int) - 1 + 1).toNat = _; rw [HE.out]) rfl
            focus exact (((HBW.out.setCell (by simp) _).setCell (by simp) _).setCell (by simp) _).setCell (by simp) _
end Go.Proofs.Ythbnochlpnikaaa
