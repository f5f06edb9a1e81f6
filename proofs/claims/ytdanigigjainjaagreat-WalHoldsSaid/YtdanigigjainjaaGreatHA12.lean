/- Parts: W54 W50 W55 W51 W56 W57 W58 W59. -/
import Derived.Test.YtdanigigjainjaaGreatHA11
namespace Go.Proofs.YtdanigigjainjaaGreat
open Go.RowKit Go.Shelf
attribute [local go_sem] Oper.semAt_some

theorem bytes_setRowN {W : World} {q : Option Addr} {l : List Nat} {b : Nat} (h : BytesAt W q l) (hn : ∀ a, q = some a → a.block ≠ b) (cs : Array Value) : BytesAt (W.setRow b cs) q l := bytes_but h fun a e => by
  unfold World.setRow
  simp only [Array.getElem?_modify]
  rw [if_neg (fun x => hn a e x.symm)]
set_option maxHeartbeats 400000 in
theorem eq_end (a b c : Int) (w : World) : (binOp .neq 41 (.agg #[.int .u64 a, .int .i64 b, .int .u32 c]) (.agg #[.int .u64 a, .int .i64 b, .int .u32 c])).run Tryz.prog w = .ok (.bool false) w := by
  go_simp
set_option maxHeartbeats 400000 in
theorem eqg_end (x y : Operand) (a b c : Int) (d e f : Int) (w : World) : (eqGuard .neq 41 x y (.agg #[.int .u64 a, .int .i64 b, .int .u32 c]) (.agg #[.int .u64 d, .int .i64 e, .int .u32 f])).run Tryz.prog w = .ok () w := by
  go_simp
def atI (W : World) (b : Nat) : Int := match W.cell? ⟨b, 1, none⟩ with
  | some v => intOf v
  | none => 0
theorem atI_box {W : World} {b : Nat} {x y : Value} {i : Int} {t : TypeId} {fr : Nat × Nat} (h : W.heap[b]? = some (.cells #[x, .int .i64 i, y] t fr)) : atI W b = i := by
  unfold atI
  rw [(cell_of_row W b 1 _ _ _ h).trans rfl]
  rfl
theorem take_lj {w : World} {B mb : Nat} {d : Option Addr} {f pg : Int} {S E hn pg' : Nat} {l : List FR} {i c : Nat} {X : List FV} {g cp : Nat} {W : World} (h : LJ w B mb d f pg S E hn l (i + 1) c X (.slice (some ⟨g, 0, none⟩) (i + 1 - c) cp) W) (hi : i < l.length) (hln : l.length ≤ 2000) (hok : ∀ x ∈ l, x.Ok pg') (hpg : pg' ≤ 2000) (hE : E < 2 ^ 64) (hc : c ≤ i) :
    Calls Tryz.prog 80 #[.pointer (some ⟨B, 4, none⟩), .slice (some ⟨g, 0, none⟩) (i + 1 - c) cp] W fun r w' => r = .returned (.tuple #[]) ∧ LJ w B mb d f pg S E hn l (i + 1) (i + 1) X (.slice none 0 0) w' := by
  have hXl : (X.drop c).length = i + 1 - c := by rw [List.length_drop, h.len]
  obtain ⟨y0, hy0⟩ : ∃ y, X[i]? = some y := ⟨_, List.getElem?_eq_getElem (by rw [h.len]; omega)⟩
  have hlastX : (X.drop c).getLast? = some y0 := by
    rw [List.getLast?_eq_getElem?, hXl, List.getElem?_drop, show c + (i + 1 - c - 1) = i by omega]
    exact hy0
  obtain ⟨q0, c0, e0, hl0, hb0, -, ha0⟩ := h.fr i y0 hy0
  have hlt0 := bytes_lt hb0 (by omega)
  have T := take_any B mb ⟨d, f, pg, S, E, c, lk E l c, sizeF hn (l.take c), some mb⟩ (takeG (fun _ => none) (X.take c)) c (X.drop c) (some ⟨g, 0, none⟩) cp y0 W h.log rfl h.map (by omega) (rows_of h.own) (fun y hy => by
      obtain ⟨j, hj⟩ := List.mem_iff_getElem?.1 hy
      rw [List.getElem?_drop] at hj
      obtain ⟨q1, c1, e1, -⟩ := h.fr _ y hj
      have hjl := (List.getElem?_eq_some_iff.1 hj).1
      rw [h.len] at hjl
      have := (oks_at hok (i := c + j) (by omega)).p
      rw [e1]
      simp only [fvOf]
      omega) hlastX (fun w' ha' => by
      have hb1 : BytesAt w' q0 y0.bs := bytes_but hb0 (fun a ea => ha'.block _ (hlt0 a ea) (by have := (ha0 a ea).1; have := h.old; omega))
      rw [e0] at hb1 ⊢
      exact end_fv E l i q0 c0 pg' w' hE (oks_at hok hi) hpg (by omega) hb1)
  rw [hXl] at T
  refine T.mono ?_
  rintro r w' ⟨rfl, h1, h2, h3⟩
  rw [e0] at h1
  exact ⟨rfl, h.took hi h3 h1 (by rw [hXl]; exact h2)⟩
set_option maxRecDepth 100000 in
set_option maxHeartbeats 16000000 in
theorem look_raw (B mb : Nat) (d : Option Addr) (f pgI : Int) (S E hn pg n : Nat) (l : List FR) (w : World) (hnl : n = l.length) (hL : LogAt w B ⟨d, f, pgI, S, E, 0, 0, hn, some mb⟩) (hM : MapV w mb (fun _ => none) 0) (hE : E < 2 ^ 64) (hln : n ≤ 2000) (hpg : pg ≤ 2000) (hok : ∀ x ∈ l, x.Ok pg) (hlast : ∀ x, l.getLast? = some x → x.cm = true)
    (hst : Calls Tryz.prog 96 #[.pointer d] w fun r w' => r = .returned (.bool false) ∧ w = w')
    (hrd : ∀ (i : Nat) (W : World), i < n → Dk.Apart (fun k => k = B ∨ k = mb) w W → Calls Tryz.prog 97 #[.agg #[.pointer d, .int .i64 f, .int .i64 pgI], .int .i64 (i : Int)] W fun r w' => ∃ q c, r = .returned (.tuple #[.agg (fvOf E l i q c).cs, .int .i64 0]) ∧ Below W.heap.size W w' ∧ BytesAt w' q (l.getD i FR.zero).bs ∧ (q = none → c = 0) ∧ ∀ a, q = some a → W.heap.size ≤ a.block) :
    Calls Tryz.prog 73 #[.pointer (some ⟨B, 0, none⟩), .int .i64 (n : Int)] w fun r w' => r = .returned (.int .i64 0) ∧ ∃ X v, LJ w B mb d f pgI S E hn l n n X v w' := by
  have CS := Lib.hid hst
  have hc := logAt_cells hL
  have c0 := hc 0 _ rfl
  have c4 := hc 4 _ rfl
  have c5 := hc 5 _ rfl
  have c6 := hc 6 _ rfl
  have HL := Lib.hid hL
  have HM := Lib.hid hM
  have HRD := Lib.hid hrd
  have HOK := Lib.hid hok
  have HN := Lib.hid (And.intro hnl (And.intro hln (And.intro hpg (And.intro hE hlast))))
  clear hc hL hM hst hrd hok hnl hpg hE hlast
  go_enter Tryz.func73, Tryz.ntmps73
  go_wp2_with (first
    | (go_at_call 96; refine CS.out.mono ?_; rintro e w1 ⟨rfl, rfl⟩)
    | fail)
  go_loopw [6] (fun v W => ∃ (i : Nat) (X : List FV) (ra : Option Addr) (rc : Nat), i ≤ n ∧ v = .slice ra (i - cmt l i) rc ∧ Hid (LJ w B mb d f pgI S E hn l i (cmt l i) X v W)) (fun _ W => ((n : Int) - atI W w.heap.size).toNat)
  case atStart =>
    refine ⟨0, [], none, 0, Nat.zero_le _, rfl, Lib.hid ⟨rfl, Nat.le_refl _, ?_, ⟨rfl, .inl ⟨rfl, rfl⟩⟩, fun j x h => by simp at h, logAt_below HL.out ((Below.refl _ _).alloc (Nat.le_refl _) _), HM.out.below ((Below.refl _ _).alloc (Nat.le_refl _) _), ⟨(Array.getElem?_eq_some_iff.1 HL.out).1, HM.out.lt⟩, Dk.Below.apart ((Below.refl _ _).alloc (Nat.le_refl _) _) _⟩⟩
    rw [heap_alloc_new w]
    simp [lk]
  case round =>
    obtain ⟨i, X, ra, rc, hi, rfl, HJ⟩ := hrel
    by_cases hlt : i < n
    · have hltI : (i : Int) < (n : Int) := by omega
      have hok := oks_at HOK.out (i := i) (by have := HN.out.1; omega)
      have hbox := HJ.out.box
      obtain ⟨lkk, hlkk⟩ : ∃ k, k = lk E l i := ⟨_, rfl⟩
      rw [← hlkk] at hbox
      obtain ⟨cs0, cs1, cs2⟩ : wr.cell? ⟨B, 0, none⟩ = some (.pointer d) ∧ wr.cell? ⟨B, 1, none⟩ = some (.int .i64 f) ∧ wr.cell? ⟨B, 2, none⟩ = some (.int .i64 pgI) := by
        have h := logAt_cells HJ.out.log
        exact ⟨h 0 _ rfl, h 1 _ rfl, h 2 _ rfl⟩
      have b1 := (cell_of_row wr _ 1 _ _ _ hbox).trans rfl
      have HC : Hid (∀ w', Below wr.heap.size wr w' → w'.cell? ⟨B, 0, none⟩ = some (.pointer d) ∧ w'.cell? ⟨B, 1, none⟩ = some (.int .i64 f) ∧ w'.cell? ⟨B, 2, none⟩ = some (.int .i64 pgI) ∧ w'.cell? ⟨w.heap.size, 1, none⟩ = some (.int .i64 (i : Int))) := Lib.hid fun w' hb =>
        ⟨(hb.cell (lt_of_cell_some cs0)).trans cs0, (hb.cell (lt_of_cell_some cs1)).trans cs1, (hb.cell (lt_of_cell_some cs2)).trans cs2, (hb.cell (lt_of_cell_some b1)).trans b1⟩
      obtain ⟨pj, hpj⟩ : ∃ k, k = (l.getD i FR.zero).p := ⟨_, rfl⟩
      obtain ⟨cmj, hcmj⟩ : ∃ k, k = (l.getD i FR.zero).cm := ⟨_, rfl⟩
      obtain ⟨nj, hnj⟩ : ∃ k, k = (l.getD i FR.zero).n := ⟨_, rfl⟩
      obtain ⟨bsj, hbsj⟩ : ∃ k, k = (l.getD i FR.zero).bs := ⟨_, rfl⟩
      have EFV : Hid (∀ q2 c2, (fvOf E l i q2 c2).cs = #[.int .u64 E, .int .i64 (i : Int), .int .i64 (pj : Nat), .bool cmj, .int .i64 (nj : Nat), .int .u32 (lkk : Nat), .slice q2 512 c2]) := Lib.hid fun q2 c2 => by
        rw [hpj, hcmj, hnj, hlkk]
        rfl
      have CC : Hid (∀ W, Below wr.heap.size wr W → Calls Tryz.prog 97 #[.agg #[.pointer d, .int .i64 f, .int .i64 pgI], .int .i64 (i : Int)] W fun r w' => ∃ q2 c2, r = .returned (.tuple #[.agg #[.int .u64 E, .int .i64 (i : Int), .int .i64 (pj : Nat), .bool cmj, .int .i64 (nj : Nat), .int .u32 (lkk : Nat), .slice q2 512 c2], .int .i64 0]) ∧ Below W.heap.size W w' ∧ BytesAt w' q2 bsj ∧ (q2 = none → c2 = 0) ∧ ∀ a, q2 = some a → W.heap.size ≤ a.block) := Lib.hid fun W hb => by
        refine (HRD.out i W hlt (apart_trans HJ.out.ap (Dk.Below.apart hb _))).mono ?_
        rintro r w' ⟨q, c, rfl, h1, h2, h3⟩
        rw [← hbsj] at h2
        exact ⟨q, c, by rw [EFV.out], h1, h2, h3⟩
      have HDT := Lib.hid (And.intro hlkk (And.intro hpj (And.intro hcmj (And.intro hnj (And.intro hbsj hok)))))
      have HBP : Hid (0 < bsj.length) := Lib.hid (by rw [hbsj, hok.len]; omega)
      clear hbox hok hlkk hpj hcmj hnj hbsj cs0 cs1 cs2
      go_upto_region 6 with fail
      clear b1
      go_cut [7, 8] from 20 to 54 (fun fp ev wx => ∃ (b : Nat) (q2 : Option Addr) (c2 : Nat), fp = .pointer (some ⟨b, 0, none⟩) ∧ ev = .int .i64 0 ∧ wx.heap[b]? = some (.cells #[.int .u64 E, .int .i64 (i : Int), .int .i64 (pj : Nat), .bool cmj, .int .i64 (nj : Nat), .int .u32 (lkk : Nat), .slice q2 512 c2] 156 (0, 0)) ∧ Below wr.heap.size wr wx ∧ BytesAt wx q2 bsj ∧ (q2 = none → c2 = 0) ∧ (∀ a : Addr, q2 = some a → wr.heap.size ≤ a.block) ∧ wr.heap.size ≤ b)
      case first =>
          refine wp_region_held_drew (S := fun w' => Below wr.heap.size wr w') (by kernel_rfl) ((Below.refl _ _).drew) (fun H0 => ?_)
          refine wpAnyH_take (i := 0) (oi := { dst := some 25, op := Go.Op.move (Go.Operand.tmp 0), type := 30, pos := "wal.go:110", after := #[], guard := none }) (v := ?_) rfl (by kernel_rfl) (by kernel_rfl) (by kernel_rfl) (fun _ _ _ h => h) (Or.inl ⟨by rfl, ?_⟩) H0 ?_
          rotate_left
          focus (intro w' hSw; (try dsimp only at hSw); go_simp; (try with_reducible rfl))
          simp only [Act.put, List.setIfInBounds_toArray, List.set_cons_zero, List.set_cons_succ]
          refine wpAnyH_take (i := 1) (oi := { dst := some 26, op := Go.Op.nilCheck (Go.Operand.tmp 25), type := 0, pos := "wal.go:110", after := #[{ on := 0, ground := Go.Ground.data }], guard := none }) (v := ?_) rfl (by kernel_rfl) (by kernel_rfl) (by kernel_rfl) (fun _ _ _ h => h) (Or.inl ⟨by rfl, ?_⟩) H0 ?_
          rotate_left
          focus (intro w' hSw; (try dsimp only at hSw); go_simp; (try with_reducible rfl))
          simp only [Act.put, List.setIfInBounds_toArray, List.set_cons_zero, List.set_cons_succ]
          refine wpAnyH_take (i := 2) (oi := { dst := some 27, op := Go.Op.fieldAddr 46 (Go.Operand.tmp 26) 0, type := 0, pos := "wal.go:110", after := #[{ on := 1, ground := Go.Ground.data }], guard := none }) (v := ?_) rfl (by kernel_rfl) (by kernel_rfl) (by kernel_rfl) (fun _ _ _ h => h) (Or.inl ⟨by rfl, ?_⟩) H0 ?_
          rotate_left
          focus (intro w' hSw; (try dsimp only at hSw); go_simp; (try with_reducible rfl))
          simp only [Act.put, List.setIfInBounds_toArray, List.set_cons_zero, List.set_cons_succ]
          refine wpAnyH_take (i := 3) (oi := { dst := some 28, op := Go.Op.load 37 (Go.Operand.tmp 27), type := 37, pos := "wal.go:110", after := #[{ on := 2, ground := Go.Ground.data }], guard := none }) (v := ?_) rfl (by kernel_rfl) (by kernel_rfl) (by kernel_rfl) (fun _ _ _ h => h) (Or.inl ⟨by rfl, ?_⟩) H0 ?_
          rotate_left
          focus (intro w' hSw; (try dsimp only at hSw); obtain ⟨s0, s1, s2, s3⟩ := HC.out _ hSw; go_simp; (try with_reducible rfl))
          simp only [Act.put, List.setIfInBounds_toArray, List.set_cons_zero, List.set_cons_succ]
          refine wpAnyH_take (i := 4) (oi := { dst := some 29, op := Go.Op.fieldAddr 41 (Go.Operand.tmp 5) 1, type := 0, pos := "wal.go:110", after := #[], guard := none }) (v := ?_) rfl (by kernel_rfl) (by kernel_rfl) (by kernel_rfl) (fun _ _ _ h => h) (Or.inl ⟨by rfl, ?_⟩) H0 ?_
          rotate_left
          focus (intro w' hSw; (try dsimp only at hSw); go_simp; (try with_reducible rfl))
          simp only [Act.put, List.setIfInBounds_toArray, List.set_cons_zero, List.set_cons_succ]
          refine wpAnyH_take (i := 5) (oi := { dst := some 30, op := Go.Op.load 3 (Go.Operand.tmp 29), type := 3, pos := "wal.go:110", after := #[{ on := 4, ground := Go.Ground.data }], guard := none }) (v := ?_) rfl (by kernel_rfl) (by kernel_rfl) (by kernel_rfl) (fun _ _ _ h => h) (Or.inl ⟨by rfl, ?_⟩) H0 ?_
          rotate_left
          focus (intro w' hSw; (try dsimp only at hSw); obtain ⟨s0, s1, s2, s3⟩ := HC.out _ hSw; go_simp; (try with_reducible rfl))
          simp only [Act.put, List.setIfInBounds_toArray, List.set_cons_zero, List.set_cons_succ]
          refine wpAnyH_ready (rs := [6, 10]) (by kernel_rfl) (by simp) ?_
          refine AllReadyH.cons (o := { dst := some 31, op := Go.Op.call { callee := Go.Callee.value (Go.Operand.func 97), args := #[Go.Operand.tmp 28, Go.Operand.tmp 30], argTypes := #[37, 3] }, type := 157, pos := "wal.go:110", after := #[{ on := 3, ground := Go.Ground.data }, { on := 5, ground := Go.Ground.data }], guard := none }) rfl (fun K hK => ?_) (AllReadyH.cons (o := { dst := some 7, op := Go.Op.alloc 156, type := 0, pos := "wal.go:110", after := #[], guard := none }) rfl (fun K hK => ?_) AllReadyH.nil)
          ·
            try go_simp
            refine (CC.out _ ((Below.refl _ _).drew)).mono ?_; rintro e w2 ⟨q2, c2, rfl, hb2, hq2, hqn2, hqb2⟩; have HA := Lib.hid (kbD hb2); clear hb2
            refine hK.out _ _ HA.out (fun H1 => ?_)
            clear hK K
            try simp only [Act.put, List.setIfInBounds_toArray, List.set_cons_zero, List.set_cons_succ]
            refine wpAnyH_take (i := 7) (oi := { dst := some 24, op := Go.Op.move (Go.Operand.tmp 31), type := 157, pos := "wal.go:110", after := #[{ on := 6, ground := Go.Ground.data }], guard := none }) (v := ?_) rfl (by kernel_rfl) (by kernel_rfl) (by kernel_rfl) (fun _ _ _ h => h) (Or.inl ⟨by rfl, ?_⟩) H1 ?_
            rotate_left
            focus (intro w' hSw; (try dsimp only at hSw); go_simp; (try with_reducible rfl))
            simp only [Act.put, List.setIfInBounds_toArray, List.set_cons_zero, List.set_cons_succ]
            refine wpAnyH_take (i := 8) (oi := { dst := some 32, op := Go.Op.extract (Go.Operand.tmp 24) 0, type := 156, pos := "wal.go:110", after := #[{ on := 7, ground := Go.Ground.data }], guard := none }) (v := ?_) rfl (by kernel_rfl) (by kernel_rfl) (by kernel_rfl) (fun _ _ _ h => h) (Or.inl ⟨by rfl, ?_⟩) H1 ?_
            rotate_left
            focus (intro w' hSw; (try dsimp only at hSw); go_simp; (try with_reducible rfl))
            simp only [Act.put, List.setIfInBounds_toArray, List.set_cons_zero, List.set_cons_succ]
            refine wpAnyH_take (i := 9) (oi := { dst := some 33, op := Go.Op.extract (Go.Operand.tmp 24) 1, type := 25, pos := "wal.go:110", after := #[{ on := 7, ground := Go.Ground.data }, { on := 11, ground := Go.Ground.gcOnly Go.Departure.lateStores }], guard := none }) (v := ?_) rfl (by kernel_rfl) (by kernel_rfl) (by kernel_rfl) (fun _ _ _ h => h) (Or.inl ⟨by rfl, ?_⟩) H1 ?_
            rotate_left
            focus (intro w' hSw; (try dsimp only at hSw); go_simp; (try with_reducible rfl))
            simp only [Act.put, List.setIfInBounds_toArray, List.set_cons_zero, List.set_cons_succ]
            refine wpAnyH_ready (rs := [10]) (by kernel_rfl) (by simp) ?_
            refine AllReadyH.cons (o := { dst := some 7, op := Go.Op.alloc 156, type := 0, pos := "wal.go:110", after := #[], guard := none }) rfl (fun K hK => ?_) ?_
            rotate_left
            exact AllReadyH.nil
            try go_simp
            refine hK.out _ _ (HA.out.alloc HA.out.size _) (fun H2 => ?_)
            clear hK K
            try simp only [Act.put, List.setIfInBounds_toArray, List.set_cons_zero, List.set_cons_succ]
            have HZ : Hid (wr.heap.size ≤ w2.heap.size) := Lib.hid HA.out.size
            have HQN := Lib.hid (And.intro hqn2 (show ∀ a : Addr, q2 = some a → wr.heap.size ≤ a.block from fun a e => by have := hqb2 a e; simpa using this))
            have HNE : Hid (∀ a : Addr, q2 = some a → a.block ≠ w2.heap.size) := Lib.hid (fun a e => by have := bytes_lt hq2 HBP.out a e; omega)
            have HQ := Lib.hid (bytesAt_below hq2 ((Below.refl w2.heap.size w2).alloc (Nat.le_refl _) (.cells #[.int .u64 0, .int .i64 0, .int .i64 0, .bool false, .int .i64 0, .int .u32 0, .slice none 0 0] 156)))
            refine wpAnyH_ready (rs := [11]) (by kernel_rfl) (by simp) ?_
            refine AllReadyH.cons (o := { dst := none, op := Go.Op.store 156 (Go.Operand.tmp 7) (Go.Operand.tmp 32), type := 0, pos := "wal.go:110", after := #[{ on := 10, ground := Go.Ground.data }, { on := 8, ground := Go.Ground.data }, { on := 6, ground := Go.Ground.chain }, { on := 0, ground := Go.Ground.phase }, { on := 1, ground := Go.Ground.phase }, { on := 2, ground := Go.Ground.phase }, { on := 3, ground := Go.Ground.phase }, { on := 4, ground := Go.Ground.phase }, { on := 5, ground := Go.Ground.phase }, { on := 6, ground := Go.Ground.phase }, { on := 7, ground := Go.Ground.phase }, { on := 8, ground := Go.Ground.phase }, { on := 9, ground := Go.Ground.textOnly Go.Departure.lateStores }, { on := 10, ground := Go.Ground.phase }], guard := none }) rfl (fun K hK => ?_) ?_
            rotate_left
            exact AllReadyH.nil
            have hrow := heap_alloc_new w2 (.cells #[.int .u64 0, .int .i64 0, .int .i64 0, .bool false, .int .i64 0, .int .u32 0, .slice none 0 0] 156)
            refine step_store_row rfl 156 (.tmp 7) (.tmp 32) rfl w2.heap.size #[.int .u64 E, .int .i64 (i : Int), .int .i64 (pj : Nat), .bool cmj, .int .i64 (nj : Nat), .int .u32 (lkk : Nat), .slice q2 512 c2] rfl rfl 156 _ hrow (by kernel_rfl) rfl (by simp [Value.oneCell']) ?_
            refine hK.out _ _ (below_setRow (HA.out.alloc HA.out.size _) (by have := HZ.out; first | omega | (simp; done) | (simp; omega)) _) (fun H9 => ?_)
            clear hK K
            try simp only [Act.put, List.setIfInBounds_toArray, List.set_cons_zero, List.set_cons_succ]
            refine wpAnyH_take (i := 12) (oi := { dst := some 8, op := Go.Op.assign (Go.Operand.tmp 33), type := 25, pos := "wal.go:110", after := #[{ on := 9, ground := Go.Ground.data }, { on := 11, ground := Go.Ground.chain }, { on := 0, ground := Go.Ground.phase }, { on := 1, ground := Go.Ground.phase }, { on := 2, ground := Go.Ground.phase }, { on := 3, ground := Go.Ground.phase }, { on := 4, ground := Go.Ground.phase }, { on := 5, ground := Go.Ground.phase }, { on := 6, ground := Go.Ground.phase }, { on := 7, ground := Go.Ground.phase }, { on := 8, ground := Go.Ground.phase }, { on := 9, ground := Go.Ground.phase }, { on := 10, ground := Go.Ground.phase }, { on := 11, ground := Go.Ground.phase }], guard := none }) (v := ?_) rfl (by kernel_rfl) (by kernel_rfl) (by kernel_rfl) (fun _ _ _ h => h) (Or.inl ⟨by rfl, ?_⟩) H9 ?_
            rotate_left
            focus (intro w' hSw; (try dsimp only at hSw); go_simp; (try with_reducible rfl))
            simp only [Act.put, List.setIfInBounds_toArray, List.set_cons_zero, List.set_cons_succ]
            refine wpAnyH_done (by kernel_rfl) ?_ _
            go_wp2_with fail
            go_meet
            exact ⟨w2.heap.size, q2, c2, rfl, rfl, setRow_heap _ _ _ _ _ _ hrow, below_setRow (HA.out.alloc HA.out.size _) (by have := HZ.out; first | omega | (simp; done) | (simp; omega)) _, bytes_setRowN HQ.out (fun a e => HNE.out a e) _, HQN.out.1, HQN.out.2, by have := HZ.out; first | omega | (simp; done) | (simp; omega)⟩
          ·
            try go_simp
            refine hK.out _ _ (((Below.refl wr.heap.size wr).alloc (Nat.le_refl _) _).drew) (fun H1 => ?_)
            clear hK K
            try simp only [Act.put, List.setIfInBounds_toArray, List.set_cons_zero, List.set_cons_succ]
            refine wpAnyH_ready (rs := [6]) (by kernel_rfl) (by simp) ?_
            refine AllReadyH.cons (o := { dst := some 31, op := Go.Op.call { callee := Go.Callee.value (Go.Operand.func 97), args := #[Go.Operand.tmp 28, Go.Operand.tmp 30], argTypes := #[37, 3] }, type := 157, pos := "wal.go:110", after := #[{ on := 3, ground := Go.Ground.data }, { on := 5, ground := Go.Ground.data }], guard := none }) rfl (fun K hK => ?_) ?_
            rotate_left
            exact AllReadyH.nil
            try go_simp
            refine (CC.out _ H1).mono ?_; rintro e w2 ⟨q2, c2, rfl, hb2, hq2, hqn2, hqb2⟩; have HA := Lib.hid (kbT H1 hb2); have HB := Lib.hid hb2; clear hb2
            refine hK.out _ _ HA.out (fun H2 => ?_)
            clear hK K
            try simp only [Act.put, List.setIfInBounds_toArray, List.set_cons_zero, List.set_cons_succ]
            refine wpAnyH_take (i := 7) (oi := { dst := some 24, op := Go.Op.move (Go.Operand.tmp 31), type := 157, pos := "wal.go:110", after := #[{ on := 6, ground := Go.Ground.data }], guard := none }) (v := ?_) rfl (by kernel_rfl) (by kernel_rfl) (by kernel_rfl) (fun _ _ _ h => h) (Or.inl ⟨by rfl, ?_⟩) H2 ?_
            rotate_left
            focus (intro w' hSw; (try dsimp only at hSw); go_simp; (try with_reducible rfl))
            simp only [Act.put, List.setIfInBounds_toArray, List.set_cons_zero, List.set_cons_succ]
            refine wpAnyH_take (i := 8) (oi := { dst := some 32, op := Go.Op.extract (Go.Operand.tmp 24) 0, type := 156, pos := "wal.go:110", after := #[{ on := 7, ground := Go.Ground.data }], guard := none }) (v := ?_) rfl (by kernel_rfl) (by kernel_rfl) (by kernel_rfl) (fun _ _ _ h => h) (Or.inl ⟨by rfl, ?_⟩) H2 ?_
            rotate_left
            focus (intro w' hSw; (try dsimp only at hSw); go_simp; (try with_reducible rfl))
            simp only [Act.put, List.setIfInBounds_toArray, List.set_cons_zero, List.set_cons_succ]
            refine wpAnyH_take (i := 9) (oi := { dst := some 33, op := Go.Op.extract (Go.Operand.tmp 24) 1, type := 25, pos := "wal.go:110", after := #[{ on := 7, ground := Go.Ground.data }, { on := 11, ground := Go.Ground.gcOnly Go.Departure.lateStores }], guard := none }) (v := ?_) rfl (by kernel_rfl) (by kernel_rfl) (by kernel_rfl) (fun _ _ _ h => h) (Or.inl ⟨by rfl, ?_⟩) H2 ?_
            rotate_left
            focus (intro w' hSw; (try dsimp only at hSw); go_simp; (try with_reducible rfl))
            simp only [Act.put, List.setIfInBounds_toArray, List.set_cons_zero, List.set_cons_succ]
            have HZ : Hid (wr.heap.size ≤ wr.heap.size) := Lib.hid (Nat.le_refl _)
            have HQN := Lib.hid (And.intro hqn2 (show ∀ a : Addr, q2 = some a → wr.heap.size ≤ a.block from fun a e => by have := hqb2 a e; simp at this; omega))
            have HNE : Hid (∀ a : Addr, q2 = some a → a.block ≠ wr.heap.size) := Lib.hid (fun a e => by have := hqb2 a e; simp at this; omega)
            have HQ := Lib.hid hq2
            refine wpAnyH_ready (rs := [11]) (by kernel_rfl) (by simp) ?_
            refine AllReadyH.cons (o := { dst := none, op := Go.Op.store 156 (Go.Operand.tmp 7) (Go.Operand.tmp 32), type := 0, pos := "wal.go:110", after := #[{ on := 10, ground := Go.Ground.data }, { on := 8, ground := Go.Ground.data }, { on := 6, ground := Go.Ground.chain }, { on := 0, ground := Go.Ground.phase }, { on := 1, ground := Go.Ground.phase }, { on := 2, ground := Go.Ground.phase }, { on := 3, ground := Go.Ground.phase }, { on := 4, ground := Go.Ground.phase }, { on := 5, ground := Go.Ground.phase }, { on := 6, ground := Go.Ground.phase }, { on := 7, ground := Go.Ground.phase }, { on := 8, ground := Go.Ground.phase }, { on := 9, ground := Go.Ground.textOnly Go.Departure.lateStores }, { on := 10, ground := Go.Ground.phase }], guard := none }) rfl (fun K hK => ?_) ?_
            rotate_left
            exact AllReadyH.nil
            have hrow := (HB.out.block wr.heap.size (by simp)).trans (show ((wr.alloc (.cells #[.int .u64 0, .int .i64 0, .int .i64 0, .bool false, .int .i64 0, .int .u32 0, .slice none 0 0] 156)).drew).heap[wr.heap.size]? = _ from heap_alloc_new wr _)
            refine step_store_row rfl 156 (.tmp 7) (.tmp 32) rfl wr.heap.size #[.int .u64 E, .int .i64 (i : Int), .int .i64 (pj : Nat), .bool cmj, .int .i64 (nj : Nat), .int .u32 (lkk : Nat), .slice q2 512 c2] rfl rfl 156 _ hrow (by kernel_rfl) rfl (by simp [Value.oneCell']) ?_
            refine hK.out _ _ (below_setRow HA.out (by have := HZ.out; first | omega | (simp; done) | (simp; omega)) _) (fun H9 => ?_)
            clear hK K
            try simp only [Act.put, List.setIfInBounds_toArray, List.set_cons_zero, List.set_cons_succ]
            refine wpAnyH_take (i := 12) (oi := { dst := some 8, op := Go.Op.assign (Go.Operand.tmp 33), type := 25, pos := "wal.go:110", after := #[{ on := 9, ground := Go.Ground.data }, { on := 11, ground := Go.Ground.chain }, { on := 0, ground := Go.Ground.phase }, { on := 1, ground := Go.Ground.phase }, { on := 2, ground := Go.Ground.phase }, { on := 3, ground := Go.Ground.phase }, { on := 4, ground := Go.Ground.phase }, { on := 5, ground := Go.Ground.phase }, { on := 6, ground := Go.Ground.phase }, { on := 7, ground := Go.Ground.phase }, { on := 8, ground := Go.Ground.phase }, { on := 9, ground := Go.Ground.phase }, { on := 10, ground := Go.Ground.phase }, { on := 11, ground := Go.Ground.phase }], guard := none }) (v := ?_) rfl (by kernel_rfl) (by kernel_rfl) (by kernel_rfl) (fun _ _ _ h => h) (Or.inl ⟨by rfl, ?_⟩) H9 ?_
            rotate_left
            focus (intro w' hSw; (try dsimp only at hSw); go_simp; (try with_reducible rfl))
            simp only [Act.put, List.setIfInBounds_toArray, List.set_cons_zero, List.set_cons_succ]
            refine wpAnyH_done (by kernel_rfl) ?_ _
            go_wp2_with fail
            go_meet
            exact ⟨wr.heap.size, q2, c2, rfl, rfl, setRow_heap _ _ _ _ _ _ hrow, below_setRow HA.out (by have := HZ.out; first | omega | (simp; done) | (simp; omega)) _, bytes_setRowN HQ.out (fun a e => HNE.out a e) _, HQN.out.1, HQN.out.2, by have := HZ.out; first | omega | (simp; done) | (simp; omega)⟩
      case rest =>
        obtain ⟨b, q2, c2, rfl, rfl, hfr, hbw, hqb, hqn, hqz, hbb⟩ := hcut
        have hboxc := (hbw.block _ (Array.getElem?_eq_some_iff.1 HJ.out.box).1).trans HJ.out.box
        rw [← HDT.out.1] at hboxc
        have HC7 : Hid (∀ w', Below wc.heap.size wc w' → w'.cell? ⟨w.heap.size, 0, none⟩ = some (.int .u64 E) ∧ w'.cell? ⟨w.heap.size, 1, none⟩ = some (.int .i64 (i : Int)) ∧ w'.cell? ⟨w.heap.size, 2, none⟩ = some (.int .u32 (lkk : Nat)) ∧ w'.cell? ⟨b, 0, none⟩ = some (.int .u64 E) ∧ w'.cell? ⟨b, 1, none⟩ = some (.int .i64 (i : Int)) ∧ w'.cell? ⟨b, 2, none⟩ = some (.int .i64 (pj : Nat)) ∧ w'.cell? ⟨b, 3, none⟩ = some (.bool cmj) ∧ w'.cell? ⟨b, 4, none⟩ = some (.int .i64 (nj : Nat)) ∧ w'.cell? ⟨b, 5, none⟩ = some (.int .u32 (lkk : Nat)) ∧ w'.cell? ⟨b, 6, none⟩ = some (.slice q2 512 c2)) := Lib.hid fun w' hb => by
          have e1 := (hb.block _ (Array.getElem?_eq_some_iff.1 hboxc).1).trans hboxc
          have e2 := (hb.block _ (Array.getElem?_eq_some_iff.1 hfr).1).trans hfr
          exact ⟨(cell_of_row _ _ 0 _ _ _ e1).trans rfl, (cell_of_row _ _ 1 _ _ _ e1).trans rfl, (cell_of_row _ _ 2 _ _ _ e1).trans rfl, (cell_of_row _ _ 0 _ _ _ e2).trans rfl, (cell_of_row _ _ 1 _ _ _ e2).trans rfl, (cell_of_row _ _ 2 _ _ _ e2).trans rfl, (cell_of_row _ _ 3 _ _ _ e2).trans rfl, (cell_of_row _ _ 4 _ _ _ e2).trans rfl, (cell_of_row _ _ 5 _ _ _ e2).trans rfl, (cell_of_row _ _ 6 _ _ _ e2).trans rfl⟩
        have CA : Hid (∀ W, Calls Tryz.prog 98 #[.agg #[.int .u64 E, .int .i64 (i : Int), .int .i64 (pj : Nat), .bool cmj, .int .i64 (nj : Nat), .int .u32 (lkk : Nat), .slice q2 512 c2]] W fun r w' => r = .returned (.agg #[.int .u64 E, .int .i64 (i : Int), .int .u32 (lkk : Nat)]) ∧ Below W.heap.size W w') := Lib.hid fun W => endAhead_any E i pj cmj nj lkk q2 512 c2 W
        obtain ⟨lkn, hlkn⟩ : ∃ k, k = lk E l (i + 1) := ⟨_, rfl⟩
        have CE : Hid (∀ W, Below wc.heap.size wc W → Calls Tryz.prog 99 #[.agg #[.int .u64 E, .int .i64 (i : Int), .int .i64 (pj : Nat), .bool cmj, .int .i64 (nj : Nat), .int .u32 (lkk : Nat), .slice q2 512 c2]] W fun r w' => r = .returned (.agg #[.int .u64 E, .int .i64 ((i : Int) + 1), .int .u32 (lkn : Nat)]) ∧ Below W.heap.size W w') := Lib.hid fun W hb => by
          have h := end_fv E l i q2 c2 pg W HN.out.2.2.2.1 HDT.out.2.2.2.2.2 HN.out.2.2.1 (by omega) (by rw [← HDT.out.2.2.2.2.1]; exact bytesAt_below hqb hb)
          rw [EFV.out, fvOf_sum, ← hlkn] at h
          exact h
        have HBX := Lib.hid hboxc
        have HFR := Lib.hid (And.intro hfr (And.intro hbw (And.intro hqb (And.intro hqn (And.intro hqz (And.intro hbb hlkn))))))
        have he1 := eq_end E i lkk
        have he2 := eqg_end
        clear hfr hbw hqb hqn hqz hbb hboxc hlkn
        go_upto_region 7 with fail
        refine wp_region_held_drew (S := fun w' => Below wc.heap.size wc w') (by kernel_rfl) ((Below.refl _ _).drew) (fun H0 => ?_)
        refine wpAnyH_take (i := 0) (oi := { dst := some 34, op := Go.Op.move (Go.Operand.tmp 8), type := 25, pos := "wal.go:111", after := #[], guard := none }) (v := ?_) rfl (by kernel_rfl) (by kernel_rfl) (by kernel_rfl) (fun _ _ _ h => h) (Or.inl ⟨by rfl, ?_⟩) H0 ?_
        rotate_left
        focus (intro w' hSw; (try dsimp only at hSw); go_simp; (try with_reducible rfl))
        simp only [Act.put, List.setIfInBounds_toArray, List.set_cons_zero, List.set_cons_succ]
        refine wpAnyH_take (i := 1) (oi := { dst := some 35, op := Go.Op.binOp Go.BinOp.neq 25 (Go.Operand.tmp 34) (Go.Operand.const (Go.Value.int Go.IntKind.i64 0)) 25, type := 4, pos := "wal.go:111", after := #[{ on := 0, ground := Go.Ground.data }], guard := none }) (v := ?_) rfl (by kernel_rfl) (by kernel_rfl) (by kernel_rfl) (fun _ _ _ h => h) (Or.inl ⟨by rfl, ?_⟩) H0 ?_
        rotate_left
        focus (intro w' hSw; (try dsimp only at hSw); go_simp; (try with_reducible rfl))
        simp only [Act.put, List.setIfInBounds_toArray, List.set_cons_zero, List.set_cons_succ]
        refine wpAnyH_take (i := 2) (oi := { dst := some 36, op := Go.Op.move (Go.Operand.tmp 35), type := 4, pos := "wal.go:111", after := #[{ on := 1, ground := Go.Ground.data }], guard := none }) (v := ?_) rfl (by kernel_rfl) (by kernel_rfl) (by kernel_rfl) (fun _ _ _ h => h) (Or.inl ⟨by rfl, ?_⟩) H0 ?_
        rotate_left
        focus (intro w' hSw; (try dsimp only at hSw); go_simp; (try with_reducible rfl))
        simp only [Act.put, List.setIfInBounds_toArray, List.set_cons_zero, List.set_cons_succ]
        refine wpAnyH_take (i := 3) (oi := { dst := some 37, op := Go.Op.load 41 (Go.Operand.tmp 5), type := 41, pos := "wal.go:111", after := #[{ on := 2, ground := Go.Ground.guard }], guard := some (2, false) }) (v := ?_) rfl (by kernel_rfl) (by kernel_rfl) (by kernel_rfl) (fun _ _ _ h => h) (Or.inl ⟨by rfl, ?_⟩) H0 ?_
        rotate_left
        focus (intro w' hSw; (try dsimp only at hSw); obtain ⟨s0, s1, s2, s3, s4, s5, s6, s7, s8, s9⟩ := HC7.out _ hSw; go_simp; (try with_reducible rfl))
        simp only [Act.put, List.setIfInBounds_toArray, List.set_cons_zero, List.set_cons_succ]
        refine wpAnyH_take (i := 4) (oi := { dst := some 38, op := Go.Op.load 156 (Go.Operand.tmp 7), type := 156, pos := "wal.go:111", after := #[{ on := 2, ground := Go.Ground.guard }], guard := some (2, false) }) (v := ?_) rfl (by kernel_rfl) (by kernel_rfl) (by kernel_rfl) (fun _ _ _ h => h) (Or.inl ⟨by rfl, ?_⟩) H0 ?_
        rotate_left
        focus (intro w' hSw; (try dsimp only at hSw); obtain ⟨s0, s1, s2, s3, s4, s5, s6, s7, s8, s9⟩ := HC7.out _ hSw; go_simp; (try with_reducible rfl))
        simp only [Act.put, List.setIfInBounds_toArray, List.set_cons_zero, List.set_cons_succ]
        refine wpAnyH_ready (rs := [5]) (by kernel_rfl) (by simp) ?_
        refine AllReadyH.cons (o := { dst := some 39, op := Go.Op.call { callee := Go.Callee.value (Go.Operand.func 98), args := #[Go.Operand.tmp 38], argTypes := #[156] }, type := 41, pos := "wal.go:111", after := #[{ on := 4, ground := Go.Ground.data }, { on := 2, ground := Go.Ground.chain }, { on := 2, ground := Go.Ground.guard }], guard := some (2, false) }) rfl (fun K hK => ?_) ?_
        rotate_left
        exact AllReadyH.nil
        try go_simp
        (go_at_call 98; (refine (CA.out _).mono ?_); rintro e w4 ⟨rfl, hb4⟩; have HB4 := Lib.hid (kbT H0 hb4); clear hb4)
        try go_wp2_with fail
        refine hK.out _ _ HB4.out (fun H1 => ?_)
        clear hK K
        try simp only [Act.put, List.setIfInBounds_toArray, List.set_cons_zero, List.set_cons_succ]
        refine wpAnyH_take (i := 6) (oi := { dst := some 40, op := Go.Op.binOp Go.BinOp.neq 41 (Go.Operand.tmp 37) (Go.Operand.tmp 39) 41, type := 4, pos := "wal.go:111", after := #[{ on := 3, ground := Go.Ground.data }, { on := 5, ground := Go.Ground.data }, { on := 2, ground := Go.Ground.guard }], guard := some (2, false) }) (v := ?_) rfl (by kernel_rfl) (by kernel_rfl) (by kernel_rfl) (fun _ _ _ h => h) (Or.inl ⟨by rfl, ?_⟩) H1 ?_
        rotate_left
        focus (intro w' hSw; (try dsimp only at hSw); go_simp; (try with_reducible rfl))
        simp only [Act.put, List.setIfInBounds_toArray, List.set_cons_zero, List.set_cons_succ]
        refine wpAnyH_take (i := 7) (oi := { dst := some 41, op := Go.Op.pick (Go.Operand.tmp 36) (Go.Operand.const (Go.Value.bool true)) (Go.Operand.tmp 40), type := 4, pos := "wal.go:111", after := #[{ on := 2, ground := Go.Ground.data }, { on := 6, ground := Go.Ground.data }], guard := none }) (v := ?_) rfl (by kernel_rfl) (by kernel_rfl) (by kernel_rfl) (fun _ _ _ h => h) (Or.inl ⟨by rfl, ?_⟩) H1 ?_
        rotate_left
        focus (intro w' hSw; (try dsimp only at hSw); go_simp; (try with_reducible rfl))
        simp only [Act.put, List.setIfInBounds_toArray, List.set_cons_zero, List.set_cons_succ]
        refine wpAnyH_done (by kernel_rfl) ?_ _
        obtain ⟨s0, s1, s2, s3, s4, s5, s6, s7, s8, s9⟩ := HC7.out _ HB4.out
        clear he1 he2
        go_upto_region 9 with (first
          | (go_at_call 99; go_must (refine (CE.out _ HB4.out).mono ?_); rintro e w5 ⟨rfl, hb5⟩; have HB5 := Lib.hid hb5; have hbx5 := ((kbT HB4.out hb5).block _ (Array.getElem?_eq_some_iff.1 HBX.out).1).trans HBX.out; have g0 := (cell_of_row w5 _ 0 _ _ _ hbx5).trans rfl; have g1 := (cell_of_row w5 _ 1 _ _ _ hbx5).trans rfl; have g2 := (cell_of_row w5 _ 2 _ _ _ hbx5).trans rfl; have y0 : w5.frozen? ⟨w.heap.size, 0, none⟩ = false := frozen_of_row w5 _ 0 _ _ hbx5; have y1 : w5.frozen? ⟨w.heap.size, 1, none⟩ = false := frozen_of_row w5 _ 1 _ _ hbx5; have y2 : w5.frozen? ⟨w.heap.size, 2, none⟩ = false := frozen_of_row w5 _ 2 _ _ hbx5; have HBX5 := Lib.hid hbx5; clear hb5 hbx5 s0 s1 s2 s3 s4 s5 s6 s7 s8 s9)
          | fail)
        obtain ⟨w6, hw6⟩ : ∃ w6, w6 = ((w5.setCell ⟨w.heap.size, 0, none⟩ (.int .u64 E)).setCell ⟨w.heap.size, 1, none⟩ (.int .i64 ((i : Int) + 1))).setCell ⟨w.heap.size, 2, none⟩ (.int .u32 (lkn : Nat)) := ⟨_, rfl⟩
        rw [← hw6]
        obtain ⟨hfr, hbw, hqb, hqn, hqz, hbb, hlkn⟩ := HFR.out
        have hwl := (Array.getElem?_eq_some_iff.1 HJ.out.box).1
        have hblt := (Array.getElem?_eq_some_iff.1 hfr).1
        have hb45 := kbT HB4.out HB5.out
        have ap56 : Dk.Apart (fun g => g = w.heap.size) w5 w6 := by subst hw6; exact apart_set (apart_set (apart_set (apart_one _ _) _ _) _ _) _ _
        have ap6 : Dk.Apart (fun g => g = w.heap.size) wr w6 := apart_trans (Dk.Below.apart (kbT hbw hb45) _) ap56
        have bx6 : w6.heap[w.heap.size]? = some (.cells #[.int .u64 E, .int .i64 ((i : Int) + 1), .int .u32 (lkn : Nat)] 41 (0, 0)) := by subst hw6; exact row_set (row_set (row_set HBX5.out _) _) _
        have fr6 := (ap56.block b (Nat.lt_of_lt_of_le hblt hb45.size) (by omega)).trans ((hb45.block b hblt).trans hfr)
        have q5 := bytesAt_below hqb hb45
        have q6 : BytesAt w6 q2 bsj := bytes_but q5 (fun a ea => ap56.block _ (bytes_lt q5 HBP.out a ea) (by have := hqz a ea; omega))
        have own6 := Dk.ownsRow_kept HJ.out.own (fun j hj => ap6.block j (HJ.out.own.lt j hj).2 (by have := (HJ.out.own.lt j hj).1; omega))
        have HNEXT : Hid (∀ o v' w7, w7.ownsRow (w.heap.size + 1) 156 7 v' (i - cmt l i + 1) (flatC (X.drop (cmt l i)) ++ #[.int .u64 E, .int .i64 (i : Int), .int .i64 (pj : Nat), .bool cmj, .int .i64 (nj : Nat), .int .u32 (lkk : Nat), .slice q2 512 c2].toList) → (w6.alloc o).grownBy w7 (Value.slice ra (i - cmt l i) rc).ownBlock → (∀ j, v'.ownBlock = some j → (Value.slice ra (i - cmt l i) rc).ownBlock = some j ∨ (w6.alloc o).heap.size ≤ j) → LJ w B mb d f pgI S E hn l (i + 1) (cmt l i) (X ++ [fvOf E l i q2 c2]) v' w7 ∧ w7.heap[b]? = some (.cells #[.int .u64 E, .int .i64 (i : Int), .int .i64 (pj : Nat), .bool cmj, .int .i64 (nj : Nat), .int .u32 (lkk : Nat), .slice q2 512 c2] 156 (0, 0))) := Lib.hid fun o v' w7 h1 h2 h3 => by
          refine ⟨HJ.out.more (q := q2) (cq := c2) (apart_alloc ap6 o) (by rw [← hlkn]; exact (Below.heap_alloc _ _ _ (Array.getElem?_eq_some_iff.1 bx6).1).trans bx6) HDT.out.2.2.2.2.2.len (by rw [← HDT.out.2.2.2.2.1]; exact bytesAt_below q6 ((Below.refl _ _).alloc (Nat.le_refl _) _)) hqn hqz (by rw [EFV.out]; exact h1) h2 h3, ?_⟩
          refine (h2.block b (by simp; exact Nat.lt_succ_of_lt (Array.getElem?_eq_some_iff.1 fr6).1) (fun e => by have := (HJ.out.own.lt b e.symm).2; omega)).trans ((Below.heap_alloc _ _ _ (Array.getElem?_eq_some_iff.1 fr6).1).trans fr6)
        have f0 := (cell_of_row w6 _ 0 _ _ _ fr6).trans rfl; have f1 := (cell_of_row w6 _ 1 _ _ _ fr6).trans rfl; have f2 := (cell_of_row w6 _ 2 _ _ _ fr6).trans rfl; have f3 := (cell_of_row w6 _ 3 _ _ _ fr6).trans rfl; have f4 := (cell_of_row w6 _ 4 _ _ _ fr6).trans rfl; have f5 := (cell_of_row w6 _ 5 _ _ _ fr6).trans rfl; have f6 := (cell_of_row w6 _ 6 _ _ _ fr6).trans rfl
        have OWN6 := Lib.hid own6
        have HSZ6 : Hid (w.heap.size + 1 ≤ w6.heap.size) := Lib.hid (Array.getElem?_eq_some_iff.1 bx6).1
        clear hfr hbw hqb hqn hqz hbb hlkn hwl hblt hb45 ap56 ap6 bx6 fr6 q5 q6 own6 hw6 g0 g1 g2 y0 y1 y2
        go_upto_region 10 with (first
          | (at_builtin; (try go_frame); refine wpList_append_fr rfl _ _ rfl rfl (own_allocT OWN6.out _) ⟨w6.heap.size, 0, none⟩ #[.int .u64 E, .int .i64 (i : Int), .int .i64 (pj : Nat), .bool cmj, .int .i64 (nj : Nat), .int .u32 (lkk : Nat), .slice q2 512 c2].toList rfl rfl (news_row w6 _ _) (by simp [Value.oneCell']) (by omega) (by have := HSZ6.out; simp; omega) ?_; intro v' w7 hr7 hg7 hv7; obtain ⟨g7, cp7, rfl⟩ := own_sl hr7 (Nat.succ_pos _); have HN7 := Lib.hid (HNEXT.out _ _ _ hr7 hg7 hv7); have k3 := (cell_of_row w7 _ 3 _ _ _ HN7.out.2).trans rfl; clear hr7 hg7 hv7 f0 f1 f2 f3 f4 f5 f6)
          | fail)
        have hms : ((n : Int) - atI w7 w.heap.size).toNat < ((n : Int) - atI wr w.heap.size).toNat := by
          rw [atI_box HJ.out.box, atI_box HN7.out.1.box]
          omega
        have hle := cmt_le l i
        have he : i - cmt l i + 1 = i + 1 - cmt l i := by omega
        have HMS := Lib.hid hms
        have HE := Lib.hid he
        clear hms hle he
        cases cmj with
        | false =>
          go_wp2_with fail
          go_roundw
          case rel =>
            have hc1 : cmt l (i + 1) = cmt l i := by
              conv => lhs; unfold cmt
              rw [← HDT.out.2.2.1]
              rfl
            exact ⟨i + 1, X ++ [fvOf E l i q2 c2], some ⟨g7, 0, none⟩, cp7, hlt, by rw [hc1, HE.out], Lib.hid (by rw [hc1]; exact HN7.out.1)⟩
          case measure => exact HMS.out
        | true =>
          have CT : Hid (Calls Tryz.prog 80 #[.pointer (some ⟨B, 4, none⟩), .slice (some ⟨g7, 0, none⟩) (i - cmt l i + 1) cp7] w7 fun r w' => r = .returned (.tuple #[]) ∧ LJ w B mb d f pgI S E hn l (i + 1) (i + 1) (X ++ [fvOf E l i q2 c2]) (.slice none 0 0) w') := Lib.hid (by
            have h7 := HN7.out.1
            rw [HE.out] at h7 ⊢
            exact take_lj h7 (by have := HN.out.1; omega) (by have := HN.out.1; omega) HOK.out HN.out.2.2.1 HN.out.2.2.2.1 (cmt_le l i))
          go_wp2_with (first
            | (go_at_call 80; refine CT.out.mono ?_; rintro e w8 ⟨rfl, hj8⟩; have HJ8 := Lib.hid hj8; clear hj8)
            | fail)
          go_roundw
          case rel =>
            have hc1 : cmt l (i + 1) = i + 1 := by
              conv => lhs; unfold cmt
              rw [← HDT.out.2.2.1]
              rfl
            exact ⟨i + 1, X ++ [fvOf E l i q2 c2], none, 0, hlt, by rw [hc1, Nat.sub_self], Lib.hid (by rw [hc1]; exact HJ8.out)⟩
          case measure =>
            rw [atI_box HJ.out.box, atI_box HJ8.out.box]
            clear HMS
            omega
    · obtain rfl : i = n := by omega
      have e : cmt l i = i := by rw [HN.out.1]; exact cmt_all HN.out.2.2.2.2
      have b1 := (cell_of_row wr _ 1 _ _ _ HJ.out.box).trans rfl
      go_wp2
      go_ret
      have h := HJ.out
      rw [e] at h
      exact ⟨rfl, X, _, h⟩
end Go.Proofs.YtdanigigjainjaaGreat
namespace Go.Proofs.YtdanigigjainjaaGreat
open Go.RowKit Go.Shelf

end Go.Proofs.YtdanigigjainjaaGreat
namespace Go.Proofs.YtdanigigjainjaaGreat
open Go.RowKit Go.Shelf
attribute [local go_sem] Oper.semAt_some

theorem goes_below {w w' : World} {d : Value} {s : Dk.DS} {F : Foot} (hR : Dk.RepD w d s F) (hb : Below w.heap.size w w') : Dk.Goes Dk.RepD d s F w w' := ⟨F, rep_below hR hb, fun _ h => .inl h, Dk.Below.apart hb F⟩
theorem read_sound {s : Dk.DS} {f pg S E hn : Nat} {l : List FR} (H : Base s f pg S E hn l) (Bd : Nat) (F : Foot) (W : World) (hR : Dk.RepD W (.pointer (some ⟨Bd, 0, none⟩)) s F) (hF : Dk.Few s) (hl : s.left ≠ 0) (i : Nat) (hi : i < l.length) :
    Calls Tryz.prog 97 #[.agg #[.pointer (some ⟨Bd, 0, none⟩), .int .i64 (f : Int), .int .i64 (pg : Int)], .int .i64 (i : Int)] W fun r w' => ∃ q c, r = .returned (.tuple #[.agg (fvOf E l i q c).cs, .int .i64 0]) ∧ Below W.heap.size W w' ∧ BytesAt w' q (l.getD i FR.zero).bs ∧ (q = none → c = 0) ∧ ∀ a, q = some a → W.heap.size ≤ a.block := by
  have hp := H.plan
  have hlen := H.len
  have hmany := H.many
  have hok := oks_at H.oks hi
  have hpl : planOk (f : Int) (pg : Int) = true := by unfold planOk; simp only [Bool.and_eq_true, decide_eq_true_eq]; omega
  have hpp := hok.p
  have hnn := hok.n
  have hnn2 : (l.getD i FR.zero).n ≤ 2000 := by split at hnn <;> omega
  have hk := lk_lt E l i
  have hx := frame_parts E i (l.getD i FR.zero).p (l.getD i FR.zero).cm (l.getD i FR.zero).n (lk E l i) (l.getD i FR.zero).bs H.num.2 (by omega) (by omega) (by omega) hk
  have hd := (frame_drop E i (l.getD i FR.zero).p (l.getD i FR.zero).cm (l.getD i FR.zero).n (lk E l i) (l.getD i FR.zero).bs).1
  have hsec : ∀ k, Dk.sectorS s k = Dk.lastS s.sync k := fun k => by unfold Dk.sectorS; rw [H.loose, List.append_nil]
  refine (readFrame_ok s _ f pg i F W hR H.whole hF hl hpl (by omega) (by omega) (frL E l i) (frL_length _ _ _ hok.len) (frL_byte hok) (fun j hj => by rw [hsec]; exact H.fr i hi j hj) (frame_is E i _ _ pg hok (by omega) (by omega) H.num.2 hk)).mono ?_
  rintro r w' ⟨q, c, rfl, h1, h2, h3, h4⟩
  obtain ⟨x1, x2, x3, x4, x5, x6⟩ := hx
  unfold frL at h2 ⊢
  rw [x1, x2, x3, x4, x5, x6]
  rw [hd] at h2
  exact ⟨q, c, rfl, h1, h2, h3, h4⟩
/-- What Open answers of a disk that has a log. -/
theorem open_sound (Bd : Nat) (s : Dk.DS) (f pg S E hn : Nat) (l : List FR) (F : Foot) (w : World) (hR : Dk.RepD w (.pointer (some ⟨Bd, 0, none⟩)) s F) (hs : Sound s f pg S E hn l) (hl : s.left ≠ 0) (hlen : s.sync.length + s.loose.length ≤ 18000) :
    Calls Tryz.prog 10 #[.pointer (some ⟨Bd, 0, none⟩), .agg #[.int .i64 (f : Int), .int .i64 (pg : Int)]] w fun r w' => ∃ B F', LogR w' B Bd s f pg S E hn l F' l.length ∧ (∀ k, F' k → F k ∨ w.heap.size ≤ k) ∧ w.heap.size ≤ B ∧ Dk.Apart F w w' ∧ r = .returned (.tuple #[.pointer (some ⟨B, 0, none⟩), .int .i64 0]) := by
  have hp := hs.1.plan
  have hmany := hs.1.many
  have hln := hs.1.len
  have hFl := Dk.diskOk.low _ _ _ _ hR
  have hm1 : 1 ≤ s.many := by omega
  have hpl : planOk (f : Int) (pg : Int) = true := by unfold planOk; simp only [Bool.and_eq_true, decide_eq_true_eq]; omega
  obtain ⟨L0, L1, l0, l1, b0, b1, e0, e1, hbest⟩ := best_sound hs
  refine (open_any (some ⟨Bd, 0, none⟩) f pg (fun e W => e = 0 ∧ ∃ F', LogR W (w.heap.size + 1) Bd s f pg S E hn l F' l.length ∧ (∀ k, F' k → F k ∨ w.heap.size ≤ k) ∧ Dk.Apart F w W) w ?_ ?_).mono ?_
  · intro W g c hb hlg hg
    refine first_open (some ⟨Bd, 0, none⟩) f pg _ (w.heap.size + 1) w W g c hb hg ?_ ?_ ?_
    · exact fun W' h => absent_any s _ f pg F W' (rep_below hR (kbT hb h)) hm1
    · intro W' h
      have := unfit_any s _ f pg F W' (rep_below hR (kbT hb h)) hm1
      have e : unfitE (f : Int) (pg : Int) s.many = 0 := by
        unfold unfitE planE secsE
        rw [if_pos hpl, if_pos hpl, if_pos rfl, if_pos (by omega)]
      rw [e] at this
      exact this
    · intro W' h
      have hbW := kbT hb h
      have hRW := rep_below hR hbW
      have hBF : ¬ F (w.heap.size + 1) := fun h => by have := hFl _ h; omega
      refine (begin_yes s (w.heap.size + 1) ⟨some ⟨Bd, 0, none⟩, f, pg, 0, 0, 0, 0, 0, none⟩ S E hn l.length F (fun e W => e = 0 ∧ ∃ F', LogR W (w.heap.size + 1) Bd s f pg S E hn l F' l.length ∧ (∀ k, F' k → F k ∨ w.heap.size ≤ k) ∧ Dk.Apart F w W) W' (logAt_below hlg h) hBF ?_ ?_)
      · refine (head_good s _ f pg F W' hRW hs.1.whole (Few_of hlen) (by omega) hl L0 L1 l0 l1 b0 b1 e0 e1 S E hn l.length hbest).mono ?_
        rintro e W1 ⟨rfl, hg1⟩
        exact ⟨rfl, goes_below hRW hg1⟩
      · intro w2 mb F2 hl2 hm2' hR2 hF2 hnB hnm hmb ha2
        have hlow2 := Dk.diskOk.low _ _ _ _ hR2
        refine (look_raw (w.heap.size + 1) mb (some ⟨Bd, 0, none⟩) f pg S E hn pg l.length l w2 rfl hl2 hm2' hs.1.num.2 (by omega) (by omega) hs.1.oks hs.1.last ?_ ?_).mono ?_
        · refine (rep_stopped hR2 hm1).mono ?_
          rintro e w3 ⟨rfl, rfl⟩
          rw [decide_eq_false hl]
          exact ⟨rfl, rfl⟩
        · intro i W hi ha
          exact read_sound hs.1 Bd F2 W (Dk.diskOk.keep _ _ _ _ _ hR2 ha.size (fun k hk => ha.block k (hlow2 k hk) (fun e => e.elim (fun e => hnB (e ▸ hk)) (fun e => hnm (e ▸ hk))))) (Few_of hlen) hl i hi
        · rintro e w3 ⟨rfl, X, v, J⟩
          have ha := J.ap
          have hBm : w.heap.size + 1 < w2.heap.size := (Array.getElem?_eq_some_iff.1 hl2).1
          have hmm := hm2'.lt
          have hR3 := Dk.diskOk.keep _ _ _ _ _ hR2 ha.size (fun k hk => ha.block k (hlow2 k hk) (fun e => e.elim (fun e => hnB (e ▸ hk)) (fun e => hnm (e ▸ hk))))
          have hlog := J.log
          have hmap := J.map
          rw [List.take_of_length_le (by rw [J.len]; exact Nat.le_refl _)] at hmap
          rw [List.take_of_length_le (Nat.le_refl _)] at hlog
          have hpg : PagesIn w3 (takeG (fun _ => none) (X.take l.length)) (pageF ([] ++ l.take l.length)) (fun k => w2.heap.size ≤ k ∧ k < w3.heap.size) :=
            pages_next (w := w3) (w' := w3) (g := fun _ => none) (l := []) (m := l) (X0 := fun k => w2.heap.size ≤ k ∧ k < w3.heap.size) (E := E) (i0 := 0) (L := l) (fun p _ => ⟨fun _ => rfl, fun bs h => by cases h⟩) (fun _ _ h _ => h) (fun _ h => h) rfl rfl J.len (fun j x hx => by
              obtain ⟨q, c, e, h0, h1, h2, h3⟩ := J.fr j x hx
              refine ⟨q, c, by rw [Nat.zero_add]; exact e, h1, h2, fun Bx off eq => ?_⟩
              have a1 := (h3 _ eq).1
              have a2 := bytes_lt h1 (by omega) _ eq
              exact ⟨Nat.le_of_lt a1, a2⟩) l.length (Nat.le_refl _)
          rw [List.take_of_length_le (by rw [J.len]; exact Nat.le_refl _), List.take_of_length_le (Nat.le_refl _), List.nil_append] at hpg
          refine ⟨0, rfl, rfl, fun k => k = w.heap.size + 1 ∨ k = mb ∨ F2 k ∨ (w2.heap.size ≤ k ∧ k < w3.heap.size), ⟨mb, F2, fun k => w2.heap.size ≤ k ∧ k < w3.heap.size, takeG (fun _ => none) X, hlog, hR3, hmap, hpg, fun k => Iff.rfl, ⟨hnB, fun h => by omega⟩, ⟨hnm, fun h => by omega⟩, fun k h => ⟨fun hk => by have := hlow2 k hk; omega, h.2⟩⟩, ?_, ?_⟩
          · rintro k (rfl | rfl | h | h)
            · right; omega
            · right; have := hbW.size; omega
            · exact (hF2 k h).imp id (fun h => by have := hbW.size; omega)
            · right; have := hbW.size; have := ha2.size; omega
          · exact ⟨ha.os.trans (ha2.os.trans hbW.os), ha.tape.trans (ha2.tape.trans hbW.tape), ha.output.trans (ha2.output.trans hbW.output), Nat.le_trans hbW.size (Nat.le_trans ha2.size ha.size), fun k hk hn => (ha.block k (Nat.lt_of_lt_of_le hk (Nat.le_trans hbW.size ha2.size)) (fun e => by have := hbW.size; omega)).trans ((ha2.block k (Nat.lt_of_lt_of_le hk hbW.size) (fun h => h.elim hn (fun e => by omega))).trans (hbW.block k hk))⟩
  · rintro e W ⟨-, F', ⟨mb, Fd, X, g, r⟩, -⟩
    have hc := logAt_cells r.log
    exact ⟨hc 0 _ rfl, hc 1 _ rfl, hc 2 _ rfl⟩
  · rintro r W ⟨e, ⟨rfl, F', h1, h2, h3⟩, rfl⟩
    exact ⟨w.heap.size + 1, F', h1, h2, Nat.le_succ _, h3, rfl⟩
/-- .. of a disk that has stopped. -/
theorem open_stop (Bd : Nat) (s : Dk.DS) (f pg : Nat) (F : Foot) (w : World) (hR : Dk.RepD w (.pointer (some ⟨Bd, 0, none⟩)) s F) (hW : Dk.Whole s) (hmany : s.many = 2 + 9 * f + 8 * pg) (hp : 1 ≤ f ∧ f ≤ 2000 ∧ 1 ≤ pg ∧ pg ≤ 2000) (hl : s.left = 0) (hlen : s.sync.length + s.loose.length ≤ 18000) :
    Calls Tryz.prog 10 #[.pointer (some ⟨Bd, 0, none⟩), .agg #[.int .i64 (f : Int), .int .i64 (pg : Int)]] w fun r w' => r = .returned (.tuple #[.pointer none, .int .i64 140]) ∧ Below w.heap.size w w' := by
  have hm1 : 1 ≤ s.many := by omega
  have hpl : planOk (f : Int) (pg : Int) = true := by unfold planOk; simp only [Bool.and_eq_true, decide_eq_true_eq]; omega
  refine (open_any (some ⟨Bd, 0, none⟩) f pg (fun e W => e = 140 ∧ Below w.heap.size w W ∧ LogAt W (w.heap.size + 1) ⟨some ⟨Bd, 0, none⟩, f, pg, 0, 0, 0, 0, 0, none⟩) w ?_ ?_).mono ?_
  · intro W g c hb hlg hg
    refine first_open (some ⟨Bd, 0, none⟩) f pg _ (w.heap.size + 1) w W g c hb hg ?_ ?_ ?_
    · exact fun W' h => absent_any s _ f pg F W' (rep_below hR (kbT hb h)) hm1
    · intro W' h
      have := unfit_any s _ f pg F W' (rep_below hR (kbT hb h)) hm1
      have e : unfitE (f : Int) (pg : Int) s.many = 0 := by
        unfold unfitE planE secsE
        rw [if_pos hpl, if_pos hpl, if_pos rfl, if_pos (by omega)]
      rw [e] at this
      exact this
    · intro W' h
      have hbW := kbT hb h
      have hRW := rep_below hR hbW
      have hL := logAt_below hlg h
      refine (begin_no (w.heap.size + 1) ⟨some ⟨Bd, 0, none⟩, f, pg, 0, 0, 0, 0, 0, none⟩ 0 0 0 0 140 (fun W => Below W'.heap.size W' W) W' hL (by decide) (fun w1 o h => h.alloc h.size o) (head_stop s _ f pg F W' hRW hW (Few_of hlen) (by omega) hl)).mono ?_
      rintro e W2 ⟨rfl, hb2⟩
      exact ⟨140, rfl, rfl, kbT hbW hb2, logAt_below hL hb2⟩
  · rintro e W ⟨-, -, r⟩
    have hc := logAt_cells r
    exact ⟨hc 0 _ rfl, hc 1 _ rfl, hc 2 _ rfl⟩
  · rintro r W ⟨e, ⟨rfl, h1, -⟩, rfl⟩
    exact ⟨rfl, h1⟩
end Go.Proofs.YtdanigigjainjaaGreat
namespace Go.Proofs.YtdanigigjainjaaGreat
open Go.RowKit Go.Shelf
attribute [local go_sem] Oper.semAt_some

def pageRow (c k : Nat) (i : Nat) : Value := if i < k then .int .u8 (c : Int) else .int .u8 0
theorem meas512 (k : Nat) (h : k < 512) : ((512 : Int) - ((k : Int) + 1)).toNat < ((512 : Int) - (k : Int)).toNat := by omega
set_option maxRecDepth 100000 in
set_option maxHeartbeats 3000000 in
theorem num06 (n : Int) (w : World) : Calls Tryz.prog 8 #[.int .i64 n] w fun r w' => r = .returned (.int .i64 n) ∧ w = w' := by
  go_enter Tryz.func8, Tryz.ntmps8
  go_wp2
  go_ret
  exact ⟨rfl, rfl⟩
set_option maxRecDepth 100000 in
set_option maxHeartbeats 3000000 in
theorem page06 (c : Nat) (w : World) : Calls Tryz.prog 37 #[.int .u8 (c : Int)] w fun r w' => r = .returned (.slice (some ⟨w.heap.size, 0, none⟩) 512 512) ∧ RowB w (List.replicate 512 c) (.slice (some ⟨w.heap.size, 0, none⟩) 512 512) w' := by
  have hmk := run_make_row' (P := Tryz.prog) 49 5 (.int .u8 0) 1 Tryz.underlying49 info5 rfl .i64 .i64 512 (by omega) (by omega)
  rw [show ((512 : Nat) : Int) = 512 from rfl] at hmk
  go_enter Tryz.func37, Tryz.ntmps37
  go_wp2
  have R0 : (w.alloc (.cells (madeCells #[.int .u8 0] 512) 5)).rowIs w.heap.size 5 512 (pageRow c 0) := by
    exact (World.rowIs_made w (.int .u8 0) 512 5).congr fun i hi => by unfold pageRow; rw [if_neg (by omega)]
  have B0 : Below w.heap.size w (w.alloc (.cells (madeCells #[.int .u8 0] 512) 5)) := (Below.refl _ _).alloc (Nat.le_refl _) _
  go_loopw [4] (fun i wr => ∃ k : Nat, k ≤ 512 ∧ i = .int .i64 (k : Int) ∧ wr.rowIs w.heap.size 5 512 (pageRow c k) ∧ Below w.heap.size w wr) (fun i _ => (512 - intOf i).toNat)
  case atStart => exact ⟨0, by omega, rfl, R0, B0⟩
  case round =>
    obtain ⟨k, hk, rfl, R, hB⟩ := hrel
    by_cases hlt : k < 512
    · have hltI : (k : Int) < 512 := by omega
      obtain ⟨hc, hfz⟩ : (∃ v, wr.cell? ⟨w.heap.size, k, none⟩ = some v) ∧ wr.frozen? ⟨w.heap.size, k, none⟩ = false := ⟨⟨_, R.cell (i := k) (by omega)⟩, R.frozen k⟩
      obtain ⟨v0, hc⟩ := hc
      have h2 := R.set k (.int .u8 (c : Int))
      have H2 := Lib.hid h2
      have HB := Lib.hid hB
      clear h2 R hB
      go_wp2
      go_roundw
      case rel => exact ⟨k + 1, hlt, by first | rfl | go_num, H2.out.congr fun i hi => (by unfold pageRow; by_cases h : i = k; subst h; simp; by_cases h3 : i < k; simp [h, h3, show i < k + 1 by omega]; simp [h, h3, show ¬ i < k + 1 by omega]), HB.out.setCell (Nat.le_refl _) _⟩
      case measure => exact meas512 k hlt
    · obtain rfl : k = 512 := by omega
      go_wp2
      go_ret
      exact ⟨rfl, rowB_of_is R (by simp) (by unfold maxLen; omega) (fun i hi => by unfold pageRow; rw [if_pos hi, List.getD_eq_getElem?_getD, List.getElem?_replicate, if_pos hi]; rfl) hB⟩
end Go.Proofs.YtdanigigjainjaaGreat
namespace Go.Proofs.YtdanigigjainjaaGreat
open Go.RowKit Go.Shelf
attribute [local go_sem] Oper.semAt_some

theorem pageF_memF (p : Nat) (bs : List Nat) : ∀ (l : List FR) (o : Option (List Nat)), l.foldl (fun o x => if x.p = p then some x.bs else o) o = some bs → o = some bs ∨ ∃ x ∈ l, x.bs = bs
  | [], o, h => .inl h
  | x :: l, o, h => by
    rcases pageF_memF p bs l _ h with h | ⟨y, hy, e⟩
    · dsimp only at h
      by_cases hp : x.p = p
      · rw [if_pos hp] at h
        injection h with h
        exact .inr ⟨x, by simp, h⟩
      · rw [if_neg hp] at h
        exact .inl h
    · exact .inr ⟨y, by simp [hy], e⟩
theorem pageF_mem (l : List FR) (p : Nat) (bs : List Nat) (h : pageF l p = some bs) : ∃ x ∈ l, x.bs = bs := (pageF_memF p bs l none h).resolve_left (by simp)
theorem pageF_ok {pg : Nat} {l : List FR} (h : ∀ x ∈ l, x.Ok pg) {p : Nat} {bs : List Nat} (e : pageF l p = some bs) : bs.length = 512 ∧ ∀ b ∈ bs, b < 256 := by
  obtain ⟨x, hx, rfl⟩ := pageF_mem l p bs e
  exact ⟨(h x hx).len, (h x hx).byte⟩
/-- What is told: the size, and each page's bytes. -/
def toldN (hn : Nat) (l : List FR) : Nat → List Nat
  | 0 => [sizeF hn l]
  | k + 1 => match pageF l k with
    | some bs => toldN hn l k ++ [k] ++ bs
    | none => toldN hn l k
theorem toldN_len {pg : Nat} {hn : Nat} {l : List FR} (h : ∀ x ∈ l, x.Ok pg) : ∀ k, (toldN hn l k).length ≤ 1 + 513 * k
  | 0 => by simp [toldN]
  | k + 1 => by
    have := toldN_len (hn := hn) h k
    unfold toldN
    split
    · rename_i bs e
      have := (pageF_ok h e).1
      simp only [List.length_append, List.length_singleton]
      omega
    · omega
theorem strOf_app (a b : List Nat) : strOf a ++ strOf b = strOf (a ++ b) := by
  unfold strOf
  apply ByteArray.ext
  simp [ByteArray.data_append]
theorem strOf_sz (l : List Nat) : (strOf l).size = l.length := by
  unfold strOf
  show (l.map UInt8.ofNat).toArray.size = _
  simp
theorem conv1 (w : World) (k : Nat) (hk : k < 256) : (convert 49 9 (.slice (some ⟨w.heap.size, 0, none⟩) 1 1)).run Tryz.prog (w.alloc (.cells #[.int .u8 (k : Int)] 5)) = .ok (.string (strOf [k])) (w.alloc (.cells #[.int .u8 (k : Int)] 5)) := by
  refine conv_bytes _ w.heap.size 0 1 1 [k] rfl (fun b hb => by simp at hb; omega) (fun j hj => ?_)
  obtain rfl : j = 0 := by simp at hj; omega
  rw [Nat.zero_add, cell_of_row _ _ 0 _ _ _ (heap_alloc_new w _)]
  rfl
set_option maxRecDepth 100000 in
set_option maxHeartbeats 8000000 in
theorem told06 (B Bd : Nat) (s : Dk.DS) (f pg S E hn : Nat) (l : List FR) (F : Foot) (N : Nat) (w : World) (h : LogR w B Bd s f pg S E hn l F N) (hok : ∀ x ∈ l, x.Ok pg) (hpg : pg ≤ 250) (hsz : sizeF hn l ≤ 250) :
    Calls Tryz.prog 23 #[.pointer (some ⟨B, 0, none⟩), .int .i64 (pg : Int)] w fun r w' => r = .returned (.string (strOf (toldN hn l pg))) ∧ Below w.heap.size w w' := by
  have hkeep : ∀ W, Below w.heap.size w W → LogR W B Bd s f pg S E hn l F N := fun W hb => h.keep hb.size (fun k hk => hb.block k (h.low k hk))
  have CZ := Lib.hid (lsize_any B Bd s f pg S E hn l F N w h)
  have CP : Hid (∀ k W, k < pg → Below w.heap.size w W → Calls Tryz.prog 15 #[.pointer (some ⟨B, 0, none⟩), .int .i64 (k : Int)] W fun r w' => ∃ t, r = .returned (.tuple #[t, .bool (pageF l k).isSome]) ∧ Below W.heap.size W w' ∧ RowB W ((pageF l k).getD []) t w') := Lib.hid fun k W hk hb => page_any B Bd s f pg S E hn l F N k W (hkeep W hb) (by omega) (fun bs e => (pageF_ok hok e).1)
  have HOK := Lib.hid hok
  have hw0 : IntKind.u8.wrap (sizeF hn l : Int) = (sizeF hn l : Int) := by simp [IntKind.wrap, IntKind.signed, IntKind.bits]; omega
  have HS := Lib.hid hsz
  have CV := Lib.hid conv1
  have ht0 : strOf (toldN hn l 0) = strOf [sizeF hn l] := rfl
  have HT0 := Lib.hid ht0
  generalize hsz' : sizeF hn l = z at *
  clear hkeep h hok hsz ht0
  go_enter Tryz.func23, Tryz.ntmps23
  go_wp2_with (first
    | (go_at_call 19; refine CZ.out.mono ?_; rintro e w1 ⟨rfl, hb1⟩; have HB1 := Lib.hid hb1; have cv := CV.out w1 z (by have := HS.out; omega); clear hb1)
    | fail)
  clear cv hw0
  go_loopw [5, 6] (fun s i W => ∃ k : Nat, k ≤ pg ∧ s = .string (strOf (toldN hn l k)) ∧ i = .int .i64 (k : Int) ∧ Hid (Below w.heap.size w W)) (fun _ i _ => ((pg : Int) - intOf i).toNat)
  case atStart => exact ⟨0, Nat.zero_le _, by rw [HT0.out], rfl, Lib.hid (kbT HB1.out ((Below.refl _ _).alloc (Nat.le_refl _) _))⟩
  case round =>
    obtain ⟨k, hk, rfl, rfl, HB⟩ := hrel
    by_cases hlt : k < pg
    · have hltI : (k : Int) < (pg : Int) := by omega
      have CPk := Lib.hid (CP.out k wr hlt HB.out)
      have hms : ((pg : Int) - ((k : Int) + 1)).toNat < ((pg : Int) - (k : Int)).toNat := meas_down pg k hlt
      have HMS := Lib.hid hms
      have hL := toldN_len (hn := hn) HOK.out k
      have hwk : wrap64 ((k : Int) + 1) = (k : Int) + 1 := by unfold wrap64; omega
      clear hms
      rcases hpf : pageF l k with _ | bs
      · rw [hpf] at CPk
        simp only [Option.isSome_none, Option.getD_none] at CPk
        have ht : toldN hn l (k + 1) = toldN hn l k := by
          conv => lhs; unfold toldN
          rw [hpf]
        have HT := Lib.hid ht
        clear ht hL hpf
        obtain ⟨sk, hsk⟩ : ∃ s, s = strOf (toldN hn l k) := ⟨_, rfl⟩
        rw [← hsk]
        have HSK := Lib.hid hsk
        clear hsk
        go_wp2_with (first
          | (go_at_call 15; refine CPk.out.mono ?_; rintro e w2 ⟨t, rfl, hb2, -⟩; have HB2 := Lib.hid (kbT HB.out hb2); clear hb2)
          | fail)
        go_roundw
        case rel => exact ⟨k + 1, hlt, by rw [HT.out, HSK.out], by first | rfl | go_num, HB2⟩
        case measure => exact HMS.out
      · rw [hpf] at CPk
        simp only [Option.isSome_some, Option.getD_some] at CPk
        obtain ⟨hbl, hbb⟩ := pageF_ok HOK.out hpf
        have ht : toldN hn l (k + 1) = toldN hn l k ++ [k] ++ bs := by
          conv => lhs; unfold toldN
          rw [hpf]
        have HT := Lib.hid ht
        have hw0 : IntKind.u8.wrap (k : Int) = (k : Int) := by simp [IntKind.wrap, IntKind.signed, IntKind.bits]; omega
        have CB : Hid (∀ t W0 W, RowB W0 bs t W → ∃ q c, t = .slice q 512 c ∧ ∀ W', Below W.heap.size W W' → (convert 49 9 (.slice q 512 c)).run Tryz.prog W' = .ok (.string (strOf bs)) W') := Lib.hid fun t W0 W hr => by
          obtain ⟨q, c, rfl, -, -, hba, -⟩ := hr.at2
          rw [hbl]
          refine ⟨q, c, rfl, fun W' hb => ?_⟩
          have := conv_later hba hbb hb c
          rw [hbl] at this
          exact this
        obtain ⟨sk, hsk⟩ : ∃ s, s = strOf (toldN hn l k) := ⟨_, rfl⟩
        rw [← hsk]
        obtain ⟨s1, hs1⟩ : ∃ s, s = strOf [k] := ⟨_, rfl⟩
        obtain ⟨s2, hs2⟩ : ∃ s, s = strOf bs := ⟨_, rfl⟩
        have z1 : ¬ 9223372036854775807 < sk.size + s1.size := by rw [hsk, hs1, strOf_sz, strOf_sz]; simp only [List.length_singleton]; omega
        have z2 : ¬ 9223372036854775807 < (sk ++ s1).size + s2.size := by rw [hsk, hs1, hs2, strOf_app, strOf_sz, strOf_sz, hbl]; simp only [List.length_append, List.length_singleton]; omega
        have CV1 := CV
        have HSK := Lib.hid (And.intro hsk (And.intro hs1 hs2))
        clear hsk hs1 hs2 ht hL hpf hbl hbb
        rw [← HSK.out.2.2] at CB
        have CV2 : Hid (∀ w : World, (convert 49 9 (.slice (some ⟨w.heap.size, 0, none⟩) 1 1)).run Tryz.prog (w.alloc (.cells #[.int .u8 (k : Int)] 5)) = .ok (.string s1) (w.alloc (.cells #[.int .u8 (k : Int)] 5))) := Lib.hid fun w => by
          rw [HSK.out.2.1]
          exact CV.out w k (by omega)
        go_wp2_with (first
          | (go_at_call 15; refine CPk.out.mono ?_; rintro e w2 ⟨t, rfl, hb2, hr2⟩; obtain ⟨q2, c2, rfl, hcv⟩ := CB.out _ _ _ hr2; have HB2 := Lib.hid (kbT HB.out hb2); have cv1 := CV2.out w2; have cv2 := hcv _ ((Below.refl w2.heap.size w2).alloc (Nat.le_refl _) (.cells #[.int .u8 (k : Int)] 5)); clear hb2 hr2 hcv)
          | fail)
        go_roundw
        case rel => exact ⟨k + 1, hlt, by rw [HT.out, HSK.out.1, HSK.out.2.1, HSK.out.2.2, strOf_app, strOf_app], by first | rfl | go_num, Lib.hid (kbT HB2.out ((Below.refl _ _).alloc (Nat.le_refl _) _))⟩
        case measure => exact HMS.out
    · obtain rfl : k = pg := by omega
      go_wp2
      go_ret
      exact ⟨rfl, HB.out⟩
end Go.Proofs.YtdanigigjainjaaGreat
namespace Go.Proofs.YtdanigigjainjaaGreat
open Go.RowKit Go.Shelf
attribute [local go_sem] Oper.semAt_some

theorem infoPW : (Tryz.prog.info? 94).map (fun i => (i.zero, i.size, i.bytes)) = some (some (.agg #[.int .i64 0, .slice none 0 0]), 2, 32) := by kernel_rfl
set_option maxRecDepth 100000 in
/-- A row is appended to a slice of rows. -/
theorem run_append_pw {w : World} {base n : Nat} {v : Value} {xs : List Value} (hown : w.ownsRow base 94 2 v n xs) (ty : TypeId) {ad : Addr} {ys : List Value} (hyl : ys.length = 2) (hnews : ∀ (j : Nat) (u : Value), ys[j]? = some u → w.cell? (ad.add j) = some u) (h1 : ∀ u ∈ ys, u.oneCell' = true) (hn : n ≤ 100000) (hbase : base ≤ w.heap.size) :
    ∃ v' w', (Builtin.append_ #[67, 67] ty #[v, .slice (some ad) 1 1]).run Tryz.prog w = .ok v' w' ∧ w'.ownsRow base 94 2 v' (n + 1) (xs ++ ys) ∧ w.grownBy w' v.ownBlock ∧ ∀ j, v'.ownBlock = some j → v.ownBlock = some j ∨ w.heap.size ≤ j := by
  obtain ⟨i, hi, hz0, hz1, hz2⟩ := info_parts infoPW
  have hlen : ys.length = 1 * 2 := by rw [hyl]
  have hown0 := hown
  obtain ⟨hx, hown⟩ := hown
  rcases hown with ⟨rfl, rfl⟩ | ⟨b, cap, cur, rfl, hb, hcur, hncap, hcm, hcs, htake⟩
  · obtain rfl : xs = [] := List.length_eq_zero_iff.1 (by omega)
    obtain ⟨v', w', hrun, r1, r2, -⟩ := run_append_own (P := Tryz.prog) w w.heap.size 67 ty 94 i _ 2 32 Tryz.underlying67 hi hz0 hz1 hz2 rfl (by omega) (.slice none 0 0) 0 [] (World.ownsRow_nil w _ 94 2) ad 1 1 _ hlen hnews h1 (by unfold maxLen; omega) (by omega) (Nat.le_refl _)
    exact ⟨v', w', hrun, Dk.ownsRow_base r1 hbase, Dk.grown_any r2, fun j hj => .inr (Dk.ownsRow_new r1 j hj)⟩
  · by_cases hroom : n + 1 ≤ cap
    · obtain ⟨w', hrun, r1, r2⟩ := run_append_own_spare (P := Tryz.prog) w base 67 ty 94 i 2 Tryz.underlying67 hi hz1 b n cap xs hown0 ad 1 1 _ hlen hnews h1 hroom
      exact ⟨_, w', hrun, r1, r2, fun j hj => .inl hj⟩
    · obtain ⟨v', w', hrun, r1, r2⟩ := run_append_arg_grows (P := Tryz.prog) w 67 ty 94 i _ 2 32 Tryz.underlying67 hi hz0 hz1 hz2 rfl (by omega) ⟨b, 0, none⟩ n cap xs hx (fun j u hu => hown0.cells (g := b) rfl j u hu) ad 1 1 _ hlen hnews (by omega) (by unfold maxLen; omega) (by omega)
      exact ⟨v', w', hrun, Dk.ownsRow_base r1 hbase, Dk.grown_any r2, fun j hj => .inr (Dk.ownsRow_new r1 j hj)⟩
theorem step_append_pw {ops : Array Oper} {o : Oper} {a : Act} {w : World} {K : Act → World → Prop} {Q : Exit → Act → World → Prop} {E : Prop} (hgd : o.guard = none) (s x : Operand)
    (ho : o.op = .call { callee := .builtin .append, args := #[s, x], argTypes := #[67, 67] })
    {base n : Nat} {v : Value} {xs : List Value} (hs : a.eval s = v) (hown : w.ownsRow base 94 2 v n xs) (ad : Addr) (ys : List Value) (hx : a.eval x = .slice (some ad) 1 1) (hyl : ys.length = 2) (hnews : ∀ (j : Nat) (u : Value), ys[j]? = some u → w.cell? (ad.add j) = some u) (h1 : ∀ u ∈ ys, u.oneCell' = true) (hn : n ≤ 100000) (hbase : base ≤ w.heap.size)
    (h : ∀ v' w', w'.ownsRow base 94 2 v' (n + 1) (xs ++ ys) → w.grownBy w' v.ownBlock → (∀ j, v'.ownBlock = some j → v.ownBlock = some j ∨ w.heap.size ≤ j) → K (a.put o.dst v') w') : if Region.wanted o (yielded ops a.tmps) = true then Oper.wp Tryz.prog o a w K Q else E := by
  rw [if_pos (by simp [Region.wanted, hgd])]
  obtain ⟨v', w', hrun, r1, r2, r3⟩ := run_append_pw hown o.type hyl hnews h1 hn hbase
  unfold Oper.wp
  simp [execOp, ho, resolve, invoke, builtin, hs, hx, hrun, Result.andThen]
  exact h v' w' r1 r2 r3
abbrev pwRow (y : Int × Option Addr × Nat) : List Value := [.int .i64 y.1, .slice y.2.1 512 y.2.2]
def flatPW (Y : List (Int × Option Addr × Nat)) : List Value := (Y.map pwRow).flatten
theorem flatPW_snoc (Y : List (Int × Option Addr × Nat)) (y : Int × Option Addr × Nat) : flatPW (Y ++ [y]) = flatPW Y ++ pwRow y := by simp [flatPW]
theorem flatPW_at : ∀ (X : List (Int × Option Addr × Nat)) (j r : Nat) (x : Int × Option Addr × Nat) (v : Value), X[j]? = some x → (pwRow x)[r]? = some v → (flatPW X)[2 * j + r]? = some v
  | [], j, r, x, v, h, _ => by simp at h
  | y :: X, 0, r, x, v, h, hv => by
    simp only [List.getElem?_cons_zero, Option.some.injEq] at h
    subst h
    have hr : r < 2 := (List.getElem?_eq_some_iff.1 hv).1
    unfold flatPW
    rw [List.map_cons, List.flatten_cons, List.getElem?_append_left (by simp; omega)]
    simpa using hv
  | y :: X, j + 1, r, x, v, h, hv => by
    rw [List.getElem?_cons_succ] at h
    have ih := flatPW_at X j r x v h hv
    unfold flatPW at ih ⊢
    rw [List.map_cons, List.flatten_cons, List.getElem?_append_right (by simp; omega), ← ih]
    congr 1
    simp
    omega
/-- Pages that were made for a write, so many. -/
structure PwJ (w : World) (ps : Nat → Int) (cs : Nat → Nat) (k : Nat) (Y : List (Int × Option Addr × Nat)) (v : Value) (W : World) : Prop where
  hb : Below w.heap.size w W
  len : Y.length = k
  own : W.ownsRow w.heap.size 94 2 v k (flatPW Y)
  fr : ∀ (j : Nat) (y : Int × Option Addr × Nat), Y[j]? = some y → y.1 = ps j ∧ ByteBlk W w.heap.size y.2.1 (List.replicate 512 (cs j))
theorem ByteBlk.grownT {W W' : World} {base b0 n sz : Nat} {e : TypeId} {q : Option Addr} {l : List Nat} {v : Value} {xs : List Value} (h : ByteBlk W base q l) (ho : W.ownsRow b0 e sz v n xs) (he : 5 ≠ e) (hg : W.grownBy W' v.ownBlock) : ByteBlk W' base q l := by
  obtain ⟨g, cur, e', h1, h2, h3⟩ := h
  exact ⟨g, cur, e', h1, (hg.block g (Array.getElem?_eq_some_iff.1 h2).1 (own_type ho h2 he)).trans h2, h3⟩
theorem PwJ.below {w : World} {ps : Nat → Int} {cs : Nat → Nat} {k : Nat} {Y : List (Int × Option Addr × Nat)} {v : Value} {W W' : World} (h : PwJ w ps cs k Y v W) (hb : Below W.heap.size W W') : PwJ w ps cs k Y v W' :=
  ⟨kbT h.hb hb, h.len, own_belowT h.own hb, fun j y hy => ⟨(h.fr j y hy).1, (h.fr j y hy).2.below hb⟩⟩
theorem PwJ.more {w : World} {ps : Nat → Int} {cs : Nat → Nat} {k : Nat} {Y : List (Int × Option Addr × Nat)} {v v' : Value} {W W' : World} {q : Option Addr} {c : Nat} (h : PwJ w ps cs k Y v W) (hq : ByteBlk W w.heap.size q (List.replicate 512 (cs k))) (ho : W'.ownsRow w.heap.size 94 2 v' (k + 1) (flatPW Y ++ pwRow (ps k, q, c))) (hg : W.grownBy W' v.ownBlock) : PwJ w ps cs (k + 1) (Y ++ [(ps k, q, c)]) v' W' := by
  refine ⟨h.hb.grown hg h.hb.size (fun j hj => (h.own.lt j hj).1), by rw [List.length_append, h.len]; rfl, by rw [flatPW_snoc]; exact ho, fun j y hy => ?_⟩
  rcases Nat.lt_or_ge j Y.length with hj | hj
  · rw [List.getElem?_append_left hj] at hy
    exact ⟨(h.fr j y hy).1, (h.fr j y hy).2.grownT h.own (by decide) hg⟩
  · rw [List.getElem?_append_right hj] at hy
    have h0 : j - Y.length = 0 := by
      have := (List.getElem?_eq_some_iff.1 hy).1
      simp at this
      omega
    rw [h0] at hy
    simp only [List.getElem?_cons_zero, Option.some.injEq] at hy
    subst hy
    obtain rfl : j = k := by have := h.len; omega
    exact ⟨rfl, hq.grownT h.own (by decide) hg⟩
theorem PwJ.grownA {w : World} {ps : Nat → Int} {cs : Nat → Nat} {k : Nat} {Y : List (Int × Option Addr × Nat)} {v : Value} {W W' : World} (h : PwJ w ps cs k Y v W) (hg : W.grownBy W' v.ownBlock) : Dk.Apart (fun j => w.heap.size ≤ j) W W' := ⟨hg.os, hg.tape, hg.output, hg.size, fun k hk hn => hg.block k hk (fun e => hn (h.own.lt k e.symm).1)⟩
/-- Rows that a write has. -/
def PwAt (w : World) (q : Option Addr) (n : Nat) (ps : Nat → Int) (cs : Nat → Nat) : Prop := ∀ j, j < n → ∃ Bw off qj cj, q = some ⟨Bw, off, none⟩ ∧ w.cell? ⟨Bw, off + j * 2, none⟩ = some (.int .i64 (ps j)) ∧ w.cell? ⟨Bw, off + j * 2 + 1, none⟩ = some (.slice qj 512 cj) ∧ BytesAt w qj (List.replicate 512 (cs j))
theorem PwJ.at' {w : World} {ps : Nat → Int} {cs : Nat → Nat} {k : Nat} {Y : List (Int × Option Addr × Nat)} {q : Option Addr} {c : Nat} {W : World} (h : PwJ w ps cs k Y (.slice q k c) W) : PwAt W q k ps cs := fun j hj => by
  have hlt : j < Y.length := by rw [h.len]; exact hj
  obtain ⟨y, hy⟩ : ∃ y, Y[j]? = some y := ⟨_, List.getElem?_eq_getElem hlt⟩
  obtain ⟨e, hbk⟩ := h.fr j y hy
  rcases h.own.2 with ⟨e2, h0⟩ | ⟨g, cap, cur, e2, -, -⟩
  · omega
  · injection e2 with e1 e2 e3
    subst e1
    have c0 := h.own.cells (g := g) rfl _ _ (flatPW_at Y j 0 y _ hy rfl)
    have c1 := h.own.cells (g := g) rfl _ _ (flatPW_at Y j 1 y _ hy rfl)
    rw [addr_plain, Nat.zero_add] at c0 c1
    rw [Nat.mul_comm 2 j] at c0 c1
    refine ⟨g, 0, y.2.1, y.2.2, rfl, ?_, ?_, hbk.at'⟩
    · rw [Nat.zero_add, ← e]
      exact c0
    · rw [Nat.zero_add]
      exact c1
theorem PwJ.start (w : World) (ps : Nat → Int) (cs : Nat → Nat) : PwJ w ps cs 0 [] (.slice none 0 0) w := ⟨Below.refl _ _, rfl, ⟨rfl, .inl ⟨rfl, rfl⟩⟩, fun j y h => by simp at h⟩
/-- Numbers in a slice. -/
def NumRow (w : World) (q : Option Addr) (n : Nat) (ps : Nat → Int) : Prop := ∀ j, j < n → ∃ Bp off, q = some ⟨Bp, off, none⟩ ∧ w.cell? ⟨Bp, off + j, none⟩ = some (.int .i64 (ps j))
def OctRow (w : World) (q : Option Addr) (n : Nat) (bs : Nat → Nat) : Prop := ∀ j, j < n → ∃ Bp off, q = some ⟨Bp, off, none⟩ ∧ w.cell? ⟨Bp, off + j, none⟩ = some (.int .u8 (bs j : Nat))
set_option maxRecDepth 100000 in
set_option maxHeartbeats 8000000 in
theorem writes06 (wh sz : Int) (q1 q2 : Option Addr) (n1 c1 n2 c2 : Nat) (z3 : Value) (ps : Nat → Int) (bs : Nat → Nat) (w : World) (h1 : NumRow w q1 n1 ps) (h2 : OctRow w q2 n2 bs) (hn1 : n1 ≤ 1000) (hn2 : n2 ≤ 9223372036854775807) :
    Calls Tryz.prog 22 #[.agg #[.int .i64 wh, .int .i64 sz, .slice q1 n1 c1, .slice q2 n2 c2, z3]] w fun r w' => ∃ q c, r = .returned (.slice q n1 c) ∧ Below w.heap.size w w' ∧ PwAt w' q n1 ps (fun j => if j < n2 then bs j else 0) := by
  have H1 := Lib.hid h1
  have H2 := Lib.hid h2
  obtain ⟨w0, hw0⟩ : ∃ w0, w0 = w.alloc (.cells #[.int .i64 wh, .int .i64 sz, .slice q1 n1 c1, .slice q2 n2 c2, z3] 66) := ⟨_, rfl⟩
  have hbx : w0.heap[w.heap.size]? = some (.cells #[.int .i64 wh, .int .i64 sz, .slice q1 n1 c1, .slice q2 n2 c2, z3] 66 (0, 0)) := by subst hw0; exact heap_alloc_new _ _
  have hb0 : Below w.heap.size w w0 := by subst hw0; exact (Below.refl _ _).alloc (Nat.le_refl _) _
  have HB0 := Lib.hid (And.intro hb0 hbx)
  clear h1 h2 hb0 hbx
  go_enter Tryz.func22, Tryz.ntmps22
  go_wp2
  rw [← hw0]
  clear hw0
  go_loopw [3, 4] (fun v i W => ∃ (k : Nat) (Y : List (Int × Option Addr × Nat)) (ra : Option Addr) (rc : Nat), k ≤ n1 ∧ v = .slice ra k rc ∧ i = .int .i64 (k : Int) ∧ Hid (PwJ w0 ps (fun j => if j < n2 then bs j else 0) k Y (.slice ra k rc) W)) (fun _ i _ => ((n1 : Int) - intOf i).toNat)
  case atStart => exact ⟨0, [], none, 0, Nat.zero_le _, rfl, rfl, Lib.hid (PwJ.start _ _ _)⟩
  case round =>
    obtain ⟨k, Y, ra, rc, hk, rfl, rfl, HJ⟩ := hrel
    have hbx := (HJ.out.hb.block _ (Array.getElem?_eq_some_iff.1 HB0.out.2).1).trans HB0.out.2
    have x2 := (cell_of_row wr _ 2 _ _ _ hbx).trans rfl
    have x3 := (cell_of_row wr _ 3 _ _ _ hbx).trans rfl
    by_cases hlt : k < n1
    · have hltI : (k : Int) < (n1 : Int) := by omega
      have hms : ((n1 : Int) - ((k : Int) + 1)).toNat < ((n1 : Int) - (k : Int)).toNat := meas_down n1 k hlt
      have HMS := Lib.hid hms
      clear hms
      obtain ⟨Bp, off, rfl, hp⟩ := H1.out k hlt
      have hb0w := kbT HB0.out.1 HJ.out.hb
      have p0 := (hb0w.cell (lt_of_cell_some hp)).trans hp
      have HC : Hid (∀ w', Dk.Apart (fun j => w0.heap.size ≤ j) wr w' → w'.cell? ⟨w.heap.size, 2, none⟩ = some (.slice (some ⟨Bp, off, none⟩) n1 c1) ∧ w'.cell? ⟨Bp, off + k, none⟩ = some (.int .i64 (ps k))) := Lib.hid fun w' hb => ⟨(World.cell?_of_block (a := ⟨w.heap.size, 2, none⟩) (hb.block _ (lt_of_cell_some x2) (fun e => by have := (Array.getElem?_eq_some_iff.1 HB0.out.2).1; simp only at e; omega))).trans x2, (World.cell?_of_block (a := ⟨Bp, off + k, none⟩) (hb.block _ (lt_of_cell_some p0) (fun e => by have h1 := lt_of_cell_some hp; have := HB0.out.1.size; simp only at e h1; omega))).trans p0⟩
      have hwk : wrap64 ((k : Int) + 1) = (k : Int) + 1 := by unfold wrap64; omega
      by_cases h2 : k < n2
      · have h2I : (k : Int) < (n2 : Int) := by omega
        obtain ⟨Bq, oq, rfl, hq⟩ := H2.out k h2
        have q0 := (hb0w.cell (lt_of_cell_some hq)).trans hq
        have hcs : (fun j => if j < n2 then bs j else 0) k = bs k := if_pos h2
        have CPg : Hid (∀ W, Calls Tryz.prog 37 #[.int .u8 (bs k : Nat)] W fun r w' => ∃ g, r = .returned (.slice (some ⟨g, 0, none⟩) 512 512) ∧ Below W.heap.size W w' ∧ ByteBlk w' W.heap.size (some ⟨g, 0, none⟩) (List.replicate 512 ((fun j => if j < n2 then bs j else 0) k))) := Lib.hid fun W => by
          rw [hcs]
          refine (page06 (bs k) W).mono ?_
          rintro r w' ⟨rfl, h⟩
          exact ⟨_, rfl, h.2, ByteBlk.of h (by simp)⟩
        have hcs' := Lib.hid hcs
        clear hp hq hb0w hcs p0
        go_upto_region 8 with fail
        clear x2 x3 q0
        refine wp_region_held_drew (S := fun w' => Dk.Apart (fun j => w0.heap.size ≤ j) wr w') (by kernel_rfl) (Dk.Below.apart ((Below.refl _ _).drew) _) (fun H0 => ?_)
        refine wpAnyH_take (i := 0) (oi := { dst := some 23, op := Go.Op.move (Go.Operand.tmp 3), type := 67, pos := "law.go:56", after := #[], guard := none }) (v := ?_) rfl (by kernel_rfl) (by kernel_rfl) (by kernel_rfl) (fun _ _ _ h => h) (Or.inl ⟨by rfl, ?_⟩) H0 ?_
        rotate_left
        focus (intro w' hSw; (try dsimp only at hSw); go_simp; (try with_reducible rfl))
        simp only [Act.put, List.setIfInBounds_toArray, List.set_cons_zero, List.set_cons_succ]
        refine wpAnyH_take (i := 1) (oi := { dst := some 24, op := Go.Op.fieldAddr 66 (Go.Operand.tmp 1) 2, type := 0, pos := "law.go:56", after := #[], guard := none }) (v := ?_) rfl (by kernel_rfl) (by kernel_rfl) (by kernel_rfl) (fun _ _ _ h => h) (Or.inl ⟨by rfl, ?_⟩) H0 ?_
        rotate_left
        focus (intro w' hSw; (try dsimp only at hSw); go_simp; (try with_reducible rfl))
        simp only [Act.put, List.setIfInBounds_toArray, List.set_cons_zero, List.set_cons_succ]
        refine wpAnyH_take (i := 2) (oi := { dst := some 25, op := Go.Op.load 63 (Go.Operand.tmp 24), type := 63, pos := "law.go:56", after := #[{ on := 1, ground := Go.Ground.data }], guard := none }) (v := ?_) rfl (by kernel_rfl) (by kernel_rfl) (by kernel_rfl) (fun _ _ _ h => h) (Or.inl ⟨by rfl, ?_⟩) H0 ?_
        rotate_left
        focus (intro w' hSw; (try dsimp only at hSw); obtain ⟨s0, s1⟩ := HC.out _ hSw; go_simp; (try with_reducible rfl))
        simp only [Act.put, List.setIfInBounds_toArray, List.set_cons_zero, List.set_cons_succ]
        refine wpAnyH_take (i := 3) (oi := { dst := some 26, op := Go.Op.move (Go.Operand.tmp 4), type := 3, pos := "law.go:56", after := #[], guard := none }) (v := ?_) rfl (by kernel_rfl) (by kernel_rfl) (by kernel_rfl) (fun _ _ _ h => h) (Or.inl ⟨by rfl, ?_⟩) H0 ?_
        rotate_left
        focus (intro w' hSw; (try dsimp only at hSw); go_simp; (try with_reducible rfl))
        simp only [Act.put, List.setIfInBounds_toArray, List.set_cons_zero, List.set_cons_succ]
        refine wpAnyH_take (i := 4) (oi := { dst := some 27, op := Go.Op.indexAddr 63 (Go.Operand.tmp 25) (Go.Operand.tmp 26), type := 0, pos := "law.go:56", after := #[{ on := 2, ground := Go.Ground.data }, { on := 3, ground := Go.Ground.data }], guard := none }) (v := ?_) rfl (by kernel_rfl) (by kernel_rfl) (by kernel_rfl) (fun _ _ _ h => h) (Or.inl ⟨by rfl, ?_⟩) H0 ?_
        rotate_left
        focus (intro w' hSw; (try dsimp only at hSw); go_simp; (try with_reducible rfl))
        simp only [Act.put, List.setIfInBounds_toArray, List.set_cons_zero, List.set_cons_succ]
        refine wpAnyH_take (i := 5) (oi := { dst := some 28, op := Go.Op.load 3 (Go.Operand.tmp 27), type := 3, pos := "law.go:56", after := #[{ on := 4, ground := Go.Ground.data }], guard := none }) (v := ?_) rfl (by kernel_rfl) (by kernel_rfl) (by kernel_rfl) (fun _ _ _ h => h) (Or.inl ⟨by rfl, ?_⟩) H0 ?_
        rotate_left
        focus (intro w' hSw; (try dsimp only at hSw); obtain ⟨s0, s1⟩ := HC.out _ hSw; go_simp; (try with_reducible rfl))
        simp only [Act.put, List.setIfInBounds_toArray, List.set_cons_zero, List.set_cons_succ]
        refine wpAnyH_take (i := 6) (oi := { dst := some 29, op := Go.Op.move (Go.Operand.tmp 5), type := 5, pos := "law.go:56", after := #[], guard := none }) (v := ?_) rfl (by kernel_rfl) (by kernel_rfl) (by kernel_rfl) (fun _ _ _ h => h) (Or.inl ⟨by rfl, ?_⟩) H0 ?_
        rotate_left
        focus (intro w' hSw; (try dsimp only at hSw); go_simp; (try with_reducible rfl))
        simp only [Act.put, List.setIfInBounds_toArray, List.set_cons_zero, List.set_cons_succ]
        refine wpAnyH_ready (rs := [7]) (by kernel_rfl) (by simp) ?_
        refine AllReadyH.cons (o := { dst := some 30, op := Go.Op.call { callee := Go.Callee.value (Go.Operand.func 37), args := #[Go.Operand.tmp 29], argTypes := #[5] }, type := 49, pos := "law.go:56", after := #[{ on := 6, ground := Go.Ground.data }], guard := none }) rfl (fun K hK => ?_) ?_
        rotate_left
        exact AllReadyH.nil
        try go_simp
        (go_at_call 37; (refine (CPg.out _).mono ?_); rintro e w4 ⟨g4, rfl, hb4, hk4⟩; have HB4 := Lib.hid (kbD hb4); have HK4 := Lib.hid hk4; clear hb4 hk4)
        try go_wp2_with fail
        refine hK.out _ _ (Dk.Below.apart HB4.out _) (fun H1 => ?_)
        clear hK K
        try simp only [Act.put, List.setIfInBounds_toArray, List.set_cons_zero, List.set_cons_succ]
        refine wpAnyH_take (i := 8) (oi := { dst := some 31, op := Go.Op.build 94 #[(0, Go.Operand.tmp 28), (1, Go.Operand.tmp 30)], type := 94, pos := "law.go:56", after := #[{ on := 5, ground := Go.Ground.data }, { on := 7, ground := Go.Ground.data }], guard := none }) (v := ?_) rfl (by kernel_rfl) (by kernel_rfl) (by kernel_rfl) (fun _ _ _ h => h) (Or.inl ⟨by rfl, ?_⟩) H1 ?_
        rotate_left
        focus (intro w' hSw; (try dsimp only at hSw); go_simp; (try with_reducible rfl))
        simp only [Act.put, List.setIfInBounds_toArray, List.set_cons_zero, List.set_cons_succ]
        have HK5 := Lib.hid ((HK4.out.below ((Below.refl _ _).alloc (Nat.le_refl _) (.cells (pwRow (ps k, some ⟨g4, 0, none⟩, 512)).toArray 94))).mono (b2 := w0.heap.size) (by have := HJ.out.hb.size; first | omega | (simp; omega)))
        have HJ4 := Lib.hid ((HJ.out.below HB4.out).below ((Below.refl _ _).alloc (Nat.le_refl _) (.cells (pwRow (ps k, some ⟨g4, 0, none⟩, 512)).toArray 94)))
        refine wpAnyH_ready (rs := [9]) (by kernel_rfl) (by simp) ?_
        refine AllReadyH.cons (o := { dst := some 32, op := Go.Op.buildSlice 67 1 #[(0, Go.Operand.tmp 31)], type := 67, pos := "law.go:56", after := #[{ on := 8, ground := Go.Ground.data }], guard := none }) rfl (fun K hK => ?_) ?_
        rotate_left
        exact AllReadyH.nil
        try go_simp
        refine hK.out _ _ (apart_alloc (Dk.Below.apart HB4.out _) _) (fun H2 => ?_)
        clear hK K
        try simp only [Act.put, List.setIfInBounds_toArray, List.set_cons_zero, List.set_cons_succ]
        refine wpAnyH_ready (rs := [10]) (by kernel_rfl) (by simp) ?_
        refine AllReadyH.cons (o := { dst := some 33, op := Go.Op.call { callee := Go.Callee.builtin Go.Builtin.append, args := #[Go.Operand.tmp 23, Go.Operand.tmp 32], argTypes := #[67, 67] }, type := 67, pos := "law.go:56", after := #[{ on := 0, ground := Go.Ground.data }, { on := 9, ground := Go.Ground.data }, { on := 7, ground := Go.Ground.chain }], guard := none }) rfl (fun K hK => ?_) ?_
        rotate_left
        exact AllReadyH.nil
        refine step_append_pw rfl (.tmp 23) (.tmp 32) rfl rfl HJ4.out.own ⟨w4.heap.size, 0, none⟩ (pwRow (ps k, some ⟨g4, 0, none⟩, 512)) rfl rfl (news_row w4 _ _) (by simp [Value.oneCell']) (by omega) (by have := HJ4.out.hb.size; exact this) ?_
        intro v' w5 ho5 hg5 hv5
        have HJ5 := Lib.hid (HJ4.out.more HK5.out ho5 hg5)
        obtain ⟨g5, c5, rfl⟩ := own_sl ho5 (Nat.succ_pos _)
        refine hK.out _ _ (apart_trans (apart_alloc (Dk.Below.apart HB4.out _) _) (HJ4.out.grownA hg5)) (fun H3 => ?_)
        clear hK K ho5 hg5 hv5
        try simp only [Act.put, List.setIfInBounds_toArray, List.set_cons_zero, List.set_cons_succ]
        refine wpAnyH_take (i := 11) (oi := { dst := some 3, op := Go.Op.assign (Go.Operand.tmp 33), type := 67, pos := "law.go:56", after := #[{ on := 10, ground := Go.Ground.data }, { on := 10, ground := Go.Ground.chain }, { on := 0, ground := Go.Ground.phase }, { on := 1, ground := Go.Ground.phase }, { on := 2, ground := Go.Ground.phase }, { on := 3, ground := Go.Ground.phase }, { on := 4, ground := Go.Ground.phase }, { on := 5, ground := Go.Ground.phase }, { on := 6, ground := Go.Ground.phase }, { on := 7, ground := Go.Ground.phase }, { on := 8, ground := Go.Ground.phase }, { on := 9, ground := Go.Ground.phase }, { on := 10, ground := Go.Ground.phase }], guard := none }) (v := ?_) rfl (by kernel_rfl) (by kernel_rfl) (by kernel_rfl) (fun _ _ _ h => h) (Or.inl ⟨by rfl, ?_⟩) H3 ?_
        rotate_left
        focus (intro w' hSw; (try dsimp only at hSw); go_simp; (try with_reducible rfl))
        simp only [Act.put, List.setIfInBounds_toArray, List.set_cons_zero, List.set_cons_succ]
        refine wpAnyH_done (by kernel_rfl) ?_ _
        go_wp2_with fail
        go_roundw
        case rel => exact ⟨k + 1, _, some ⟨g5, 0, none⟩, c5, hlt, rfl, by first | rfl | go_num, HJ5⟩
        case measure => exact HMS.out
      · have h2I : ¬ (k : Int) < (n2 : Int) := by omega
        have hcs : (fun j => if j < n2 then bs j else 0) k = 0 := if_neg h2
        have CPg : Hid (∀ W, Calls Tryz.prog 37 #[.int .u8 0] W fun r w' => ∃ g, r = .returned (.slice (some ⟨g, 0, none⟩) 512 512) ∧ Below W.heap.size W w' ∧ ByteBlk w' W.heap.size (some ⟨g, 0, none⟩) (List.replicate 512 ((fun j => if j < n2 then bs j else 0) k))) := Lib.hid fun W => by
          rw [hcs]
          refine (page06 0 W).mono ?_
          rintro r w' ⟨rfl, h⟩
          exact ⟨_, rfl, h.2, ByteBlk.of h (by simp)⟩
        have hcs' := Lib.hid hcs
        clear hp hb0w hcs p0
        go_upto_region 8 with fail
        clear x2 x3
        refine wp_region_held_drew (S := fun w' => Dk.Apart (fun j => w0.heap.size ≤ j) wr w') (by kernel_rfl) (Dk.Below.apart ((Below.refl _ _).drew) _) (fun H0 => ?_)
        refine wpAnyH_take (i := 0) (oi := { dst := some 23, op := Go.Op.move (Go.Operand.tmp 3), type := 67, pos := "law.go:56", after := #[], guard := none }) (v := ?_) rfl (by kernel_rfl) (by kernel_rfl) (by kernel_rfl) (fun _ _ _ h => h) (Or.inl ⟨by rfl, ?_⟩) H0 ?_
        rotate_left
        focus (intro w' hSw; (try dsimp only at hSw); go_simp; (try with_reducible rfl))
        simp only [Act.put, List.setIfInBounds_toArray, List.set_cons_zero, List.set_cons_succ]
        refine wpAnyH_take (i := 1) (oi := { dst := some 24, op := Go.Op.fieldAddr 66 (Go.Operand.tmp 1) 2, type := 0, pos := "law.go:56", after := #[], guard := none }) (v := ?_) rfl (by kernel_rfl) (by kernel_rfl) (by kernel_rfl) (fun _ _ _ h => h) (Or.inl ⟨by rfl, ?_⟩) H0 ?_
        rotate_left
        focus (intro w' hSw; (try dsimp only at hSw); go_simp; (try with_reducible rfl))
        simp only [Act.put, List.setIfInBounds_toArray, List.set_cons_zero, List.set_cons_succ]
        refine wpAnyH_take (i := 2) (oi := { dst := some 25, op := Go.Op.load 63 (Go.Operand.tmp 24), type := 63, pos := "law.go:56", after := #[{ on := 1, ground := Go.Ground.data }], guard := none }) (v := ?_) rfl (by kernel_rfl) (by kernel_rfl) (by kernel_rfl) (fun _ _ _ h => h) (Or.inl ⟨by rfl, ?_⟩) H0 ?_
        rotate_left
        focus (intro w' hSw; (try dsimp only at hSw); obtain ⟨s0, s1⟩ := HC.out _ hSw; go_simp; (try with_reducible rfl))
        simp only [Act.put, List.setIfInBounds_toArray, List.set_cons_zero, List.set_cons_succ]
        refine wpAnyH_take (i := 3) (oi := { dst := some 26, op := Go.Op.move (Go.Operand.tmp 4), type := 3, pos := "law.go:56", after := #[], guard := none }) (v := ?_) rfl (by kernel_rfl) (by kernel_rfl) (by kernel_rfl) (fun _ _ _ h => h) (Or.inl ⟨by rfl, ?_⟩) H0 ?_
        rotate_left
        focus (intro w' hSw; (try dsimp only at hSw); go_simp; (try with_reducible rfl))
        simp only [Act.put, List.setIfInBounds_toArray, List.set_cons_zero, List.set_cons_succ]
        refine wpAnyH_take (i := 4) (oi := { dst := some 27, op := Go.Op.indexAddr 63 (Go.Operand.tmp 25) (Go.Operand.tmp 26), type := 0, pos := "law.go:56", after := #[{ on := 2, ground := Go.Ground.data }, { on := 3, ground := Go.Ground.data }], guard := none }) (v := ?_) rfl (by kernel_rfl) (by kernel_rfl) (by kernel_rfl) (fun _ _ _ h => h) (Or.inl ⟨by rfl, ?_⟩) H0 ?_
        rotate_left
        focus (intro w' hSw; (try dsimp only at hSw); go_simp; (try with_reducible rfl))
        simp only [Act.put, List.setIfInBounds_toArray, List.set_cons_zero, List.set_cons_succ]
        refine wpAnyH_take (i := 5) (oi := { dst := some 28, op := Go.Op.load 3 (Go.Operand.tmp 27), type := 3, pos := "law.go:56", after := #[{ on := 4, ground := Go.Ground.data }], guard := none }) (v := ?_) rfl (by kernel_rfl) (by kernel_rfl) (by kernel_rfl) (fun _ _ _ h => h) (Or.inl ⟨by rfl, ?_⟩) H0 ?_
        rotate_left
        focus (intro w' hSw; (try dsimp only at hSw); obtain ⟨s0, s1⟩ := HC.out _ hSw; go_simp; (try with_reducible rfl))
        simp only [Act.put, List.setIfInBounds_toArray, List.set_cons_zero, List.set_cons_succ]
        refine wpAnyH_take (i := 6) (oi := { dst := some 29, op := Go.Op.move (Go.Operand.tmp 5), type := 5, pos := "law.go:56", after := #[], guard := none }) (v := ?_) rfl (by kernel_rfl) (by kernel_rfl) (by kernel_rfl) (fun _ _ _ h => h) (Or.inl ⟨by rfl, ?_⟩) H0 ?_
        rotate_left
        focus (intro w' hSw; (try dsimp only at hSw); go_simp; (try with_reducible rfl))
        simp only [Act.put, List.setIfInBounds_toArray, List.set_cons_zero, List.set_cons_succ]
        refine wpAnyH_ready (rs := [7]) (by kernel_rfl) (by simp) ?_
        refine AllReadyH.cons (o := { dst := some 30, op := Go.Op.call { callee := Go.Callee.value (Go.Operand.func 37), args := #[Go.Operand.tmp 29], argTypes := #[5] }, type := 49, pos := "law.go:56", after := #[{ on := 6, ground := Go.Ground.data }], guard := none }) rfl (fun K hK => ?_) ?_
        rotate_left
        exact AllReadyH.nil
        try go_simp
        (go_at_call 37; (refine (CPg.out _).mono ?_); rintro e w4 ⟨g4, rfl, hb4, hk4⟩; have HB4 := Lib.hid (kbD hb4); have HK4 := Lib.hid hk4; clear hb4 hk4)
        try go_wp2_with fail
        refine hK.out _ _ (Dk.Below.apart HB4.out _) (fun H1 => ?_)
        clear hK K
        try simp only [Act.put, List.setIfInBounds_toArray, List.set_cons_zero, List.set_cons_succ]
        refine wpAnyH_take (i := 8) (oi := { dst := some 31, op := Go.Op.build 94 #[(0, Go.Operand.tmp 28), (1, Go.Operand.tmp 30)], type := 94, pos := "law.go:56", after := #[{ on := 5, ground := Go.Ground.data }, { on := 7, ground := Go.Ground.data }], guard := none }) (v := ?_) rfl (by kernel_rfl) (by kernel_rfl) (by kernel_rfl) (fun _ _ _ h => h) (Or.inl ⟨by rfl, ?_⟩) H1 ?_
        rotate_left
        focus (intro w' hSw; (try dsimp only at hSw); go_simp; (try with_reducible rfl))
        simp only [Act.put, List.setIfInBounds_toArray, List.set_cons_zero, List.set_cons_succ]
        have HK5 := Lib.hid ((HK4.out.below ((Below.refl _ _).alloc (Nat.le_refl _) (.cells (pwRow (ps k, some ⟨g4, 0, none⟩, 512)).toArray 94))).mono (b2 := w0.heap.size) (by have := HJ.out.hb.size; first | omega | (simp; omega)))
        have HJ4 := Lib.hid ((HJ.out.below HB4.out).below ((Below.refl _ _).alloc (Nat.le_refl _) (.cells (pwRow (ps k, some ⟨g4, 0, none⟩, 512)).toArray 94)))
        refine wpAnyH_ready (rs := [9]) (by kernel_rfl) (by simp) ?_
        refine AllReadyH.cons (o := { dst := some 32, op := Go.Op.buildSlice 67 1 #[(0, Go.Operand.tmp 31)], type := 67, pos := "law.go:56", after := #[{ on := 8, ground := Go.Ground.data }], guard := none }) rfl (fun K hK => ?_) ?_
        rotate_left
        exact AllReadyH.nil
        try go_simp
        refine hK.out _ _ (apart_alloc (Dk.Below.apart HB4.out _) _) (fun H2 => ?_)
        clear hK K
        try simp only [Act.put, List.setIfInBounds_toArray, List.set_cons_zero, List.set_cons_succ]
        refine wpAnyH_ready (rs := [10]) (by kernel_rfl) (by simp) ?_
        refine AllReadyH.cons (o := { dst := some 33, op := Go.Op.call { callee := Go.Callee.builtin Go.Builtin.append, args := #[Go.Operand.tmp 23, Go.Operand.tmp 32], argTypes := #[67, 67] }, type := 67, pos := "law.go:56", after := #[{ on := 0, ground := Go.Ground.data }, { on := 9, ground := Go.Ground.data }, { on := 7, ground := Go.Ground.chain }], guard := none }) rfl (fun K hK => ?_) ?_
        rotate_left
        exact AllReadyH.nil
        refine step_append_pw rfl (.tmp 23) (.tmp 32) rfl rfl HJ4.out.own ⟨w4.heap.size, 0, none⟩ (pwRow (ps k, some ⟨g4, 0, none⟩, 512)) rfl rfl (news_row w4 _ _) (by simp [Value.oneCell']) (by omega) (by have := HJ4.out.hb.size; exact this) ?_
        intro v' w5 ho5 hg5 hv5
        have HJ5 := Lib.hid (HJ4.out.more HK5.out ho5 hg5)
        obtain ⟨g5, c5, rfl⟩ := own_sl ho5 (Nat.succ_pos _)
        refine hK.out _ _ (apart_trans (apart_alloc (Dk.Below.apart HB4.out _) _) (HJ4.out.grownA hg5)) (fun H3 => ?_)
        clear hK K ho5 hg5 hv5
        try simp only [Act.put, List.setIfInBounds_toArray, List.set_cons_zero, List.set_cons_succ]
        refine wpAnyH_take (i := 11) (oi := { dst := some 3, op := Go.Op.assign (Go.Operand.tmp 33), type := 67, pos := "law.go:56", after := #[{ on := 10, ground := Go.Ground.data }, { on := 10, ground := Go.Ground.chain }, { on := 0, ground := Go.Ground.phase }, { on := 1, ground := Go.Ground.phase }, { on := 2, ground := Go.Ground.phase }, { on := 3, ground := Go.Ground.phase }, { on := 4, ground := Go.Ground.phase }, { on := 5, ground := Go.Ground.phase }, { on := 6, ground := Go.Ground.phase }, { on := 7, ground := Go.Ground.phase }, { on := 8, ground := Go.Ground.phase }, { on := 9, ground := Go.Ground.phase }, { on := 10, ground := Go.Ground.phase }], guard := none }) (v := ?_) rfl (by kernel_rfl) (by kernel_rfl) (by kernel_rfl) (fun _ _ _ h => h) (Or.inl ⟨by rfl, ?_⟩) H3 ?_
        rotate_left
        focus (intro w' hSw; (try dsimp only at hSw); go_simp; (try with_reducible rfl))
        simp only [Act.put, List.setIfInBounds_toArray, List.set_cons_zero, List.set_cons_succ]
        refine wpAnyH_done (by kernel_rfl) ?_ _
        go_wp2_with fail
        go_roundw
        case rel => exact ⟨k + 1, _, some ⟨g5, 0, none⟩, c5, hlt, rfl, by first | rfl | go_num, HJ5⟩
        case measure => exact HMS.out
    · obtain rfl : k = n1 := by omega
      go_wp2
      go_ret
      exact ⟨ra, rc, rfl, kbT HB0.out.1 HJ.out.hb, HJ.out.at'⟩
end Go.Proofs.YtdanigigjainjaaGreat
namespace Go.Proofs.YtdanigigjainjaaGreat
open Go.RowKit Go.Shelf
attribute [local go_sem] Oper.semAt_some

/-- A log that was made since w0. -/
def LogN (w0 : World) (W : World) (B Bd : Nat) (s : Dk.DS) (f pg S E hn : Nat) (l : List FR) (N : Nat) : Prop := ∃ F, LogR W B Bd s f pg S E hn l F N ∧ (∀ k, F k → w0.heap.size ≤ k) ∧ Below w0.heap.size w0 W
theorem LogN.below {w0 W W' : World} {B Bd : Nat} {s : Dk.DS} {f pg S E hn : Nat} {l : List FR} {N : Nat} (h : LogN w0 W B Bd s f pg S E hn l N) (hb : Below W.heap.size W W') : LogN w0 W' B Bd s f pg S E hn l N := by
  obtain ⟨F, h1, h2, h3⟩ := h
  exact ⟨F, h1.keep hb.size (fun k hk => hb.block k (h1.low k hk)), h2, kbT h3 hb⟩
theorem LogN.turned {w0 W W' : World} {B Bd : Nat} {s s' : Dk.DS} {f pg S E hn S' E' hn' : Nat} {l l' : List FR} {N N' : Nat} {F F' : Foot} (hF : ∀ k, F k → w0.heap.size ≤ k) (hb : Below w0.heap.size w0 W) (h1 : ∀ k, F' k → F k ∨ W.heap.size ≤ k) (h2 : Dk.Apart F W W') (h3 : LogR W' B Bd s' f pg S' E' hn' l' F' N') : LogN w0 W' B Bd s' f pg S' E' hn' l' N' :=
  ⟨F', h3, fun k hk => (h1 k hk).elim (hF k) (fun h => Nat.le_trans hb.size h), h2.below hb hF⟩
/-- A log that is older than a world is kept by what comes behind that. -/
theorem LogN.since {w0 W : World} {B Bd : Nat} {s : Dk.DS} {f pg S E hn : Nat} {l : List FR} {N : Nat} (h : LogN w0 W B Bd s f pg S E hn l N) : Below w0.heap.size w0 W := by
  obtain ⟨F, -, -, h⟩ := h
  exact h
/-- The frames of an append. -/
def framesOf (n : Nat) (sz : Int) (ps : Nat → Int) (cs : Nat → Nat) : List FR := (List.range n).map fun j => ⟨(ps j).toNat, decide (j + 1 = n), if j + 1 = n then sz.toNat else 0, List.replicate 512 (cs j)⟩
theorem framesOf_length (n : Nat) (sz : Int) (ps : Nat → Int) (cs : Nat → Nat) : (framesOf n sz ps cs).length = n := by unfold framesOf; rw [List.length_map, List.length_range]
theorem framesOf_at {n : Nat} {sz : Int} {ps : Nat → Int} {cs : Nat → Nat} {j : Nat} (h : j < n) : (framesOf n sz ps cs).getD j FR.zero = ⟨(ps j).toNat, decide (j + 1 = n), if j + 1 = n then sz.toNat else 0, List.replicate 512 (cs j)⟩ := by
  unfold framesOf
  rw [List.getD_eq_getElem?_getD, List.getElem?_map, List.getElem?_range h]
  rfl
/-- What an append is refused for. -/
def rowsOf (n : Nat) (ps : Nat → Int) : List (Int × Nat) := (List.range n).map fun j => (ps j, 512)
def decE (f pg : Nat) (ln : Nat) (n : Nat) (sz : Int) (ps : Nat → Int) : Int := if wrongE pg sz (rowsOf n ps) ≠ 0 then wrongE pg sz (rowsOf n ps) else if (f : Int) - (ln : Int) < (n : Int) then 160 else 0
theorem rowsOf_length (n : Nat) (ps : Nat → Int) : (rowsOf n ps).length = n := by simp [rowsOf]
theorem wrongE_good {pg n : Nat} {sz : Int} {ps : Nat → Int} (h : wrongE pg sz (rowsOf n ps) = 0) : 0 < n ∧ 0 ≤ sz ∧ sz ≤ pg ∧ ∀ j, j < n → 0 ≤ ps j ∧ ps j < pg := by
  unfold wrongE at h
  split at h
  · cases h
  · rename_i hn
    simp only [not_or, rowsOf_length] at hn
    obtain ⟨h1, h2, h3, h4⟩ := hn
    refine ⟨by omega, by omega, by omega, fun j hj => ?_⟩
    have h5 : (rowsOf n ps).any (badPage pg) = false := by simpa using h4
    rw [List.any_eq_false] at h5
    have h6 := h5 (ps j, 512) (List.mem_map.2 ⟨j, List.mem_range.2 hj, rfl⟩)
    simp only [badPage, Bool.or_eq_true, decide_eq_true_eq, not_or] at h6
    omega
theorem next_of {f pg n : Nat} {l : List FR} {sz : Int} {ps : Nat → Int} {cs : Nat → Nat} (h : wrongE pg sz (rowsOf n ps) = 0) (hroom : ¬ ((f : Int) - (l.length : Int) < (n : Int))) (hcs : ∀ j, cs j < 256) : NextOk f pg l (framesOf n sz ps cs) where
  oks := fun x hx => by
    obtain ⟨h1, h2, h3, h4⟩ := wrongE_good h
    obtain ⟨j, hj, rfl⟩ := List.mem_map.1 hx
    rw [List.mem_range] at hj
    have := h4 j hj
    refine ⟨by simp only; omega, ?_, List.length_replicate, fun b hb => ?_⟩
    · simp only
      by_cases e : j + 1 = n
      · rw [if_pos e, if_pos (by simp [e])]; omega
      · rw [if_neg e, if_neg (by simp [e])]; omega
    · simp only [List.mem_replicate] at hb
      rw [hb.2]
      exact hcs j
  ne := fun e => by
    have := (wrongE_good h).1
    have h2 := framesOf_length n sz ps cs
    rw [e] at h2
    simp at h2
    omega
  last := fun x hx => by
    have h0 := (wrongE_good h).1
    rw [List.getLast?_eq_getElem?, framesOf_length] at hx
    have hg := framesOf_at (n := n) (sz := sz) (ps := ps) (cs := cs) (j := n - 1) (by omega)
    rw [List.getD_eq_getElem?_getD, hx] at hg
    simp only [Option.getD_some] at hg
    rw [hg]
    simp
    omega
  len := by rw [framesOf_length]; omega
theorem commits_of (n : Nat) (sz : Int) (ps : Nat → Int) (cs : Nat → Nat) : Commits (framesOf n sz ps cs) sz.toNat := fun j hj => by
  rw [framesOf_length] at hj
  rw [framesOf_at hj, framesOf_length]
  exact ⟨rfl, rfl⟩
theorem PwAt.pages {W : World} {q : Option Addr} {n : Nat} {ps : Nat → Int} {cs : Nat → Nat} {sz : Int} (h : PwAt W q n ps cs) (hp : ∀ j, j < n → 0 ≤ ps j) : PagesRow W q (framesOf n sz ps cs) := fun j hj => by
  rw [framesOf_length] at hj
  obtain ⟨Bw, off, qj, cj, e, h1, h2, h3⟩ := h j hj
  rw [framesOf_at hj]
  refine ⟨Bw, off, qj, cj, e, ?_, h2, h3⟩
  rw [h1]
  simp only
  rw [Int.toNat_of_nonneg (hp j hj)]
theorem PwAt.rows {W : World} {q : Option Addr} {n : Nat} {ps : Nat → Int} {cs : Nat → Nat} (h : PwAt W q n ps cs) : WritesRow W q (rowsOf n ps) := fun j x hx => by
  have hj := (List.getElem?_eq_some_iff.1 hx).1
  rw [rowsOf_length] at hj
  have e : x = (ps j, 512) := by
    unfold rowsOf at hx
    rw [List.getElem?_map, List.getElem?_range hj] at hx
    simp at hx
    exact hx.symm
  subst e
  obtain ⟨Bw, off, qj, cj, e, h1, h2, -⟩ := h j hj
  exact ⟨Bw, off, qj, cj, e, h1, h2⟩
/-- How an append of an act ends. -/
def AppN (w0 W' : World) (B Bd : Nat) (s : Dk.DS) (f pg S E hn : Nat) (l : List FR) (N n : Nat) (sz : Int) (ps : Nat → Int) (cs : Nat → Nat) (e : Int) : Prop :=
  (decE f pg l.length n sz ps ≠ 0 ∧ e = decE f pg l.length n sz ps ∧ LogN w0 W' B Bd s f pg S E hn l N) ∨
  (decE f pg l.length n sz ps = 0 ∧ e = (runOps s (appOps S E hn l (framesOf n sz ps cs))).2 ∧ (e ≠ 0 → LogN w0 W' B Bd (runOps s (appOps S E hn l (framesOf n sz ps cs))).1 f pg S E hn l N) ∧ (e = 0 → LogN w0 W' B Bd (runOps s (appOps S E hn l (framesOf n sz ps cs))).1 f pg (S + 1) E (sizeF hn l) (l ++ framesOf n sz ps cs) (N + n)))
theorem append_step {w0 W : World} {B Bd : Nat} {s : Dk.DS} {f pg S E hn : Nat} {l : List FR} {N n : Nat} {sz : Int} {ps : Nat → Int} {cs : Nat → Nat} {q : Option Addr} {c : Nat} (h : LogN w0 W B Bd s f pg S E hn l N) (hW : Dk.Whole s) (hlen : s.sync.length + s.loose.length ≤ 9000) (hp : 1 ≤ f ∧ f ≤ 2000 ∧ 1 ≤ pg ∧ pg ≤ 2000) (hl : l.length ≤ f) (hn1 : n ≤ 1000) (hNN : N ≤ 80000) (hS : S + 1 < 2 ^ 64) (hE : E < 2 ^ 64) (hsz : sizeF hn l ≤ 2000) (hcs : ∀ j, cs j < 256) (hrow : PwAt W q n ps cs) :
    Calls Tryz.prog 17 #[.pointer (some ⟨B, 0, none⟩), .int .i64 sz, .slice q n c] W fun r w' => ∃ e, r = .returned (.int .i64 e) ∧ AppN w0 w' B Bd s f pg S E hn l N n sz ps cs e := by
  obtain ⟨F, hL, hF, hb0⟩ := h
  have hm1 := hW.many.1
  have hkeep : ∀ W', Below W.heap.size W W' → LogR W' B Bd s f pg S E hn l F N := fun W' hb => hL.keep hb.size (fun k hk => hb.block k (hL.low k hk))
  have hwr : ∀ W', Below W.heap.size W W' → Calls Tryz.prog 49 #[.agg #[.pointer (some ⟨B, 0, none⟩), .int .i64 sz, .slice q n c]] W' fun r W2 => r = .returned (.int .i64 (wrongE pg sz (rowsOf n ps))) ∧ Below W'.heap.size W' W2 := fun W' hb => by
    obtain ⟨mb, Fd, X, g, r⟩ := hkeep W' hb
    have := wrong_any B _ pg sz (rowsOf n ps) q c W' r.log rfl (rows_below hrow.rows hb) (by rw [rowsOf_length]; omega)
    rw [rowsOf_length] at this
    exact this
  refine (append_any B Bd s f pg S E hn sz.toNat l (framesOf n sz ps cs) F N n sz q c (wrongE pg sz (rowsOf n ps)) W hL hm1 hp.2.1 (by omega) hwr (fun hw hroom W' hb => ?_)).mono ?_
  · obtain ⟨h1, h2, h3, h4⟩ := wrongE_good hw
    have := done_any B Bd s f pg S E hn sz.toNat l (framesOf n sz ps cs) F N q c W' (hkeep W' hb) hW hlen hp (next_of hw hroom hcs) (by rw [framesOf_length]; exact hn1) hNN hS hE hsz (commits_of n sz ps cs) (pagesRow_below (hrow.pages (fun j hj => (h4 j hj).1)) hb)
    rw [framesOf_length, Int.toNat_of_nonneg h2] at this
    exact this
  · rintro r w' ⟨e, rfl, h1 | h1 | h1⟩
    · obtain ⟨hw, rfl, hb⟩ := h1
      exact ⟨_, rfl, .inl ⟨by unfold decE; rw [if_pos hw]; exact hw, by unfold decE; rw [if_pos hw], LogN.below ⟨F, hL, hF, hb0⟩ hb⟩⟩
    · obtain ⟨hw, hr, rfl, hb⟩ := h1
      have hd : decE f pg l.length n sz ps = 160 := by unfold decE; rw [if_neg (by rw [hw]; simp), if_pos hr]
      exact ⟨_, rfl, .inl ⟨by rw [hd]; decide, hd.symm, LogN.below ⟨F, hL, hF, hb0⟩ hb⟩⟩
    · obtain ⟨hw, hr, he, F', k1, k2, k3, k4⟩ := h1
      have hd : decE f pg l.length n sz ps = 0 := by unfold decE; rw [if_neg (by rw [hw]; simp), if_neg hr]
      rw [framesOf_length] at k4
      exact ⟨e, rfl, .inr ⟨hd, he, fun h => LogN.turned (F := F) (S := S) (E := E) (hn := hn) (l := l) (N := N) (s := s) hF hb0 k1 k2 (k3 h), fun h => LogN.turned (F := F) (S := S) (E := E) (hn := hn) (l := l) (N := N) (s := s) hF hb0 k1 k2 (k4 h)⟩⟩
theorem reset_step {w0 W : World} {B Bd : Nat} {s : Dk.DS} {f pg S E hn : Nat} {l : List FR} {N : Nat} (h : LogN w0 W B Bd s f pg S E hn l N) (hW : Dk.Whole s) (hlen : s.sync.length + s.loose.length ≤ 9000) (hS : S + 1 < 2 ^ 64) (hE : E + 1 < 2 ^ 64) (hsz : sizeF hn l ≤ 2000) :
    Calls Tryz.prog 18 #[.pointer (some ⟨B, 0, none⟩)] W fun r w' => ∃ e, r = .returned (.int .i64 e) ∧ e = (runOps s (resOps S E hn l)).2 ∧ (e ≠ 0 → LogN w0 w' B Bd (runOps s (resOps S E hn l)).1 f pg S E hn l N) ∧ (e = 0 → LogN w0 w' B Bd (runOps s (resOps S E hn l)).1 f pg (S + 1) (E + 1) (sizeF hn l) [] 0) := by
  obtain ⟨F, hL, hF, hb0⟩ := h
  refine (reset_any B Bd s f pg S E hn l F N W hL hW.many.1 hW (by omega) hS hE hsz).mono ?_
  rintro r w' ⟨e, rfl, he, F', k1, k2, k3, k4⟩
  exact ⟨e, rfl, he, fun h => LogN.turned (F := F) (S := S) (E := E) (hn := hn) (l := l) (N := N) (s := s) hF hb0 k1 k2 (k3 h), fun h => LogN.turned (F := F) (S := S) (E := E) (hn := hn) (l := l) (N := N) (s := s) hF hb0 k1 k2 (k4 h)⟩
theorem told_step {w0 W : World} {B Bd : Nat} {s : Dk.DS} {f pg S E hn : Nat} {l : List FR} {N : Nat} (h : LogN w0 W B Bd s f pg S E hn l N) (hok : ∀ x ∈ l, x.Ok pg) (hpg : pg ≤ 250) (hsz : sizeF hn l ≤ 250) :
    Calls Tryz.prog 23 #[.pointer (some ⟨B, 0, none⟩), .int .i64 (pg : Int)] W fun r w' => r = .returned (.string (strOf (toldN hn l pg))) ∧ Below W.heap.size W w' := by
  obtain ⟨F, hL, -, -⟩ := h
  exact told06 B Bd s f pg S E hn l F N W hL hok hpg hsz
/-- The disk of a log. -/
def DiskN (w0 : World) (W : World) (Bd : Nat) (s : Dk.DS) : Prop := ∃ F, Dk.RepD W (.pointer (some ⟨Bd, 0, none⟩)) s F ∧ (∀ k, F k → w0.heap.size ≤ k) ∧ Below w0.heap.size w0 W
theorem LogN.disk {w0 W : World} {B Bd : Nat} {s : Dk.DS} {f pg S E hn : Nat} {l : List FR} {N : Nat} (h : LogN w0 W B Bd s f pg S E hn l N) : DiskN w0 W Bd s := by
  obtain ⟨F, ⟨mb, Fd, X, g, r⟩, hF, hb⟩ := h
  exact ⟨Fd, r.rep, fun k hk => hF k ((r.foot k).2 (.inr (.inr (.inl hk)))), hb⟩
theorem DiskN.below {w0 W W' : World} {Bd : Nat} {s : Dk.DS} (h : DiskN w0 W Bd s) (hb : Below W.heap.size W W') : DiskN w0 W' Bd s := by
  obtain ⟨F, h1, h2, h3⟩ := h
  exact ⟨F, rep_below h1 hb, h2, kbT h3 hb⟩
theorem DiskN.goes {w0 W W' : World} {Bd : Nat} {s' : Dk.DS} {F : Foot} (hF : ∀ k, F k → w0.heap.size ≤ k) (hb : Below w0.heap.size w0 W) (h : Dk.Goes Dk.RepD (.pointer (some ⟨Bd, 0, none⟩)) s' F W W') : DiskN w0 W' Bd s' := by
  obtain ⟨F', h1, h2, h3⟩ := h
  exact ⟨F', h1, fun k hk => (h2 k hk).elim (hF k) (fun h => Nat.le_trans hb.size h), h3.below hb hF⟩
end Go.Proofs.YtdanigigjainjaaGreat
namespace Go.Proofs.YtdanigigjainjaaGreat
open Go.RowKit Go.Shelf
attribute [local go_sem] Oper.semAt_some

theorem new_step {n : Nat} (w0 W : World) (hb : Below w0.heap.size w0 W) (hn : 1 ≤ n ∧ n ≤ 40000) : Calls Tryz.prog 7 #[.int .i64 (n : Int)] W fun r w' => ∃ Bd, r = .returned (.tuple #[.pointer (some ⟨Bd, 0, none⟩), .int .i64 0]) ∧ DiskN w0 w' Bd (Dk.newS n) := by
  refine (Dk.diskOk.new n W hn).mono ?_
  rintro r w' ⟨d, F, rfl, hR, hF, hb2⟩
  obtain ⟨Bd, rfl⟩ := pointer_of hR
  exact ⟨Bd, rfl, F, hR, fun k hk => Nat.le_trans hb.size (hF k hk), kbT hb hb2⟩
theorem fresh_step {w0 W : World} {Bd f pg : Nat} (h : DiskN w0 W Bd (Dk.newS (2 + 9 * f + 8 * pg))) (hp : 1 ≤ f ∧ f ≤ 2000 ∧ 1 ≤ pg ∧ pg ≤ 2000) :
    Calls Tryz.prog 10 #[.pointer (some ⟨Bd, 0, none⟩), .agg #[.int .i64 (f : Int), .int .i64 (pg : Int)]] W fun r w' => ∃ s' B, r = .returned (.tuple #[.pointer (some ⟨B, 0, none⟩), .int .i64 0]) ∧ Clean s' f pg 1 1 0 [] ∧ s'.left = -1 ∧ s'.sync.length ≤ 1 ∧ LogN w0 w' B Bd s' f pg 1 1 0 [] 0 := by
  obtain ⟨F, hR, hF, hb⟩ := h
  refine (open_fresh Bd f pg (2 + 9 * f + 8 * pg) F W hR hp rfl).mono ?_
  rintro r w' ⟨s', B, F', h1, h2, h3, h4, h5, -, h7, rfl⟩
  exact ⟨s', B, rfl, h1, h2, h3, F', h4, fun k hk => (h5 k hk).elim (hF k) (fun h => Nat.le_trans hb.size h), h7.below hb hF⟩
theorem sound_step {w0 W : World} {Bd f pg S E hn : Nat} {s : Dk.DS} {l : List FR} (h : DiskN w0 W Bd s) (hs : Sound s f pg S E hn l) (hl : s.left ≠ 0) (hlen : s.sync.length + s.loose.length ≤ 18000) :
    Calls Tryz.prog 10 #[.pointer (some ⟨Bd, 0, none⟩), .agg #[.int .i64 (f : Int), .int .i64 (pg : Int)]] W fun r w' => ∃ B, r = .returned (.tuple #[.pointer (some ⟨B, 0, none⟩), .int .i64 0]) ∧ LogN w0 w' B Bd s f pg S E hn l l.length := by
  obtain ⟨F, hR, hF, hb⟩ := h
  refine (open_sound Bd s f pg S E hn l F W hR hs hl hlen).mono ?_
  rintro r w' ⟨B, F', h1, h2, -, h4, rfl⟩
  exact ⟨B, rfl, F', h1, fun k hk => (h2 k hk).elim (hF k) (fun h => Nat.le_trans hb.size h), h4.below hb hF⟩
/-- Opened, or stopped: the disk stands as it did. -/
theorem reopen_step {w0 W : World} {Bd f pg S E hn : Nat} {s : Dk.DS} {l : List FR} (h : DiskN w0 W Bd s) (hs : Sound s f pg S E hn l) (hlen : s.sync.length + s.loose.length ≤ 18000) :
    Calls Tryz.prog 10 #[.pointer (some ⟨Bd, 0, none⟩), .agg #[.int .i64 (f : Int), .int .i64 (pg : Int)]] W fun r w' => ∃ v e, r = .returned (.tuple #[v, .int .i64 e]) ∧ DiskN w0 w' Bd s := by
  by_cases hl : s.left = 0
  · obtain ⟨F, hR, hF, hb⟩ := h
    refine (open_stop Bd s f pg F W hR hs.1.whole hs.1.many hs.1.plan hl hlen).mono ?_
    rintro r w' ⟨rfl, hb2⟩
    exact ⟨_, _, rfl, DiskN.below ⟨F, hR, hF, hb⟩ hb2⟩
  · refine (sound_step h hs hl hlen).mono ?_
    rintro r w' ⟨B, rfl, h⟩
    exact ⟨_, _, rfl, h.disk⟩
theorem copy_step {w0 W : World} {Bd : Nat} {s : Dk.DS} (h : DiskN w0 W Bd s) (hW : Dk.Whole s) (hF : Dk.Few s) : Calls Tryz.prog 24 #[.pointer (some ⟨Bd, 0, none⟩)] W fun r w' => ∃ Bc, r = .returned (.pointer (some ⟨Bc, 0, none⟩)) ∧ DiskN W w' Bc s := by
  obtain ⟨F, hR, -, -⟩ := h
  refine (Dk.diskOk.copy W _ s F hR hW hF).mono ?_
  rintro r w' ⟨d', F', rfl, hR2, hF2, hb2⟩
  obtain ⟨Bc, rfl⟩ := pointer_of hR2
  exact ⟨Bc, rfl, F', hR2, hF2, hb2⟩
theorem stop_step {w0 W : World} {Bd : Nat} {s : Dk.DS} (n : Int) (h : DiskN w0 W Bd s) (hW : Dk.Whole s) (hn : 0 ≤ n ∧ n ≤ 1000) : Calls Tryz.prog 25 #[.pointer (some ⟨Bd, 0, none⟩), .int .i64 n] W fun r w' => r = .returned (.int .i64 0) ∧ DiskN w0 w' Bd ⟨s.many, s.sync, s.loose, n⟩ := by
  obtain ⟨F, hR, hF, hb⟩ := h
  refine (Dk.diskOk.stop W _ s F n hR hW (by omega)).mono ?_
  rintro r w' ⟨rfl, hg⟩
  have e : Dk.stopS s n = (⟨s.many, s.sync, s.loose, n⟩, 0) := by unfold Dk.stopS; rw [if_neg (by omega)]
  rw [e] at hg ⊢
  exact ⟨rfl, DiskN.goes hF hb hg⟩
theorem lstop_step {w0 W : World} {B Bd : Nat} {s : Dk.DS} {f pg S E hn : Nat} {l : List FR} {N : Nat} (n : Int) (h : LogN w0 W B Bd s f pg S E hn l N) (hW : Dk.Whole s) (hnn : 0 ≤ n ∧ n ≤ 1000) : Calls Tryz.prog 25 #[.pointer (some ⟨Bd, 0, none⟩), .int .i64 n] W fun r w' => r = .returned (.int .i64 0) ∧ LogN w0 w' B Bd ⟨s.many, s.sync, s.loose, n⟩ f pg S E hn l N := by
  obtain ⟨F, ⟨mb, Fd, X, g, L⟩, hF, hb⟩ := h
  refine (Dk.diskOk.stop W _ s Fd n L.rep hW (by omega)).mono ?_
  rintro r w' ⟨rfl, F', h1, h2, h3⟩
  have e : Dk.stopS s n = (⟨s.many, s.sync, s.loose, n⟩, 0) := by unfold Dk.stopS; rw [if_neg (by omega)]
  rw [e] at h1 ⊢
  have hFd : ∀ k, Fd k → w0.heap.size ≤ k := fun k hk => hF k ((L.foot k).2 (.inr (.inr (.inl hk))))
  refine ⟨rfl, _, ⟨mb, F', X, g, L.disk h1 h2 h3⟩, ?_, h3.below hb hFd⟩
  rintro k (rfl | rfl | hk | hk)
  · exact hF _ ((L.foot _).2 (.inl rfl))
  · exact hF _ ((L.foot _).2 (.inr (.inl rfl)))
  · exact (h2 k hk).elim (hFd k) (fun h => Nat.le_trans hb.size h)
  · exact hF k ((L.foot k).2 (.inr (.inr (.inr hk))))
theorem crash_step {w0 W : World} {Bd : Nat} {s : Dk.DS} (tear : Int) (p : Option Addr) (keep : List Bool) (cap : Nat) (h : DiskN w0 W Bd s) (hW : Dk.Whole s) (hFw : Dk.Few s) (ht : 0 ≤ tear ∧ tear ≤ 63) (hk : keep.length ≤ 1000) (hB : Dk.BoolsAt W p keep) (hn : p = none → cap = 0) (hc : keep.length ≤ cap ∧ cap ≤ 9223372036854775807) (hp : keep ≠ [] → ∀ B off, p = some ⟨B, off, none⟩ → B < w0.heap.size) :
    Calls Tryz.prog 26 #[.pointer (some ⟨Bd, 0, none⟩), .int .i64 tear, .slice p keep.length cap] W fun r w' => r = .returned (.int .i64 0) ∧ DiskN w0 w' Bd (Dk.crashS s tear keep).1 := by
  obtain ⟨F, hR, hF, hb⟩ := h
  refine (Dk.diskOk.crash W _ s F tear p keep cap hR hW hFw hk ⟨hB, hn, hc, fun ne B off e f => by have := hF B f; have := hp ne B off e; omega⟩).mono ?_
  rintro r w' ⟨rfl, hg⟩
  rw [(crash_shape ht).1]
  exact ⟨rfl, DiskN.goes hF hb hg⟩
/-- An append on a disk that does not stop. -/
theorem app_run {s : Dk.DS} {f pg S E hn : Nat} {l m : List FR} (B : Clean s f pg S E hn l) (h : NextOk f pg l m) (hS : S + 1 < 2 ^ 64) (hl : s.left = -1) : (runOps s (appOps S E hn l m)).2 = 0 ∧ (runOps s (appOps S E hn l m)).1.left = -1 ∧ Clean (runOps s (appOps S E hn l m)).1 f pg (S + 1) E (sizeF hn l) (l ++ m) ∧ (runOps s (appOps S E hn l m)).1.sync.length + (runOps s (appOps S E hn l m)).1.loose.length ≤ s.sync.length + (9 * m.length + 3) := by
  have hc := run_cases (appOps_ok B.1.many h S E hn)
  have hlen := run_len s (appOps S E hn l m)
  have hal : (appOps S E hn l m).length ≤ 9 * m.length + 3 := by
    have hfr : ∀ k, k ≤ m.length → (frOps E (l ++ m) l.length k).length ≤ 9 * k := fun k => by
      induction k with
      | zero => simp [frOps]
      | succ k ih =>
        intro hk
        have h1 := ih (by omega)
        have h2 := frL_length E (l ++ m) (l.length + k) (h.size k (by omega))
        rw [frOps, List.length_append, layOps_length, h2, secN_576]
        omega
    have := hfr m.length (Nat.le_refl _)
    unfold appOps
    rw [List.length_append]
    simp only [List.length_cons, List.length_nil]
    omega
  rw [B.1.loose] at hlen
  rcases hc.2 with ⟨h0, -, h3⟩ | ⟨-, h4, -⟩
  · exact ⟨h0, (h3 (by rw [hl]; decide)).trans hl, append_clean B h hS h0, by simp only [List.length_nil] at hlen; omega⟩
  · rw [hl] at h4
    exact absurd h4 (by decide)
theorem res_run {s : Dk.DS} {f pg S E hn : Nat} {l : List FR} (B : Clean s f pg S E hn l) (hS : S + 1 < 2 ^ 64) (hE : E + 1 < 2 ^ 64) (hl : s.left = -1) : (runOps s (resOps S E hn l)).2 = 0 ∧ (runOps s (resOps S E hn l)).1.left = -1 ∧ Clean (runOps s (resOps S E hn l)).1 f pg (S + 1) (E + 1) (sizeF hn l) [] ∧ (runOps s (resOps S E hn l)).1.sync.length + (runOps s (resOps S E hn l)).1.loose.length ≤ s.sync.length + 2 := by
  have hc := run_cases (resOps_ok B.1.many S E hn l)
  have hlen := run_len s (resOps S E hn l)
  rw [B.1.loose] at hlen
  rcases hc.2 with ⟨h0, -, h3⟩ | ⟨-, h4, -⟩
  · exact ⟨h0, (h3 (by rw [hl]; decide)).trans hl, reset_clean B hS hE h0, by simp only [resOps, List.length_nil, List.length_cons] at hlen ⊢; omega⟩
  · rw [hl] at h4
    exact absurd h4 (by decide)
end Go.Proofs.YtdanigigjainjaaGreat
