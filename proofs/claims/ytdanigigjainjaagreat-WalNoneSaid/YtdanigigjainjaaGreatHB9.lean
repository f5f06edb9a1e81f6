/- Parts: W37 W41 W42 W43 W44 W45 W46. -/
import Derived.Test.YtdanigigjainjaaGreatHB8
namespace Go.Proofs.YtdanigigjainjaaGreat
open Go.RowKit Go.Shelf
attribute [local go_sem] Oper.semAt_some

theorem bytes_setRow {W : World} {base b : Nat} {q : Option Addr} {l : List Nat} (h : ByteBlk W base q l) (hn : ∀ g, q = some ⟨g, 0, none⟩ → g ≠ b) (cs : Array Value) : ByteBlk (W.setRow b cs) base q l := by
  obtain ⟨g, cur, e, h1, h2, h3⟩ := h
  refine ⟨g, cur, e, h1, ?_, h3⟩
  rw [← h2]
  unfold World.setRow
  simp only [Array.getElem?_modify]
  rw [if_neg (fun x => hn g e x.symm)]
theorem bytes_set {W : World} {base b : Nat} {q : Option Addr} {l : List Nat} {cs : Array Value} (h : ByteBlk W base q l) (hg : W.heap[b]? = some (.cells cs 156 (0, 0))) (i : Nat) (v : Value) : ByteBlk (W.setCell ⟨b, i, none⟩ v) base q l := by
  obtain ⟨g, cur, e, h1, h2, h3⟩ := h
  refine ⟨g, cur, e, h1, (Below.heap_setCell _ _ _ _ ?_).trans h2, h3⟩
  rintro rfl
  rw [hg] at h2
  injection h2 with h2
  injection h2 with _ h4 _
  exact absurd h4 (by decide)
theorem flatC_snoc (X : List FV) (y : FV) : flatC (X ++ [y]) = flatC X ++ y.cs.toList := by simp [flatC]
theorem own_sl {W : World} {base sz : Nat} {e : TypeId} {v : Value} {n : Nat} {xs : List Value} (h : W.ownsRow base e sz v n xs) (hn : 0 < n) : ∃ g c, v = .slice (some ⟨g, 0, none⟩) n c := by
  rcases h.2 with ⟨-, h0⟩ | ⟨g, cap, cur, rfl, -⟩
  · omega
  · exact ⟨g, cap, rfl⟩
theorem ByteBlk.apart {W W' : World} {base g : Nat} {q : Option Addr} {l : List Nat} {cs : Array Value} {t : TypeId} {fr : Nat × Nat} (h : ByteBlk W base q l) (ha : Dk.Apart (fun k => k = g) W W') (hg : W.heap[g]? = some (.cells cs t fr)) (ht : t ≠ 5) : ByteBlk W' base q l := by
  obtain ⟨b, cur, e, h1, h2, h3⟩ := h
  refine ⟨b, cur, e, h1, (ha.block b (Array.getElem?_eq_some_iff.1 h2).1 ?_).trans h2, h3⟩
  rintro rfl
  rw [hg] at h2
  injection h2 with h2
  injection h2 with _ h4 _
  exact ht h4
theorem FJ.next {w : World} {E i0 : Nat} {L : List FR} {X : List FV} {W W' : World} {q : Option Addr} {c : Nat} (J : FJ w E i0 L X W) (ha : Dk.Apart (fun g => g = w.heap.size) W W')
    (hbox : W'.heap[w.heap.size]? = some (.cells #[.int .u64 E, .int .i64 ((i0 : Int) + (X.length : Int) + 1), .int .u32 (lk E L (i0 + (X.length + 1)) : Nat)] 41 (0, 0))) (hq : ByteBlk W' w.heap.size q (L.getD (i0 + X.length) FR.zero).bs) : FJ w E i0 L (X ++ [fvOf E L (i0 + X.length) q c]) W' := by
  refine ⟨⟨ha.os.trans J.hb.os, ha.tape.trans J.hb.tape, ha.output.trans J.hb.output, Nat.le_trans J.hb.size ha.size, fun k hk => (ha.block k (Nat.lt_of_lt_of_le hk J.hb.size) (by omega)).trans (J.hb.block k hk)⟩, ?_, fun j x hj => ?_⟩
  · rw [hbox, List.length_append]
    simp only [List.length_singleton, Int.natCast_add, Int.add_assoc]
    rfl
  · rcases Nat.lt_or_ge j X.length with h | h
    · rw [List.getElem?_append_left h] at hj
      obtain ⟨q', c', e, h1⟩ := J.fr j x hj
      exact ⟨q', c', e, h1.apart ha J.box (by decide)⟩
    · rw [List.getElem?_append_right h] at hj
      have h0 : j - X.length = 0 := by
        have := (List.getElem?_eq_some_iff.1 hj).1
        simp at this
        omega
      rw [h0] at hj
      simp only [List.getElem?_cons_zero, Option.some.injEq] at hj
      subst hj
      obtain rfl : j = X.length := by omega
      exact ⟨q, c, rfl, hq⟩
theorem ByteBlk.mono {W : World} {base b2 : Nat} {q : Option Addr} {l : List Nat} (h : ByteBlk W base q l) (hb : b2 ≤ base) : ByteBlk W b2 q l := by
  obtain ⟨g, cur, e, h1, h2⟩ := h
  exact ⟨g, cur, e, Nat.le_trans hb h1, h2⟩
set_option maxRecDepth 100000 in
set_option maxHeartbeats 16000000 in
theorem wframes_any (B : Nat) (x : LogV) (E i0 N : Nat) (sz : Nat) (L : List FR) (pg : Nat) (qw : Option Addr) (cw : Nat) (w : World) (hL : LogAt w B x) (hxE : x.E = E) (hxi : x.i = (i0 : Int)) (hxk : x.k = lk E L i0) (hE : E < 2 ^ 64) (hN : i0 + N ≤ 2000) (hpg : pg ≤ 2000)
    (hok : ∀ j, j < N → (L.getD (i0 + j) FR.zero).Ok pg) (hcm : ∀ j, j < N → (L.getD (i0 + j) FR.zero).cm = decide (j + 1 = N) ∧ (L.getD (i0 + j) FR.zero).n = (if j + 1 = N then sz else 0))
    (hrow : ∀ j, j < N → ∃ Bw off q c, qw = some ⟨Bw, off, none⟩ ∧ w.cell? ⟨Bw, off + j * 2, none⟩ = some (.int .i64 ((L.getD (i0 + j) FR.zero).p : Nat)) ∧ w.cell? ⟨Bw, off + j * 2 + 1, none⟩ = some (.slice q 512 c) ∧ BytesAt w q (L.getD (i0 + j) FR.zero).bs) :
    Calls Tryz.prog 78 #[.pointer (some ⟨B, 4, none⟩), .int .i64 (sz : Int), .slice qw N cw] w fun r w' => ∃ v X, r = .returned v ∧ X.length = N ∧ w'.ownsRow (w.heap.size + 1) 156 7 v N (flatC X) ∧ FJ w E i0 L X w' := by
  have hc := logAt_cells hL
  obtain ⟨d, f, pg0, sr, E0, i, k0, n0, m⟩ := x
  simp only at hxE hxi hxk
  subst hxE
  subst hxi
  subst hxk
  have c4 := hc 4 _ rfl
  have c5 := hc 5 _ rfl
  have c6 := hc 6 _ rfl
  obtain ⟨i1, hi1, hz0, hz1, hz2⟩ := info_parts infoFr
  have HI := Lib.hid (And.intro hi1 (And.intro hz0 (And.intro hz1 hz2)))
  have HROW := Lib.hid hrow
  have HOK := Lib.hid hok
  have HCM := Lib.hid hcm
  have HN := Lib.hid (And.intro hN (And.intro hpg hE))
  clear hc hL hrow hok hcm hN hpg hE hi1 hz0 hz1 hz2
  go_enter Tryz.func78, Tryz.ntmps78
  go_wp2
  go_loopw [7, 18] (fun v i W => ∃ (k : Nat) (X : List FV) (ra : Option Addr) (rc : Nat), k ≤ N ∧ v = .slice ra k rc ∧ i = .int .i64 (k : Int) ∧ Hid (X.length = k) ∧ Hid (FJ w E0 i0 L X W) ∧ Hid (W.ownsRow (w.heap.size + 1) 156 7 (.slice ra k rc) k (flatC X))) (fun _ i _ => (N - intOf i).toNat)
  case atStart =>
    refine ⟨0, [], none, 0, Nat.zero_le _, rfl, rfl, Lib.hid rfl, Lib.hid ⟨(Below.refl _ _).alloc (Nat.le_refl _) _, ?_, fun j x hj => by simp at hj⟩, Lib.hid ⟨rfl, .inl ⟨rfl, rfl⟩⟩⟩
    rw [heap_alloc_new w]
    simp
  case round =>
    obtain ⟨k, X, ra, rc, hk, rfl, rfl, HXL, HJ, HO⟩ := hrel
    by_cases hlt : k < N
    · have hltI : (k : Int) < (N : Int) := by omega
      obtain ⟨Bw, off, qj, cj, rfl, hp0, hp1, hbj⟩ := HROW.out k hlt
      have hokk := HOK.out k hlt
      obtain ⟨hcm, hnm⟩ := HCM.out k hlt
      have hlen := hokk.len
      have CC : Hid (∀ W, Below wr.heap.size wr W → Calls Tryz.prog 44 #[.slice qj 512 cj] W fun r w' => ∃ q2 c2, r = .returned (.slice q2 512 c2) ∧ ByteBlk w' W.heap.size q2 (L.getD (i0 + k) FR.zero).bs ∧ Below W.heap.size W w') := Lib.hid fun W hb => by
        have := clone_any (L.getD (i0 + k) FR.zero).bs qj cj W (by omega) (bytesAt_below hbj (kbT HJ.out.hb hb))
        rw [hlen] at this
        refine this.mono ?_
        rintro e w' ⟨t, rfl, hr⟩
        obtain ⟨q2, c2, rfl, -, -, -, -⟩ := hr.at2
        rw [hlen] at hr ⊢
        exact ⟨q2, c2, rfl, ByteBlk.of hr (by omega), hr.2⟩
      have p0 := (HJ.out.hb.cell (lt_of_cell_some hp0)).trans hp0
      have p1 := (HJ.out.hb.cell (lt_of_cell_some hp1)).trans hp1
      have hbox := HJ.out.box
      rw [HXL.out] at hbox
      obtain ⟨lkk, hlkk⟩ : ∃ l, l = lk E0 L (i0 + k) := ⟨_, rfl⟩
      rw [← hlkk] at hbox
      obtain ⟨pj, hpj⟩ : ∃ p, p = (L.getD (i0 + k) FR.zero).p := ⟨_, rfl⟩
      rw [← hpj] at p0
      have HBOX := Lib.hid hbox
      have HDT := Lib.hid (And.intro hlkk (And.intro hpj (And.intro hcm (And.intro hnm hokk))))
      clear hp0 hp1 hbj hcm hnm hlen hokk hbox hlkk hpj
      go_upto_region 6 with fail
      obtain ⟨w1, hw1⟩ : ∃ w1, w1 = wr.alloc (.cells #[.int .i64 (pj : Nat), .slice qj 512 cj] 94) := ⟨_, rfl⟩
      rw [← hw1]
      have hb1 : Below wr.heap.size wr w1 := by subst hw1; exact (Below.refl _ _).alloc (Nat.le_refl _) _
      have hbx := (hb1.block _ (Array.getElem?_eq_some_iff.1 HBOX.out).1).trans HBOX.out
      have hby : w1.heap[wr.heap.size]? = some (.cells #[.int .i64 (pj : Nat), .slice qj 512 cj] 94 (0, 0)) := by subst hw1; exact heap_alloc_new _ _
      have HC : Hid (∀ w', Below w1.heap.size w1 w' → w'.cell? ⟨w.heap.size, 0, none⟩ = some (.int .u64 E0) ∧ w'.cell? ⟨w.heap.size, 1, none⟩ = some (.int .i64 ((i0 : Int) + (k : Int))) ∧ w'.cell? ⟨w.heap.size, 2, none⟩ = some (.int .u32 (lkk : Nat)) ∧ w'.cell? ⟨wr.heap.size, 0, none⟩ = some (.int .i64 (pj : Nat)) ∧ w'.cell? ⟨wr.heap.size, 1, none⟩ = some (.slice qj 512 cj)) := Lib.hid fun w' hb => by
        have e1 := (hb.block _ (Array.getElem?_eq_some_iff.1 hbx).1).trans hbx
        have e2 := (hb.block _ (Array.getElem?_eq_some_iff.1 hby).1).trans hby
        exact ⟨(cell_of_row _ _ 0 _ _ _ e1).trans rfl, (cell_of_row _ _ 1 _ _ _ e1).trans rfl, (cell_of_row _ _ 2 _ _ _ e1).trans rfl, (cell_of_row _ _ 0 _ _ _ e2).trans rfl, (cell_of_row _ _ 1 _ _ _ e2).trans rfl⟩
      have HB1 := Lib.hid hb1
      have CC1 : Hid (∀ W, Below w1.heap.size w1 W → Calls Tryz.prog 44 #[.slice qj 512 cj] W fun r w' => ∃ q2 c2, r = .returned (.slice q2 512 c2) ∧ ByteBlk w' W.heap.size q2 (L.getD (i0 + k) FR.zero).bs ∧ Below W.heap.size W w') := Lib.hid fun W hb => CC.out W (kbT hb1 hb)
      obtain ⟨bsj, hbsj⟩ : ∃ b, b = (L.getD (i0 + k) FR.zero).bs := ⟨_, rfl⟩
      rw [← hbsj] at CC1
      have HBS := Lib.hid hbsj
      clear hw1 hb1 hbx hby CC p0 p1 hbsj
      go_cut [11] from 19 to 49 (fun fp wx => ∃ (b : Nat) (q2 : Option Addr) (c2 : Nat), fp = .pointer (some ⟨b, 0, none⟩) ∧ wx.heap[b]? = some (.cells #[.int .u64 E0, .int .i64 ((i0 : Int) + (k : Int)), .int .i64 (pj : Nat), .bool false, .int .i64 0, .int .u32 (lkk : Nat), .slice q2 512 c2] 156 (0, 0)) ∧ Below w1.heap.size w1 wx ∧ ByteBlk wx w1.heap.size q2 bsj ∧ w1.heap.size ≤ b)
      case first =>
          refine wp_region_held_drew (S := fun w' => Below w1.heap.size w1 w') (by kernel_rfl) ((Below.refl _ _).drew) (fun H0 => ?_)
          refine wpAnyH_take (i := 0) (oi := { dst := some 23, op := Go.Op.fieldAddr 41 (Go.Operand.tmp 8) 0, type := 0, pos := "counted.go:42", after := #[], guard := none }) (v := ?_) rfl (by kernel_rfl) (by kernel_rfl) (by kernel_rfl) (fun _ _ _ h => h) (Or.inl ⟨by rfl, ?_⟩) H0 ?_
          rotate_left
          focus (intro w' hSw; (try dsimp only at hSw); go_simp; (try with_reducible rfl))
          simp only [Act.put, List.setIfInBounds_toArray, List.set_cons_zero, List.set_cons_succ]
          refine wpAnyH_take (i := 1) (oi := { dst := some 24, op := Go.Op.load 38 (Go.Operand.tmp 23), type := 38, pos := "counted.go:42", after := #[{ on := 0, ground := Go.Ground.data }], guard := none }) (v := ?_) rfl (by kernel_rfl) (by kernel_rfl) (by kernel_rfl) (fun _ _ _ h => h) (Or.inl ⟨by rfl, ?_⟩) H0 ?_
          rotate_left
          focus (intro w' hSw; (try dsimp only at hSw); obtain ⟨s0, s1, s2, s3, s4⟩ := HC.out _ hSw; go_simp; (try with_reducible rfl))
          simp only [Act.put, List.setIfInBounds_toArray, List.set_cons_zero, List.set_cons_succ]
          refine wpAnyH_take (i := 2) (oi := { dst := some 25, op := Go.Op.fieldAddr 41 (Go.Operand.tmp 8) 1, type := 0, pos := "counted.go:42", after := #[], guard := none }) (v := ?_) rfl (by kernel_rfl) (by kernel_rfl) (by kernel_rfl) (fun _ _ _ h => h) (Or.inl ⟨by rfl, ?_⟩) H0 ?_
          rotate_left
          focus (intro w' hSw; (try dsimp only at hSw); go_simp; (try with_reducible rfl))
          simp only [Act.put, List.setIfInBounds_toArray, List.set_cons_zero, List.set_cons_succ]
          refine wpAnyH_take (i := 3) (oi := { dst := some 26, op := Go.Op.load 3 (Go.Operand.tmp 25), type := 3, pos := "counted.go:42", after := #[{ on := 2, ground := Go.Ground.data }], guard := none }) (v := ?_) rfl (by kernel_rfl) (by kernel_rfl) (by kernel_rfl) (fun _ _ _ h => h) (Or.inl ⟨by rfl, ?_⟩) H0 ?_
          rotate_left
          focus (intro w' hSw; (try dsimp only at hSw); obtain ⟨s0, s1, s2, s3, s4⟩ := HC.out _ hSw; go_simp; (try with_reducible rfl))
          simp only [Act.put, List.setIfInBounds_toArray, List.set_cons_zero, List.set_cons_succ]
          refine wpAnyH_take (i := 4) (oi := { dst := some 27, op := Go.Op.fieldAddr 94 (Go.Operand.tmp 10) 0, type := 0, pos := "counted.go:42", after := #[], guard := none }) (v := ?_) rfl (by kernel_rfl) (by kernel_rfl) (by kernel_rfl) (fun _ _ _ h => h) (Or.inl ⟨by rfl, ?_⟩) H0 ?_
          rotate_left
          focus (intro w' hSw; (try dsimp only at hSw); go_simp; (try with_reducible rfl))
          simp only [Act.put, List.setIfInBounds_toArray, List.set_cons_zero, List.set_cons_succ]
          refine wpAnyH_take (i := 5) (oi := { dst := some 28, op := Go.Op.load 3 (Go.Operand.tmp 27), type := 3, pos := "counted.go:42", after := #[{ on := 4, ground := Go.Ground.data }], guard := none }) (v := ?_) rfl (by kernel_rfl) (by kernel_rfl) (by kernel_rfl) (fun _ _ _ h => h) (Or.inl ⟨by rfl, ?_⟩) H0 ?_
          rotate_left
          focus (intro w' hSw; (try dsimp only at hSw); obtain ⟨s0, s1, s2, s3, s4⟩ := HC.out _ hSw; go_simp; (try with_reducible rfl))
          simp only [Act.put, List.setIfInBounds_toArray, List.set_cons_zero, List.set_cons_succ]
          refine wpAnyH_take (i := 6) (oi := { dst := some 29, op := Go.Op.fieldAddr 41 (Go.Operand.tmp 8) 2, type := 0, pos := "counted.go:42", after := #[], guard := none }) (v := ?_) rfl (by kernel_rfl) (by kernel_rfl) (by kernel_rfl) (fun _ _ _ h => h) (Or.inl ⟨by rfl, ?_⟩) H0 ?_
          rotate_left
          focus (intro w' hSw; (try dsimp only at hSw); go_simp; (try with_reducible rfl))
          simp only [Act.put, List.setIfInBounds_toArray, List.set_cons_zero, List.set_cons_succ]
          refine wpAnyH_take (i := 7) (oi := { dst := some 30, op := Go.Op.load 39 (Go.Operand.tmp 29), type := 39, pos := "counted.go:42", after := #[{ on := 6, ground := Go.Ground.data }], guard := none }) (v := ?_) rfl (by kernel_rfl) (by kernel_rfl) (by kernel_rfl) (fun _ _ _ h => h) (Or.inl ⟨by rfl, ?_⟩) H0 ?_
          rotate_left
          focus (intro w' hSw; (try dsimp only at hSw); obtain ⟨s0, s1, s2, s3, s4⟩ := HC.out _ hSw; go_simp; (try with_reducible rfl))
          simp only [Act.put, List.setIfInBounds_toArray, List.set_cons_zero, List.set_cons_succ]
          refine wpAnyH_take (i := 8) (oi := { dst := some 31, op := Go.Op.fieldAddr 94 (Go.Operand.tmp 10) 1, type := 0, pos := "counted.go:42", after := #[], guard := none }) (v := ?_) rfl (by kernel_rfl) (by kernel_rfl) (by kernel_rfl) (fun _ _ _ h => h) (Or.inl ⟨by rfl, ?_⟩) H0 ?_
          rotate_left
          focus (intro w' hSw; (try dsimp only at hSw); go_simp; (try with_reducible rfl))
          simp only [Act.put, List.setIfInBounds_toArray, List.set_cons_zero, List.set_cons_succ]
          refine wpAnyH_take (i := 9) (oi := { dst := some 32, op := Go.Op.load 49 (Go.Operand.tmp 31), type := 49, pos := "counted.go:42", after := #[{ on := 8, ground := Go.Ground.data }], guard := none }) (v := ?_) rfl (by kernel_rfl) (by kernel_rfl) (by kernel_rfl) (fun _ _ _ h => h) (Or.inl ⟨by rfl, ?_⟩) H0 ?_
          rotate_left
          focus (intro w' hSw; (try dsimp only at hSw); obtain ⟨s0, s1, s2, s3, s4⟩ := HC.out _ hSw; go_simp; (try with_reducible rfl))
          simp only [Act.put, List.setIfInBounds_toArray, List.set_cons_zero, List.set_cons_succ]
          refine wpAnyH_ready (rs := [10, 12]) (by kernel_rfl) (by simp) ?_
          refine AllReadyH.cons (o := { dst := some 33, op := Go.Op.call { callee := Go.Callee.value (Go.Operand.func 44), args := #[Go.Operand.tmp 32], argTypes := #[49] }, type := 49, pos := "counted.go:42", after := #[{ on := 9, ground := Go.Ground.data }], guard := none }) rfl (fun K hK => ?_) (AllReadyH.cons (o := { dst := some 11, op := Go.Op.alloc 156, type := 0, pos := "counted.go:42", after := #[], guard := none }) rfl (fun K hK => ?_) AllReadyH.nil)
          ·
            try go_simp
            refine (CC1.out _ ((Below.refl _ _).drew)).mono ?_; rintro e w2 ⟨q2, c2, rfl, hq2, hb2⟩; have HA := Lib.hid (kbD hb2); clear hb2
            refine hK.out _ _ HA.out (fun H1 => ?_)
            clear hK K
            try simp only [Act.put, List.setIfInBounds_toArray, List.set_cons_zero, List.set_cons_succ]
            refine wpAnyH_take (i := 11) (oi := { dst := some 34, op := Go.Op.build 156 #[(0, Go.Operand.tmp 24), (1, Go.Operand.tmp 26), (2, Go.Operand.tmp 28), (5, Go.Operand.tmp 30), (6, Go.Operand.tmp 33)], type := 156, pos := "counted.go:42", after := #[{ on := 1, ground := Go.Ground.data }, { on := 3, ground := Go.Ground.data }, { on := 5, ground := Go.Ground.data }, { on := 7, ground := Go.Ground.data }, { on := 10, ground := Go.Ground.data }], guard := none }) (v := ?_) rfl (by kernel_rfl) (by kernel_rfl) (by kernel_rfl) (fun _ _ _ h => h) (Or.inl ⟨by rfl, ?_⟩) H1 ?_
            rotate_left
            focus (intro w' hSw; (try dsimp only at hSw); go_simp; (try with_reducible rfl))
            simp only [Act.put, List.setIfInBounds_toArray, List.set_cons_zero, List.set_cons_succ]
            refine wpAnyH_ready (rs := [12]) (by kernel_rfl) (by simp) ?_
            refine AllReadyH.cons (o := { dst := some 11, op := Go.Op.alloc 156, type := 0, pos := "counted.go:42", after := #[], guard := none }) rfl (fun K hK => ?_) ?_
            rotate_left
            exact AllReadyH.nil
            try go_simp
            refine hK.out _ _ (HA.out.alloc HA.out.size _) (fun H2 => ?_)
            clear hK K
            try simp only [Act.put, List.setIfInBounds_toArray, List.set_cons_zero, List.set_cons_succ]
            have HZ : Hid (w1.heap.size ≤ w2.heap.size) := Lib.hid HA.out.size
            have HQ := Lib.hid (hq2.below ((Below.refl w2.heap.size w2).alloc (Nat.le_refl _) (.cells #[.int .u64 0, .int .i64 0, .int .i64 0, .bool false, .int .i64 0, .int .u32 0, .slice none 0 0] 156)))
            have HNE : Hid (∀ g, q2 = some ⟨g, 0, none⟩ → g ≠ w2.heap.size) := Lib.hid (fun g e => by obtain ⟨g', cur, e', -, h3, -⟩ := hq2; rw [e] at e'; injection e' with e'; injection e' with e1; have := (Array.getElem?_eq_some_iff.1 h3).1; omega)
            refine wpAnyH_ready (rs := [13]) (by kernel_rfl) (by simp) ?_
            refine AllReadyH.cons (o := { dst := none, op := Go.Op.store 156 (Go.Operand.tmp 11) (Go.Operand.tmp 34), type := 0, pos := "counted.go:42", after := #[{ on := 12, ground := Go.Ground.data }, { on := 11, ground := Go.Ground.data }, { on := 10, ground := Go.Ground.chain }, { on := 0, ground := Go.Ground.phase }, { on := 1, ground := Go.Ground.phase }, { on := 2, ground := Go.Ground.phase }, { on := 3, ground := Go.Ground.phase }, { on := 4, ground := Go.Ground.phase }, { on := 5, ground := Go.Ground.phase }, { on := 6, ground := Go.Ground.phase }, { on := 7, ground := Go.Ground.phase }, { on := 8, ground := Go.Ground.phase }, { on := 9, ground := Go.Ground.phase }, { on := 10, ground := Go.Ground.phase }, { on := 11, ground := Go.Ground.phase }, { on := 12, ground := Go.Ground.phase }], guard := none }) rfl (fun K hK => ?_) ?_
            rotate_left
            exact AllReadyH.nil
            have hrow := heap_alloc_new w2 (.cells #[.int .u64 0, .int .i64 0, .int .i64 0, .bool false, .int .i64 0, .int .u32 0, .slice none 0 0] 156)
            refine step_store_row rfl 156 (.tmp 11) (.tmp 34) rfl w2.heap.size #[.int .u64 E0, .int .i64 ((i0 : Int) + (k : Int)), .int .i64 (pj : Nat), .bool false, .int .i64 0, .int .u32 (lkk : Nat), .slice q2 512 c2] rfl rfl 156 _ hrow (by kernel_rfl) rfl (by simp [Value.oneCell']) ?_
            refine hK.out _ _ (below_setRow (HA.out.alloc HA.out.size _) (by have := HZ.out; first | omega | (simp; done) | (simp; omega)) _) (fun _ => ?_)
            clear hK K
            try simp only [Act.put, List.setIfInBounds_toArray, List.set_cons_zero, List.set_cons_succ]
            refine wpAnyH_done (by kernel_rfl) ?_ _
            go_wp2_with fail
            go_meet
            exact ⟨w2.heap.size, q2, c2, rfl, setRow_heap _ _ _ _ _ _ hrow, below_setRow (HA.out.alloc HA.out.size _) (by have := HZ.out; first | omega | (simp; done) | (simp; omega)) _, (bytes_setRow HQ.out (by have := HNE.out; exact this) _).mono (by have := HZ.out; first | omega | (simp; done) | (simp; omega)), by have := HZ.out; first | omega | (simp; done) | (simp; omega)⟩
          ·
            try go_simp
            refine hK.out _ _ (((Below.refl w1.heap.size w1).alloc (Nat.le_refl _) _).drew) (fun H1 => ?_)
            clear hK K
            try simp only [Act.put, List.setIfInBounds_toArray, List.set_cons_zero, List.set_cons_succ]
            refine wpAnyH_ready (rs := [10]) (by kernel_rfl) (by simp) ?_
            refine AllReadyH.cons (o := { dst := some 33, op := Go.Op.call { callee := Go.Callee.value (Go.Operand.func 44), args := #[Go.Operand.tmp 32], argTypes := #[49] }, type := 49, pos := "counted.go:42", after := #[{ on := 9, ground := Go.Ground.data }], guard := none }) rfl (fun K hK => ?_) ?_
            rotate_left
            exact AllReadyH.nil
            try go_simp
            refine (CC1.out _ H1).mono ?_; rintro e w2 ⟨q2, c2, rfl, hq2, hb2⟩; have HA := Lib.hid (kbT H1 hb2); have HB := Lib.hid hb2; clear hb2
            refine hK.out _ _ HA.out (fun H2 => ?_)
            clear hK K
            try simp only [Act.put, List.setIfInBounds_toArray, List.set_cons_zero, List.set_cons_succ]
            refine wpAnyH_take (i := 11) (oi := { dst := some 34, op := Go.Op.build 156 #[(0, Go.Operand.tmp 24), (1, Go.Operand.tmp 26), (2, Go.Operand.tmp 28), (5, Go.Operand.tmp 30), (6, Go.Operand.tmp 33)], type := 156, pos := "counted.go:42", after := #[{ on := 1, ground := Go.Ground.data }, { on := 3, ground := Go.Ground.data }, { on := 5, ground := Go.Ground.data }, { on := 7, ground := Go.Ground.data }, { on := 10, ground := Go.Ground.data }], guard := none }) (v := ?_) rfl (by kernel_rfl) (by kernel_rfl) (by kernel_rfl) (fun _ _ _ h => h) (Or.inl ⟨by rfl, ?_⟩) H2 ?_
            rotate_left
            focus (intro w' hSw; (try dsimp only at hSw); go_simp; (try with_reducible rfl))
            simp only [Act.put, List.setIfInBounds_toArray, List.set_cons_zero, List.set_cons_succ]
            have HZ : Hid (w1.heap.size ≤ w1.heap.size) := Lib.hid (Nat.le_refl _)
            have HQ := Lib.hid hq2
            have HNE : Hid (∀ g, q2 = some ⟨g, 0, none⟩ → g ≠ w1.heap.size) := Lib.hid (fun g e => by obtain ⟨g', cur, e', h2, h3, -⟩ := hq2; rw [e] at e'; injection e' with e'; injection e' with e1; simp at h2; omega)
            refine wpAnyH_ready (rs := [13]) (by kernel_rfl) (by simp) ?_
            refine AllReadyH.cons (o := { dst := none, op := Go.Op.store 156 (Go.Operand.tmp 11) (Go.Operand.tmp 34), type := 0, pos := "counted.go:42", after := #[{ on := 12, ground := Go.Ground.data }, { on := 11, ground := Go.Ground.data }, { on := 10, ground := Go.Ground.chain }, { on := 0, ground := Go.Ground.phase }, { on := 1, ground := Go.Ground.phase }, { on := 2, ground := Go.Ground.phase }, { on := 3, ground := Go.Ground.phase }, { on := 4, ground := Go.Ground.phase }, { on := 5, ground := Go.Ground.phase }, { on := 6, ground := Go.Ground.phase }, { on := 7, ground := Go.Ground.phase }, { on := 8, ground := Go.Ground.phase }, { on := 9, ground := Go.Ground.phase }, { on := 10, ground := Go.Ground.phase }, { on := 11, ground := Go.Ground.phase }, { on := 12, ground := Go.Ground.phase }], guard := none }) rfl (fun K hK => ?_) ?_
            rotate_left
            exact AllReadyH.nil
            have hrow := (HB.out.block w1.heap.size (by simp)).trans (show ((w1.alloc (.cells #[.int .u64 0, .int .i64 0, .int .i64 0, .bool false, .int .i64 0, .int .u32 0, .slice none 0 0] 156)).drew).heap[w1.heap.size]? = _ from heap_alloc_new w1 _)
            refine step_store_row rfl 156 (.tmp 11) (.tmp 34) rfl w1.heap.size #[.int .u64 E0, .int .i64 ((i0 : Int) + (k : Int)), .int .i64 (pj : Nat), .bool false, .int .i64 0, .int .u32 (lkk : Nat), .slice q2 512 c2] rfl rfl 156 _ hrow (by kernel_rfl) rfl (by simp [Value.oneCell']) ?_
            refine hK.out _ _ (below_setRow HA.out (by have := HZ.out; first | omega | (simp; done) | (simp; omega)) _) (fun _ => ?_)
            clear hK K
            try simp only [Act.put, List.setIfInBounds_toArray, List.set_cons_zero, List.set_cons_succ]
            refine wpAnyH_done (by kernel_rfl) ?_ _
            go_wp2_with fail
            go_meet
            exact ⟨w1.heap.size, q2, c2, rfl, setRow_heap _ _ _ _ _ _ hrow, below_setRow HA.out (by have := HZ.out; first | omega | (simp; done) | (simp; omega)) _, (bytes_setRow HQ.out (by have := HNE.out; exact this) _).mono (by have := HZ.out; first | omega | (simp; done) | (simp; omega)), by have := HZ.out; first | omega | (simp; done) | (simp; omega)⟩
      case rest =>
        obtain ⟨b, q2, c2, rfl, hfr, hbw, hqb, hbb⟩ := hcut
        have a0 := (cell_of_row wc _ 0 _ _ _ hfr).trans rfl
        have a1 := (cell_of_row wc _ 1 _ _ _ hfr).trans rfl
        have a2 := (cell_of_row wc _ 2 _ _ _ hfr).trans rfl
        have a3 := (cell_of_row wc _ 3 _ _ _ hfr).trans rfl
        have a4 := (cell_of_row wc _ 4 _ _ _ hfr).trans rfl
        have a5 := (cell_of_row wc _ 5 _ _ _ hfr).trans rfl
        have a6 := (cell_of_row wc _ 6 _ _ _ hfr).trans rfl
        have z3 : wc.frozen? ⟨b, 3, none⟩ = false := frozen_of_row wc _ 3 _ _ hfr
        have z4 : wc.frozen? ⟨b, 4, none⟩ = false := frozen_of_row wc _ 4 _ _ hfr
        have hN3 : (N : Int) ≤ 2000 := by have := HN.out.1; omega
        have hk3 : (k : Int) ≤ 2000 := by omega
        by_cases hl : k + 1 = N
        · subst hl
          go_upto_region 9 with fail
          obtain ⟨wa, hwa⟩ : ∃ wa, wa = (wc.setCell ⟨b, 3, none⟩ (.bool true)).setCell ⟨b, 4, none⟩ (.int .i64 (sz : Int)) := ⟨_, rfl⟩
          rw [← hwa]
          have hfa : wa.heap[b]? = some (.cells #[.int .u64 E0, .int .i64 ((i0 : Int) + (k : Int)), .int .i64 (pj : Nat), .bool true, .int .i64 (sz : Int), .int .u32 (lkk : Nat), .slice q2 512 c2] 156 (0, 0)) := by subst hwa; exact row_set (row_set hfr _) _
          have hwb : Below w1.heap.size w1 wa := by subst hwa; exact (hbw.setCell hbb _).setCell hbb _
          have hqa : ByteBlk wa w1.heap.size q2 bsj := by subst hwa; exact bytes_set (bytes_set hqb hfr _ _) (row_set hfr _) _ _
          clear hwa
          clear hfr hbw hqb a0 a1 a2 a3 a4 a5 a6 z3 z4
          obtain ⟨e_lk, e_pj, e_cm, e_n, e_ok⟩ := HDT.out
          have hboxa := ((kbT HB1.out hwb).block _ (Array.getElem?_eq_some_iff.1 HBOX.out).1).trans HBOX.out
          have hcm2 : (L.getD (i0 + k) FR.zero).cm = true := by rw [e_cm]; simp
          have hn2 : (L.getD (i0 + k) FR.zero).n = sz := by rw [e_n]; simp
          have hfo : frameOk ((i0 + k : Nat) : Int) (pj : Nat) true ((sz : Nat) : Int) 512 = true := by have := e_ok.frame HN.out.2.1 (i := i0 + k) (by have := HN.out.1; omega); rw [hcm2, hn2, ← e_pj] at this; exact this
          have hlk : (~~~ sumN (frameB E0 (i0 + k) pj true sz lkk ++ bsj)).toNat = lk E0 L (i0 + (k + 1)) := by rw [e_lk, e_pj, HBS.out, ← hcm2, ← hn2]; rfl
          have efr : (fvOf E0 L (i0 + k) q2 c2).cs = #[.int .u64 E0, .int .i64 ((i0 : Int) + (k : Int)), .int .i64 (pj : Nat), .bool true, .int .i64 (sz : Int), .int .u32 (lkk : Nat), .slice q2 512 c2] := by simp only [fvOf, FV.cs]; rw [hcm2, hn2, ← e_pj, ← e_lk]; rfl
          have EFR := Lib.hid efr
          clear efr
          have CE := Lib.hid (endBehind_any E0 (i0 + k) pj true sz lkk HN.out.2.2 (by rw [e_lk]; exact lk_lt _ _ _) q2 c2 bsj (by rw [HBS.out]; exact e_ok.len) (by rw [HBS.out]; exact e_ok.byte) wa hqa.at' hfo)
          rw [hlk] at CE
          simp only [frameV, Int.natCast_add] at CE
          obtain ⟨lkn, hlkn⟩ : ∃ l, l = lk E0 L (i0 + (k + 1)) := ⟨_, rfl⟩
          rw [← hlkn] at CE
          have f0 := (cell_of_row wa _ 0 _ _ _ hfa).trans rfl; have f1 := (cell_of_row wa _ 1 _ _ _ hfa).trans rfl; have f2 := (cell_of_row wa _ 2 _ _ _ hfa).trans rfl; have f3 := (cell_of_row wa _ 3 _ _ _ hfa).trans rfl; have f4 := (cell_of_row wa _ 4 _ _ _ hfa).trans rfl; have f5 := (cell_of_row wa _ 5 _ _ _ hfa).trans rfl; have f6 := (cell_of_row wa _ 6 _ _ _ hfa).trans rfl
          have HFA := Lib.hid (And.intro hfa (And.intro hwb (And.intro hqa (And.intro hboxa hlkn))))
          clear hfa hwb hqa hboxa hlk hfo hlkn e_lk e_pj e_cm e_n e_ok hcm2 hn2
          go_upto_region 10 with (first
            | (go_at_call 99; go_must (refine CE.out.mono ?_); rintro e w4 ⟨rfl, hb4⟩; have HB4 := Lib.hid hb4; have hbx4 := (hb4.block _ (Array.getElem?_eq_some_iff.1 HFA.out.2.2.2.1).1).trans HFA.out.2.2.2.1; have g0 := (cell_of_row w4 _ 0 _ _ _ hbx4).trans rfl; have g1 := (cell_of_row w4 _ 1 _ _ _ hbx4).trans rfl; have g2 := (cell_of_row w4 _ 2 _ _ _ hbx4).trans rfl; have y0 : w4.frozen? ⟨w.heap.size, 0, none⟩ = false := frozen_of_row w4 _ 0 _ _ hbx4; have y1 : w4.frozen? ⟨w.heap.size, 1, none⟩ = false := frozen_of_row w4 _ 1 _ _ hbx4; have y2 : w4.frozen? ⟨w.heap.size, 2, none⟩ = false := frozen_of_row w4 _ 2 _ _ hbx4; have HBX4 := Lib.hid hbx4; clear hb4 hbx4)
            | fail)
          obtain ⟨w5, hw5⟩ : ∃ w5, w5 = ((w4.setCell ⟨w.heap.size, 0, none⟩ (.int .u64 E0)).setCell ⟨w.heap.size, 1, none⟩ (.int .i64 ((i0 : Int) + (k : Int) + 1))).setCell ⟨w.heap.size, 2, none⟩ (.int .u32 (lkn : Nat)) := ⟨_, rfl⟩
          rw [← hw5]
          have ap45 : Dk.Apart (fun g => g = w.heap.size) w4 w5 := by subst hw5; exact apart_set (apart_set (apart_set (apart_one _ _) _ _) _ _) _ _
          have ap5 : Dk.Apart (fun g => g = w.heap.size) wr w5 := apart_trans (Dk.Below.apart (kbT HB1.out (kbT HFA.out.2.1 HB4.out)) _) ap45
          have bx5 : w5.heap[w.heap.size]? = some (.cells #[.int .u64 E0, .int .i64 ((i0 : Int) + (k : Int) + 1), .int .u32 (lkn : Nat)] 41 (0, 0)) := by subst hw5; exact row_set (row_set (row_set HBX4.out _) _) _
          have hb4s := (Array.getElem?_eq_some_iff.1 HFA.out.1).1
          have hw1s : w.heap.size < w1.heap.size := Nat.lt_of_lt_of_le (Array.getElem?_eq_some_iff.1 HBOX.out).1 HB1.out.size
          have fr5 := (ap45.block b (Nat.lt_of_lt_of_le hb4s HB4.out.size) (by omega)).trans ((HB4.out.block b hb4s).trans HFA.out.1)
          have q5 : ByteBlk w5 w.heap.size q2 bsj := ((HFA.out.2.2.1.below HB4.out).apart ap45 HBX4.out (by decide)).mono (by omega)
          have own5 := Dk.ownsRow_kept HO.out (fun j hj => ap5.block j (HO.out.lt j hj).2 (fun e => own_type HO.out HJ.out.box (by decide) (by rw [← e]; exact hj.symm)))
          have fj5 := HJ.out.next ap5 (q := q2) (c := c2) (by rw [HXL.out, ← HFA.out.2.2.2.2]; exact bx5) (by rw [HXL.out, ← HBS.out]; exact q5)
          rw [HXL.out] at fj5
          have f0 := (cell_of_row w5 _ 0 _ _ _ fr5).trans rfl; have f1 := (cell_of_row w5 _ 1 _ _ _ fr5).trans rfl; have f2 := (cell_of_row w5 _ 2 _ _ _ fr5).trans rfl; have f3 := (cell_of_row w5 _ 3 _ _ _ fr5).trans rfl; have f4 := (cell_of_row w5 _ 4 _ _ _ fr5).trans rfl; have f5 := (cell_of_row w5 _ 5 _ _ _ fr5).trans rfl; have f6 := (cell_of_row w5 _ 6 _ _ _ fr5).trans rfl
          have FJ5 := Lib.hid fj5
          have OWN5 := Lib.hid own5
          have HSZ5 : Hid (w.heap.size + 1 ≤ w5.heap.size) := Lib.hid (by have := (Array.getElem?_eq_some_iff.1 bx5).1; omega)
          clear hw5 ap45 ap5 bx5 hb4s hw1s fr5 q5 own5 fj5 g0 g1 g2 y0 y1 y2
          go_wp2_with (first
            | (at_builtin; (try go_frame); refine wpList_append_own _ rfl _ _ 136 rfl (w.heap.size + 1) 156 i1 (.agg #[.int .u64 0, .int .i64 0, .int .i64 0, .bool false, .int .i64 0, .int .u32 0, .slice none 0 0]) 7 72 Tryz.underlying136 HI.out.1 HI.out.2.1 HI.out.2.2.1 HI.out.2.2.2 rfl (by decide) _ _ _ rfl (own_allocT OWN5.out _) ⟨w5.heap.size, 0, none⟩ 1 1 #[.int .u64 E0, .int .i64 ((i0 : Int) + (k : Int)), .int .i64 (pj : Nat), .bool true, .int .i64 (sz : Int), .int .u32 (lkk : Nat), .slice q2 512 c2].toList rfl rfl (news_row w5 _ _) (by simp [Value.oneCell']) (by unfold maxLen; omega) (by omega) (by have := HSZ5.out; simp; omega) ?_; intro v' w7 hr7 hg7 _; have HJ7 := Lib.hid ((FJ5.out.below ((Below.refl _ _).alloc (Nat.le_refl _) _)).grown (own_allocT OWN5.out _) hg7); obtain ⟨g7, cp7, rfl⟩ := own_sl hr7 (Nat.succ_pos k); have HR7 := Lib.hid hr7; clear hr7 hg7)
            | fail)
          go_roundw
          case rel =>
            exact ⟨_, _, _, _, _, ⟨k + 1, Nat.le_refl _, X ++ [fvOf E0 L (i0 + k) q2 c2], some ⟨g7, 0, none⟩, cp7, rfl, rfl, Lib.hid (by rw [List.length_append, HXL.out]; rfl), HJ7, Lib.hid (by rw [flatC_snoc, EFR.out]; exact HR7.out)⟩, rfl, rfl, rfl, rfl, rfl⟩
          case measure => first | exact meas_down _ k hlt | (simp only [intOf]; omega)
        · have hne : (((k : Int) == (N : Int) - 1)) = false := by rw [Bool.beq_eq_decide_eq]; exact decide_eq_false (by omega)
          go_upto_region 9 with fail
          obtain ⟨wa, hwa⟩ : ∃ wa, wa = wc := ⟨_, rfl⟩
          rw [← hwa]
          have hfa : wa.heap[b]? = some (.cells #[.int .u64 E0, .int .i64 ((i0 : Int) + (k : Int)), .int .i64 (pj : Nat), .bool false, .int .i64 0, .int .u32 (lkk : Nat), .slice q2 512 c2] 156 (0, 0)) := by subst hwa; exact hfr
          have hwb : Below w1.heap.size w1 wa := by subst hwa; exact hbw
          have hqa : ByteBlk wa w1.heap.size q2 bsj := by subst hwa; exact hqb
          clear hwa
          clear hfr hbw hqb a0 a1 a2 a3 a4 a5 a6 z3 z4
          obtain ⟨e_lk, e_pj, e_cm, e_n, e_ok⟩ := HDT.out
          have hboxa := ((kbT HB1.out hwb).block _ (Array.getElem?_eq_some_iff.1 HBOX.out).1).trans HBOX.out
          have hcm2 : (L.getD (i0 + k) FR.zero).cm = false := by rw [e_cm]; simp [hl]
          have hn2 : (L.getD (i0 + k) FR.zero).n = 0 := by rw [e_n]; simp [hl]
          have hfo : frameOk ((i0 + k : Nat) : Int) (pj : Nat) false ((0 : Nat) : Int) 512 = true := by have := e_ok.frame HN.out.2.1 (i := i0 + k) (by have := HN.out.1; omega); rw [hcm2, hn2, ← e_pj] at this; exact this
          have hlk : (~~~ sumN (frameB E0 (i0 + k) pj false 0 lkk ++ bsj)).toNat = lk E0 L (i0 + (k + 1)) := by rw [e_lk, e_pj, HBS.out, ← hcm2, ← hn2]; rfl
          have efr : (fvOf E0 L (i0 + k) q2 c2).cs = #[.int .u64 E0, .int .i64 ((i0 : Int) + (k : Int)), .int .i64 (pj : Nat), .bool false, .int .i64 0, .int .u32 (lkk : Nat), .slice q2 512 c2] := by simp only [fvOf, FV.cs]; rw [hcm2, hn2, ← e_pj, ← e_lk]; rfl
          have EFR := Lib.hid efr
          clear efr
          have CE := Lib.hid (endBehind_any E0 (i0 + k) pj false 0 lkk HN.out.2.2 (by rw [e_lk]; exact lk_lt _ _ _) q2 c2 bsj (by rw [HBS.out]; exact e_ok.len) (by rw [HBS.out]; exact e_ok.byte) wa hqa.at' hfo)
          rw [hlk] at CE
          simp only [frameV, Int.natCast_add, Int.ofNat_zero, Int.cast_ofNat_Int] at CE
          obtain ⟨lkn, hlkn⟩ : ∃ l, l = lk E0 L (i0 + (k + 1)) := ⟨_, rfl⟩
          rw [← hlkn] at CE
          have f0 := (cell_of_row wa _ 0 _ _ _ hfa).trans rfl; have f1 := (cell_of_row wa _ 1 _ _ _ hfa).trans rfl; have f2 := (cell_of_row wa _ 2 _ _ _ hfa).trans rfl; have f3 := (cell_of_row wa _ 3 _ _ _ hfa).trans rfl; have f4 := (cell_of_row wa _ 4 _ _ _ hfa).trans rfl; have f5 := (cell_of_row wa _ 5 _ _ _ hfa).trans rfl; have f6 := (cell_of_row wa _ 6 _ _ _ hfa).trans rfl
          have HFA := Lib.hid (And.intro hfa (And.intro hwb (And.intro hqa (And.intro hboxa hlkn))))
          clear hfa hwb hqa hboxa hlk hfo hlkn e_lk e_pj e_cm e_n e_ok hcm2 hn2
          go_upto_region 10 with (first
            | (go_at_call 99; go_must (refine CE.out.mono ?_); rintro e w4 ⟨rfl, hb4⟩; have HB4 := Lib.hid hb4; have hbx4 := (hb4.block _ (Array.getElem?_eq_some_iff.1 HFA.out.2.2.2.1).1).trans HFA.out.2.2.2.1; have g0 := (cell_of_row w4 _ 0 _ _ _ hbx4).trans rfl; have g1 := (cell_of_row w4 _ 1 _ _ _ hbx4).trans rfl; have g2 := (cell_of_row w4 _ 2 _ _ _ hbx4).trans rfl; have y0 : w4.frozen? ⟨w.heap.size, 0, none⟩ = false := frozen_of_row w4 _ 0 _ _ hbx4; have y1 : w4.frozen? ⟨w.heap.size, 1, none⟩ = false := frozen_of_row w4 _ 1 _ _ hbx4; have y2 : w4.frozen? ⟨w.heap.size, 2, none⟩ = false := frozen_of_row w4 _ 2 _ _ hbx4; have HBX4 := Lib.hid hbx4; clear hb4 hbx4)
            | fail)
          obtain ⟨w5, hw5⟩ : ∃ w5, w5 = ((w4.setCell ⟨w.heap.size, 0, none⟩ (.int .u64 E0)).setCell ⟨w.heap.size, 1, none⟩ (.int .i64 ((i0 : Int) + (k : Int) + 1))).setCell ⟨w.heap.size, 2, none⟩ (.int .u32 (lkn : Nat)) := ⟨_, rfl⟩
          rw [← hw5]
          have ap45 : Dk.Apart (fun g => g = w.heap.size) w4 w5 := by subst hw5; exact apart_set (apart_set (apart_set (apart_one _ _) _ _) _ _) _ _
          have ap5 : Dk.Apart (fun g => g = w.heap.size) wr w5 := apart_trans (Dk.Below.apart (kbT HB1.out (kbT HFA.out.2.1 HB4.out)) _) ap45
          have bx5 : w5.heap[w.heap.size]? = some (.cells #[.int .u64 E0, .int .i64 ((i0 : Int) + (k : Int) + 1), .int .u32 (lkn : Nat)] 41 (0, 0)) := by subst hw5; exact row_set (row_set (row_set HBX4.out _) _) _
          have hb4s := (Array.getElem?_eq_some_iff.1 HFA.out.1).1
          have hw1s : w.heap.size < w1.heap.size := Nat.lt_of_lt_of_le (Array.getElem?_eq_some_iff.1 HBOX.out).1 HB1.out.size
          have fr5 := (ap45.block b (Nat.lt_of_lt_of_le hb4s HB4.out.size) (by omega)).trans ((HB4.out.block b hb4s).trans HFA.out.1)
          have q5 : ByteBlk w5 w.heap.size q2 bsj := ((HFA.out.2.2.1.below HB4.out).apart ap45 HBX4.out (by decide)).mono (by omega)
          have own5 := Dk.ownsRow_kept HO.out (fun j hj => ap5.block j (HO.out.lt j hj).2 (fun e => own_type HO.out HJ.out.box (by decide) (by rw [← e]; exact hj.symm)))
          have fj5 := HJ.out.next ap5 (q := q2) (c := c2) (by rw [HXL.out, ← HFA.out.2.2.2.2]; exact bx5) (by rw [HXL.out, ← HBS.out]; exact q5)
          rw [HXL.out] at fj5
          have f0 := (cell_of_row w5 _ 0 _ _ _ fr5).trans rfl; have f1 := (cell_of_row w5 _ 1 _ _ _ fr5).trans rfl; have f2 := (cell_of_row w5 _ 2 _ _ _ fr5).trans rfl; have f3 := (cell_of_row w5 _ 3 _ _ _ fr5).trans rfl; have f4 := (cell_of_row w5 _ 4 _ _ _ fr5).trans rfl; have f5 := (cell_of_row w5 _ 5 _ _ _ fr5).trans rfl; have f6 := (cell_of_row w5 _ 6 _ _ _ fr5).trans rfl
          have FJ5 := Lib.hid fj5
          have OWN5 := Lib.hid own5
          have HSZ5 : Hid (w.heap.size + 1 ≤ w5.heap.size) := Lib.hid (by have := (Array.getElem?_eq_some_iff.1 bx5).1; omega)
          clear hw5 ap45 ap5 bx5 hb4s hw1s fr5 q5 own5 fj5 g0 g1 g2 y0 y1 y2
          go_wp2_with (first
            | (at_builtin; (try go_frame); refine wpList_append_own _ rfl _ _ 136 rfl (w.heap.size + 1) 156 i1 (.agg #[.int .u64 0, .int .i64 0, .int .i64 0, .bool false, .int .i64 0, .int .u32 0, .slice none 0 0]) 7 72 Tryz.underlying136 HI.out.1 HI.out.2.1 HI.out.2.2.1 HI.out.2.2.2 rfl (by decide) _ _ _ rfl (own_allocT OWN5.out _) ⟨w5.heap.size, 0, none⟩ 1 1 #[.int .u64 E0, .int .i64 ((i0 : Int) + (k : Int)), .int .i64 (pj : Nat), .bool false, .int .i64 0, .int .u32 (lkk : Nat), .slice q2 512 c2].toList rfl rfl (news_row w5 _ _) (by simp [Value.oneCell']) (by unfold maxLen; omega) (by omega) (by have := HSZ5.out; simp; omega) ?_; intro v' w7 hr7 hg7 _; have HJ7 := Lib.hid ((FJ5.out.below ((Below.refl _ _).alloc (Nat.le_refl _) _)).grown (own_allocT OWN5.out _) hg7); obtain ⟨g7, cp7, rfl⟩ := own_sl hr7 (Nat.succ_pos k); have HR7 := Lib.hid hr7; clear hr7 hg7)
            | fail)
          go_roundw
          case rel =>
            exact ⟨k + 1, X ++ [fvOf E0 L (i0 + k) q2 c2], some ⟨g7, 0, none⟩, cp7, hlt, rfl, by first | rfl | go_num, Lib.hid (by rw [List.length_append, HXL.out]; rfl), HJ7, Lib.hid (by rw [flatC_snoc, EFR.out]; exact HR7.out)⟩
          case measure => first | exact meas_down _ k hlt | (simp only [intOf]; omega)
    · obtain rfl : k = N := by omega
      go_wp2
      go_ret
      exact ⟨_, X, rfl, HXL.out, HO.out, HJ.out⟩
end Go.Proofs.YtdanigigjainjaaGreat
namespace Go.Proofs.YtdanigigjainjaaGreat
open Go.RowKit Go.Shelf
attribute [local go_sem] Oper.semAt_some

/-- The writes of frames, frame by frame. -/
def frOpsL (E : Nat) (L : List FR) (i m : Nat) : List (List DOp) := (List.range m).map fun j => layOps (2 + 9 * (i + j)) (frL E L (i + j))
theorem frOpsL_flat (E : Nat) (L : List FR) (i : Nat) : ∀ m, (frOpsL E L i m).flatten = frOps E L i m
  | 0 => rfl
  | m + 1 => by
    have ih := frOpsL_flat E L i m
    unfold frOpsL at ih ⊢
    rw [List.range_succ, List.map_append, List.flatten_append, ih, List.map_singleton, List.flatten_singleton, frOps]
theorem frOpsL_at {E : Nat} {L : List FR} {i m j : Nat} (h : j < m) : (frOpsL E L i m)[j]? = some (layOps (2 + 9 * (i + j)) (frL E L (i + j))) := by
  unfold frOpsL
  rw [List.getElem?_map, List.getElem?_range h]
  rfl
theorem app_ops (S E hn : Nat) (l m : List FR) (hm : m ≠ []) : (frOpsL E (l ++ m) l.length m.length ++ midOps m.length ++ [[headOp (S + 1) E (sizeF hn l) (l.length + m.length)], [.sy]]).flatten = appOps S E hn l m := by
  have h0 : m.length ≠ 0 := fun h => hm (List.length_eq_zero_iff.1 h)
  unfold midOps appOps
  rw [if_neg h0, List.flatten_append, List.flatten_append, frOpsL_flat]
  simp
/-- Frames' cells lie as they were appended. -/
theorem flat_at : ∀ (X : List FV) (j r : Nat) (x : FV) (v : Value), X[j]? = some x → x.cs[r]? = some v → (flatC X)[7 * j + r]? = some v
  | [], j, r, x, v, h, _ => by simp at h
  | y :: X, 0, r, x, v, h, hv => by
    simp only [List.getElem?_cons_zero, Option.some.injEq] at h
    subst h
    have hr : r < 7 := (Array.getElem?_eq_some_iff.1 hv).1
    unfold flatC
    rw [List.map_cons, List.flatten_cons, List.getElem?_append_left (by simp; omega)]
    simpa using hv
  | y :: X, j + 1, r, x, v, h, hv => by
    rw [List.getElem?_cons_succ] at h
    have ih := flat_at X j r x v h hv
    unfold flatC at ih ⊢
    rw [List.map_cons, List.flatten_cons, List.getElem?_append_right (by simp; omega), ← ih]
    congr 1
    simp
    omega
theorem rows_of {W : World} {base n : Nat} {q : Option Addr} {c : Nat} {X : List FV} (h : W.ownsRow base 156 7 (.slice q n c) n (flatC X)) : RowsAt W q (X.map FV.cs) := fun j x hx => by
  rw [List.getElem?_map] at hx
  cases hj : X[j]? with
  | none => rw [hj] at hx; cases hx
  | some y =>
    rw [hj] at hx
    simp only [Option.map_some, Option.some.injEq] at hx
    subst hx
    rcases h.2 with ⟨e, h0⟩ | ⟨g, cap, cur, e, -, -⟩
    · subst h0
      have := h.1
      have hz := flat_at X j 0 y _ hj rfl
      have he : flatC X = [] := List.length_eq_zero_iff.1 (by rw [this])
      rw [he] at hz
      simp at hz
    · injection e with e1 e2 e3
      subst e1
      refine ⟨g, 0, rfl, fun r v hv => ?_⟩
      have := h.cells (g := g) rfl _ _ (flat_at X j r y v hj hv)
      rw [addr_plain, Nat.zero_add] at this
      rw [Nat.zero_add]
      exact this
theorem frC_fr (x : FV) : IsFr x.cs := ⟨x.E, x.i, x.p, x.cm, x.n, x.k, x.q, 512, x.c, rfl⟩
/-- A frame that was made is written. -/
theorem frame_step (s : Dk.DS) (Bd f pg : Nat) (E : Nat) (L : List FR) (i : Nat) (q : Option Addr) (c : Nat) (F' : Foot) (W : World) (hR : Dk.RepD W (.pointer (some ⟨Bd, 0, none⟩)) s F') (hW : Dk.Whole s) (hs : s.sync.length + s.loose.length + (layOps (2 + 9 * i) (frL E L i)).length ≤ 19000)
    (hpl : planOk f pg = true) (hif : i < f) (hE : E < 2 ^ 64) (hok : (L.getD i FR.zero).Ok pg) (hpg : pg ≤ 2000) (hi : i ≤ 2000) (hb : BytesAt W q (L.getD i FR.zero).bs) (hn : q = none → c = 0) :
    Calls Tryz.prog 104 #[.agg #[.pointer (some ⟨Bd, 0, none⟩), .int .i64 (f : Int), .int .i64 (pg : Int)], .agg (fvOf E L i q c).cs] W fun r W' => r = .returned (.int .i64 (runOps s (layOps (2 + 9 * i) (frL E L i))).2) ∧ Dk.Goes Dk.RepD (.pointer (some ⟨Bd, 0, none⟩)) (runOps s (layOps (2 + 9 * i) (frL E L i))).1 F' W W' := by
  rw [layOps_length, frL_length _ _ _ hok.len, secN_576] at hs
  have := writeFrame_any s (.pointer (some ⟨Bd, 0, none⟩)) f pg E i (L.getD i FR.zero).p (L.getD i FR.zero).cm (L.getD i FR.zero).n (lk E L i) q c (L.getD i FR.zero).bs F' W hR hW ⟨by omega, by omega⟩ hpl (by omega) hE (lk_lt _ _ _) hok.len hok.byte hb hn (hok.frame hpg hi)
  rw [layS_run] at this
  exact this
/-- The pages behind an append. -/
theorem pages_next {w w' : World} {g : Nat → Option Value} {l m : List FR} {X0 X1 : Foot} {X : List FV} {E i0 : Nat} {L : List FR} (h : PagesIn w g (pageF l) X0) (hX0 : ∀ q bs, BytesAt w q bs → (∀ B off, q = some ⟨B, off, none⟩ → X0 B) → BytesAt w' q bs) (h0 : ∀ k, X0 k → X1 k)
    (hL : L = l ++ m) (hi : i0 = l.length) (hlen : X.length = m.length) (hfr : ∀ (j : Nat) (x : FV), X[j]? = some x → ∃ q c, x = fvOf E L (i0 + j) q c ∧ BytesAt w' q x.bs ∧ (q = none → c = 0) ∧ ∀ B off, q = some ⟨B, off, none⟩ → X1 B) : ∀ k, k ≤ m.length → PagesIn w' (takeG g (X.take k)) (pageF (l ++ m.take k)) X1
  | 0, _ => fun p hp => by
    simp only [List.take_zero, List.append_nil, takeG, List.foldl_nil]
    refine ⟨(h p hp).1, fun bs hb => ?_⟩
    obtain ⟨q, c, a1, a2, a3, a4⟩ := (h p hp).2 bs hb
    exact ⟨q, c, a1, hX0 q bs a2 a4, a3, fun B off e => h0 _ (a4 B off e)⟩
  | k + 1, hk => fun p hp => by
    have ih := pages_next h hX0 h0 hL hi hlen hfr k (by omega) p hp
    obtain ⟨x, hx⟩ : ∃ x, X[k]? = some x := ⟨_, List.getElem?_eq_getElem (by omega)⟩
    obtain ⟨y, hy⟩ : ∃ y, m[k]? = some y := ⟨_, List.getElem?_eq_getElem (by omega)⟩
    obtain ⟨q, c, e, b1, b2, b3⟩ := hfr k x hx
    have hg : L.getD (i0 + k) FR.zero = y := by
      rw [hL, hi, getD_app2 (by omega), List.getD_eq_getElem?_getD, hy]
      rfl
    have hxp : x.p = y.p ∧ x.bs = y.bs ∧ x.q = q ∧ x.c = c := by rw [e]; simp only [fvOf]; rw [hg]; simp
    rw [takeG_next g X k x hx, List.take_add_one, hy, Option.toList_some, ← List.append_assoc, pageF_snoc]
    obtain ⟨p1, p2, p3, p4⟩ := hxp
    unfold upV
    rw [p1, p3, p4]
    by_cases hpp : y.p = p
    · rw [if_pos hpp, if_pos hpp.symm]
      refine ⟨fun h => (by cases h), fun bs hb => ?_⟩
      injection hb with hb
      subst hb
      exact ⟨q, c, rfl, by rw [← p2]; exact b1, b2, b3⟩
    · rw [if_neg hpp, if_neg (fun e => hpp e.symm)]
      exact ih
end Go.Proofs.YtdanigigjainjaaGreat
namespace Go.Proofs.YtdanigigjainjaaGreat
open Go.RowKit Go.Shelf
attribute [local go_sem] Oper.semAt_some

set_option maxRecDepth 100000 in
set_option maxHeartbeats 16000000 in
theorem done_raw (B Bd : Nat) (f pg S E i0 k0 sz N size : Nat) (mb : Option Nat) (Fd : Foot) (st1 : Dk.DS) (st2 : Int) (qw : Option Addr) (cw : Nat) (P : World → Option Addr → Nat → Prop) (T : World → Prop) (w : World) (hL : LogAt w B ⟨some ⟨Bd, 0, none⟩, f, pg, S, E, i0, k0, sz, mb⟩) (hB : ¬ Fd B) (hFl : ∀ k, Fd k → k < w.heap.size) (hS : S + 1 < 2 ^ 64) (hN : i0 + N ≤ 2000)
    (hfr : ∀ w', Below w.heap.size w w' → Calls Tryz.prog 78 #[.pointer (some ⟨B, 4, none⟩), .int .i64 (size : Int), .slice qw N cw] w' fun r w2 => ∃ q c, r = .returned (.slice q N c) ∧ Below w'.heap.size w' w2 ∧ P w2 q c)
    (hwr : ∀ w2 w3 q c, P w2 q c → Below w2.heap.size w2 w3 → Calls Tryz.prog 79 #[.agg #[.pointer (some ⟨Bd, 0, none⟩), .int .i64 (f : Nat), .int .i64 (pg : Nat)], .agg #[.int .u64 (S + 1 : Nat), .int .u64 (E : Nat), .int .i64 (sz : Nat), .int .i64 (i0 + N : Nat)], .slice q N c] w3 fun r w4 => r = .returned (.int .i64 st2) ∧ Dk.Goes Dk.RepD (.pointer (some ⟨Bd, 0, none⟩)) st1 Fd w3 w4)
    (htk : ∀ w2 w3 w4 q c, P w2 q c → Below w2.heap.size w2 w3 → Dk.Goes Dk.RepD (.pointer (some ⟨Bd, 0, none⟩)) st1 Fd w3 w4 → ∀ w5, Dk.Apart (fun k => k = B) w4 w5 → LogAt w5 B ⟨some ⟨Bd, 0, none⟩, f, pg, S + 1, E, i0, k0, sz, mb⟩ → Calls Tryz.prog 80 #[.pointer (some ⟨B, 4, none⟩), .slice q N c] w5 fun r w6 => r = .returned (.tuple #[]) ∧ T w6) :
    Calls Tryz.prog 51 #[.agg #[.pointer (some ⟨B, 0, none⟩), .int .i64 (size : Int), .slice qw N cw]] w fun r w' => r = .returned (.int .i64 st2) ∧ (st2 ≠ 0 → Dk.Goes Dk.RepD (.pointer (some ⟨Bd, 0, none⟩)) st1 Fd w w') ∧ (st2 = 0 → T w') := by
  obtain ⟨S1, hS1⟩ : ∃ S1, S1 = S + 1 := ⟨_, rfl⟩
  obtain ⟨cnt, hcnt⟩ : ∃ c, c = i0 + N := ⟨_, rfl⟩
  rw [← hS1, ← hcnt] at hwr
  rw [← hS1] at htk
  have CFR := Lib.hid hfr
  have CW := Lib.hid hwr
  have CT := Lib.hid htk
  have HNB := Lib.hid (And.intro hB hFl)
  have hSw : IntKind.u64.wrap ((S : Int) + 1) = (S1 : Int) := by rw [wrap_u64 _ (by omega) (by omega), hS1]; rfl
  have hcw : IntKind.i64.wrap ((i0 : Int) + (N : Int)) = (cnt : Int) := by rw [hcnt]; simp only [IntKind.wrap, IntKind.signed, IntKind.bits]; simp; omega
  obtain ⟨w1, hw1⟩ : ∃ w1, w1 = w.alloc (.cells #[.pointer (some ⟨B, 0, none⟩), .int .i64 (size : Int), .slice qw N cw] 102) := ⟨_, rfl⟩
  have hb1 : Below w.heap.size w w1 := by subst hw1; exact (Below.refl _ _).alloc (Nat.le_refl _) _
  have ho1 : w1.heap[w.heap.size]? = some (.cells #[.pointer (some ⟨B, 0, none⟩), .int .i64 (size : Int), .slice qw N cw] 102 (0, 0)) := by subst hw1; exact heap_alloc_new _ _
  have HL := Lib.hid (logAt_below hL hb1)
  have HO := Lib.hid ho1
  have HB1 := Lib.hid hb1
  clear hfr hwr htk hB hFl hS hN hS1 hcnt hL hb1 ho1
  go_enter Tryz.func51, Tryz.ntmps51
  go_upto_region 2 with fail
  rw [← hw1]
  clear hw1
  refine wp_region_held_drew (S := fun w' => Below w1.heap.size w1 w') (by kernel_rfl) ((Below.refl _ _).drew) (fun H20 => ?_)
  refine wpAnyH_take (i := 0) (oi := { dst := some 9, op := Go.Op.move (Go.Operand.tmp 3), type := 30, pos := "order.go:38", after := #[], guard := none }) (v := ?_) rfl (by kernel_rfl) (by kernel_rfl) (by kernel_rfl) (fun _ _ _ h => h) (Or.inl ⟨by rfl, ?_⟩) H20 ?_
  rotate_left
  focus (intro w' hSw; (try dsimp only at hSw); go_simp; (try with_reducible rfl))
  simp only [Act.put, List.setIfInBounds_toArray, List.set_cons_zero, List.set_cons_succ]
  refine wpAnyH_take (i := 1) (oi := { dst := some 10, op := Go.Op.nilCheck (Go.Operand.tmp 9), type := 0, pos := "order.go:38", after := #[{ on := 0, ground := Go.Ground.data }], guard := none }) (v := ?_) rfl (by kernel_rfl) (by kernel_rfl) (by kernel_rfl) (fun _ _ _ h => h) (Or.inl ⟨by rfl, ?_⟩) H20 ?_
  rotate_left
  focus (intro w' hSw; (try dsimp only at hSw); go_simp; (try with_reducible rfl))
  simp only [Act.put, List.setIfInBounds_toArray, List.set_cons_zero, List.set_cons_succ]
  refine wpAnyH_take (i := 2) (oi := { dst := some 11, op := Go.Op.fieldAddr 46 (Go.Operand.tmp 10) 2, type := 0, pos := "order.go:38", after := #[{ on := 1, ground := Go.Ground.data }], guard := none }) (v := ?_) rfl (by kernel_rfl) (by kernel_rfl) (by kernel_rfl) (fun _ _ _ h => h) (Or.inl ⟨by rfl, ?_⟩) H20 ?_
  rotate_left
  focus (intro w' hSw; (try dsimp only at hSw); go_simp; (try with_reducible rfl))
  simp only [Act.put, List.setIfInBounds_toArray, List.set_cons_zero, List.set_cons_succ]
  refine wpAnyH_take (i := 3) (oi := { dst := some 12, op := Go.Op.fieldAddr 102 (Go.Operand.tmp 1) 1, type := 0, pos := "order.go:38", after := #[], guard := none }) (v := ?_) rfl (by kernel_rfl) (by kernel_rfl) (by kernel_rfl) (fun _ _ _ h => h) (Or.inl ⟨by rfl, ?_⟩) H20 ?_
  rotate_left
  focus (intro w' hSw; (try dsimp only at hSw); go_simp; (try with_reducible rfl))
  simp only [Act.put, List.setIfInBounds_toArray, List.set_cons_zero, List.set_cons_succ]
  refine wpAnyH_take (i := 4) (oi := { dst := some 13, op := Go.Op.load 3 (Go.Operand.tmp 12), type := 3, pos := "order.go:38", after := #[{ on := 3, ground := Go.Ground.data }], guard := none }) (v := ?_) rfl (by kernel_rfl) (by kernel_rfl) (by kernel_rfl) (fun _ _ _ h => h) (Or.inl ⟨by rfl, ?_⟩) H20 ?_
  rotate_left
  focus (intro w' hSw; (try dsimp only at hSw); have h := logAt_cells (logAt_below HL.out hSw); have s0 := h 0 _ rfl; have s1 := h 1 _ rfl; have s2 := h 2 _ rfl; have s3 := h 3 _ rfl; have s4 := h 4 _ rfl; have s5 := h 5 _ rfl; have s6 := h 6 _ rfl; have s7 := h 7 _ rfl; have e2 := (hSw.block _ (Array.getElem?_eq_some_iff.1 HO.out).1).trans HO.out; have o0 := (cell_of_row w' _ 0 _ _ _ e2).trans rfl; have o1 := (cell_of_row w' _ 1 _ _ _ e2).trans rfl; have o2 := (cell_of_row w' _ 2 _ _ _ e2).trans rfl; clear h e2; go_simp; (try with_reducible rfl))
  simp only [Act.put, List.setIfInBounds_toArray, List.set_cons_zero, List.set_cons_succ]
  refine wpAnyH_take (i := 5) (oi := { dst := some 14, op := Go.Op.fieldAddr 102 (Go.Operand.tmp 1) 2, type := 0, pos := "order.go:38", after := #[], guard := none }) (v := ?_) rfl (by kernel_rfl) (by kernel_rfl) (by kernel_rfl) (fun _ _ _ h => h) (Or.inl ⟨by rfl, ?_⟩) H20 ?_
  rotate_left
  focus (intro w' hSw; (try dsimp only at hSw); go_simp; (try with_reducible rfl))
  simp only [Act.put, List.setIfInBounds_toArray, List.set_cons_zero, List.set_cons_succ]
  refine wpAnyH_take (i := 6) (oi := { dst := some 15, op := Go.Op.load 67 (Go.Operand.tmp 14), type := 67, pos := "order.go:38", after := #[{ on := 5, ground := Go.Ground.data }], guard := none }) (v := ?_) rfl (by kernel_rfl) (by kernel_rfl) (by kernel_rfl) (fun _ _ _ h => h) (Or.inl ⟨by rfl, ?_⟩) H20 ?_
  rotate_left
  focus (intro w' hSw; (try dsimp only at hSw); have h := logAt_cells (logAt_below HL.out hSw); have s0 := h 0 _ rfl; have s1 := h 1 _ rfl; have s2 := h 2 _ rfl; have s3 := h 3 _ rfl; have s4 := h 4 _ rfl; have s5 := h 5 _ rfl; have s6 := h 6 _ rfl; have s7 := h 7 _ rfl; have e2 := (hSw.block _ (Array.getElem?_eq_some_iff.1 HO.out).1).trans HO.out; have o0 := (cell_of_row w' _ 0 _ _ _ e2).trans rfl; have o1 := (cell_of_row w' _ 1 _ _ _ e2).trans rfl; have o2 := (cell_of_row w' _ 2 _ _ _ e2).trans rfl; clear h e2; go_simp; (try with_reducible rfl))
  simp only [Act.put, List.setIfInBounds_toArray, List.set_cons_zero, List.set_cons_succ]
  refine wpAnyH_ready (rs := [7]) (by kernel_rfl) (by simp) ?_
  refine AllReadyH.cons (o := { dst := some 16, op := Go.Op.call { callee := Go.Callee.value (Go.Operand.func 78), args := #[Go.Operand.tmp 11, Go.Operand.tmp 13, Go.Operand.tmp 15], argTypes := #[44, 3, 67] }, type := 136, pos := "order.go:38", after := #[{ on := 2, ground := Go.Ground.data }, { on := 4, ground := Go.Ground.data }, { on := 6, ground := Go.Ground.data }], guard := none }) rfl (fun K hK => ?_) ?_
  rotate_left
  exact AllReadyH.nil
  try go_simp
  refine (CFR.out _ (kbT HB1.out ((Below.refl _ _).drew))).mono ?_; rintro e w2 ⟨q, c, rfl, hb2, hp2⟩; have HB2 := Lib.hid (kbT ((Below.refl w1.heap.size w1).drew) hb2); have HP2 := Lib.hid hp2; clear hb2 hp2
  try go_wp2_with fail
  refine hK.out _ _ HB2.out (fun H21 => ?_)
  clear hK K
  try simp only [Act.put, List.setIfInBounds_toArray, List.set_cons_zero, List.set_cons_succ]
  refine wpAnyH_take (i := 8) (oi := { dst := some 4, op := Go.Op.assign (Go.Operand.tmp 16), type := 136, pos := "order.go:38", after := #[{ on := 7, ground := Go.Ground.data }, { on := 7, ground := Go.Ground.chain }, { on := 0, ground := Go.Ground.phase }, { on := 1, ground := Go.Ground.phase }, { on := 2, ground := Go.Ground.phase }, { on := 3, ground := Go.Ground.phase }, { on := 4, ground := Go.Ground.phase }, { on := 5, ground := Go.Ground.phase }, { on := 6, ground := Go.Ground.phase }, { on := 7, ground := Go.Ground.phase }], guard := none }) (v := ?_) rfl (by kernel_rfl) (by kernel_rfl) (by kernel_rfl) (fun _ _ _ h => h) (Or.inl ⟨by rfl, ?_⟩) H21 ?_
  rotate_left
  focus (intro w' hSw; (try dsimp only at hSw); go_simp; (try with_reducible rfl))
  simp only [Act.put, List.setIfInBounds_toArray, List.set_cons_zero, List.set_cons_succ]
  refine wpAnyH_done (by kernel_rfl) ?_ _
  go_upto_region 3 with fail
  have HL2 := Lib.hid (logAt_below HL.out HB2.out)
  have HO2 := Lib.hid ((HB2.out.block _ (Array.getElem?_eq_some_iff.1 HO.out).1).trans HO.out)
  refine wp_region_held_drew (S := fun w' => Below w2.heap.size w2 w') (by kernel_rfl) ((Below.refl _ _).drew) (fun H30 => ?_)
  refine wpAnyH_take (i := 0) (oi := { dst := some 17, op := Go.Op.move (Go.Operand.tmp 3), type := 30, pos := "order.go:39", after := #[], guard := none }) (v := ?_) rfl (by kernel_rfl) (by kernel_rfl) (by kernel_rfl) (fun _ _ _ h => h) (Or.inl ⟨by rfl, ?_⟩) H30 ?_
  rotate_left
  focus (intro w' hSw; (try dsimp only at hSw); go_simp; (try with_reducible rfl))
  simp only [Act.put, List.setIfInBounds_toArray, List.set_cons_zero, List.set_cons_succ]
  refine wpAnyH_take (i := 1) (oi := { dst := some 18, op := Go.Op.nilCheck (Go.Operand.tmp 17), type := 0, pos := "order.go:39", after := #[{ on := 0, ground := Go.Ground.data }], guard := none }) (v := ?_) rfl (by kernel_rfl) (by kernel_rfl) (by kernel_rfl) (fun _ _ _ h => h) (Or.inl ⟨by rfl, ?_⟩) H30 ?_
  rotate_left
  focus (intro w' hSw; (try dsimp only at hSw); go_simp; (try with_reducible rfl))
  simp only [Act.put, List.setIfInBounds_toArray, List.set_cons_zero, List.set_cons_succ]
  refine wpAnyH_take (i := 2) (oi := { dst := some 19, op := Go.Op.fieldAddr 46 (Go.Operand.tmp 18) 1, type := 0, pos := "order.go:39", after := #[{ on := 1, ground := Go.Ground.data }], guard := none }) (v := ?_) rfl (by kernel_rfl) (by kernel_rfl) (by kernel_rfl) (fun _ _ _ h => h) (Or.inl ⟨by rfl, ?_⟩) H30 ?_
  rotate_left
  focus (intro w' hSw; (try dsimp only at hSw); go_simp; (try with_reducible rfl))
  simp only [Act.put, List.setIfInBounds_toArray, List.set_cons_zero, List.set_cons_succ]
  refine wpAnyH_take (i := 3) (oi := { dst := some 20, op := Go.Op.load 38 (Go.Operand.tmp 19), type := 38, pos := "order.go:39", after := #[{ on := 2, ground := Go.Ground.data }], guard := none }) (v := ?_) rfl (by kernel_rfl) (by kernel_rfl) (by kernel_rfl) (fun _ _ _ h => h) (Or.inl ⟨by rfl, ?_⟩) H30 ?_
  rotate_left
  focus (intro w' hSw; (try dsimp only at hSw); have h := logAt_cells (logAt_below HL2.out hSw); have s0 := h 0 _ rfl; have s1 := h 1 _ rfl; have s2 := h 2 _ rfl; have s3 := h 3 _ rfl; have s4 := h 4 _ rfl; have s5 := h 5 _ rfl; have s6 := h 6 _ rfl; have s7 := h 7 _ rfl; have e2 := (hSw.block _ (Array.getElem?_eq_some_iff.1 HO2.out).1).trans HO2.out; have o0 := (cell_of_row w' _ 0 _ _ _ e2).trans rfl; have o1 := (cell_of_row w' _ 1 _ _ _ e2).trans rfl; have o2 := (cell_of_row w' _ 2 _ _ _ e2).trans rfl; clear h e2; go_simp; (try with_reducible rfl))
  simp only [Act.put, List.setIfInBounds_toArray, List.set_cons_zero, List.set_cons_succ]
  refine wpAnyH_take (i := 4) (oi := { dst := some 21, op := Go.Op.binOp Go.BinOp.add 38 (Go.Operand.tmp 20) (Go.Operand.const (Go.Value.int Go.IntKind.u64 1)) 38, type := 38, pos := "order.go:39", after := #[{ on := 3, ground := Go.Ground.data }], guard := none }) (v := ?_) rfl (by kernel_rfl) (by kernel_rfl) (by kernel_rfl) (fun _ _ _ h => h) (Or.inl ⟨by rfl, ?_⟩) H30 ?_
  rotate_left
  focus (intro w' hSw; (try dsimp only at hSw); go_simp; (try with_reducible rfl))
  simp only [Act.put, List.setIfInBounds_toArray, List.set_cons_zero, List.set_cons_succ]
  refine wpAnyH_take (i := 5) (oi := { dst := some 22, op := Go.Op.move (Go.Operand.tmp 3), type := 30, pos := "order.go:39", after := #[], guard := none }) (v := ?_) rfl (by kernel_rfl) (by kernel_rfl) (by kernel_rfl) (fun _ _ _ h => h) (Or.inl ⟨by rfl, ?_⟩) H30 ?_
  rotate_left
  focus (intro w' hSw; (try dsimp only at hSw); go_simp; (try with_reducible rfl))
  simp only [Act.put, List.setIfInBounds_toArray, List.set_cons_zero, List.set_cons_succ]
  refine wpAnyH_take (i := 6) (oi := { dst := some 23, op := Go.Op.nilCheck (Go.Operand.tmp 22), type := 0, pos := "order.go:39", after := #[{ on := 5, ground := Go.Ground.data }], guard := none }) (v := ?_) rfl (by kernel_rfl) (by kernel_rfl) (by kernel_rfl) (fun _ _ _ h => h) (Or.inl ⟨by rfl, ?_⟩) H30 ?_
  rotate_left
  focus (intro w' hSw; (try dsimp only at hSw); go_simp; (try with_reducible rfl))
  simp only [Act.put, List.setIfInBounds_toArray, List.set_cons_zero, List.set_cons_succ]
  refine wpAnyH_take (i := 7) (oi := { dst := some 24, op := Go.Op.fieldAddr 46 (Go.Operand.tmp 23) 2, type := 0, pos := "order.go:39", after := #[{ on := 6, ground := Go.Ground.data }], guard := none }) (v := ?_) rfl (by kernel_rfl) (by kernel_rfl) (by kernel_rfl) (fun _ _ _ h => h) (Or.inl ⟨by rfl, ?_⟩) H30 ?_
  rotate_left
  focus (intro w' hSw; (try dsimp only at hSw); go_simp; (try with_reducible rfl))
  simp only [Act.put, List.setIfInBounds_toArray, List.set_cons_zero, List.set_cons_succ]
  refine wpAnyH_take (i := 8) (oi := { dst := some 25, op := Go.Op.fieldAddr 44 (Go.Operand.tmp 24) 0, type := 0, pos := "order.go:39", after := #[{ on := 7, ground := Go.Ground.data }], guard := none }) (v := ?_) rfl (by kernel_rfl) (by kernel_rfl) (by kernel_rfl) (fun _ _ _ h => h) (Or.inl ⟨by rfl, ?_⟩) H30 ?_
  rotate_left
  focus (intro w' hSw; (try dsimp only at hSw); go_simp; (try with_reducible rfl))
  simp only [Act.put, List.setIfInBounds_toArray, List.set_cons_zero, List.set_cons_succ]
  refine wpAnyH_take (i := 9) (oi := { dst := some 26, op := Go.Op.fieldAddr 41 (Go.Operand.tmp 25) 0, type := 0, pos := "order.go:39", after := #[{ on := 8, ground := Go.Ground.data }], guard := none }) (v := ?_) rfl (by kernel_rfl) (by kernel_rfl) (by kernel_rfl) (fun _ _ _ h => h) (Or.inl ⟨by rfl, ?_⟩) H30 ?_
  rotate_left
  focus (intro w' hSw; (try dsimp only at hSw); go_simp; (try with_reducible rfl))
  simp only [Act.put, List.setIfInBounds_toArray, List.set_cons_zero, List.set_cons_succ]
  refine wpAnyH_take (i := 10) (oi := { dst := some 27, op := Go.Op.load 38 (Go.Operand.tmp 26), type := 38, pos := "order.go:39", after := #[{ on := 9, ground := Go.Ground.data }], guard := none }) (v := ?_) rfl (by kernel_rfl) (by kernel_rfl) (by kernel_rfl) (fun _ _ _ h => h) (Or.inl ⟨by rfl, ?_⟩) H30 ?_
  rotate_left
  focus (intro w' hSw; (try dsimp only at hSw); have h := logAt_cells (logAt_below HL2.out hSw); have s0 := h 0 _ rfl; have s1 := h 1 _ rfl; have s2 := h 2 _ rfl; have s3 := h 3 _ rfl; have s4 := h 4 _ rfl; have s5 := h 5 _ rfl; have s6 := h 6 _ rfl; have s7 := h 7 _ rfl; have e2 := (hSw.block _ (Array.getElem?_eq_some_iff.1 HO2.out).1).trans HO2.out; have o0 := (cell_of_row w' _ 0 _ _ _ e2).trans rfl; have o1 := (cell_of_row w' _ 1 _ _ _ e2).trans rfl; have o2 := (cell_of_row w' _ 2 _ _ _ e2).trans rfl; clear h e2; go_simp; (try with_reducible rfl))
  simp only [Act.put, List.setIfInBounds_toArray, List.set_cons_zero, List.set_cons_succ]
  refine wpAnyH_take (i := 11) (oi := { dst := some 28, op := Go.Op.move (Go.Operand.tmp 3), type := 30, pos := "order.go:39", after := #[], guard := none }) (v := ?_) rfl (by kernel_rfl) (by kernel_rfl) (by kernel_rfl) (fun _ _ _ h => h) (Or.inl ⟨by rfl, ?_⟩) H30 ?_
  rotate_left
  focus (intro w' hSw; (try dsimp only at hSw); go_simp; (try with_reducible rfl))
  simp only [Act.put, List.setIfInBounds_toArray, List.set_cons_zero, List.set_cons_succ]
  refine wpAnyH_take (i := 12) (oi := { dst := some 29, op := Go.Op.nilCheck (Go.Operand.tmp 28), type := 0, pos := "order.go:39", after := #[{ on := 11, ground := Go.Ground.data }], guard := none }) (v := ?_) rfl (by kernel_rfl) (by kernel_rfl) (by kernel_rfl) (fun _ _ _ h => h) (Or.inl ⟨by rfl, ?_⟩) H30 ?_
  rotate_left
  focus (intro w' hSw; (try dsimp only at hSw); go_simp; (try with_reducible rfl))
  simp only [Act.put, List.setIfInBounds_toArray, List.set_cons_zero, List.set_cons_succ]
  refine wpAnyH_take (i := 13) (oi := { dst := some 30, op := Go.Op.fieldAddr 46 (Go.Operand.tmp 29) 2, type := 0, pos := "order.go:39", after := #[{ on := 12, ground := Go.Ground.data }], guard := none }) (v := ?_) rfl (by kernel_rfl) (by kernel_rfl) (by kernel_rfl) (fun _ _ _ h => h) (Or.inl ⟨by rfl, ?_⟩) H30 ?_
  rotate_left
  focus (intro w' hSw; (try dsimp only at hSw); go_simp; (try with_reducible rfl))
  simp only [Act.put, List.setIfInBounds_toArray, List.set_cons_zero, List.set_cons_succ]
  refine wpAnyH_take (i := 14) (oi := { dst := some 31, op := Go.Op.fieldAddr 44 (Go.Operand.tmp 30) 1, type := 0, pos := "order.go:39", after := #[{ on := 13, ground := Go.Ground.data }], guard := none }) (v := ?_) rfl (by kernel_rfl) (by kernel_rfl) (by kernel_rfl) (fun _ _ _ h => h) (Or.inl ⟨by rfl, ?_⟩) H30 ?_
  rotate_left
  focus (intro w' hSw; (try dsimp only at hSw); go_simp; (try with_reducible rfl))
  simp only [Act.put, List.setIfInBounds_toArray, List.set_cons_zero, List.set_cons_succ]
  refine wpAnyH_take (i := 15) (oi := { dst := some 32, op := Go.Op.load 3 (Go.Operand.tmp 31), type := 3, pos := "order.go:39", after := #[{ on := 14, ground := Go.Ground.data }], guard := none }) (v := ?_) rfl (by kernel_rfl) (by kernel_rfl) (by kernel_rfl) (fun _ _ _ h => h) (Or.inl ⟨by rfl, ?_⟩) H30 ?_
  rotate_left
  focus (intro w' hSw; (try dsimp only at hSw); have h := logAt_cells (logAt_below HL2.out hSw); have s0 := h 0 _ rfl; have s1 := h 1 _ rfl; have s2 := h 2 _ rfl; have s3 := h 3 _ rfl; have s4 := h 4 _ rfl; have s5 := h 5 _ rfl; have s6 := h 6 _ rfl; have s7 := h 7 _ rfl; have e2 := (hSw.block _ (Array.getElem?_eq_some_iff.1 HO2.out).1).trans HO2.out; have o0 := (cell_of_row w' _ 0 _ _ _ e2).trans rfl; have o1 := (cell_of_row w' _ 1 _ _ _ e2).trans rfl; have o2 := (cell_of_row w' _ 2 _ _ _ e2).trans rfl; clear h e2; go_simp; (try with_reducible rfl))
  simp only [Act.put, List.setIfInBounds_toArray, List.set_cons_zero, List.set_cons_succ]
  refine wpAnyH_take (i := 16) (oi := { dst := some 33, op := Go.Op.move (Go.Operand.tmp 3), type := 30, pos := "order.go:39", after := #[], guard := none }) (v := ?_) rfl (by kernel_rfl) (by kernel_rfl) (by kernel_rfl) (fun _ _ _ h => h) (Or.inl ⟨by rfl, ?_⟩) H30 ?_
  rotate_left
  focus (intro w' hSw; (try dsimp only at hSw); go_simp; (try with_reducible rfl))
  simp only [Act.put, List.setIfInBounds_toArray, List.set_cons_zero, List.set_cons_succ]
  refine wpAnyH_take (i := 17) (oi := { dst := some 34, op := Go.Op.nilCheck (Go.Operand.tmp 33), type := 0, pos := "order.go:39", after := #[{ on := 16, ground := Go.Ground.data }], guard := none }) (v := ?_) rfl (by kernel_rfl) (by kernel_rfl) (by kernel_rfl) (fun _ _ _ h => h) (Or.inl ⟨by rfl, ?_⟩) H30 ?_
  rotate_left
  focus (intro w' hSw; (try dsimp only at hSw); go_simp; (try with_reducible rfl))
  simp only [Act.put, List.setIfInBounds_toArray, List.set_cons_zero, List.set_cons_succ]
  refine wpAnyH_take (i := 18) (oi := { dst := some 35, op := Go.Op.fieldAddr 46 (Go.Operand.tmp 34) 2, type := 0, pos := "order.go:39", after := #[{ on := 17, ground := Go.Ground.data }], guard := none }) (v := ?_) rfl (by kernel_rfl) (by kernel_rfl) (by kernel_rfl) (fun _ _ _ h => h) (Or.inl ⟨by rfl, ?_⟩) H30 ?_
  rotate_left
  focus (intro w' hSw; (try dsimp only at hSw); go_simp; (try with_reducible rfl))
  simp only [Act.put, List.setIfInBounds_toArray, List.set_cons_zero, List.set_cons_succ]
  refine wpAnyH_take (i := 19) (oi := { dst := some 36, op := Go.Op.fieldAddr 44 (Go.Operand.tmp 35) 0, type := 0, pos := "order.go:39", after := #[{ on := 18, ground := Go.Ground.data }], guard := none }) (v := ?_) rfl (by kernel_rfl) (by kernel_rfl) (by kernel_rfl) (fun _ _ _ h => h) (Or.inl ⟨by rfl, ?_⟩) H30 ?_
  rotate_left
  focus (intro w' hSw; (try dsimp only at hSw); go_simp; (try with_reducible rfl))
  simp only [Act.put, List.setIfInBounds_toArray, List.set_cons_zero, List.set_cons_succ]
  refine wpAnyH_take (i := 20) (oi := { dst := some 37, op := Go.Op.fieldAddr 41 (Go.Operand.tmp 36) 1, type := 0, pos := "order.go:39", after := #[{ on := 19, ground := Go.Ground.data }], guard := none }) (v := ?_) rfl (by kernel_rfl) (by kernel_rfl) (by kernel_rfl) (fun _ _ _ h => h) (Or.inl ⟨by rfl, ?_⟩) H30 ?_
  rotate_left
  focus (intro w' hSw; (try dsimp only at hSw); go_simp; (try with_reducible rfl))
  simp only [Act.put, List.setIfInBounds_toArray, List.set_cons_zero, List.set_cons_succ]
  refine wpAnyH_take (i := 21) (oi := { dst := some 38, op := Go.Op.load 3 (Go.Operand.tmp 37), type := 3, pos := "order.go:39", after := #[{ on := 20, ground := Go.Ground.data }], guard := none }) (v := ?_) rfl (by kernel_rfl) (by kernel_rfl) (by kernel_rfl) (fun _ _ _ h => h) (Or.inl ⟨by rfl, ?_⟩) H30 ?_
  rotate_left
  focus (intro w' hSw; (try dsimp only at hSw); have h := logAt_cells (logAt_below HL2.out hSw); have s0 := h 0 _ rfl; have s1 := h 1 _ rfl; have s2 := h 2 _ rfl; have s3 := h 3 _ rfl; have s4 := h 4 _ rfl; have s5 := h 5 _ rfl; have s6 := h 6 _ rfl; have s7 := h 7 _ rfl; have e2 := (hSw.block _ (Array.getElem?_eq_some_iff.1 HO2.out).1).trans HO2.out; have o0 := (cell_of_row w' _ 0 _ _ _ e2).trans rfl; have o1 := (cell_of_row w' _ 1 _ _ _ e2).trans rfl; have o2 := (cell_of_row w' _ 2 _ _ _ e2).trans rfl; clear h e2; go_simp; (try with_reducible rfl))
  simp only [Act.put, List.setIfInBounds_toArray, List.set_cons_zero, List.set_cons_succ]
  refine wpAnyH_take (i := 22) (oi := { dst := some 39, op := Go.Op.move (Go.Operand.tmp 4), type := 136, pos := "order.go:39", after := #[], guard := none }) (v := ?_) rfl (by kernel_rfl) (by kernel_rfl) (by kernel_rfl) (fun _ _ _ h => h) (Or.inl ⟨by rfl, ?_⟩) H30 ?_
  rotate_left
  focus (intro w' hSw; (try dsimp only at hSw); go_simp; (try with_reducible rfl))
  simp only [Act.put, List.setIfInBounds_toArray, List.set_cons_zero, List.set_cons_succ]
  refine wpAnyH_take (i := 23) (oi := { dst := some 40, op := Go.Op.call { callee := Go.Callee.builtin Go.Builtin.len, args := #[Go.Operand.tmp 39], argTypes := #[136] }, type := 3, pos := "order.go:39", after := #[{ on := 22, ground := Go.Ground.data }], guard := none }) (v := ?_) rfl (by kernel_rfl) (by kernel_rfl) (by kernel_rfl) (fun _ _ _ h => h) (Or.inl ⟨by rfl, ?_⟩) H30 ?_
  rotate_left
  focus (intro w' hSw; (try dsimp only at hSw); go_simp; (try with_reducible rfl))
  simp only [Act.put, List.setIfInBounds_toArray, List.set_cons_zero, List.set_cons_succ]
  refine wpAnyH_take (i := 24) (oi := { dst := some 41, op := Go.Op.binOp Go.BinOp.add 3 (Go.Operand.tmp 38) (Go.Operand.tmp 40) 3, type := 3, pos := "order.go:39", after := #[{ on := 21, ground := Go.Ground.data }, { on := 23, ground := Go.Ground.data }], guard := none }) (v := ?_) rfl (by kernel_rfl) (by kernel_rfl) (by kernel_rfl) (fun _ _ _ h => h) (Or.inl ⟨by rfl, ?_⟩) H30 ?_
  rotate_left
  focus (intro w' hSw; (try dsimp only at hSw); go_simp; (try with_reducible rfl))
  simp only [Act.put, List.setIfInBounds_toArray, List.set_cons_zero, List.set_cons_succ]
  refine wpAnyH_take (i := 25) (oi := { dst := some 42, op := Go.Op.build 127 #[(0, Go.Operand.tmp 21), (1, Go.Operand.tmp 27), (2, Go.Operand.tmp 32), (3, Go.Operand.tmp 41)], type := 127, pos := "order.go:39", after := #[{ on := 4, ground := Go.Ground.data }, { on := 10, ground := Go.Ground.data }, { on := 15, ground := Go.Ground.data }, { on := 24, ground := Go.Ground.data }], guard := none }) (v := ?_) rfl (by kernel_rfl) (by kernel_rfl) (by kernel_rfl) (fun _ _ _ h => h) (Or.inl ⟨by rfl, ?_⟩) H30 ?_
  rotate_left
  focus (intro w' hSw; (try dsimp only at hSw); go_simp; (try with_reducible rfl))
  simp only [Act.put, List.setIfInBounds_toArray, List.set_cons_zero, List.set_cons_succ]
  refine wpAnyH_ready (rs := [26]) (by kernel_rfl) (by simp) ?_
  refine AllReadyH.cons (o := { dst := some 5, op := Go.Op.alloc 127, type := 0, pos := "order.go:39", after := #[], guard := none }) rfl (fun K hK => ?_) ?_
  rotate_left
  exact AllReadyH.nil
  try go_simp
  refine hK.out _ _ (((Below.refl w2.heap.size w2).alloc (Nat.le_refl _) _).drew) (fun H31 => ?_)
  clear hK K
  try simp only [Act.put, List.setIfInBounds_toArray, List.set_cons_zero, List.set_cons_succ]
  refine wpAnyH_ready (rs := [27]) (by kernel_rfl) (by simp) ?_
  refine AllReadyH.cons (o := { dst := none, op := Go.Op.store 127 (Go.Operand.tmp 5) (Go.Operand.tmp 42), type := 0, pos := "order.go:39", after := #[{ on := 26, ground := Go.Ground.data }, { on := 25, ground := Go.Ground.data }, { on := 0, ground := Go.Ground.phase }, { on := 1, ground := Go.Ground.phase }, { on := 2, ground := Go.Ground.phase }, { on := 3, ground := Go.Ground.phase }, { on := 4, ground := Go.Ground.phase }, { on := 5, ground := Go.Ground.phase }, { on := 6, ground := Go.Ground.phase }, { on := 7, ground := Go.Ground.phase }, { on := 8, ground := Go.Ground.phase }, { on := 9, ground := Go.Ground.phase }, { on := 10, ground := Go.Ground.phase }, { on := 11, ground := Go.Ground.phase }, { on := 12, ground := Go.Ground.phase }, { on := 13, ground := Go.Ground.phase }, { on := 14, ground := Go.Ground.phase }, { on := 15, ground := Go.Ground.phase }, { on := 16, ground := Go.Ground.phase }, { on := 17, ground := Go.Ground.phase }, { on := 18, ground := Go.Ground.phase }, { on := 19, ground := Go.Ground.phase }, { on := 20, ground := Go.Ground.phase }, { on := 21, ground := Go.Ground.phase }, { on := 22, ground := Go.Ground.phase }, { on := 23, ground := Go.Ground.phase }, { on := 24, ground := Go.Ground.phase }, { on := 25, ground := Go.Ground.phase }, { on := 26, ground := Go.Ground.phase }], guard := none }) rfl (fun K hK => ?_) ?_
  rotate_left
  exact AllReadyH.nil
  try go_simp
  obtain ⟨w3, hw3⟩ : ∃ w3, w3 = (w2.alloc (.cells #[.int .u64 (S1 : Nat), .int .u64 (E : Nat), .int .i64 (sz : Nat), .int .i64 (cnt : Nat)] 127)).drew := ⟨_, rfl⟩
  rw [← hw3]
  have hb3 : Below w2.heap.size w2 w3 := by subst hw3; exact ((Below.refl _ _).alloc (Nat.le_refl _) _).drew
  have hx3 : w3.heap[w2.heap.size]? = some (.cells #[.int .u64 (S1 : Nat), .int .u64 (E : Nat), .int .i64 (sz : Nat), .int .i64 (cnt : Nat)] 127 (0, 0)) := by subst hw3; exact heap_alloc_new w2 _
  have HB3 := Lib.hid hb3
  have HX3 := Lib.hid hx3
  refine hK.out _ _ hb3 (fun H32 => ?_)
  clear hK K hw3 hx3 hb3
  try simp only [Act.put, List.setIfInBounds_toArray, List.set_cons_zero, List.set_cons_succ]
  refine wpAnyH_done (by kernel_rfl) ?_ _
  go_upto_region 4 with fail
  have HC4 : Hid (∀ w', Dk.Apart Fd w3 w' → LogAt w' B ⟨some ⟨Bd, 0, none⟩, f, pg, S, E, i0, k0, sz, mb⟩ ∧ w'.heap[w2.heap.size]? = some (.cells #[.int .u64 (S1 : Nat), .int .u64 (E : Nat), .int .i64 (sz : Nat), .int .i64 (cnt : Nat)] 127 (0, 0))) := Lib.hid fun w' ha => by
    have hl := logAt_below HL2.out HB3.out
    have hbx := (Array.getElem?_eq_some_iff.1 HX3.out).1
    exact ⟨(ha.block B (Array.getElem?_eq_some_iff.1 hl).1 HNB.out.1).trans hl, (ha.block _ hbx (fun h => by have := HNB.out.2 _ h; have := HB1.out.size; have := HB2.out.size; omega)).trans HX3.out⟩
  refine wp_region_held_drew (S := fun w' => Dk.Apart Fd w3 w') (by kernel_rfl) (Dk.Below.apart ((Below.refl _ _).drew) Fd) (fun H40 => ?_)
  refine wpAnyH_take (i := 0) (oi := { dst := some 43, op := Go.Op.move (Go.Operand.tmp 3), type := 30, pos := "order.go:40", after := #[], guard := none }) (v := ?_) rfl (by kernel_rfl) (by kernel_rfl) (by kernel_rfl) (fun _ _ _ h => h) (Or.inl ⟨by rfl, ?_⟩) H40 ?_
  rotate_left
  focus (intro w' hSw; (try dsimp only at hSw); go_simp; (try with_reducible rfl))
  simp only [Act.put, List.setIfInBounds_toArray, List.set_cons_zero, List.set_cons_succ]
  refine wpAnyH_take (i := 1) (oi := { dst := some 44, op := Go.Op.nilCheck (Go.Operand.tmp 43), type := 0, pos := "order.go:40", after := #[{ on := 0, ground := Go.Ground.data }], guard := none }) (v := ?_) rfl (by kernel_rfl) (by kernel_rfl) (by kernel_rfl) (fun _ _ _ h => h) (Or.inl ⟨by rfl, ?_⟩) H40 ?_
  rotate_left
  focus (intro w' hSw; (try dsimp only at hSw); go_simp; (try with_reducible rfl))
  simp only [Act.put, List.setIfInBounds_toArray, List.set_cons_zero, List.set_cons_succ]
  refine wpAnyH_take (i := 2) (oi := { dst := some 45, op := Go.Op.fieldAddr 46 (Go.Operand.tmp 44) 0, type := 0, pos := "order.go:40", after := #[{ on := 1, ground := Go.Ground.data }], guard := none }) (v := ?_) rfl (by kernel_rfl) (by kernel_rfl) (by kernel_rfl) (fun _ _ _ h => h) (Or.inl ⟨by rfl, ?_⟩) H40 ?_
  rotate_left
  focus (intro w' hSw; (try dsimp only at hSw); go_simp; (try with_reducible rfl))
  simp only [Act.put, List.setIfInBounds_toArray, List.set_cons_zero, List.set_cons_succ]
  refine wpAnyH_take (i := 3) (oi := { dst := some 46, op := Go.Op.load 37 (Go.Operand.tmp 45), type := 37, pos := "order.go:40", after := #[{ on := 2, ground := Go.Ground.data }], guard := none }) (v := ?_) rfl (by kernel_rfl) (by kernel_rfl) (by kernel_rfl) (fun _ _ _ h => h) (Or.inl ⟨by rfl, ?_⟩) H40 ?_
  rotate_left
  focus (intro w' hSw; (try dsimp only at hSw); obtain ⟨e1, e2⟩ := HC4.out _ hSw; have h := logAt_cells e1; have s0 := h 0 _ rfl; have s1 := h 1 _ rfl; have s2 := h 2 _ rfl; have t0 := (cell_of_row w' _ 0 _ _ _ e2).trans rfl; have t1 := (cell_of_row w' _ 1 _ _ _ e2).trans rfl; have t2 := (cell_of_row w' _ 2 _ _ _ e2).trans rfl; have t3 := (cell_of_row w' _ 3 _ _ _ e2).trans rfl; clear h e1 e2; go_simp; (try with_reducible rfl))
  simp only [Act.put, List.setIfInBounds_toArray, List.set_cons_zero, List.set_cons_succ]
  refine wpAnyH_take (i := 4) (oi := { dst := some 47, op := Go.Op.load 127 (Go.Operand.tmp 5), type := 127, pos := "order.go:40", after := #[], guard := none }) (v := ?_) rfl (by kernel_rfl) (by kernel_rfl) (by kernel_rfl) (fun _ _ _ h => h) (Or.inl ⟨by rfl, ?_⟩) H40 ?_
  rotate_left
  focus (intro w' hSw; (try dsimp only at hSw); obtain ⟨e1, e2⟩ := HC4.out _ hSw; have h := logAt_cells e1; have s0 := h 0 _ rfl; have s1 := h 1 _ rfl; have s2 := h 2 _ rfl; have t0 := (cell_of_row w' _ 0 _ _ _ e2).trans rfl; have t1 := (cell_of_row w' _ 1 _ _ _ e2).trans rfl; have t2 := (cell_of_row w' _ 2 _ _ _ e2).trans rfl; have t3 := (cell_of_row w' _ 3 _ _ _ e2).trans rfl; clear h e1 e2; go_simp; (try with_reducible rfl))
  simp only [Act.put, List.setIfInBounds_toArray, List.set_cons_zero, List.set_cons_succ]
  refine wpAnyH_take (i := 5) (oi := { dst := some 48, op := Go.Op.move (Go.Operand.tmp 4), type := 136, pos := "order.go:40", after := #[], guard := none }) (v := ?_) rfl (by kernel_rfl) (by kernel_rfl) (by kernel_rfl) (fun _ _ _ h => h) (Or.inl ⟨by rfl, ?_⟩) H40 ?_
  rotate_left
  focus (intro w' hSw; (try dsimp only at hSw); go_simp; (try with_reducible rfl))
  simp only [Act.put, List.setIfInBounds_toArray, List.set_cons_zero, List.set_cons_succ]
  refine wpAnyH_ready (rs := [6]) (by kernel_rfl) (by simp) ?_
  refine AllReadyH.cons (o := { dst := some 49, op := Go.Op.call { callee := Go.Callee.value (Go.Operand.func 79), args := #[Go.Operand.tmp 46, Go.Operand.tmp 47, Go.Operand.tmp 48], argTypes := #[37, 127, 136] }, type := 25, pos := "order.go:40", after := #[{ on := 3, ground := Go.Ground.data }, { on := 4, ground := Go.Ground.data }, { on := 5, ground := Go.Ground.data }], guard := none }) rfl (fun K hK => ?_) ?_
  rotate_left
  exact AllReadyH.nil
  try go_simp
  refine (CW.out w2 _ q c HP2.out (kbT HB3.out ((Below.refl _ _).drew))).mono ?_; rintro e w4 ⟨rfl, hg⟩; have HG := Lib.hid (goes_behind ((Below.refl w3.heap.size w3).drew) hg); clear hg
  try go_wp2_with fail
  refine hK.out _ _ (by obtain ⟨_, _, _, ha⟩ := HG.out; exact ha) (fun H41 => ?_)
  clear hK K
  try simp only [Act.put, List.setIfInBounds_toArray, List.set_cons_zero, List.set_cons_succ]
  refine wpAnyH_take (i := 7) (oi := { dst := some 6, op := Go.Op.assign (Go.Operand.tmp 49), type := 25, pos := "order.go:40", after := #[{ on := 6, ground := Go.Ground.data }, { on := 6, ground := Go.Ground.chain }, { on := 0, ground := Go.Ground.phase }, { on := 1, ground := Go.Ground.phase }, { on := 2, ground := Go.Ground.phase }, { on := 3, ground := Go.Ground.phase }, { on := 4, ground := Go.Ground.phase }, { on := 5, ground := Go.Ground.phase }, { on := 6, ground := Go.Ground.phase }], guard := none }) (v := ?_) rfl (by kernel_rfl) (by kernel_rfl) (by kernel_rfl) (fun _ _ _ h => h) (Or.inl ⟨by rfl, ?_⟩) H41 ?_
  rotate_left
  focus (intro w' hSw; (try dsimp only at hSw); go_simp; (try with_reducible rfl))
  simp only [Act.put, List.setIfInBounds_toArray, List.set_cons_zero, List.set_cons_succ]
  refine wpAnyH_done (by kernel_rfl) ?_ _
  have HB13 := Lib.hid (kbT HB1.out (kbT HB2.out HB3.out))
  by_cases he : st2 = 0
  · subst he
    obtain ⟨hl4, hx4⟩ := HC4.out w4 (by obtain ⟨_, _, _, ha⟩ := HG.out; exact ha)
    have b0 := (cell_of_row w4 _ 0 _ _ _ hx4).trans rfl
    have c3 := logAt_cells hl4 3 _ rfl
    have z3 := logAt_fz hl4 3
    have HL4 := Lib.hid hl4
    clear hl4 hx4
    go_wp2_with (first
      | (go_at_call 80; refine (CT.out w2 w3 w4 q c HP2.out HB3.out HG.out _ (apart_set (apart_one _ _) 3 _) (row_set HL4.out _)).mono ?_; rintro e w6 ⟨rfl, ht⟩; have HT := Lib.hid ht; clear ht)
      | fail)
    go_ret
    first | exact ⟨rfl, HT.out⟩ | exact ⟨rfl, fun h => absurd rfl h, fun _ => HT.out⟩
  · have hne : (st2 == 0) = false := by simpa using he
    go_wp2
    go_ret
    have hg := goes_behind HB13.out HG.out
    first | exact ⟨rfl, fun _ => hg, fun h => absurd h he⟩ | exact ⟨rfl, hg⟩
end Go.Proofs.YtdanigigjainjaaGreat
namespace Go.Proofs.YtdanigigjainjaaGreat
open Go.RowKit Go.Shelf
attribute [local go_sem] Oper.semAt_some

/-- What a log is behind an append. -/
def AppendTo (w w' : World) (B Bd : Nat) (s : Dk.DS) (f pg S E hn : Nat) (l m : List FR) (F : Foot) (N : Nat) (e : Int) : Prop := e = (runOps s (appOps S E hn l m)).2 ∧ ∃ F', (∀ k, F' k → F k ∨ w.heap.size ≤ k) ∧ Dk.Apart F w w' ∧ (e ≠ 0 → LogR w' B Bd (runOps s (appOps S E hn l m)).1 f pg S E hn l F' N) ∧ (e = 0 → LogR w' B Bd (runOps s (appOps S E hn l m)).1 f pg (S + 1) E (sizeF hn l) (l ++ m) F' (N + m.length))
/-- Frames that were made for an append, in memory. -/
def MadeAt (b0 : Nat) (E i0 : Nat) (L : List FR) (N : Nat) (w2 : World) (q : Option Addr) (c : Nat) (X : List FV) : Prop := X.length = N ∧ w2.ownsRow b0 156 7 (.slice q N c) N (flatC X) ∧ ∀ (j : Nat) (x : FV), X[j]? = some x → ∃ q c, x = fvOf E L (i0 + j) q c ∧ ByteBlk w2 b0 q x.bs
theorem MadeAt.below {b0 : Nat} {w2 w3 : World} {E i0 N : Nat} {L : List FR} {q : Option Addr} {c : Nat} {X : List FV} (h : MadeAt b0 E i0 L N w2 q c X) (hb : Below w2.heap.size w2 w3) : MadeAt b0 E i0 L N w3 q c X := by
  obtain ⟨h2, h3, h4⟩ := h
  exact ⟨h2, own_belowT h3 hb, fun j x hx => by obtain ⟨q, c, e, h⟩ := h4 j x hx; exact ⟨q, c, e, h.below hb⟩⟩
/-- .. apart from blocks that are older. -/
theorem MadeAt.apart {b0 : Nat} {w2 w3 : World} {E i0 N : Nat} {L : List FR} {q : Option Addr} {c : Nat} {X : List FV} {G : Foot} (h : MadeAt b0 E i0 L N w2 q c X) (ha : Dk.Apart G w2 w3) (hG : ∀ k, G k → k < b0) : MadeAt b0 E i0 L N w3 q c X := by
  obtain ⟨h2, h3, h4⟩ := h
  refine ⟨h2, Dk.ownsRow_kept h3 (fun j hj => ha.block j (h3.lt j hj).2 (fun hg => by have := hG j hg; have := (h3.lt j hj).1; omega)), fun j x hx => ?_⟩
  obtain ⟨q', c', e, g, cur, e2, h5, h6, h7⟩ := h4 j x hx
  exact ⟨q', c', e, g, cur, e2, h5, (ha.block g (Array.getElem?_eq_some_iff.1 h6).1 (fun hg => by have := hG g hg; omega)).trans h6, h7⟩
theorem ByteBlk.nn {W : World} {b : Nat} {q : Option Addr} {l : List Nat} (h : ByteBlk W b q l) : q ≠ none := by
  obtain ⟨g, cur, rfl, -⟩ := h
  simp
/-- The frames are written, and behind them a head. -/
theorem made_write (b0 Bd : Nat) (s : Dk.DS) (f pg S E hn : Nat) (l m : List FR) (F : Foot) (w3 : World) (q : Option Addr) (c : Nat) (X : List FV) (hM : MadeAt b0 E l.length (l ++ m) m.length w3 q c X) (hR : Dk.RepD w3 (.pointer (some ⟨Bd, 0, none⟩)) s F) (hFl : ∀ k, F k → k < b0) (hW : Dk.Whole s) (hlen : s.sync.length + s.loose.length ≤ 9000) (hp : 1 ≤ f ∧ f ≤ 2000 ∧ 1 ≤ pg ∧ pg ≤ 2000) (hno : NextOk f pg l m) (hm : m.length ≤ 1000) (hS : S + 1 < 2 ^ 64) (hE : E < 2 ^ 64) (hsz : sizeF hn l ≤ 2000) :
    Calls Tryz.prog 79 #[.agg #[.pointer (some ⟨Bd, 0, none⟩), .int .i64 (f : Nat), .int .i64 (pg : Nat)], .agg #[.int .u64 (S + 1 : Nat), .int .u64 (E : Nat), .int .i64 (sizeF hn l : Nat), .int .i64 (l.length + m.length : Nat)], .slice q m.length c] w3 fun r w4 => r = .returned (.int .i64 (runOps s (appOps S E hn l m)).2) ∧ Dk.Goes Dk.RepD (.pointer (some ⟨Bd, 0, none⟩)) (runOps s (appOps S E hn l m)).1 F w3 w4 := by
  obtain ⟨hX, hown, hfr⟩ := hM
  have hpl : planOk (f : Int) (pg : Int) = true := by unfold planOk; simp only [Bool.and_eq_true, decide_eq_true_eq]; omega
  have hops := app_ops S E hn l m hno.ne
  have hflat : (frOpsL E (l ++ m) l.length m.length).flatten.length ≤ 9 * m.length := by
    rw [frOpsL_flat]
    have : ∀ k, k ≤ m.length → (frOps E (l ++ m) l.length k).length ≤ 9 * k := fun k => by
      induction k with
      | zero => intro _; simp [frOps]
      | succ k ih =>
        intro hk
        have h5 : (frL E (l ++ m) (l.length + k)).length = 576 := frL_length _ _ _ (hno.size k (by omega))
        rw [frOps, List.length_append, layOps_length, h5, secN_576]
        have := ih (by omega)
        omega
    exact this _ (Nat.le_refl _)
  have hlen2 : s.sync.length + s.loose.length + (frOpsL E (l ++ m) l.length m.length ++ midOps (X.map FV.cs).length ++ [[headOp (S + 1) E (sizeF hn l) (l.length + m.length)], [.sy]]).flatten.length ≤ 19000 := by
    rw [List.flatten_append, List.flatten_append, List.length_append, List.length_append]
    have h4 : (midOps (X.map FV.cs).length).flatten.length ≤ 1 := by unfold midOps; split <;> simp
    have h3 : ([[headOp (S + 1) E (sizeF hn l) (l.length + m.length)], [.sy]] : List (List DOp)).flatten.length = 2 := rfl
    rw [h3]
    omega
  have := write_any s (.pointer (some ⟨Bd, 0, none⟩)) f pg (S + 1) E (sizeF hn l) (l.length + m.length) (X.map FV.cs) (frOpsL E (l ++ m) l.length m.length) q c F w3 hR hW hS hE (by simp only [headOk, Bool.and_eq_true, decide_eq_true_eq]; have := hno.len; omega) (fun x hx => by obtain ⟨y, -, rfl⟩ := List.mem_map.1 hx; exact frC_fr y) (by simp [frOpsL, hX]) (by simp [hX]; omega) (rows_of hown) hlen2 ?_
  · rw [List.length_map, hX, hops] at this
    exact this
  · intro j x o hx ho w2 hb2 s2 F' W hR2 hF' ha hW2 hs2
    rw [List.getElem?_map] at hx
    cases hj : X[j]? with
    | none => rw [hj] at hx; cases hx
    | some y =>
      rw [hj] at hx
      simp only [Option.map_some, Option.some.injEq] at hx
      subst hx
      have hjl : j < m.length := by have := (List.getElem?_eq_some_iff.1 hj).1; omega
      rw [frOpsL_at hjl] at ho
      injection ho with ho
      subst ho
      obtain ⟨q', c', e, hq⟩ := hfr j y hj
      have hok : ((l ++ m).getD (l.length + j) FR.zero).Ok pg := by rw [getD_app2 hjl]; exact oks_at hno.oks hjl
      have hbl := hq.below hb2
      obtain ⟨g, cur, eq, h5, h6, h7⟩ := hbl
      have hq2 : ByteBlk W b0 q' y.bs := ⟨g, cur, eq, h5, (ha.block g (Array.getElem?_eq_some_iff.1 h6).1 (fun h => by have := hFl g h; omega)).trans h6, h7⟩
      rw [e] at hq2 ⊢
      have := hno.len
      exact frame_step s2 Bd f pg E (l ++ m) (l.length + j) q' c' F' W hR2 hW2 hs2 hpl (by omega) hE hok (by omega) (by omega) hq2.at' (fun h => absurd h hq2.nn)
end Go.Proofs.YtdanigigjainjaaGreat
namespace Go.Proofs.YtdanigigjainjaaGreat
open Go.RowKit Go.Shelf
attribute [local go_sem] Oper.semAt_some

theorem own_mono {W : World} {b b2 sz n : Nat} {e : TypeId} {v : Value} {xs : List Value} (h : W.ownsRow b e sz v n xs) (hb : b2 ≤ b) : W.ownsRow b2 e sz v n xs := by
  refine ⟨h.1, ?_⟩
  rcases h.2 with h1 | ⟨g, cap, cur, e, h2, h3⟩
  · exact .inl h1
  · exact .inr ⟨g, cap, cur, e, Nat.le_trans hb h2, h3⟩
/-- The rows of an append's pages. -/
def PagesRow (w : World) (qw : Option Addr) (m : List FR) : Prop := ∀ j, j < m.length → ∃ Bw off q c, qw = some ⟨Bw, off, none⟩ ∧ w.cell? ⟨Bw, off + j * 2, none⟩ = some (.int .i64 ((m.getD j FR.zero).p : Nat)) ∧ w.cell? ⟨Bw, off + j * 2 + 1, none⟩ = some (.slice q 512 c) ∧ BytesAt w q (m.getD j FR.zero).bs
def Commits (m : List FR) (size : Nat) : Prop := ∀ j, j < m.length → (m.getD j FR.zero).cm = decide (j + 1 = m.length) ∧ (m.getD j FR.zero).n = (if j + 1 = m.length then size else 0)
theorem made_frames (B : Nat) (x : LogV) (E pg size : Nat) (l m : List FR) (qw : Option Addr) (cw : Nat) (w w' : World) (hb : Below w.heap.size w w') (hL : LogAt w B x) (hxE : x.E = E) (hxi : x.i = (l.length : Int)) (hxk : x.k = lk E l l.length) (hE : E < 2 ^ 64) (hN : l.length + m.length ≤ 2000) (hpg : pg ≤ 2000) (hok : ∀ y ∈ m, y.Ok pg) (hne : m ≠ []) (hcm : Commits m size) (hrow : PagesRow w qw m) :
    Calls Tryz.prog 78 #[.pointer (some ⟨B, 4, none⟩), .int .i64 (size : Int), .slice qw m.length cw] w' fun r w2 => ∃ q c, r = .returned (.slice q m.length c) ∧ Below w'.heap.size w' w2 ∧ (Below w.heap.size w w2 ∧ ∃ X, MadeAt w.heap.size E l.length (l ++ m) m.length w2 q c X) := by
  refine (wframes_any B x E l.length m.length size (l ++ m) pg qw cw w' (logAt_below hL hb) hxE hxi (by rw [hxk, lk_app _ _ _ _ (Nat.le_refl _)]) hE hN hpg (fun j hj => by rw [getD_app2 hj]; exact oks_at hok hj) (fun j hj => by rw [getD_app2 hj]; exact hcm j hj) (fun j hj => ?_)).mono ?_
  · obtain ⟨Bw, off, q, c, e, h1, h2, h3⟩ := hrow j hj
    rw [getD_app2 hj]
    exact ⟨Bw, off, q, c, e, (hb.cell (lt_of_cell_some h1)).trans h1, (hb.cell (lt_of_cell_some h2)).trans h2, bytesAt_below h3 hb⟩
  · rintro r w2 ⟨v, X, rfl, hX, ho, hj⟩
    have hpos : 0 < m.length := List.length_pos_iff.2 hne
    obtain ⟨g, c, rfl⟩ := own_sl ho hpos
    exact ⟨some ⟨g, 0, none⟩, c, rfl, hj.hb, kbT hb hj.hb, X, hX, own_mono ho (by have := hb.size; omega), fun j x hx => by
      obtain ⟨q, c, e, h⟩ := hj.fr j x hx
      exact ⟨q, c, e, h.mono hb.size⟩⟩
theorem end_fv (E : Nat) (L : List FR) (i : Nat) (q : Option Addr) (c pg : Nat) (w : World) (hE : E < 2 ^ 64) (hok : (L.getD i FR.zero).Ok pg) (hpg : pg ≤ 2000) (hi : i ≤ 2000) (hb : BytesAt w q (L.getD i FR.zero).bs) :
    Calls Tryz.prog 99 #[.agg (fvOf E L i q c).cs] w fun r w2 => r = .returned (.agg #[.int .u64 (fvOf E L i q c).E, .int .i64 (((fvOf E L i q c).i : Int) + 1), .int .u32 ((fvOf E L i q c).sum : Nat)]) ∧ Below w.heap.size w w2 :=
  endBehind_any E i (L.getD i FR.zero).p (L.getD i FR.zero).cm (L.getD i FR.zero).n (lk E L i) hE (lk_lt _ _ _) q c (L.getD i FR.zero).bs hok.len hok.byte w hb (hok.frame hpg hi)
set_option maxRecDepth 100000 in
set_option maxHeartbeats 2000000 in
theorem done_any (B Bd : Nat) (s : Dk.DS) (f pg S E hn size : Nat) (l m : List FR) (F : Foot) (N : Nat) (qw : Option Addr) (cw : Nat) (w : World) (h : LogR w B Bd s f pg S E hn l F N) (hW : Dk.Whole s) (hlen : s.sync.length + s.loose.length ≤ 9000) (hp : 1 ≤ f ∧ f ≤ 2000 ∧ 1 ≤ pg ∧ pg ≤ 2000) (hno : NextOk f pg l m) (hm : m.length ≤ 1000) (hNN : N ≤ 80000) (hS : S + 1 < 2 ^ 64) (hE : E < 2 ^ 64) (hsz : sizeF hn l ≤ 2000) (hcm : Commits m size) (hrow : PagesRow w qw m) :
    Calls Tryz.prog 51 #[.agg #[.pointer (some ⟨B, 0, none⟩), .int .i64 (size : Int), .slice qw m.length cw]] w fun r w' => ∃ e, r = .returned (.int .i64 e) ∧ AppendTo w w' B Bd s f pg S E hn l m F N e := by
  obtain ⟨mb, Fd, X0, g, r⟩ := h
  have hlN := hno.len
  have hFd : ∀ k, Fd k → k < w.heap.size := Dk.diskOk.low _ _ _ _ r.rep
  have hFF : ∀ k, Fd k → F k := fun k hk => (r.foot k).2 (.inr (.inr (.inl hk)))
  have hBl := (Array.getElem?_eq_some_iff.1 r.log).1
  have hml := r.map.lt
  have hpos : 0 < m.length := List.length_pos_iff.2 hno.ne
  refine (done_raw B Bd f pg S E l.length (lk E l l.length) (sizeF hn l) m.length size (some mb) Fd (runOps s (appOps S E hn l m)).1 (runOps s (appOps S E hn l m)).2 qw cw
    (fun w2 q c => Below w.heap.size w w2 ∧ ∃ X, MadeAt w.heap.size E l.length (l ++ m) m.length w2 q c X)
    (fun w' => ∃ F', (∀ k, F' k → F k ∨ w.heap.size ≤ k) ∧ Dk.Apart F w w' ∧ LogR w' B Bd (runOps s (appOps S E hn l m)).1 f pg (S + 1) E (sizeF hn l) (l ++ m) F' (N + m.length)) w r.log r.nB.1 hFd hS (by omega) ?_ ?_ ?_).mono ?_
  · exact fun w' hb => made_frames B _ E pg size l m qw cw w w' hb r.log rfl rfl rfl hE (by omega) (by omega) hno.oks hno.ne hcm hrow
  · rintro w2 w3 q c ⟨hb2, X, hM⟩ hb3
    exact made_write w.heap.size Bd s f pg S E hn l m Fd w3 q c X (hM.below hb3) (rep_below r.rep (kbT hb2 hb3)) hFd hW hlen hp hno hm hS hE hsz
  · rintro w2 w3 w4 q c ⟨hb2, X, hM⟩ hb3 ⟨F4, hR4, hF4, ha4⟩ w5 ha5 hL5
    have hb23 := kbT hb2 hb3
    have hM3 := hM.below hb3
    have hM4 := hM3.apart ha4 hFd
    have hM5 := hM4.apart ha5 (fun k hk => by rw [hk]; exact hBl)
    have hBm : mb ≠ B := by
      obtain ⟨es, c, hb⟩ := r.map.heap
      rintro rfl
      have := r.log
      unfold LogAt at this
      rw [this] at hb
      cases hb
    have hmap5 : MapV w5 mb g N := ((r.map.below hb23).of_block (ha4.block mb (Nat.lt_of_lt_of_le hml hb23.size) r.nm.1)).of_block (ha5.block mb (Nat.lt_of_lt_of_le hml (Nat.le_trans hb23.size ha4.size)) hBm)
    obtain ⟨hXl, hown5, hfr5⟩ := hM5
    obtain ⟨y0, hy0⟩ : ∃ y, X.getLast? = some y := by
      cases hX : X.getLast? with
      | none => rw [List.getLast?_eq_none_iff.1 hX] at hXl; simp at hXl; omega
      | some y => exact ⟨y, rfl⟩
    have hyk : X[m.length - 1]? = some y0 := by rw [List.getLast?_eq_getElem?, hXl] at hy0; exact hy0
    obtain ⟨q0, c0, e0, hq0⟩ := hfr5 _ _ hyk
    have hokj : ∀ j, j < m.length → ((l ++ m).getD (l.length + j) FR.zero).Ok pg := fun j hj => by rw [getD_app2 hj]; exact oks_at hno.oks hj
    have hok0 := hokj (m.length - 1) (by omega)
    have hcall : ∀ w', Dk.Apart (fun k => k = mb) w5 w' → Calls Tryz.prog 99 #[.agg y0.cs] w' fun r w2 => r = .returned (.agg #[.int .u64 y0.E, .int .i64 ((y0.i : Int) + 1), .int .u32 (y0.sum : Nat)]) ∧ Below w'.heap.size w' w2 := fun w' ha' => by
      obtain ⟨-, -, hfr'⟩ := MadeAt.apart (G := fun k => k = mb) ⟨hXl, hown5, hfr5⟩ ha' (fun k hk => by rw [hk]; exact hml)
      obtain ⟨q1, c1, e1, hq1⟩ := hfr' _ _ hyk
      rw [e1] at hq1 ⊢
      exact end_fv E (l ++ m) (l.length + (m.length - 1)) q1 c1 pg w' hE hok0 (by omega) (by omega) hq1.at'
    have hT := take_any B mb ⟨some ⟨Bd, 0, none⟩, f, pg, S + 1, E, l.length, lk E l l.length, sizeF hn l, some mb⟩ g N X q c y0 w5 hL5 rfl hmap5 (by omega) (rows_of (by rw [← hXl] at hown5; exact hown5)) (fun y hy => by
      obtain ⟨j, hj⟩ := List.mem_iff_getElem?.1 hy
      obtain ⟨q1, c1, e1, -⟩ := hfr5 j y hj
      have := (hokj j (by have := (List.getElem?_eq_some_iff.1 hj).1; omega)).p
      rw [e1]
      show ((l ++ m).getD (l.length + j) FR.zero).p < 40000
      omega) hy0 hcall
    rw [hXl] at hT
    refine hT.mono ?_
    rintro e w6 ⟨rfl, hl6, hm6, ha6⟩
    refine ⟨rfl, ?_⟩
    have hnB : ¬ F4 B := fun x => (hF4 B x).elim r.nB.1 (fun x => by have := hb23.size; omega)
    have hnm : ¬ F4 mb := fun x => (hF4 mb x).elim r.nm.1 (fun x => by have := hb23.size; omega)
    have hlo4 := Dk.diskOk.low _ _ _ _ hR4
    have hR6 : Dk.RepD w6 (.pointer (some ⟨Bd, 0, none⟩)) (runOps s (appOps S E hn l m)).1 F4 := Dk.diskOk.keep _ _ _ _ _ hR4 (Nat.le_trans ha5.size ha6.size) (fun k hk => (ha6.block k (Nat.lt_of_lt_of_le (hlo4 k hk) ha5.size) (fun x => x.elim (fun e => hnB (e ▸ hk)) (fun e => hnm (e ▸ hk)))).trans (ha5.block k (hlo4 k hk) (fun e => hnB (e ▸ hk))))
    have hold : ∀ k, k < w.heap.size → ¬ Fd k → k ≠ B → k ≠ mb → w6.heap[k]? = w.heap[k]? := fun k hk h1 h2 h3 => by
      have k3 := Nat.lt_of_lt_of_le hk hb23.size
      have k4 := Nat.lt_of_lt_of_le k3 ha4.size
      exact (ha6.block k (Nat.lt_of_lt_of_le k4 ha5.size) (fun x => x.elim h2 h3)).trans ((ha5.block k k4 h2).trans ((ha4.block k k3 h1).trans (hb23.block k hk)))
    obtain ⟨-, -, hfr6⟩ := MadeAt.apart (G := fun k => k = B ∨ k = mb) ⟨hXl, hown5, hfr5⟩ ha6 (fun k hk => hk.elim (fun h => by rw [h]; exact hBl) (fun h => by rw [h]; exact hml))
    have hpn := pages_next (w' := w6) (X1 := fun k => X0 k ∨ ∃ (j : Nat) (x : FV), X[j]? = some x ∧ ∃ off, x.q = some ⟨k, off, none⟩) (E := E) r.pages (fun q bs hb hx => bytesAt_foot hb hx (fun k hk => hold k (r.nX k hk).2 (r.nX k hk).1 (fun e => r.nB.2 (e ▸ hk)) (fun e => r.nm.2 (e ▸ hk)))) (fun k hk => .inl hk) rfl rfl hXl (fun j x hx => by
      obtain ⟨q1, c1, e1, hq1⟩ := hfr6 j x hx
      exact ⟨q1, c1, e1, hq1.at', fun e => absurd e hq1.nn, fun B' off e => .inr ⟨j, x, hx, off, by rw [e1]; exact e⟩⟩) m.length (Nat.le_refl _)
    rw [List.take_of_length_le (by omega : X.length ≤ m.length), List.take_of_length_le (Nat.le_refl _)] at hpn
    have hnew : ∀ k, (∃ (j : Nat) (x : FV), X[j]? = some x ∧ ∃ off, x.q = some ⟨k, off, none⟩) → w.heap.size ≤ k ∧ k < w3.heap.size := fun k ⟨j, x, hx, off, e⟩ => by
      obtain ⟨q1, c1, e1, g1, cur, e2, h5, h6, -⟩ := hM3.2.2 j x hx
      have : x.q = q1 := by rw [e1]; rfl
      rw [this, e2] at e
      injection e with e
      injection e with e3 e4
      subst e3
      exact ⟨h5, (Array.getElem?_eq_some_iff.1 h6).1⟩
    have hy : y0.E = E ∧ (y0.i : Int) + 1 = ((l ++ m).length : Nat) ∧ y0.sum = lk E (l ++ m) (l ++ m).length ∧ y0.n = sizeF (sizeF hn l) (l ++ m) := by
      rw [e0]
      refine ⟨rfl, ?_, ?_, ?_⟩
      · show ((l.length + (m.length - 1) : Nat) : Int) + 1 = _
        rw [List.length_append]; omega
      · rw [fvOf_sum, List.length_append]
        congr 1
        omega
      · show ((l ++ m).getD (l.length + (m.length - 1)) FR.zero).n = _
        unfold sizeF
        rw [last_app hno.ne, List.getLast?_eq_getElem?, getD_app2 (by omega), List.getD_eq_getElem?_getD]
        rw [List.getElem?_eq_getElem (show m.length - 1 < m.length by omega)]
        rfl
    obtain ⟨y1, y2, y3, y4⟩ := hy
    rw [y1, y2, y3, y4] at hl6
    refine ⟨fun k => k = B ∨ k = mb ∨ F4 k ∨ (X0 k ∨ ∃ (j : Nat) (x : FV), X[j]? = some x ∧ ∃ off, x.q = some ⟨k, off, none⟩), ?_, ?_, mb, F4, _, takeG g X, hl6, hR6, hm6, hpn, fun k => Iff.rfl, ⟨hnB, fun x => x.elim r.nB.2 (fun x => by have := (hnew _ x).1; omega)⟩, ⟨hnm, fun x => x.elim r.nm.2 (fun x => by have := (hnew _ x).1; omega)⟩, fun k hk => ?_⟩
    · rintro k (rfl | rfl | h | h | h)
      · exact .inl ((r.foot k).2 (.inl rfl))
      · exact .inl ((r.foot k).2 (.inr (.inl rfl)))
      · exact (hF4 k h).imp (hFF k) (fun h => Nat.le_trans hb23.size h)
      · exact .inl ((r.foot k).2 (.inr (.inr (.inr h))))
      · exact .inr (hnew k h).1
    · have h56 := apart_trans (Dk.Below.apart hb23 (fun k => Fd k ∨ k = B ∨ k = mb)) (apart_trans (w1 := w4) ⟨ha4.os, ha4.tape, ha4.output, ha4.size, fun k hk hn => ha4.block k hk (fun x => hn (.inl x))⟩ (apart_trans (w1 := w5) ⟨ha5.os, ha5.tape, ha5.output, ha5.size, fun k hk hn => ha5.block k hk (fun x => hn (.inr (.inl x)))⟩ ⟨ha6.os, ha6.tape, ha6.output, ha6.size, fun k hk hn => ha6.block k hk (fun x => hn (.inr x))⟩))
      exact ⟨h56.os, h56.tape, h56.output, h56.size, fun k hk hn => h56.block k hk (fun x => hn (x.elim (hFF k) (fun x => x.elim (fun e => (r.foot k).2 (.inl e)) (fun e => (r.foot k).2 (.inr (.inl e))))))⟩
    · rcases hk with hk | hk
      · exact ⟨fun x => (hF4 k x).elim (r.nX k hk).1 (fun x => by have := (r.nX k hk).2; have := hb23.size; omega), Nat.lt_of_lt_of_le (r.nX k hk).2 (Nat.le_trans hb23.size (Nat.le_trans ha4.size (Nat.le_trans ha5.size ha6.size)))⟩
      · obtain ⟨n1, n2⟩ := hnew k hk
        exact ⟨fun x => (hF4 k x).elim (fun x => by have := hFd k x; omega) (fun x => by omega), Nat.lt_of_lt_of_le n2 (Nat.le_trans ha4.size (Nat.le_trans ha5.size ha6.size))⟩
  · rintro e w' ⟨rfl, h1, h2⟩
    refine ⟨_, rfl, rfl, ?_⟩
    by_cases he : (runOps s (appOps S E hn l m)).2 = 0
    · obtain ⟨F', a1, a2, a3⟩ := h2 he
      exact ⟨F', a1, a2, fun h => absurd he h, fun _ => a3⟩
    · obtain ⟨F4, hR4, hF4, ha4⟩ := h1 he
      refine ⟨_, ?_, ⟨ha4.os, ha4.tape, ha4.output, ha4.size, fun k hk hn => ha4.block k hk (fun h => hn (hFF k h))⟩, fun _ => ⟨mb, F4, X0, g, r.disk hR4 hF4 ha4⟩, fun h => absurd h he⟩
      rintro k (rfl | rfl | h | h)
      · exact .inl ((r.foot k).2 (.inl rfl))
      · exact .inl ((r.foot k).2 (.inr (.inl rfl)))
      · exact (hF4 k h).imp (hFF k) id
      · exact .inl ((r.foot k).2 (.inr (.inr (.inr h))))
end Go.Proofs.YtdanigigjainjaaGreat
namespace Go.Proofs.YtdanigigjainjaaGreat
open Go.RowKit Go.Shelf
attribute [local go_sem] Oper.semAt_some

set_option maxRecDepth 100000 in
set_option maxHeartbeats 4000000 in
theorem full_any (B : Nat) (x : LogV) (size : Int) (qw : Option Addr) (N cw : Nat) (w : World) (hL : LogAt w B x) (hw : IntKind.i64.wrap (x.f - x.i) = x.f - x.i) :
    Calls Tryz.prog 50 #[.agg #[.pointer (some ⟨B, 0, none⟩), .int .i64 size, .slice qw N cw]] w fun r w' => r = .returned (.int .i64 (if x.f - x.i < (N : Int) then 160 else 0)) ∧ Below w.heap.size w w' := by
  have hb : ∀ o, Below w.heap.size w (w.alloc o) := fun o => (Below.refl _ _).alloc (Nat.le_refl _) _
  have hl := logAt_below hL (hb (.cells #[.pointer (some ⟨B, 0, none⟩), .int .i64 size, .slice qw N cw] 102))
  have hc := logAt_cells hl
  obtain ⟨d, f, pg, sr, E0, i, k, n0, m⟩ := x
  simp only at hw ⊢
  have CR := Lib.hid fun (q : Nat) => room_any B ((w.alloc (.cells #[.pointer (some ⟨B, 0, none⟩), .int .i64 size, .slice qw N cw] 102)).drewN q) f i (hc 1 _ rfl) (hc 5 _ rfl) hw
  clear hc hl hL
  have HB := Lib.hid (hb (.cells #[.pointer (some ⟨B, 0, none⟩), .int .i64 size, .slice qw N cw] 102))
  clear hb
  by_cases hf : f - i < (N : Int)
  · rw [if_pos hf]
    go_enter Tryz.func50, Tryz.ntmps50
    try go_upto_region 1 with fail
    go_quiet ((go_at_call 43; exact Calls.quiet_of (CR.out _)))
    go_wp2
    go_ret
    have h := HB.out
    exact ⟨rfl, ⟨h.os, h.tape, h.output, h.size, h.block⟩⟩
  · rw [if_neg hf]
    go_enter Tryz.func50, Tryz.ntmps50
    try go_upto_region 1 with fail
    go_quiet ((go_at_call 43; exact Calls.quiet_of (CR.out _)))
    go_wp2
    go_ret
    have h := HB.out
    exact ⟨rfl, ⟨h.os, h.tape, h.output, h.size, h.block⟩⟩
end Go.Proofs.YtdanigigjainjaaGreat
namespace Go.Proofs.YtdanigigjainjaaGreat
open Go.RowKit Go.Shelf
attribute [local go_sem] Oper.semAt_some

/-- How an append ends. -/
def AppEnds (w w' : World) (B Bd : Nat) (s : Dk.DS) (f pg S E hn : Nat) (l m : List FR) (F : Foot) (N : Nat) (n : Nat) (ew e : Int) : Prop :=
  (ew ≠ 0 ∧ e = ew ∧ Below w.heap.size w w') ∨ (ew = 0 ∧ (f : Int) - (l.length : Int) < (n : Int) ∧ e = 160 ∧ Below w.heap.size w w') ∨ (ew = 0 ∧ ¬ ((f : Int) - (l.length : Int) < (n : Int)) ∧ AppendTo w w' B Bd s f pg S E hn l m F N e)
theorem AppendTo.behind {w w1 w' : World} {B Bd : Nat} {s : Dk.DS} {f pg S E hn : Nat} {l m : List FR} {F : Foot} {N : Nat} {e : Int} (hb : Below w.heap.size w w1) (h : AppendTo w1 w' B Bd s f pg S E hn l m F N e) : AppendTo w w' B Bd s f pg S E hn l m F N e := by
  obtain ⟨e1, F', h1, h2, h3⟩ := h
  exact ⟨e1, F', fun k hk => (h1 k hk).imp id (fun x => Nat.le_trans hb.size x), apart_trans (Dk.Below.apart hb F) h2, h3⟩
set_option maxRecDepth 100000 in
set_option maxHeartbeats 4000000 in
theorem append_any (B Bd : Nat) (s : Dk.DS) (f pg S E hn size : Nat) (l m : List FR) (F : Foot) (N n : Nat) (sz : Int) (qw : Option Addr) (cw : Nat) (ew : Int) (w : World) (h : LogR w B Bd s f pg S E hn l F N) (hm : 1 ≤ s.many) (hf : f ≤ 2000) (hl : l.length ≤ 2000)
    (hwrong : ∀ W', Below w.heap.size w W' → Calls Tryz.prog 49 #[.agg #[.pointer (some ⟨B, 0, none⟩), .int .i64 sz, .slice qw n cw]] W' fun r W2 => r = .returned (.int .i64 ew) ∧ Below W'.heap.size W' W2)
    (hdone : ew = 0 → ¬ ((f : Int) - (l.length : Int) < (n : Int)) → ∀ W', Below w.heap.size w W' → Calls Tryz.prog 51 #[.agg #[.pointer (some ⟨B, 0, none⟩), .int .i64 sz, .slice qw n cw]] W' fun r W2 => ∃ e, r = .returned (.int .i64 e) ∧ AppendTo W' W2 B Bd s f pg S E hn l m F N e) :
    Calls Tryz.prog 17 #[.pointer (some ⟨B, 0, none⟩), .int .i64 sz, .slice qw n cw] w fun r w' => ∃ e, r = .returned (.int .i64 e) ∧ AppEnds w w' B Bd s f pg S E hn l m F N n ew e := by
  have hmf : ∀ (fn : Fn) (first cap : Array Value) (w : World), (Instr.makeFunc fn first cap).run Tryz.prog w = .ok (.func fn first cap) w := fun _ _ _ _ => rfl
  obtain ⟨wz, hwz⟩ : ∃ wz, wz = (w.alloc (.cells #[.pointer (some ⟨B, 0, none⟩), .int .i64 sz, .slice qw n cw] 102)).alloc (.cells #[.func (.func 48) #[.pointer (some ⟨B, 0, none⟩)] #[], .func (.func 49) #[.agg #[.pointer (some ⟨B, 0, none⟩), .int .i64 sz, .slice qw n cw]] #[], .func (.func 50) #[.agg #[.pointer (some ⟨B, 0, none⟩), .int .i64 sz, .slice qw n cw]] #[], .func (.func 51) #[.agg #[.pointer (some ⟨B, 0, none⟩), .int .i64 sz, .slice qw n cw]] #[]] 56) := ⟨_, rfl⟩
  have hb : Below w.heap.size w wz := by subst hwz; exact ((Below.refl _ _).alloc (Nat.le_refl _) _).alloc (by simp) _
  have hrow : wz.heap[w.heap.size + 1]? = some (.cells #[.func (.func 48) #[.pointer (some ⟨B, 0, none⟩)] #[], .func (.func 49) #[.agg #[.pointer (some ⟨B, 0, none⟩), .int .i64 sz, .slice qw n cw]] #[], .func (.func 50) #[.agg #[.pointer (some ⟨B, 0, none⟩), .int .i64 sz, .slice qw n cw]] #[], .func (.func 51) #[.agg #[.pointer (some ⟨B, 0, none⟩), .int .i64 sz, .slice qw n cw]] #[]] 56 (0, 0)) := by subst hwz; exact heap2 w _ _
  have hkeep : ∀ W, Below w.heap.size w W → LogR W B Bd s f pg S E hn l F N := fun W hb => h.keep hb.size (fun k hk => hb.block k (h.low k hk))
  have CF := Lib.hid (first_any [⟨48, #[.pointer (some ⟨B, 0, none⟩)], #[]⟩, ⟨49, #[.agg #[.pointer (some ⟨B, 0, none⟩), .int .i64 sz, .slice qw n cw]], #[]⟩, ⟨50, #[.agg #[.pointer (some ⟨B, 0, none⟩), .int .i64 sz, .slice qw n cw]], #[]⟩, ⟨51, #[.agg #[.pointer (some ⟨B, 0, none⟩), .int .i64 sz, .slice qw n cw]], #[]⟩] (some ⟨w.heap.size + 1, 0, none⟩) 4
    (fun i W => (i < 4 → Below w.heap.size w W ∧ Below wz.heap.size wz W) ∧ (2 ≤ i → ew = 0) ∧ (3 ≤ i → ¬ ((f : Int) - (l.length : Int) < (n : Int))) ∧ (i = 4 → AppEnds w W B Bd s f pg S E hn l m F N n ew 0)) (fun e W => AppEnds w W B Bd s f pg S E hn l m F N n ew e) wz (by simp)
    (fun x hx => by
      rcases List.mem_cons.1 hx with rfl | hx
      · exact enters_of Tryz.func48 (by kernel_rfl) rfl
      rcases List.mem_cons.1 hx with rfl | hx
      · exact enters_of Tryz.func49 (by kernel_rfl) rfl
      rcases List.mem_cons.1 hx with rfl | hx
      · exact enters_of Tryz.func50 (by kernel_rfl) rfl
      · obtain rfl := List.mem_singleton.1 hx
        exact enters_of Tryz.func51 (by kernel_rfl) rfl)
    (fun i W h1 hi => ⟨w.heap.size + 1, 0, rfl, by
      have hg2 := ((h1.1 hi).2.block _ (Array.getElem?_eq_some_iff.1 hrow).1).trans hrow
      rw [Nat.zero_add, cell_of_row _ _ i _ _ _ hg2]
      rcases (show i = 0 ∨ i = 1 ∨ i = 2 ∨ i = 3 by simp at hi; omega) with rfl | rfl | rfl | rfl <;> rfl⟩)
    (fun i x W hx h1 => by
      have hi := (List.getElem?_eq_some_iff.1 hx).1
      obtain ⟨h1, h2, h3, -⟩ := h1
      obtain ⟨hbW, hbZ⟩ := h1 hi
      rcases (show i = 0 ∨ i = 1 ∨ i = 2 ∨ i = 3 by simp at hi; omega) with rfl | rfl | rfl | rfl
      · simp only [List.getElem?_cons_zero, Option.some.injEq] at hx
        subst hx
        obtain ⟨mb, Fd, X, g, r⟩ := hkeep W hbW
        refine (missing_no (.pointer (some ⟨B, 0, none⟩)) _ W (whole_of B _ W r.log) s Fd r.rep hm).mono ?_
        rintro e W2 ⟨rfl, h⟩
        exact ⟨0, rfl, fun _ => ⟨fun _ => ⟨kbT hbW h, kbT hbZ h⟩, fun h => by omega, fun h => by omega, fun h => by omega⟩, fun h => absurd rfl h⟩
      · simp only [List.getElem?_cons_succ, List.getElem?_cons_zero, Option.some.injEq] at hx
        subst hx
        refine (hwrong W hbW).mono ?_
        rintro e W2 ⟨rfl, h⟩
        exact ⟨ew, rfl, fun he => ⟨fun _ => ⟨kbT hbW h, kbT hbZ h⟩, fun _ => he, fun h => by omega, fun h => by omega⟩, fun he => .inl ⟨he, rfl, kbT hbW h⟩⟩
      · simp only [List.getElem?_cons_succ, List.getElem?_cons_zero, Option.some.injEq] at hx
        subst hx
        obtain ⟨mb, Fd, X, g, r⟩ := hkeep W hbW
        refine (full_any B _ sz qw n cw W r.log (by simp only [IntKind.wrap, IntKind.signed, IntKind.bits]; simp; omega)).mono ?_
        rintro e W2 ⟨rfl, h⟩
        simp only
        by_cases hf2 : (f : Int) - (l.length : Int) < (n : Int)
        · rw [if_pos hf2]
          exact ⟨160, rfl, fun h => by omega, fun _ => .inr (.inl ⟨h2 (by omega), hf2, rfl, kbT hbW h⟩)⟩
        · rw [if_neg hf2]
          exact ⟨0, rfl, fun _ => ⟨fun _ => ⟨kbT hbW h, kbT hbZ h⟩, fun _ => h2 (by omega), fun _ => hf2, fun h => by omega⟩, fun h => absurd rfl h⟩
      · simp only [List.getElem?_cons_succ, List.getElem?_cons_zero, Option.some.injEq] at hx
        subst hx
        have k2 := h2 (by omega)
        have k3 := h3 (by omega)
        refine (hdone k2 k3 W hbW).mono ?_
        rintro r W2 ⟨e, rfl, h⟩
        have key : AppEnds w W2 B Bd s f pg S E hn l m F N n ew e := .inr (.inr ⟨k2, k3, h.behind hbW⟩)
        exact ⟨e, rfl, fun he => ⟨fun h => by omega, fun _ => k2, fun _ => k3, fun _ => he ▸ key⟩, fun _ => key⟩)
    (fun W h => h.2.2.2 rfl) ⟨fun _ => ⟨hb, Below.refl _ _⟩, fun h => by omega, fun h => by omega, fun h => by omega⟩)
  clear h hkeep hrow hb hwrong hdone
  go_enter Tryz.func17, Tryz.ntmps17
  go_wp2_with (first
    | (go_at_call 38; rw [← hwz]; refine CF.out.mono ?_; rintro r w1 ⟨e, rfl, hr⟩; have HR := Lib.hid hr; clear hr)
    | fail)
  go_ret
  exact ⟨e, rfl, HR.out⟩
end Go.Proofs.YtdanigigjainjaaGreat
