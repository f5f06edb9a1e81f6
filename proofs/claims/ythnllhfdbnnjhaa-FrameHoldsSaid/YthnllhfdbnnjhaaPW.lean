/- FrameHolds, walked: one bit of each turned over. -/
import Derived.Test.YthnllhfdbnnjhaaPV
namespace Go.Proofs.Ythnllhfdbnnjhaa
open Go.RowKit Go.Shelf

theorem RowB.own' {w w' : World} {l : List Nat} {t : Value} (h : RowB w l t w') (hne : l ≠ []) :
    ∃ g cap, t = .slice (some ⟨g, 0, none⟩) l.length cap ∧ l.length ≤ cap ∧ cap ≤ maxLen ∧ BytesAt w' (some ⟨g, 0, none⟩) l ∧ (∀ i, w'.frozen? ⟨g, i, none⟩ = false) ∧ w.heap.size ≤ g := by
  have h2 := h
  obtain ⟨p, cap, e, hc, hm, hb, hg⟩ := h2.at'
  obtain ⟨⟨h0, h1⟩, hB⟩ := h
  rcases h1 with ⟨-, hn⟩ | ⟨g, cap', cur, e2, hg2, hh, -⟩
  · exact absurd (List.eq_nil_of_length_eq_zero hn) hne
  · rw [e] at e2
    injection e2 with e3 e4 e5
    subst e3
    refine ⟨g, cap, e, hc, hm, hb, fun i => ?_, hg2⟩
    unfold World.frozen?
    rw [hh]
    simp
theorem RX (w : World) : Hid (RowB w [] (.slice (some ⟨w.heap.size, 0, none⟩) 0 0) (w.alloc (.cells #[] 5))) := Lib.hid (rowB_empty w)
/-- As wpList_append_bytes, where the length is told. -/
theorem wpList_append_at {ops : Array Oper} {rest : List Oper} {o : Oper} {a : Act} {w : World} {Q : Exit → Act → World → Prop} (hgd : o.guard = none) (s x : Operand)
    (ho : o.op = .call { callee := .builtin .append, args := #[s, x], argTypes := #[39, 39] })
    {w0 : World} {l m : List Nat} {v : Value} {q : Option Addr} {n c : Nat} (hs : a.eval s = v) (hR : RowB w0 l v w) (hn : m.length = n) (hx : a.eval x = .slice q n c) (hq : q = none → c = 0) (hm : BytesAt w q m) (hb : l.length + m.length ≤ 100000)
    (h : ∀ v' w', RowB w0 (l ++ m) v' w' → wpList Try.prog ops Q rest (a.put o.dst v') w') : wpList Try.prog ops Q (o :: rest) a w := by
  subst hn
  exact wpList_append_bytes hgd s x ho hs hR hx hq hm hb h
theorem xsh {K v u : Nat} (h : bits .xor .u8 (v : Int) ((2 : Int) ^ (K % 8) % 256) = (u : Int)) : bits .xor .u8 (v : Int) (IntKind.u8.wrap (2 ^ min (IntKind.u64.wrap ((K : Int).tmod 8)).toNat 8)) = (u : Int) := by
  have e : (K : Int).tmod 8 = ((K % 8 : Nat) : Int) := by
    rw [Int.tmod_eq_emod_of_nonneg (by omega)]
    omega
  rw [e, wrap_u64 _ (by omega) (by omega), Int.toNat_natCast, Nat.min_eq_left (by omega)]
  rw [← h]
  congr 1
theorem bytesAt_other {w : World} {g g' i : Nat} {l : List Nat} {x : Value} (h : BytesAt w (some ⟨g, 0, none⟩) l) (hne : g ≠ g') : BytesAt (w.setCell ⟨g', i, none⟩ x) (some ⟨g, 0, none⟩) l := fun j hj => by
  obtain ⟨B, off, e, c⟩ := h j hj
  injection e with e
  injection e with e1 e2
  subst e1 e2
  exact ⟨_, _, rfl, (World.cell?_setCell_other _ _ _ _ (fun e => hne (congrArg Addr.block e).symm)).trans c⟩
theorem set_byte {l : List Nat} {j v : Nat} (hb : ∀ b ∈ l, b < 256) (hv : v < 256) : ∀ b ∈ l.set j v, b < 256 := fun b h => by
  rcases List.mem_or_eq_of_mem_set h with h | rfl
  · exact hb b h
  · exact hv
set_option maxRecDepth 100000 in
set_option maxHeartbeats 8000000 in
theorem holds_walk (E i p : Nat) (cm : Bool) (n k : Nat) (q : Option Addr) (cap : Nat) (bs : List Nat) (S H m c : Nat) (K0 K1 : Nat) (w : World) (hE : E < 2 ^ 64) (hk : k < 4294967296) (hok : frameOk i p cm n 512 = true) (hbl : bs.length = 512) (hbb : ∀ b ∈ bs, b < 256) (hbs : BytesAt w q bs) (hqn : q = none → cap = 0)
    (hS1 : S < 2 ^ 64) (hH1 : H < 2 ^ 64) (hh : headOk m c = true) (hK0 : K0 < 4608) (hK1 : K1 < 512) :
    Calls Try.prog 7 #[frameV E i p cm n k q 512 cap, headV S H m c, .agg #[.int .i64 K0, .int .i64 K1]] w fun r w' => r = .returned (.bool true) ∧ Below w.heap.size w w' := by
  have NM := Lib.hid num_any
  have WKS := Lib.hid works_any
  have fb := frame_bounds hok
  have C23 := Lib.hid fun (w' : World) (h : Below w.heap.size w w') => encode_ok E i p cm n k hE (by omega) (by omega) (by omega) hk q cap bs hbl hbb w' (bytesAt_below hbs h) hqn hok
  have C19 := Lib.hid (encodeHead_ok S H m c hS1 hH1 hh)
  have hfl : (frameL E i p cm n k bs).length = 576 := by unfold frameL; rw [List.length_append, frameS_length, hbl]
  have hfb : ∀ b ∈ frameL E i p cm n k bs, b < 256 := fun b h => by
    rcases List.mem_append.1 h with h | h
    · exact frameS_byte _ _ _ _ _ _ _ b h
    · exact hbb b h
  have hhl := headL_length S H m c
  have hhb := headL_byte S H m c
  obtain ⟨v0, hv0⟩ : ∃ v, v = (frameL E i p cm n k bs).getD (K0 / 8) 0 := ⟨_, rfl⟩
  obtain ⟨v1, hv1⟩ : ∃ v, v = (headL S H m c).getD (K1 / 8) 0 := ⟨_, rfl⟩
  have hv0b : v0 < 256 := by rw [hv0]; exact (byte_of hfb (by omega)).1
  have hv1b : v1 < 256 := by rw [hv1]; exact (byte_of hhb (by omega)).1
  obtain ⟨x1, x2, x3⟩ := xor_bit ⟨v0, hv0b⟩ ⟨K0 % 8, by omega⟩
  obtain ⟨y1, y2, y3⟩ := xor_bit ⟨v1, hv1b⟩ ⟨K1 % 8, by omega⟩
  try simp only at x1 x2 x3 y1 y2 y3
  generalize v0 ^^^ 2 ^ (K0 % 8) = u0 at x1 x2 x3
  generalize v1 ^^^ 2 ^ (K1 % 8) = u1 at y1 y2 y3
  have nF := flip_frame (E := E) (i := i) (p := p) (cm := cm) (n := n) (k := k) (bs := bs) (j := K0 / 8) (v := u0) hbl hbb (by omega) x2 (by rw [← hv0]; exact x3)
  have nH := flip_head (S := S) (E := H) (n := m) (c := c) (j := K1 / 8) (v := u1) (by omega) (by rw [← hv1]; exact y3)
  generalize frameL E i p cm n k bs = fl at *
  generalize headL S H m c = hl at *
  have HFL := Lib.hid hfl
  have HHL := Lib.hid hhl
  have CF := Lib.hid fun g gc (w' : World) h1 h2 h3 => decode_any (fl.set (K0 / 8) u0) (some ⟨g, 0, none⟩) gc w' h1 h2 (set_byte hfb x2) h3
  have CH := Lib.hid fun g gc (w' : World) h1 h2 h3 => decodeHead_any (hl.set (K1 / 8) u1) (some ⟨g, 0, none⟩) gc w' h1 h2 (set_byte hhb y2) h3
  have dv : decV (hl.set (K1 / 8) u1) = headV 0 0 0 0 := by unfold decV; rw [nH]; rfl
  have dx : decX (hl.set (K1 / 8) u1) = 150 := by unfold decX; rw [nH]; rfl
  rw [dv, dx, List.length_set, hhl] at CH
  unfold DecPost at CF
  simp only [nF, Bool.false_eq_true, false_and, or_false, true_and] at CF
  rw [List.length_set, hfl] at CF
  unfold zeroFrame at CF
  unfold headV at CH
  have s1 : Hid (([] : List Nat).length + fl.length ≤ 100000) := Lib.hid (by simp; omega)
  have s2 : Hid (([] : List Nat).length + hl.length ≤ 100000) := Lib.hid (by simp; omega)
  have V0 := Lib.hid hv0
  have V1 := Lib.hid hv1
  have hw0 : IntKind.i64.wrap 0 = 0 := wrap_small (by omega) (by omega)
  have kk0 : K0 / 8 < 576 := by omega
  have kk1 : K1 / 8 < 64 := by omega
  have ne1 : fl ≠ [] := fun h => by rw [h] at hfl; simp at hfl
  have ne2 : hl ≠ [] := fun h => by rw [h] at hhl; simp at hhl
  have NE1 := Lib.hid ne1
  have NE2 := Lib.hid ne2
  have wq0 : IntKind.i64.wrap ((K0 : Int) / 8) = (K0 : Int) / 8 := wrap_small (by omega) (by omega)
  have ia0 : 0 ≤ (K0 : Int) / 8 := by omega
  have ib0 : (K0 : Int) / 8 < 576 := by omega
  have tq0 : ((K0 : Int) / 8).toNat = K0 / 8 := by omega
  have wr0 : IntKind.i64.wrap ((K0 : Int) % 8) = (K0 : Int) % 8 := wrap_small (by omega) (by omega)
  have wu0 : IntKind.u64.wrap ((K0 : Int) % 8) = (K0 : Int) % 8 := wrap_u64 _ (by omega) (by omega)
  have wq1 : IntKind.i64.wrap ((K1 : Int) / 8) = (K1 : Int) / 8 := wrap_small (by omega) (by omega)
  have ia1 : 0 ≤ (K1 : Int) / 8 := by omega
  have ib1 : (K1 : Int) / 8 < 64 := by omega
  have tq1 : ((K1 : Int) / 8).toNat = K1 / 8 := by omega
  have wr1 : IntKind.i64.wrap ((K1 : Int) % 8) = (K1 : Int) % 8 := wrap_small (by omega) (by omega)
  have wu1 : IntKind.u64.wrap ((K1 : Int) % 8) = (K1 : Int) % 8 := wrap_u64 _ (by omega) (by omega)
  have Hwq0 := Lib.hid wq0
  have Hia0 := Lib.hid ia0
  have Hib0 := Lib.hid ib0
  have Htq0 := Lib.hid tq0
  have Hwr0 := Lib.hid wr0
  have Hwu0 := Lib.hid wu0
  have Hwq1 := Lib.hid wq1
  have Hia1 := Lib.hid ia1
  have Hib1 := Lib.hid ib1
  have Htq1 := Lib.hid tq1
  have Hwr1 := Lib.hid wr1
  have Hwu1 := Lib.hid wu1
  have dk0 : decide ((K0 : Int) < 0) = false := decide_eq_false (by omega)
  have dk1 : decide ((4608 : Int) ≤ (K0 : Int)) = false := decide_eq_false (by omega)
  have dk2 : decide ((K1 : Int) < 0) = false := decide_eq_false (by omega)
  have dk3 : decide ((512 : Int) ≤ (K1 : Int)) = false := decide_eq_false (by omega)
  have HX1 := Lib.hid x1
  have HY1 := Lib.hid y1
  clear wq0 ia0 ib0 tq0 wr0 wu0 wq1 ia1 ib1 tq1 wr1 wu1 x1 y1 hK0 hK1 kk0 kk1
  unfold frameV headV
  clear hok fb hE hk hbl hbb hbs hqn hS1 hH1 hh hfl hfb hhl hhb hv0 hv1 x2 x3 y2 y3 nF nH dv dx ne1 ne2 hv0b hv1b
  go_enter Try.func7, Try.ntmps7
  go_upto_region 1 with fail
  obtain ⟨w1, hw1⟩ : ∃ w1, ((w.alloc (.cells #[.int .u64 E, .int .i64 i, .int .i64 p, .bool cm, .int .i64 n, .int .u32 k, .slice q 512 cap] 51)).alloc (.cells #[.int .u64 S, .int .u64 H, .int .i64 m, .int .i64 c] 38)).alloc (.cells #[.int .i64 K0, .int .i64 K1] 68) = w1 := ⟨_, rfl⟩
  have B1 : Hid (Below w.heap.size w w1) := Lib.hid (by subst hw1; exact (((Below.refl _ _).alloc (Nat.le_refl _) _).alloc (by simp) _).alloc (by simp; omega) _)
  have c0 : w1.cell? ⟨w.heap.size, 0, none⟩ = some (.int .u64 E) := by subst hw1; go_cell
  have c1 : w1.cell? ⟨w.heap.size, 1, none⟩ = some (.int .i64 i) := by subst hw1; go_cell
  have c2 : w1.cell? ⟨w.heap.size, 2, none⟩ = some (.int .i64 p) := by subst hw1; go_cell
  have c3 : w1.cell? ⟨w.heap.size, 3, none⟩ = some (.bool cm) := by subst hw1; go_cell
  have c4 : w1.cell? ⟨w.heap.size, 4, none⟩ = some (.int .i64 n) := by subst hw1; go_cell
  have c5 : w1.cell? ⟨w.heap.size, 5, none⟩ = some (.int .u32 k) := by subst hw1; go_cell
  have c6 : w1.cell? ⟨w.heap.size, 6, none⟩ = some (.slice q 512 cap) := by subst hw1; go_cell
  have d0 : w1.cell? ⟨w.heap.size + 1, 0, none⟩ = some (.int .u64 S) := by subst hw1; go_cell
  have d1 : w1.cell? ⟨w.heap.size + 1, 1, none⟩ = some (.int .u64 H) := by subst hw1; go_cell
  have d2 : w1.cell? ⟨w.heap.size + 1, 2, none⟩ = some (.int .i64 m) := by subst hw1; go_cell
  have d3 : w1.cell? ⟨w.heap.size + 1, 3, none⟩ = some (.int .i64 c) := by subst hw1; go_cell
  have e0 : w1.cell? ⟨w.heap.size + 1 + 1, 0, none⟩ = some (.int .i64 K0) := by subst hw1; go_cell
  have e1 : w1.cell? ⟨w.heap.size + 1 + 1, 1, none⟩ = some (.int .i64 K1) := by subst hw1; go_cell
  rw [hw1]
  clear hw1
  go_upto_region 7 with (first
    | (go_at_call 23; (with_reducible refine (C23.out _ B1.out).mono ?_); rintro e wa ⟨t, rfl, hr⟩; obtain ⟨g0, gc0, ht, -, -, hby, -, -⟩ := hr.own' NE1.out; rw [HFL.out] at ht; subst ht; have hb := hr.2; have d0 := (hb.cell (lt_of_cell_some d0)).trans d0; have d1 := (hb.cell (lt_of_cell_some d1)).trans d1; have d2 := (hb.cell (lt_of_cell_some d2)).trans d2; have d3 := (hb.cell (lt_of_cell_some d3)).trans d3; have e0 := (hb.cell (lt_of_cell_some e0)).trans e0; have e1 := (hb.cell (lt_of_cell_some e1)).trans e1; have B2 := Lib.hid (kbT B1.out hb); have BYF := Lib.hid hby; clear hr hb hby)
    | (go_at_call 19; (with_reducible refine (C19.out _).mono ?_); rintro e wv ⟨g1, rfl, hby, -, hb⟩; have e0 := (hb.cell (lt_of_cell_some e0)).trans e0; have e1 := (hb.cell (lt_of_cell_some e1)).trans e1; have B3 := Lib.hid (kbT B2.out hb); have BYF := Lib.hid (bytesAt_below BYF.out hb); have BYH := Lib.hid hby; clear hb hby)
    | (go_at_call 13; refine (NM.out _ _).mono ?_; rintro e wn ⟨rfl, rfl⟩))
  have HBOX : Hid (∀ w', Below wv.heap.size wv w' → w'.cell? ⟨w.heap.size + 1 + 1, 0, none⟩ = some (.int .i64 K0) ∧ w'.cell? ⟨w.heap.size + 1 + 1, 1, none⟩ = some (.int .i64 K1)) := Lib.hid fun w' h => ⟨(h.cell (lt_of_cell_some e0)).trans e0, (h.cell (lt_of_cell_some e1)).trans e1⟩
  clear c0 c1 c2 c3 c4 c5 c6 d0 d1 d2 d3 e0 e1
  go_upto_region 8 with (first
    | (at_builtin; refine wpList_append_at rfl _ _ rfl rfl (RX wv).out HFL.out rfl (fun h => nomatch h) (bytesAt_below BYF.out ((Below.refl _ _).alloc (Nat.le_refl _) _)) s1.out ?_; intro va wb ra; rw [List.nil_append] at ra; have RA := Lib.hid ra; clear ra)
    | (at_builtin; refine wpList_append_at rfl _ _ rfl rfl (RX wb).out HHL.out rfl (fun h => nomatch h) (bytesAt_below (bytesAt_below BYH.out RA.out.2) ((Below.refl _ _).alloc (Nat.le_refl _) _)) s2.out ?_; intro vb wc0 rb; rw [List.nil_append] at rb; have RB := Lib.hid rb; clear rb))
  have ra := RA.out.later RB.out.2
  have rb := RB.out
  have HB0 := Lib.hid (kbT RA.out.2 RB.out.2)
  obtain ⟨ga, gca, hta, hca1, hca2, hba, hfa, hga⟩ := ra.own' NE1.out
  obtain ⟨gb, gcb, htb, hcb1, hcb2, hbb, hfb, hgb⟩ := rb.own' NE2.out
  have hgalt : ga < wb.heap.size := by
    have hra := RA.out
    rw [hta] at hra
    obtain ⟨B', off', e, c⟩ := hra.bytes 0 (by have := HFL.out; omega)
    injection e with e
    injection e with e1 e2
    subst e1
    exact lt_of_cell_some c
  have hgne : ga ≠ gb := by omega
  rw [HFL.out] at hta
  rw [HHL.out] at htb
  subst hta htb
  have HGE0 := Lib.hid hga
  have HGE1 : Hid (wv.heap.size ≤ gb) := Lib.hid (Nat.le_trans RA.out.2.size hgb)
  have HCV0 : Hid (wc0.cell? ⟨ga, K0 / 8, none⟩ = some (.int .u8 (v0 : Nat))) := Lib.hid (by
    obtain ⟨B', off', e, c⟩ := hba (K0 / 8) (by have h1 := HFL.out; have h2 := Hib0.out; omega)
    injection e with e
    injection e with e1 e2
    subst e1 e2
    rw [Nat.zero_add, ← V0.out] at c
    exact c)
  have HCVb : Hid (wc0.cell? ⟨gb, K1 / 8, none⟩ = some (.int .u8 (v1 : Nat))) := Lib.hid (by
    obtain ⟨B', off', e, c⟩ := hbb (K1 / 8) (by have h1 := HHL.out; have h2 := Hib1.out; omega)
    injection e with e
    injection e with e1 e2
    subst e1 e2
    rw [Nat.zero_add, ← V1.out] at c
    exact c)
  have HFZ0 := Lib.hid (hfa (K0 / 8))
  have HFZb := Lib.hid (hfb (K1 / 8))
  have HBA := Lib.hid hba
  have HBB := Lib.hid hbb
  have HNE := Lib.hid hgne
  have HCA := Lib.hid (And.intro hca1 hca2)
  have HCB := Lib.hid (And.intro hcb1 hcb2)
  clear ra rb hba hbb hfa hfb hga hgb hgne hgalt hca1 hca2 hcb1 hcb2 RA RB
  have wq0 := Hwq0.out
  have ia0 := Hia0.out
  have ib0 := Hib0.out
  have tq0 := Htq0.out
  have wr0 := Hwr0.out
  have wu0 := Hwu0.out
  refine wp_region_held_drew (S := fun w' => Below wv.heap.size wv w') (by kernel_rfl) (HB0.out.drew) (fun H0 => ?_)
  obtain ⟨wd0, hwd0⟩ : ∃ wd, wc0.drew = wd := ⟨_, rfl⟩
  have HD0 := Lib.hid (show Below wc0.heap.size wc0 wd0 by rw [← hwd0]; exact (Below.refl _ _).drew)
  rw [hwd0] at H0 ⊢
  clear hwd0
  refine wpAnyH_take (i := 0) (oi := { dst := some 80, op := Go.Op.move (Go.Operand.tmp 7), type := 39, pos := "law.go:130", after := #[], guard := none }) (v := ?_) rfl (by kernel_rfl) (by kernel_rfl) (by kernel_rfl) (fun _ _ _ h => h) (Or.inl ⟨by rfl, ?_⟩) H0 ?_
  rotate_left
  focus (intro w' hSw; (try dsimp only at hSw); go_simp; (try with_reducible rfl))
  simp only [Act.put, List.setIfInBounds_toArray, List.set_cons_zero, List.set_cons_succ]
  refine wpAnyH_take (i := 1) (oi := { dst := some 81, op := Go.Op.indexAddr 68 (Go.Operand.tmp 5) (Go.Operand.const (Go.Value.int Go.IntKind.i64 0)), type := 0, pos := "law.go:130", after := #[], guard := none }) (v := ?_) rfl (by kernel_rfl) (by kernel_rfl) (by kernel_rfl) (fun _ _ _ h => h) (Or.inl ⟨by rfl, ?_⟩) H0 ?_
  rotate_left
  focus (intro w' hSw; (try dsimp only at hSw); go_simp; (try with_reducible rfl))
  simp only [Act.put, List.setIfInBounds_toArray, List.set_cons_zero, List.set_cons_succ]
  refine wpAnyH_take (i := 2) (oi := { dst := some 82, op := Go.Op.load 3 (Go.Operand.tmp 81), type := 3, pos := "law.go:130", after := #[{ on := 1, ground := Go.Ground.data }], guard := none }) (v := ?_) rfl (by kernel_rfl) (by kernel_rfl) (by kernel_rfl) (fun _ _ _ h => h) (Or.inl ⟨by rfl, ?_⟩) H0 ?_
  rotate_left
  focus (intro w' hSw; (try dsimp only at hSw); have hbx := HBOX.out _ hSw; obtain ⟨bx0, bx1⟩ := hbx; go_simp; (try with_reducible rfl))
  simp only [Act.put, List.setIfInBounds_toArray, List.set_cons_zero, List.set_cons_succ]
  refine wpAnyH_take (i := 3) (oi := { dst := some 83, op := Go.Op.binOp Go.BinOp.quo 3 (Go.Operand.tmp 82) (Go.Operand.const (Go.Value.int Go.IntKind.i64 8)) 3, type := 3, pos := "law.go:130", after := #[{ on := 2, ground := Go.Ground.data }], guard := none }) (v := ?_) rfl (by kernel_rfl) (by kernel_rfl) (by kernel_rfl) (fun _ _ _ h => h) (Or.inl ⟨by rfl, ?_⟩) H0 ?_
  rotate_left
  focus (intro w' hSw; (try dsimp only at hSw); go_simp; (try with_reducible rfl))
  simp only [Act.put, List.setIfInBounds_toArray, List.set_cons_zero, List.set_cons_succ]
  refine wpAnyH_take (i := 4) (oi := { dst := some 84, op := Go.Op.move (Go.Operand.tmp 7), type := 39, pos := "law.go:130", after := #[], guard := none }) (v := ?_) rfl (by kernel_rfl) (by kernel_rfl) (by kernel_rfl) (fun _ _ _ h => h) (Or.inl ⟨by rfl, ?_⟩) H0 ?_
  rotate_left
  focus (intro w' hSw; (try dsimp only at hSw); go_simp; (try with_reducible rfl))
  simp only [Act.put, List.setIfInBounds_toArray, List.set_cons_zero, List.set_cons_succ]
  refine wpAnyH_take (i := 5) (oi := { dst := some 85, op := Go.Op.indexAddr 68 (Go.Operand.tmp 5) (Go.Operand.const (Go.Value.int Go.IntKind.i64 0)), type := 0, pos := "law.go:130", after := #[], guard := none }) (v := ?_) rfl (by kernel_rfl) (by kernel_rfl) (by kernel_rfl) (fun _ _ _ h => h) (Or.inl ⟨by rfl, ?_⟩) H0 ?_
  rotate_left
  focus (intro w' hSw; (try dsimp only at hSw); go_simp; (try with_reducible rfl))
  simp only [Act.put, List.setIfInBounds_toArray, List.set_cons_zero, List.set_cons_succ]
  refine wpAnyH_take (i := 6) (oi := { dst := some 86, op := Go.Op.load 3 (Go.Operand.tmp 85), type := 3, pos := "law.go:130", after := #[{ on := 5, ground := Go.Ground.data }], guard := none }) (v := ?_) rfl (by kernel_rfl) (by kernel_rfl) (by kernel_rfl) (fun _ _ _ h => h) (Or.inl ⟨by rfl, ?_⟩) H0 ?_
  rotate_left
  focus (intro w' hSw; (try dsimp only at hSw); have hbx := HBOX.out _ hSw; obtain ⟨bx0, bx1⟩ := hbx; go_simp; (try with_reducible rfl))
  simp only [Act.put, List.setIfInBounds_toArray, List.set_cons_zero, List.set_cons_succ]
  refine wpAnyH_take (i := 7) (oi := { dst := some 87, op := Go.Op.binOp Go.BinOp.quo 3 (Go.Operand.tmp 86) (Go.Operand.const (Go.Value.int Go.IntKind.i64 8)) 3, type := 3, pos := "law.go:130", after := #[{ on := 6, ground := Go.Ground.data }], guard := none }) (v := ?_) rfl (by kernel_rfl) (by kernel_rfl) (by kernel_rfl) (fun _ _ _ h => h) (Or.inl ⟨by rfl, ?_⟩) H0 ?_
  rotate_left
  focus (intro w' hSw; (try dsimp only at hSw); go_simp; (try with_reducible rfl))
  simp only [Act.put, List.setIfInBounds_toArray, List.set_cons_zero, List.set_cons_succ]
  refine wpAnyH_take (i := 8) (oi := { dst := some 88, op := Go.Op.indexAddr 39 (Go.Operand.tmp 84) (Go.Operand.tmp 87), type := 0, pos := "law.go:130", after := #[{ on := 4, ground := Go.Ground.data }, { on := 7, ground := Go.Ground.data }], guard := none }) (v := ?_) rfl (by kernel_rfl) (by kernel_rfl) (by kernel_rfl) (fun _ _ _ h => h) (Or.inl ⟨by rfl, ?_⟩) H0 ?_
  rotate_left
  focus (intro w' hSw; (try dsimp only at hSw); go_simp; (try with_reducible rfl))
  simp only [Act.put, List.setIfInBounds_toArray, List.set_cons_zero, List.set_cons_succ]
  refine wpAnyH_take (i := 10) (oi := { dst := some 90, op := Go.Op.indexAddr 68 (Go.Operand.tmp 5) (Go.Operand.const (Go.Value.int Go.IntKind.i64 0)), type := 0, pos := "law.go:130", after := #[], guard := none }) (v := ?_) rfl (by kernel_rfl) (by kernel_rfl) (by kernel_rfl) (fun _ _ _ h => h) (Or.inl ⟨by rfl, ?_⟩) H0 ?_
  rotate_left
  focus (intro w' hSw; (try dsimp only at hSw); go_simp; (try with_reducible rfl))
  simp only [Act.put, List.setIfInBounds_toArray, List.set_cons_zero, List.set_cons_succ]
  refine wpAnyH_take (i := 11) (oi := { dst := some 91, op := Go.Op.load 3 (Go.Operand.tmp 90), type := 3, pos := "law.go:130", after := #[{ on := 10, ground := Go.Ground.data }], guard := none }) (v := ?_) rfl (by kernel_rfl) (by kernel_rfl) (by kernel_rfl) (fun _ _ _ h => h) (Or.inl ⟨by rfl, ?_⟩) H0 ?_
  rotate_left
  focus (intro w' hSw; (try dsimp only at hSw); have hbx := HBOX.out _ hSw; obtain ⟨bx0, bx1⟩ := hbx; go_simp; (try with_reducible rfl))
  simp only [Act.put, List.setIfInBounds_toArray, List.set_cons_zero, List.set_cons_succ]
  refine wpAnyH_take (i := 12) (oi := { dst := some 92, op := Go.Op.binOp Go.BinOp.rem 3 (Go.Operand.tmp 91) (Go.Operand.const (Go.Value.int Go.IntKind.i64 8)) 3, type := 3, pos := "law.go:130", after := #[{ on := 11, ground := Go.Ground.data }], guard := none }) (v := ?_) rfl (by kernel_rfl) (by kernel_rfl) (by kernel_rfl) (fun _ _ _ h => h) (Or.inl ⟨by rfl, ?_⟩) H0 ?_
  rotate_left
  focus (intro w' hSw; (try dsimp only at hSw); go_simp; (try with_reducible rfl))
  simp only [Act.put, List.setIfInBounds_toArray, List.set_cons_zero, List.set_cons_succ]
  refine wpAnyH_take (i := 13) (oi := { dst := some 93, op := Go.Op.convert 3 69 (Go.Operand.tmp 92), type := 69, pos := "law.go:130", after := #[{ on := 12, ground := Go.Ground.data }], guard := none }) (v := ?_) rfl (by kernel_rfl) (by kernel_rfl) (by kernel_rfl) (fun _ _ _ h => h) (Or.inl ⟨by rfl, ?_⟩) H0 ?_
  rotate_left
  focus (intro w' hSw; (try dsimp only at hSw); go_simp; (try with_reducible rfl))
  simp only [Act.put, List.setIfInBounds_toArray, List.set_cons_zero, List.set_cons_succ]
  refine wpAnyH_take (i := 14) (oi := { dst := some 94, op := Go.Op.binOp Go.BinOp.shl 5 (Go.Operand.const (Go.Value.int Go.IntKind.u8 1)) (Go.Operand.tmp 93) 69, type := 5, pos := "law.go:130", after := #[{ on := 13, ground := Go.Ground.data }], guard := none }) (v := ?_) rfl (by kernel_rfl) (by kernel_rfl) (by kernel_rfl) (fun _ _ _ h => h) (Or.inl ⟨by rfl, ?_⟩) H0 ?_
  rotate_left
  focus (intro w' hSw; (try dsimp only at hSw); go_simp; (try with_reducible rfl))
  simp only [Act.put, List.setIfInBounds_toArray, List.set_cons_zero, List.set_cons_succ]
  refine wpAnyH_ready (rs := [9]) (by kernel_rfl) (by simp) ?_
  refine AllReadyH.cons (o := { dst := some 89, op := Go.Op.load 5 (Go.Operand.tmp 88), type := 5, pos := "law.go:130", after := #[{ on := 8, ground := Go.Ground.data }], guard := none }) rfl (fun K hK => ?_) ?_
  rotate_left
  exact AllReadyH.nil
  have hcv := (HD0.out.cell (lt_of_cell_some HCV0.out)).trans HCV0.out
  go_simp
  refine hK.out _ _ H0 (fun H90 => ?_)
  clear hK K
  try simp only [Act.put, List.setIfInBounds_toArray, List.set_cons_zero, List.set_cons_succ]
  refine wpAnyH_take (i := 15) (oi := { dst := some 95, op := Go.Op.binOp Go.BinOp.xor 5 (Go.Operand.tmp 89) (Go.Operand.tmp 94) 5, type := 5, pos := "law.go:130", after := #[{ on := 9, ground := Go.Ground.data }, { on := 14, ground := Go.Ground.data }], guard := none }) (v := ?_) rfl (by kernel_rfl) (by kernel_rfl) (by kernel_rfl) (fun _ _ _ h => h) (Or.inl ⟨by rfl, ?_⟩) H90 ?_
  rotate_left
  focus (intro w' hSw; (try dsimp only at hSw); go_simp; (try with_reducible rfl))
  simp only [Act.put, List.setIfInBounds_toArray, List.set_cons_zero, List.set_cons_succ]
  refine wpAnyH_take (i := 16) (oi := { dst := some 96, op := Go.Op.indexAddr 39 (Go.Operand.tmp 80) (Go.Operand.tmp 83), type := 0, pos := "law.go:130", after := #[{ on := 0, ground := Go.Ground.data }, { on := 3, ground := Go.Ground.data }, { on := 0, ground := Go.Ground.phase }, { on := 1, ground := Go.Ground.phase }, { on := 2, ground := Go.Ground.phase }, { on := 3, ground := Go.Ground.phase }, { on := 4, ground := Go.Ground.phase }, { on := 5, ground := Go.Ground.phase }, { on := 6, ground := Go.Ground.phase }, { on := 7, ground := Go.Ground.phase }, { on := 8, ground := Go.Ground.phase }, { on := 9, ground := Go.Ground.phase }, { on := 10, ground := Go.Ground.phase }, { on := 11, ground := Go.Ground.phase }, { on := 12, ground := Go.Ground.phase }, { on := 13, ground := Go.Ground.phase }, { on := 14, ground := Go.Ground.phase }, { on := 15, ground := Go.Ground.phase }], guard := none }) (v := ?_) rfl (by kernel_rfl) (by kernel_rfl) (by kernel_rfl) (fun _ _ _ h => h) (Or.inl ⟨by rfl, ?_⟩) H90 ?_
  rotate_left
  focus (intro w' hSw; (try dsimp only at hSw); go_simp; (try with_reducible rfl))
  simp only [Act.put, List.setIfInBounds_toArray, List.set_cons_zero, List.set_cons_succ]
  refine wpAnyH_ready (rs := [17]) (by kernel_rfl) (by simp) ?_
  refine AllReadyH.cons (o := { dst := none, op := Go.Op.store 5 (Go.Operand.tmp 96) (Go.Operand.tmp 95), type := 0, pos := "law.go:130", after := #[{ on := 16, ground := Go.Ground.data }, { on := 15, ground := Go.Ground.data }, { on := 0, ground := Go.Ground.phase }, { on := 1, ground := Go.Ground.phase }, { on := 2, ground := Go.Ground.phase }, { on := 3, ground := Go.Ground.phase }, { on := 4, ground := Go.Ground.phase }, { on := 5, ground := Go.Ground.phase }, { on := 6, ground := Go.Ground.phase }, { on := 7, ground := Go.Ground.phase }, { on := 8, ground := Go.Ground.phase }, { on := 9, ground := Go.Ground.phase }, { on := 10, ground := Go.Ground.phase }, { on := 11, ground := Go.Ground.phase }, { on := 12, ground := Go.Ground.phase }, { on := 13, ground := Go.Ground.phase }, { on := 14, ground := Go.Ground.phase }, { on := 15, ground := Go.Ground.phase }], guard := none }) rfl (fun K hK => ?_) ?_
  rotate_left
  exact AllReadyH.nil
  have hcv := (HD0.out.cell (lt_of_cell_some HCV0.out)).trans HCV0.out
  have hfz := (HD0.out.frozen (lt_of_cell_some HCV0.out)).trans HFZ0.out
  go_simp
  refine hK.out _ _ (H0.setCell HGE0.out _) (fun HS0 => ?_)
  clear hK K
  try simp only [Act.put, List.setIfInBounds_toArray, List.set_cons_zero, List.set_cons_succ]
  refine wpAnyH_done (by kernel_rfl) ?_ _
  rw [xsh HX1.out]
  obtain ⟨wc1, hwc1⟩ : ∃ wz, wd0.setCell ⟨ga, K0 / 8, none⟩ (.int .u8 (u0 : Nat)) = wz := ⟨_, rfl⟩
  rw [xsh HX1.out, hwc1] at HS0
  have HB1 := Lib.hid HS0
  have HBA1 : Hid (BytesAt wc1 (some ⟨ga, 0, none⟩) (fl.set (K0 / 8) u0)) := Lib.hid (by subst hwc1; exact bytesAt_set (bytesAt_below HBA.out HD0.out) _ _ (by have h1 := HFL.out; have h2 := Hib0.out; omega))
  have HBB1 : Hid (BytesAt wc1 (some ⟨gb, 0, none⟩) hl) := Lib.hid (by subst hwc1; exact bytesAt_other (bytesAt_below HBB.out HD0.out) (fun e => HNE.out e.symm))
  have HCV1 : Hid (wc1.cell? ⟨gb, K1 / 8, none⟩ = some (.int .u8 (v1 : Nat))) := Lib.hid (by
    subst hwc1
    exact (World.cell?_setCell_other _ _ _ _ (fun e => HNE.out (by injection e))).trans ((HD0.out.cell (lt_of_cell_some HCVb.out)).trans HCVb.out))
  have HFZ1 : Hid (wc1.frozen? ⟨gb, K1 / 8, none⟩ = false) := Lib.hid (by
    subst hwc1
    exact (World.frozen?_setCell _ _ _ _).trans ((HD0.out.frozen (lt_of_cell_some HCVb.out)).trans HFZb.out))
  rw [hwc1]
  clear hwc1 HS0 H90 H0 hcv hfz wq0 ia0 ib0 tq0 wr0 wu0
  go_upto_region 9 with fail
  have wq1 := Hwq1.out
  have ia1 := Hia1.out
  have ib1 := Hib1.out
  have tq1 := Htq1.out
  have wr1 := Hwr1.out
  have wu1 := Hwu1.out
  refine wp_region_held_drew (S := fun w' => Below wv.heap.size wv w') (by kernel_rfl) (HB1.out.drew) (fun H0 => ?_)
  obtain ⟨wd1, hwd1⟩ : ∃ wd, wc1.drew = wd := ⟨_, rfl⟩
  have HD1 := Lib.hid (show Below wc1.heap.size wc1 wd1 by rw [← hwd1]; exact (Below.refl _ _).drew)
  rw [hwd1] at H0 ⊢
  clear hwd1
  refine wpAnyH_take (i := 0) (oi := { dst := some 97, op := Go.Op.move (Go.Operand.tmp 9), type := 39, pos := "law.go:131", after := #[], guard := none }) (v := ?_) rfl (by kernel_rfl) (by kernel_rfl) (by kernel_rfl) (fun _ _ _ h => h) (Or.inl ⟨by rfl, ?_⟩) H0 ?_
  rotate_left
  focus (intro w' hSw; (try dsimp only at hSw); go_simp; (try with_reducible rfl))
  simp only [Act.put, List.setIfInBounds_toArray, List.set_cons_zero, List.set_cons_succ]
  refine wpAnyH_take (i := 1) (oi := { dst := some 98, op := Go.Op.indexAddr 68 (Go.Operand.tmp 5) (Go.Operand.const (Go.Value.int Go.IntKind.i64 1)), type := 0, pos := "law.go:131", after := #[], guard := none }) (v := ?_) rfl (by kernel_rfl) (by kernel_rfl) (by kernel_rfl) (fun _ _ _ h => h) (Or.inl ⟨by rfl, ?_⟩) H0 ?_
  rotate_left
  focus (intro w' hSw; (try dsimp only at hSw); go_simp; (try with_reducible rfl))
  simp only [Act.put, List.setIfInBounds_toArray, List.set_cons_zero, List.set_cons_succ]
  refine wpAnyH_take (i := 2) (oi := { dst := some 99, op := Go.Op.load 3 (Go.Operand.tmp 98), type := 3, pos := "law.go:131", after := #[{ on := 1, ground := Go.Ground.data }], guard := none }) (v := ?_) rfl (by kernel_rfl) (by kernel_rfl) (by kernel_rfl) (fun _ _ _ h => h) (Or.inl ⟨by rfl, ?_⟩) H0 ?_
  rotate_left
  focus (intro w' hSw; (try dsimp only at hSw); have hbx := HBOX.out _ hSw; obtain ⟨bx0, bx1⟩ := hbx; go_simp; (try with_reducible rfl))
  simp only [Act.put, List.setIfInBounds_toArray, List.set_cons_zero, List.set_cons_succ]
  refine wpAnyH_take (i := 3) (oi := { dst := some 100, op := Go.Op.binOp Go.BinOp.quo 3 (Go.Operand.tmp 99) (Go.Operand.const (Go.Value.int Go.IntKind.i64 8)) 3, type := 3, pos := "law.go:131", after := #[{ on := 2, ground := Go.Ground.data }], guard := none }) (v := ?_) rfl (by kernel_rfl) (by kernel_rfl) (by kernel_rfl) (fun _ _ _ h => h) (Or.inl ⟨by rfl, ?_⟩) H0 ?_
  rotate_left
  focus (intro w' hSw; (try dsimp only at hSw); go_simp; (try with_reducible rfl))
  simp only [Act.put, List.setIfInBounds_toArray, List.set_cons_zero, List.set_cons_succ]
  refine wpAnyH_take (i := 4) (oi := { dst := some 101, op := Go.Op.move (Go.Operand.tmp 9), type := 39, pos := "law.go:131", after := #[], guard := none }) (v := ?_) rfl (by kernel_rfl) (by kernel_rfl) (by kernel_rfl) (fun _ _ _ h => h) (Or.inl ⟨by rfl, ?_⟩) H0 ?_
  rotate_left
  focus (intro w' hSw; (try dsimp only at hSw); go_simp; (try with_reducible rfl))
  simp only [Act.put, List.setIfInBounds_toArray, List.set_cons_zero, List.set_cons_succ]
  refine wpAnyH_take (i := 5) (oi := { dst := some 102, op := Go.Op.indexAddr 68 (Go.Operand.tmp 5) (Go.Operand.const (Go.Value.int Go.IntKind.i64 1)), type := 0, pos := "law.go:131", after := #[], guard := none }) (v := ?_) rfl (by kernel_rfl) (by kernel_rfl) (by kernel_rfl) (fun _ _ _ h => h) (Or.inl ⟨by rfl, ?_⟩) H0 ?_
  rotate_left
  focus (intro w' hSw; (try dsimp only at hSw); go_simp; (try with_reducible rfl))
  simp only [Act.put, List.setIfInBounds_toArray, List.set_cons_zero, List.set_cons_succ]
  refine wpAnyH_take (i := 6) (oi := { dst := some 103, op := Go.Op.load 3 (Go.Operand.tmp 102), type := 3, pos := "law.go:131", after := #[{ on := 5, ground := Go.Ground.data }], guard := none }) (v := ?_) rfl (by kernel_rfl) (by kernel_rfl) (by kernel_rfl) (fun _ _ _ h => h) (Or.inl ⟨by rfl, ?_⟩) H0 ?_
  rotate_left
  focus (intro w' hSw; (try dsimp only at hSw); have hbx := HBOX.out _ hSw; obtain ⟨bx0, bx1⟩ := hbx; go_simp; (try with_reducible rfl))
  simp only [Act.put, List.setIfInBounds_toArray, List.set_cons_zero, List.set_cons_succ]
  refine wpAnyH_take (i := 7) (oi := { dst := some 104, op := Go.Op.binOp Go.BinOp.quo 3 (Go.Operand.tmp 103) (Go.Operand.const (Go.Value.int Go.IntKind.i64 8)) 3, type := 3, pos := "law.go:131", after := #[{ on := 6, ground := Go.Ground.data }], guard := none }) (v := ?_) rfl (by kernel_rfl) (by kernel_rfl) (by kernel_rfl) (fun _ _ _ h => h) (Or.inl ⟨by rfl, ?_⟩) H0 ?_
  rotate_left
  focus (intro w' hSw; (try dsimp only at hSw); go_simp; (try with_reducible rfl))
  simp only [Act.put, List.setIfInBounds_toArray, List.set_cons_zero, List.set_cons_succ]
  refine wpAnyH_take (i := 8) (oi := { dst := some 105, op := Go.Op.indexAddr 39 (Go.Operand.tmp 101) (Go.Operand.tmp 104), type := 0, pos := "law.go:131", after := #[{ on := 4, ground := Go.Ground.data }, { on := 7, ground := Go.Ground.data }], guard := none }) (v := ?_) rfl (by kernel_rfl) (by kernel_rfl) (by kernel_rfl) (fun _ _ _ h => h) (Or.inl ⟨by rfl, ?_⟩) H0 ?_
  rotate_left
  focus (intro w' hSw; (try dsimp only at hSw); go_simp; (try with_reducible rfl))
  simp only [Act.put, List.setIfInBounds_toArray, List.set_cons_zero, List.set_cons_succ]
  refine wpAnyH_take (i := 10) (oi := { dst := some 107, op := Go.Op.indexAddr 68 (Go.Operand.tmp 5) (Go.Operand.const (Go.Value.int Go.IntKind.i64 1)), type := 0, pos := "law.go:131", after := #[], guard := none }) (v := ?_) rfl (by kernel_rfl) (by kernel_rfl) (by kernel_rfl) (fun _ _ _ h => h) (Or.inl ⟨by rfl, ?_⟩) H0 ?_
  rotate_left
  focus (intro w' hSw; (try dsimp only at hSw); go_simp; (try with_reducible rfl))
  simp only [Act.put, List.setIfInBounds_toArray, List.set_cons_zero, List.set_cons_succ]
  refine wpAnyH_take (i := 11) (oi := { dst := some 108, op := Go.Op.load 3 (Go.Operand.tmp 107), type := 3, pos := "law.go:131", after := #[{ on := 10, ground := Go.Ground.data }], guard := none }) (v := ?_) rfl (by kernel_rfl) (by kernel_rfl) (by kernel_rfl) (fun _ _ _ h => h) (Or.inl ⟨by rfl, ?_⟩) H0 ?_
  rotate_left
  focus (intro w' hSw; (try dsimp only at hSw); have hbx := HBOX.out _ hSw; obtain ⟨bx0, bx1⟩ := hbx; go_simp; (try with_reducible rfl))
  simp only [Act.put, List.setIfInBounds_toArray, List.set_cons_zero, List.set_cons_succ]
  refine wpAnyH_take (i := 12) (oi := { dst := some 109, op := Go.Op.binOp Go.BinOp.rem 3 (Go.Operand.tmp 108) (Go.Operand.const (Go.Value.int Go.IntKind.i64 8)) 3, type := 3, pos := "law.go:131", after := #[{ on := 11, ground := Go.Ground.data }], guard := none }) (v := ?_) rfl (by kernel_rfl) (by kernel_rfl) (by kernel_rfl) (fun _ _ _ h => h) (Or.inl ⟨by rfl, ?_⟩) H0 ?_
  rotate_left
  focus (intro w' hSw; (try dsimp only at hSw); go_simp; (try with_reducible rfl))
  simp only [Act.put, List.setIfInBounds_toArray, List.set_cons_zero, List.set_cons_succ]
  refine wpAnyH_take (i := 13) (oi := { dst := some 110, op := Go.Op.convert 3 69 (Go.Operand.tmp 109), type := 69, pos := "law.go:131", after := #[{ on := 12, ground := Go.Ground.data }], guard := none }) (v := ?_) rfl (by kernel_rfl) (by kernel_rfl) (by kernel_rfl) (fun _ _ _ h => h) (Or.inl ⟨by rfl, ?_⟩) H0 ?_
  rotate_left
  focus (intro w' hSw; (try dsimp only at hSw); go_simp; (try with_reducible rfl))
  simp only [Act.put, List.setIfInBounds_toArray, List.set_cons_zero, List.set_cons_succ]
  refine wpAnyH_take (i := 14) (oi := { dst := some 111, op := Go.Op.binOp Go.BinOp.shl 5 (Go.Operand.const (Go.Value.int Go.IntKind.u8 1)) (Go.Operand.tmp 110) 69, type := 5, pos := "law.go:131", after := #[{ on := 13, ground := Go.Ground.data }], guard := none }) (v := ?_) rfl (by kernel_rfl) (by kernel_rfl) (by kernel_rfl) (fun _ _ _ h => h) (Or.inl ⟨by rfl, ?_⟩) H0 ?_
  rotate_left
  focus (intro w' hSw; (try dsimp only at hSw); go_simp; (try with_reducible rfl))
  simp only [Act.put, List.setIfInBounds_toArray, List.set_cons_zero, List.set_cons_succ]
  refine wpAnyH_ready (rs := [9]) (by kernel_rfl) (by simp) ?_
  refine AllReadyH.cons (o := { dst := some 106, op := Go.Op.load 5 (Go.Operand.tmp 105), type := 5, pos := "law.go:131", after := #[{ on := 8, ground := Go.Ground.data }], guard := none }) rfl (fun K hK => ?_) ?_
  rotate_left
  exact AllReadyH.nil
  have hcv := (HD1.out.cell (lt_of_cell_some HCV1.out)).trans HCV1.out
  go_simp
  refine hK.out _ _ H0 (fun H91 => ?_)
  clear hK K
  try simp only [Act.put, List.setIfInBounds_toArray, List.set_cons_zero, List.set_cons_succ]
  refine wpAnyH_take (i := 15) (oi := { dst := some 112, op := Go.Op.binOp Go.BinOp.xor 5 (Go.Operand.tmp 106) (Go.Operand.tmp 111) 5, type := 5, pos := "law.go:131", after := #[{ on := 9, ground := Go.Ground.data }, { on := 14, ground := Go.Ground.data }], guard := none }) (v := ?_) rfl (by kernel_rfl) (by kernel_rfl) (by kernel_rfl) (fun _ _ _ h => h) (Or.inl ⟨by rfl, ?_⟩) H91 ?_
  rotate_left
  focus (intro w' hSw; (try dsimp only at hSw); go_simp; (try with_reducible rfl))
  simp only [Act.put, List.setIfInBounds_toArray, List.set_cons_zero, List.set_cons_succ]
  refine wpAnyH_take (i := 16) (oi := { dst := some 113, op := Go.Op.indexAddr 39 (Go.Operand.tmp 97) (Go.Operand.tmp 100), type := 0, pos := "law.go:131", after := #[{ on := 0, ground := Go.Ground.data }, { on := 3, ground := Go.Ground.data }, { on := 0, ground := Go.Ground.phase }, { on := 1, ground := Go.Ground.phase }, { on := 2, ground := Go.Ground.phase }, { on := 3, ground := Go.Ground.phase }, { on := 4, ground := Go.Ground.phase }, { on := 5, ground := Go.Ground.phase }, { on := 6, ground := Go.Ground.phase }, { on := 7, ground := Go.Ground.phase }, { on := 8, ground := Go.Ground.phase }, { on := 9, ground := Go.Ground.phase }, { on := 10, ground := Go.Ground.phase }, { on := 11, ground := Go.Ground.phase }, { on := 12, ground := Go.Ground.phase }, { on := 13, ground := Go.Ground.phase }, { on := 14, ground := Go.Ground.phase }, { on := 15, ground := Go.Ground.phase }], guard := none }) (v := ?_) rfl (by kernel_rfl) (by kernel_rfl) (by kernel_rfl) (fun _ _ _ h => h) (Or.inl ⟨by rfl, ?_⟩) H91 ?_
  rotate_left
  focus (intro w' hSw; (try dsimp only at hSw); go_simp; (try with_reducible rfl))
  simp only [Act.put, List.setIfInBounds_toArray, List.set_cons_zero, List.set_cons_succ]
  refine wpAnyH_ready (rs := [17]) (by kernel_rfl) (by simp) ?_
  refine AllReadyH.cons (o := { dst := none, op := Go.Op.store 5 (Go.Operand.tmp 113) (Go.Operand.tmp 112), type := 0, pos := "law.go:131", after := #[{ on := 16, ground := Go.Ground.data }, { on := 15, ground := Go.Ground.data }, { on := 0, ground := Go.Ground.phase }, { on := 1, ground := Go.Ground.phase }, { on := 2, ground := Go.Ground.phase }, { on := 3, ground := Go.Ground.phase }, { on := 4, ground := Go.Ground.phase }, { on := 5, ground := Go.Ground.phase }, { on := 6, ground := Go.Ground.phase }, { on := 7, ground := Go.Ground.phase }, { on := 8, ground := Go.Ground.phase }, { on := 9, ground := Go.Ground.phase }, { on := 10, ground := Go.Ground.phase }, { on := 11, ground := Go.Ground.phase }, { on := 12, ground := Go.Ground.phase }, { on := 13, ground := Go.Ground.phase }, { on := 14, ground := Go.Ground.phase }, { on := 15, ground := Go.Ground.phase }], guard := none }) rfl (fun K hK => ?_) ?_
  rotate_left
  exact AllReadyH.nil
  have hcv := (HD1.out.cell (lt_of_cell_some HCV1.out)).trans HCV1.out
  have hfz := (HD1.out.frozen (lt_of_cell_some HCV1.out)).trans HFZ1.out
  go_simp
  refine hK.out _ _ (H0.setCell HGE1.out _) (fun HS1 => ?_)
  clear hK K
  try simp only [Act.put, List.setIfInBounds_toArray, List.set_cons_zero, List.set_cons_succ]
  refine wpAnyH_done (by kernel_rfl) ?_ _
  rw [xsh HY1.out]
  obtain ⟨wc2, hwc2⟩ : ∃ wz, wd1.setCell ⟨gb, K1 / 8, none⟩ (.int .u8 (u1 : Nat)) = wz := ⟨_, rfl⟩
  rw [xsh HY1.out, hwc2] at HS1
  have HBA2 : Hid (BytesAt wc2 (some ⟨ga, 0, none⟩) (fl.set (K0 / 8) u0)) := Lib.hid (by subst hwc2; exact bytesAt_other (bytesAt_below HBA1.out HD1.out) HNE.out)
  have HBB2 : Hid (BytesAt wc2 (some ⟨gb, 0, none⟩) (hl.set (K1 / 8) u1)) := Lib.hid (by subst hwc2; exact bytesAt_set (bytesAt_below HBB1.out HD1.out) _ _ (by have h1 := HHL.out; have h2 := Hib1.out; omega))
  have B4 := Lib.hid (kbT B3.out HS1)
  rw [hwc2]
  clear hwc2 HS1 H91 H0 hcv hfz wq1 ia1 ib1 tq1 wr1 wu1
  go_wp2_with (first
    | (go_at_call 25; (with_reducible refine (CF.out ga gca _ (by have h1 := HFL.out; have h2 := HCA.out.1; omega) (by have h2 := HCA.out.2; unfold maxLen at h2; omega) HBA2.out).mono ?_); rintro e wx ⟨hb, rfl⟩; have HBB3 := Lib.hid (bytesAt_below HBB2.out hb); have B5 := Lib.hid (kbT B4.out hb); clear hb)
    | (go_at_call 21; (with_reducible refine (CH.out gb gcb _ (by have h1 := HHL.out; have h2 := HCB.out.1; omega) (by have h2 := HCB.out.2; unfold maxLen at h2; omega) (bytesAt_below HBB3.out ((Below.refl _ _).alloc (Nat.le_refl _) _))).mono ?_); rintro e wy ⟨rfl, hb⟩; have B6 := Lib.hid (kbT (B5.out.alloc B5.out.size _) hb); clear hb)
    | (go_at_call 13; refine (NM.out _ _).mono ?_; rintro e wn ⟨rfl, rfl⟩)
    | (go_at_call 15; refine (WKS.out _).mono ?_; rintro e wz ⟨rfl, hbz⟩))
  go_ret
  exact ⟨rfl, kbT B6.out (kbA hbz)⟩
end Go.Proofs.Ythnllhfdbnnjhaa
