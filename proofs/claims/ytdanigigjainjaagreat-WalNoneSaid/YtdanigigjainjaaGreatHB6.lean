/- Parts: W8 W9 W10 W11 W12 W13 W14 W15 W16 W17 W18 W19. -/
import Derived.Test.YtdanigigjainjaaGreatHB5
namespace Go.Proofs.YtdanigigjainjaaGreat
open Go.RowKit Go.Shelf
attribute [local go_sem] Oper.semAt_some

theorem goes_behind {d : Value} {s : Dk.DS} {F : Foot} {w w1 w2 : World} (hb : Below w.heap.size w w1) (h : Dk.Goes Dk.RepD d s F w1 w2) : Dk.Goes Dk.RepD d s F w w2 := by
  obtain ⟨F', hr, hs, ha⟩ := h
  exact ⟨F', hr, fun k hk => (hs k hk).imp id (fun h => Nat.le_trans hb.size h), ⟨ha.os.trans hb.os, ha.tape.trans hb.tape, ha.output.trans hb.output, Nat.le_trans hb.size ha.size, fun k hk hF => (ha.block k (Nat.lt_of_lt_of_le hk hb.size) hF).trans (hb.block k hk)⟩⟩
theorem rep_below {d : Value} {s : Dk.DS} {F : Foot} {w w1 : World} (h : Dk.RepD w d s F) (hb : Below w.heap.size w w1) : Dk.RepD w1 d s F :=
  Dk.diskOk.keep _ _ _ _ _ h hb.size (fun k hk => hb.block k (Dk.diskOk.low _ _ _ _ h k hk))
theorem layS_one (s : Dk.DS) (at' : Nat) (l : List Nat) (h : l.length = 64) : layS s at' l = Dk.writeS s at' (Dk.strOf l) := by
  have e : secN l.length = 1 := by unfold secN; omega
  unfold layS
  rw [e, layTo, layTo, if_pos rfl]
  have e2 : secL l 0 = l := by unfold secL; rw [Nat.mul_zero, List.drop_zero, List.take_of_length_le (by omega)]
  rw [e2]
  rfl
set_option maxRecDepth 100000 in
set_option maxHeartbeats 4000000 in
theorem writeHead_any (s : Dk.DS) (d : Value) (f pg : Int) (S E n c : Nat) (F : Foot) (w : World) (hR : Dk.RepD w d s F) (hW : Dk.Whole s) (hf : s.sync.length ≤ 30000 ∧ s.loose.length ≤ 19000) (hS : S < 2 ^ 64) (hE : E < 2 ^ 64) (hh : headOk n c = true) :
    Calls Tryz.prog 106 #[.agg #[d, .int .i64 f, .int .i64 pg], .agg #[.int .u64 S, .int .u64 E, .int .i64 n, .int .i64 c]] w fun r w' => r = .returned (.int .i64 (Dk.writeS s (S % 2 : Nat) (Dk.strOf (headL S E n c))).2) ∧ Dk.Goes Dk.RepD d (Dk.writeS s (S % 2 : Nat) (Dk.strOf (headL S E n c))).1 F w w' := by
  obtain ⟨Bd, hBd⟩ : ∃ Bd, d = .pointer (some ⟨Bd, 0, none⟩) := by obtain ⟨B, _, _, _, e, -⟩ := hR; exact ⟨B, e⟩
  subst hBd
  have hl := headL_length S E n c
  obtain ⟨w0, hw0⟩ : ∃ w0, w0 = (w.alloc (.cells #[.pointer (some ⟨Bd, 0, none⟩), .int .i64 f, .int .i64 pg] 37)).alloc (.cells #[.int .u64 S, .int .u64 E, .int .i64 n, .int .i64 c] 127) := ⟨_, rfl⟩
  have B0 : Below w.heap.size w w0 := by subst hw0; exact ((Below.refl _ _).alloc (Nat.le_refl _) _).alloc (by simp) _
  have CE := Lib.hid (encodeHead_ok S E n c hS hE hh w0)
  have c0 : w0.cell? ⟨w.heap.size, 0, none⟩ = some (.pointer (some ⟨Bd, 0, none⟩)) := by subst hw0; go_cell
  have c1 : w0.cell? ⟨w.heap.size, 1, none⟩ = some (.int .i64 f) := by subst hw0; go_cell
  have c2 : w0.cell? ⟨w.heap.size, 2, none⟩ = some (.int .i64 pg) := by subst hw0; go_cell
  have d0 : w0.cell? ⟨w.heap.size + 1, 0, none⟩ = some (.int .u64 S) := by subst hw0; go_cell
  have d1 : w0.cell? ⟨w.heap.size + 1, 1, none⟩ = some (.int .u64 E) := by subst hw0; go_cell
  have d2 : w0.cell? ⟨w.heap.size + 1, 2, none⟩ = some (.int .i64 n) := by subst hw0; go_cell
  have d3 : w0.cell? ⟨w.heap.size + 1, 3, none⟩ = some (.int .i64 c) := by subst hw0; go_cell
  go_enter Tryz.func106, Tryz.ntmps106
  go_wp2_with (first
    | (go_at_call 128; rw [← hw0]; refine CE.out.mono ?_; rintro e w1 ⟨g, rfl, h1, h2, h3⟩; have HY := Lib.hid (And.intro h1 (And.intro h2 h3)); clear h1 h2 h3)
    | fail)
  --REGION
  obtain ⟨h1, h2, h3⟩ := HY.out
  have B1 : Below w.heap.size w w1 := kbT B0 h3
  have hFw : ∀ k, F k → k < w.heap.size := Dk.diskOk.low _ _ _ _ hR
  have HCL : Hid (∀ w', Dk.Apart F w1 w' → w'.cell? ⟨w.heap.size, 0, none⟩ = some (.pointer (some ⟨Bd, 0, none⟩)) ∧ w'.cell? ⟨w.heap.size, 1, none⟩ = some (.int .i64 f) ∧ w'.cell? ⟨w.heap.size, 2, none⟩ = some (.int .i64 pg) ∧ w'.cell? ⟨w.heap.size + 1, 0, none⟩ = some (.int .u64 S) ∧ w'.cell? ⟨w.heap.size + 1, 1, none⟩ = some (.int .u64 E) ∧ w'.cell? ⟨w.heap.size + 1, 2, none⟩ = some (.int .i64 n) ∧ w'.cell? ⟨w.heap.size + 1, 3, none⟩ = some (.int .i64 c)) := Lib.hid fun w' ha => by
    have st : ∀ (q : Addr) (v : Value), w.heap.size ≤ q.block → w0.cell? q = some v → w'.cell? q = some v := fun q v hq hc => by
      have l0 := lt_of_cell_some hc
      exact (World.cell?_of_block (ha.block q.block (Nat.lt_of_lt_of_le l0 h3.size) (fun h => by have := hFw _ h; omega))).trans ((h3.cell l0).trans hc)
    exact ⟨st _ _ (Nat.le_refl _) c0, st _ _ (Nat.le_refl _) c1, st _ _ (Nat.le_refl _) c2, st _ _ (by simp) d0, st _ _ (by simp) d1, st _ _ (by simp) d2, st _ _ (by simp) d3⟩
  have CL : Hid (∀ wA, Below w1.heap.size w1 wA → Calls Tryz.prog 127 #[.agg #[.pointer (some ⟨Bd, 0, none⟩), .int .i64 f, .int .i64 pg], .int .i64 (S % 2 : Nat), .slice (some ⟨g, 0, none⟩) 64 64] wA fun r w' => r = .returned (.int .i64 (Dk.writeS s (S % 2 : Nat) (Dk.strOf (headL S E n c))).2) ∧ Dk.Goes Dk.RepD (.pointer (some ⟨Bd, 0, none⟩)) (Dk.writeS s (S % 2 : Nat) (Dk.strOf (headL S E n c))).1 F wA w') := Lib.hid fun wA hb => by
    have := lay_any s (.pointer (some ⟨Bd, 0, none⟩)) f pg (S % 2) (headL S E n c) (some ⟨g, 0, none⟩) 64 F wA (rep_below hR (kbT B1 hb)) hW ⟨hf.1, by rw [hl]; have : secN 64 = 1 := rfl; omega⟩ (by omega) (by omega) (headL_byte S E n c) (bytesAt_below h1 hb)
    rw [hl, layS_one _ _ _ hl] at this
    exact this
  have HB1 := Lib.hid B1
  generalize hst : Dk.writeS s (S % 2 : Nat) (Dk.strOf (headL S E n c)) = st at CL
  have HST := Lib.hid hst
  clear h1 h2 h3 B1 hst HY CE c0 c1 c2 d0 d1 d2 d3 B0 hw0 hR
  refine wp_region_held_drew (S := fun w' => Dk.Apart F w1 w') (by kernel_rfl) (Dk.Below.apart ((Below.refl _ _).drew) F) (fun H0 => ?_)
  refine wpAnyH_take (i := 0) (oi := { dst := some 14, op := Go.Op.load 37 (Go.Operand.tmp 2), type := 37, pos := "place.go:125", after := #[], guard := none }) (v := ?_) rfl (by kernel_rfl) (by kernel_rfl) (by kernel_rfl) (fun _ _ _ h => h) (Or.inl ⟨by rfl, ?_⟩) H0 ?_
  rotate_left
  focus (intro w' hSw; (try dsimp only at hSw); obtain ⟨z0, z1, z2, z3, z4, z5, z6⟩ := HCL.out _ hSw; go_simp; (try with_reducible rfl))
  simp only [Act.put, List.setIfInBounds_toArray, List.set_cons_zero, List.set_cons_succ]
  refine wpAnyH_take (i := 1) (oi := { dst := some 15, op := Go.Op.load 127 (Go.Operand.tmp 3), type := 127, pos := "place.go:125", after := #[], guard := none }) (v := ?_) rfl (by kernel_rfl) (by kernel_rfl) (by kernel_rfl) (fun _ _ _ h => h) (Or.inl ⟨by rfl, ?_⟩) H0 ?_
  rotate_left
  focus (intro w' hSw; (try dsimp only at hSw); obtain ⟨z0, z1, z2, z3, z4, z5, z6⟩ := HCL.out _ hSw; go_simp; (try with_reducible rfl))
  simp only [Act.put, List.setIfInBounds_toArray, List.set_cons_zero, List.set_cons_succ]
  refine wpAnyH_take (i := 3) (oi := { dst := some 17, op := Go.Op.move (Go.Operand.tmp 5), type := 49, pos := "place.go:125", after := #[], guard := none }) (v := ?_) rfl (by kernel_rfl) (by kernel_rfl) (by kernel_rfl) (fun _ _ _ h => h) (Or.inl ⟨by rfl, ?_⟩) H0 ?_
  rotate_left
  focus (intro w' hSw; (try dsimp only at hSw); go_simp; (try with_reducible rfl))
  simp only [Act.put, List.setIfInBounds_toArray, List.set_cons_zero, List.set_cons_succ]
  refine wpAnyH_ready (rs := [2]) (by kernel_rfl) (by simp) ?_
  refine AllReadyH.cons (o := { dst := some 16, op := Go.Op.call { callee := Go.Callee.value (Go.Operand.func 119), args := #[Go.Operand.tmp 15], argTypes := #[127] }, type := 3, pos := "place.go:125", after := #[{ on := 1, ground := Go.Ground.data }], guard := none }) rfl (fun K hK => ?_) ?_
  rotate_left
  exact AllReadyH.nil
  try go_simp
  refine (headAt_any S E n c hS _).mono ?_; rintro e wA ⟨rfl, hbA⟩; have HA := Lib.hid (kbD hbA); clear hbA
  try go_wp2_with fail
  refine hK.out _ _ (Dk.Below.apart HA.out F) (fun H1 => ?_)
  clear hK K
  try simp only [Act.put, List.setIfInBounds_toArray, List.set_cons_zero, List.set_cons_succ]
  refine wpAnyH_ready (rs := [4]) (by kernel_rfl) (by simp) ?_
  refine AllReadyH.cons (o := { dst := some 18, op := Go.Op.call { callee := Go.Callee.value (Go.Operand.func 127), args := #[Go.Operand.tmp 14, Go.Operand.tmp 16, Go.Operand.tmp 17], argTypes := #[37, 3, 49] }, type := 25, pos := "place.go:125", after := #[{ on := 0, ground := Go.Ground.data }, { on := 2, ground := Go.Ground.data }, { on := 3, ground := Go.Ground.data }, { on := 2, ground := Go.Ground.chain }], guard := none }) rfl (fun K hK => ?_) ?_
  rotate_left
  exact AllReadyH.nil
  try go_simp
  refine (CL.out wA HA.out).mono ?_; rintro e wB ⟨rfl, hg⟩; have HB := Lib.hid (goes_behind HA.out hg); clear hg
  try go_wp2_with fail
  refine hK.out _ _ (by obtain ⟨_, _, _, ha⟩ := HB.out; exact ha) (fun H2 => ?_)
  clear hK K
  try simp only [Act.put, List.setIfInBounds_toArray, List.set_cons_zero, List.set_cons_succ]
  refine wpAnyH_take (i := 5) (oi := { dst := some 6, op := Go.Op.assign (Go.Operand.tmp 18), type := 25, pos := "place.go:125", after := #[{ on := 4, ground := Go.Ground.data }, { on := 4, ground := Go.Ground.chain }, { on := 0, ground := Go.Ground.phase }, { on := 1, ground := Go.Ground.phase }, { on := 2, ground := Go.Ground.phase }, { on := 3, ground := Go.Ground.phase }, { on := 4, ground := Go.Ground.phase }], guard := none }) (v := ?_) rfl (by kernel_rfl) (by kernel_rfl) (by kernel_rfl) (fun _ _ _ h => h) (Or.inl ⟨by rfl, ?_⟩) H2 ?_
  rotate_left
  focus (intro w' hSw; (try dsimp only at hSw); go_simp; (try with_reducible rfl))
  simp only [Act.put, List.setIfInBounds_toArray, List.set_cons_zero, List.set_cons_succ]
  refine wpAnyH_done (by kernel_rfl) ?_ _
  go_wp2
  go_ret
  have e := HST.out
  subst e
  exact ⟨rfl, goes_behind HB1.out HB.out⟩
end Go.Proofs.YtdanigigjainjaaGreat
namespace Go.Proofs.YtdanigigjainjaaGreat
open Go.RowKit Go.Shelf
attribute [local go_sem] Oper.semAt_some

theorem rep_len {w : World} {d : Value} {s : Dk.DS} {F : Foot} (h : Dk.RepD w d s F) (hm : 1 ≤ s.many) : Calls Tryz.prog 69 #[d] w fun r w' => r = .returned (.int .i64 s.many) ∧ w = w' := by
  obtain ⟨B, b1, b2, v, rfl, h, -⟩ := h
  exact Dk.dlen_any h hm
set_option maxRecDepth 100000 in
set_option maxHeartbeats 1500000 in
theorem dnone_nil (w : World) : Calls Tryz.prog 53 #[.pointer none] w fun r w' => r = .returned (.bool true) ∧ w = w' := by
  go_enter Tryz.func53, Tryz.ntmps53
  go_wp2
  go_ret
  exact ⟨rfl, rfl⟩
set_option maxRecDepth 100000 in
set_option maxHeartbeats 1500000 in
theorem dlen_nil (w : World) : Calls Tryz.prog 69 #[.pointer none] w fun r w' => r = .returned (.int .i64 0) ∧ w = w' := by
  go_enter Tryz.func69, Tryz.ntmps69
  go_wp2_with (first
    | (go_at_call 53; refine (dnone_nil _).mono ?_; rintro e w' ⟨rfl, rfl⟩)
    | fail)
  go_ret
  exact ⟨rfl, rfl⟩
set_option maxRecDepth 100000 in
set_option maxHeartbeats 1500000 in
theorem absent_nil (f pg : Int) (w : World) : Calls Tryz.prog 39 #[.agg #[.pointer none, .int .i64 f, .int .i64 pg]] w fun r w' => r = .returned (.int .i64 1) ∧ Below w.heap.size w w' := by
  go_enter Tryz.func39, Tryz.ntmps39
  go_wp2_with (first
    | (go_at_call 69; refine (dlen_nil _).mono ?_; rintro e w' ⟨rfl, rfl⟩)
    | fail)
  go_ret
  exact ⟨rfl, (Below.refl _ _).alloc (Nat.le_refl _) _⟩
set_option maxRecDepth 100000 in
set_option maxHeartbeats 1500000 in
theorem absent_any (s : Dk.DS) (d : Value) (f pg : Int) (F : Foot) (w : World) (hR : Dk.RepD w d s F) (hm : 1 ≤ s.many) : Calls Tryz.prog 39 #[.agg #[d, .int .i64 f, .int .i64 pg]] w fun r w' => r = .returned (.int .i64 0) ∧ Below w.heap.size w w' := by
  have CL := Lib.hid fun (w' : World) (h : Below w.heap.size w w') => rep_len (rep_below hR h) hm
  obtain ⟨Bd, hBd⟩ : ∃ Bd, d = .pointer (some ⟨Bd, 0, none⟩) := by obtain ⟨B, _, _, _, e, -⟩ := hR; exact ⟨B, e⟩
  subst hBd
  have hb : Below w.heap.size w (w.alloc (.cells #[.pointer (some ⟨Bd, 0, none⟩), .int .i64 f, .int .i64 pg] 37)) := (Below.refl _ _).alloc (Nat.le_refl _) _
  have hne : ((s.many : Int) == 0) = false := by simp; omega
  clear hR
  go_enter Tryz.func39, Tryz.ntmps39
  go_wp2_with (first
    | (go_at_call 69; refine (CL.out _ hb).mono ?_; rintro e w' ⟨rfl, rfl⟩)
    | fail)
  go_ret
  exact ⟨rfl, hb⟩
/-- Whether a disk is not one of the plan. -/
def unfitE (f pg : Int) (m : Nat) : Int := if planE f pg = 0 then (if secsE f pg = m then 0 else 2) else planE f pg
set_option maxRecDepth 100000 in
set_option maxHeartbeats 1500000 in
theorem unfit_any (s : Dk.DS) (d : Value) (f pg : Int) (F : Foot) (w : World) (hR : Dk.RepD w d s F) (hm : 1 ≤ s.many) : Calls Tryz.prog 40 #[.agg #[d, .int .i64 f, .int .i64 pg]] w fun r w' => r = .returned (.int .i64 (unfitE f pg s.many)) ∧ Below w.heap.size w w' := by
  have CL := Lib.hid fun (w' : World) (h : Below w.heap.size w w') => rep_len (rep_below hR h) hm
  have CS := Lib.hid (sectors_any f pg)
  obtain ⟨Bd, hBd⟩ : ∃ Bd, d = .pointer (some ⟨Bd, 0, none⟩) := by obtain ⟨B, _, _, _, e, -⟩ := hR; exact ⟨B, e⟩
  subst hBd
  obtain ⟨w0, hw0⟩ : ∃ w0, w0 = w.alloc (.cells #[.pointer (some ⟨Bd, 0, none⟩), .int .i64 f, .int .i64 pg] 37) := ⟨_, rfl⟩
  have hb : Below w.heap.size w w0 := by subst hw0; exact (Below.refl _ _).alloc (Nat.le_refl _) _
  have c0 : w0.cell? ⟨w.heap.size, 0, none⟩ = some (.pointer (some ⟨Bd, 0, none⟩)) := by subst hw0; go_cell
  have c1 : w0.cell? ⟨w.heap.size, 1, none⟩ = some (.int .i64 f) := by subst hw0; go_cell
  have c2 : w0.cell? ⟨w.heap.size, 2, none⟩ = some (.int .i64 pg) := by subst hw0; go_cell
  unfold unfitE
  generalize secsE f pg = se at *
  generalize planE f pg = pe at *
  clear hR
  by_cases he : pe = 0
  · subst he
    by_cases hq : se = (s.many : Int)
    · subst hq
      go_enter Tryz.func40, Tryz.ntmps40
      go_wp2_with (first
        | (go_at_call 70; rw [← hw0]; refine (CS.out _).mono ?_; rintro e w1 ⟨rfl, hb1⟩; have c3 := (hb1.cell (lt_of_cell_some c0)).trans c0; have HB1 := Lib.hid (kbT hb hb1); clear hb1)
        | (go_at_call 69; refine (CL.out _ HB1.out).mono ?_; rintro e w' ⟨rfl, rfl⟩)
        | fail)
      go_ret
      exact ⟨by simp, HB1.out⟩
    · have hne : (se == (s.many : Int)) = false := by simpa using hq
      go_enter Tryz.func40, Tryz.ntmps40
      go_wp2_with (first
        | (go_at_call 70; rw [← hw0]; refine (CS.out _).mono ?_; rintro e w1 ⟨rfl, hb1⟩; have c3 := (hb1.cell (lt_of_cell_some c0)).trans c0; have HB1 := Lib.hid (kbT hb hb1); clear hb1)
        | (go_at_call 69; refine (CL.out _ HB1.out).mono ?_; rintro e w' ⟨rfl, rfl⟩)
        | fail)
      go_ret
      exact ⟨by simp [hq], HB1.out⟩
  · have hne : (pe == 0) = false := by simpa using he
    go_enter Tryz.func40, Tryz.ntmps40
    go_wp2_with (first
      | (go_at_call 70; rw [← hw0]; refine (CS.out _).mono ?_; rintro e w1 ⟨rfl, hb1⟩; have HB1 := Lib.hid (kbT hb hb1); clear hb1)
      | fail)
    go_ret
    exact ⟨by simp [he], HB1.out⟩
end Go.Proofs.YtdanigigjainjaaGreat
namespace Go.Proofs.YtdanigigjainjaaGreat
open Go.RowKit Go.Shelf
attribute [local go_sem] Oper.semAt_some

theorem below_kept {w w' : World} (h : Below w.heap.size w w') (q : Addr) (v : Value) (hc : w.cell? q = some v) : w'.cell? q = some v := (h.cell (lt_of_cell_some hc)).trans hc
theorem frameL_len (E i p : Nat) (cm : Bool) (n k : Nat) (bs : List Nat) (hbl : bs.length = 512) : (frameL E i p cm n k bs).length = 576 := by unfold frameL; rw [List.length_append, frameS_length, hbl]
set_option maxRecDepth 100000 in
set_option maxHeartbeats 4000000 in
theorem writeFrame_any (s : Dk.DS) (d : Value) (f pg : Int) (E i p : Nat) (cm : Bool) (n k : Nat) (q : Option Addr) (cap : Nat) (bs : List Nat) (F : Foot) (w : World) (hR : Dk.RepD w d s F) (hW : Dk.Whole s) (hf : s.sync.length ≤ 30000 ∧ s.loose.length ≤ 19000)
    (hpl : planOk f pg = true) (hif : (i : Int) < f) (hE : E < 2 ^ 64) (hk : k < 4294967296) (hbl : bs.length = 512) (hbb : ∀ b ∈ bs, b < 256) (hbs : BytesAt w q bs) (hnn : q = none → cap = 0) (hok : frameOk i p cm n 512 = true) :
    Calls Tryz.prog 104 #[.agg #[d, .int .i64 f, .int .i64 pg], frameV E i p cm n k q 512 cap] w fun r w' => r = .returned (.int .i64 (layS s (2 + 9 * i) (frameL E i p cm n k bs)).2) ∧ Dk.Goes Dk.RepD d (layS s (2 + 9 * i) (frameL E i p cm n k bs)).1 F w w' := by
  obtain ⟨Bd, hBd⟩ : ∃ Bd, d = .pointer (some ⟨Bd, 0, none⟩) := by obtain ⟨B, _, _, _, e, -⟩ := hR; exact ⟨B, e⟩
  subst hBd
  have hl := frameL_len E i p cm n k bs hbl
  obtain ⟨g1, g2, g3, g4, g5, g6, g7, -⟩ := frame_bounds hok
  have hF : frameAtE f pg i = 2 + 9 * (i : Int) ∧ frameAtX f pg i = 0 := by unfold frameAtE frameAtX; rw [if_pos hpl, if_pos hpl, if_pos ⟨g1, hif⟩, if_pos ⟨g1, hif⟩]; exact ⟨rfl, rfl⟩
  have CF := Lib.hid (frameAt_any f pg i)
  rw [hF.1, hF.2] at CF
  obtain ⟨w0, hw0⟩ : ∃ w0, w0 = (w.alloc (.cells #[.pointer (some ⟨Bd, 0, none⟩), .int .i64 f, .int .i64 pg] 37)).alloc (.cells #[.int .u64 E, .int .i64 i, .int .i64 p, .bool cm, .int .i64 n, .int .u32 k, .slice q 512 cap] 156) := ⟨_, rfl⟩
  have B0 : Below w.heap.size w w0 := by subst hw0; exact ((Below.refl _ _).alloc (Nat.le_refl _) _).alloc (by simp) _
  have CE := Lib.hid fun (w1 : World) (hb : Below w.heap.size w w1) => encode_ok E i p cm n k hE (by omega) (by omega) (by omega) hk q cap bs hbl hbb w1 (bytesAt_below hbs hb) hnn hok
  have CL : Hid (∀ (w1 : World) (g : Option Addr) (c : Nat), Below w.heap.size w w1 → BytesAt w1 g (frameL E i p cm n k bs) → Calls Tryz.prog 127 #[.agg #[.pointer (some ⟨Bd, 0, none⟩), .int .i64 f, .int .i64 pg], .int .i64 (2 + 9 * (i : Int)), .slice g 576 c] w1 fun r w' => r = .returned (.int .i64 (layS s (2 + 9 * i) (frameL E i p cm n k bs)).2) ∧ Dk.Goes Dk.RepD (.pointer (some ⟨Bd, 0, none⟩)) (layS s (2 + 9 * i) (frameL E i p cm n k bs)).1 F w1 w') := Lib.hid fun w1 g c hb hg => by
    have := lay_any s (.pointer (some ⟨Bd, 0, none⟩)) f pg (2 + 9 * i) (frameL E i p cm n k bs) g c F w1 (rep_below hR hb) hW ⟨hf.1, by rw [hl]; have : secN 576 = 9 := rfl; omega⟩ (by omega) (by omega) (fun b hb => by
      unfold frameL at hb
      exact (List.mem_append.1 hb).elim (frameS_byte E i p cm n k bs b) (hbb b)) hg
    rw [hl, show ((2 + 9 * i : Nat) : Int) = 2 + 9 * (i : Int) from by omega] at this
    exact this
  have CR : Hid (∀ (w1 w2 : World) (t : Value), RowB w1 (frameL E i p cm n k bs) t w2 → ∃ g c, t = .slice g 576 c ∧ BytesAt w2 g (frameL E i p cm n k bs) ∧ Below w1.heap.size w1 w2) := Lib.hid fun w1 w2 t hr => by
    obtain ⟨p2, c2, rfl, -, -, h3, -⟩ := hr.at2
    exact ⟨p2, c2, by rw [hl], h3, hr.2⟩
  obtain ⟨st, hst⟩ : ∃ st, layS s (2 + 9 * i) (frameL E i p cm n k bs) = st := ⟨_, rfl⟩
  rw [hst] at CL ⊢
  have c0 : w0.cell? ⟨w.heap.size, 0, none⟩ = some (.pointer (some ⟨Bd, 0, none⟩)) := by subst hw0; go_cell
  have c1 : w0.cell? ⟨w.heap.size, 1, none⟩ = some (.int .i64 f) := by subst hw0; go_cell
  have c2 : w0.cell? ⟨w.heap.size, 2, none⟩ = some (.int .i64 pg) := by subst hw0; go_cell
  have d0 : w0.cell? ⟨w.heap.size + 1, 0, none⟩ = some (.int .u64 E) := by subst hw0; go_cell
  have d1 : w0.cell? ⟨w.heap.size + 1, 1, none⟩ = some (.int .i64 i) := by subst hw0; go_cell
  have d2 : w0.cell? ⟨w.heap.size + 1, 2, none⟩ = some (.int .i64 p) := by subst hw0; go_cell
  have d3 : w0.cell? ⟨w.heap.size + 1, 3, none⟩ = some (.bool cm) := by subst hw0; go_cell
  have d4 : w0.cell? ⟨w.heap.size + 1, 4, none⟩ = some (.int .i64 n) := by subst hw0; go_cell
  have d5 : w0.cell? ⟨w.heap.size + 1, 5, none⟩ = some (.int .u32 k) := by subst hw0; go_cell
  have d6 : w0.cell? ⟨w.heap.size + 1, 6, none⟩ = some (.slice q 512 cap) := by subst hw0; go_cell
  have HK : Hid (∀ w1, Below w0.heap.size w0 w1 → (w1.cell? ⟨w.heap.size, 0, none⟩ = some (.pointer (some ⟨Bd, 0, none⟩)) ∧ w1.cell? ⟨w.heap.size, 1, none⟩ = some (.int .i64 f) ∧ w1.cell? ⟨w.heap.size, 2, none⟩ = some (.int .i64 pg)) ∧ w1.cell? ⟨w.heap.size + 1, 0, none⟩ = some (.int .u64 E) ∧ w1.cell? ⟨w.heap.size + 1, 1, none⟩ = some (.int .i64 i) ∧ w1.cell? ⟨w.heap.size + 1, 2, none⟩ = some (.int .i64 p) ∧ w1.cell? ⟨w.heap.size + 1, 3, none⟩ = some (.bool cm) ∧ w1.cell? ⟨w.heap.size + 1, 4, none⟩ = some (.int .i64 n) ∧ w1.cell? ⟨w.heap.size + 1, 5, none⟩ = some (.int .u32 k) ∧ w1.cell? ⟨w.heap.size + 1, 6, none⟩ = some (.slice q 512 cap)) := Lib.hid fun w1 hb =>
    ⟨⟨below_kept hb _ _ c0, below_kept hb _ _ c1, below_kept hb _ _ c2⟩, below_kept hb _ _ d0, below_kept hb _ _ d1, below_kept hb _ _ d2, below_kept hb _ _ d3, below_kept hb _ _ d4, below_kept hb _ _ d5, below_kept hb _ _ d6⟩
  have HB0 := Lib.hid B0
  clear hst hR hbs hbb hok hF c0 c1 c2 d0 d1 d2 d3 d4 d5 d6 B0
  unfold frameV
  go_enter Tryz.func104, Tryz.ntmps104
  go_wp2_with (first
    | (go_at_call 120; rw [← hw0]; refine (CF.out _).mono ?_; rintro e w1 ⟨rfl, hb1⟩; have HB1 := Lib.hid hb1; obtain ⟨-, z3, z4, z5, z6, z7, z8, z9⟩ := HK.out _ hb1; clear hb1)
    | (go_at_call 126; refine (CE.out _ (kbT HB0.out HB1.out)).mono ?_; rintro e w2 ⟨t, rfl, hr⟩; obtain ⟨g, c, rfl, y1, y2⟩ := CR.out _ _ _ hr; have HB2 := Lib.hid (kbT HB1.out y2); have HY := Lib.hid y1; clear z3 z4 z5 z6 z7 z8 z9; obtain ⟨⟨z0, z1, z2⟩, -⟩ := HK.out _ HB2.out; clear hr y1 y2)
    | (go_at_call 127; refine (CL.out w2 g c (kbT HB0.out HB2.out) HY.out).mono ?_; rintro e w3 ⟨rfl, hg⟩; have HG := Lib.hid (goes_behind (kbT HB0.out HB2.out) hg); clear hg)
    | fail)
  go_ret
  exact ⟨rfl, HG.out⟩
end Go.Proofs.YtdanigigjainjaaGreat
namespace Go.Proofs.YtdanigigjainjaaGreat
open Go.RowKit Go.Shelf
attribute [local go_sem] Oper.semAt_some

/-- What a log's cells hold. -/
structure LogV where
  d : Option Addr
  f : Int
  pg : Int
  sr : Nat
  E : Nat
  i : Int
  k : Nat
  n : Int
  m : Option Nat
def LogV.zero : LogV := ⟨none, 0, 0, 0, 0, 0, 0, 0, none⟩
abbrev LogV.cs (x : LogV) : Array Value := #[.pointer x.d, .int .i64 x.f, .int .i64 x.pg, .int .u64 x.sr, .int .u64 x.E, .int .i64 x.i, .int .u32 x.k, .int .i64 x.n, .map x.m]
theorem zeroLog : Tryz.prog.built 46 [] = some LogV.zero.cs := by kernel_rfl
/-- A pointer behind which such a log lies. -/
def LogAt (w : World) (B : Nat) (x : LogV) : Prop := w.heap[B]? = some (.cells x.cs 46 (0, 0))
set_option maxRecDepth 100000 in
set_option maxHeartbeats 3000000 in
theorem whole_nil (w : World) : Calls Tryz.prog 42 #[.pointer none] w fun r w' => r = .returned (.agg LogV.zero.cs) ∧ Below w.heap.size w w' := by
  have hz := zeroLog
  simp only [LogV.zero] at hz ⊢
  have hb : ∀ o, Below w.heap.size w (w.alloc o) := fun o => (Below.refl _ _).alloc (Nat.le_refl _) _
  go_enter Tryz.func42, Tryz.ntmps42
  go_wp2
  refine bodyPost_ret (v := .agg LogV.zero.cs) ?_ rfl ⟨rfl, hb _⟩
  simp [results, Tryz.results42, go_sem, LogV.zero]
set_option maxRecDepth 100000 in
set_option maxHeartbeats 3000000 in
theorem whole_any (B : Nat) (x : LogV) (w : World) (h : LogAt w B x) : Calls Tryz.prog 42 #[.pointer (some ⟨B, 0, none⟩)] w fun r w' => r = .returned (.agg x.cs) ∧ Below w.heap.size w w' := by
  obtain ⟨d, f, pg, sr, E, i, k, n, m⟩ := x
  unfold LogAt at h
  have hq : ∀ j v, (#[.pointer d, .int .i64 f, .int .i64 pg, .int .u64 sr, .int .u64 E, .int .i64 i, .int .u32 k, .int .i64 n, .map m] : Array Value)[j]? = some v → w.cell? ⟨B, j, none⟩ = some v := fun j v e => (cell_of_row w B j _ 46 (0, 0) h).trans e
  have c0 := hq 0 _ rfl
  have c1 := hq 1 _ rfl
  have c2 := hq 2 _ rfl
  have c3 := hq 3 _ rfl
  have c4 := hq 4 _ rfl
  have c5 := hq 5 _ rfl
  have c6 := hq 6 _ rfl
  have c7 := hq 7 _ rfl
  have c8 := hq 8 _ rfl
  clear hq
  have hl : B < w.heap.size := (Array.getElem?_eq_some_iff.1 h).1
  go_enter Tryz.func42, Tryz.ntmps42
  go_wp2
  refine bodyPost_ret (v := .agg #[.pointer d, .int .i64 f, .int .i64 pg, .int .u64 sr, .int .u64 E, .int .i64 i, .int .u32 k, .int .i64 n, .map m]) ?_ rfl ⟨rfl, (Below.refl _ _).alloc (Nat.le_refl _) _⟩
  simp [results, Tryz.results42, go_sem]
/-- What a log's pointer is answered with: of none, a zero log. -/
def WholeIs (p : Value) (w : World) (x : LogV) : Prop := ∀ w', Below w.heap.size w w' → Calls Tryz.prog 42 #[p] w' fun r w2 => r = .returned (.agg x.cs) ∧ Below w'.heap.size w' w2
theorem whole_of (B : Nat) (x : LogV) (w : World) (h : LogAt w B x) : WholeIs (.pointer (some ⟨B, 0, none⟩)) w x := fun w' hb => whole_any B x w' ((hb.block B (Array.getElem?_eq_some_iff.1 h).1).trans h)
theorem whole_none (w : World) : WholeIs (.pointer none) w .zero := fun w' _ => whole_nil w'
theorem fieldLC (a b c d e f g h i : Value) (w : World) : (Instr.field 46 (.agg #[a, b, c, d, e, f, g, h, i]) 2).run Tryz.prog w = .ok (.agg #[e, f, g, h, i]) w := by
  simp [Instr.field, part, asAgg, Sem.run_bind, Tryz.underlying46, Tryz.isAgg44, Tryz.sizeOf44]
theorem fieldLP (a b c d e f g h i : Value) (w : World) : (Instr.field 46 (.agg #[a, b, c, d, e, f, g, h, i]) 0).run Tryz.prog w = .ok (.agg #[a, b, c]) w := by
  simp [Instr.field, part, asAgg, Sem.run_bind, Tryz.underlying46, Tryz.isAgg37, Tryz.sizeOf37]
theorem fieldCE (e f g h i : Value) (w : World) : (Instr.field 44 (.agg #[e, f, g, h, i]) 0).run Tryz.prog w = .ok (.agg #[e, f, g]) w := by
  simp [Instr.field, part, asAgg, Sem.run_bind, Tryz.underlying44, Tryz.isAgg41, Tryz.sizeOf41]
theorem fieldCN (e f g h i : Value) (w : World) : (Instr.field 44 (.agg #[e, f, g, h, i]) 1).run Tryz.prog w = .ok h w := by
  simp [Instr.field, part, asAgg, Sem.run_bind, Tryz.underlying44, Tryz.isAgg3]
theorem fieldEE (e f g : Value) (w : World) : (Instr.field 41 (.agg #[e, f, g]) 0).run Tryz.prog w = .ok e w := by
  simp [Instr.field, part, asAgg, Sem.run_bind, Tryz.underlying41, Tryz.isAgg38]
theorem fieldPD (e f g : Value) (w : World) : (Instr.field 37 (.agg #[e, f, g]) 0).run Tryz.prog w = .ok e w := by
  simp [Instr.field, part, asAgg, Sem.run_bind, Tryz.underlying37, Tryz.isAgg24]
section
variable (p : Value) (x : LogV) (w : World) (h : WholeIs p w x)
set_option maxRecDepth 100000 in
set_option maxHeartbeats 2000000 in
include h in
theorem size_any : Calls Tryz.prog 19 #[p] w fun r w' => r = .returned (.int .i64 x.n) ∧ Below w.heap.size w w' := by
  have C := Lib.hid (h w (Below.refl _ _))
  clear h
  obtain ⟨d, f, pg, sr, E, i, k, n, m⟩ := x
  dsimp only [LogV.cs] at C
  have q1 := fieldLC
  have q2 := fieldLP
  have q3 := fieldCE
  have q4 := fieldCN
  have q5 := fieldEE
  have q6 := fieldPD
  go_enter Tryz.func19, Tryz.ntmps19
  go_wp2_with (first
    | (go_at_call 42; refine C.out.mono ?_; rintro e w1 ⟨rfl, hb⟩)
    | fail)
  go_ret
  exact ⟨rfl, hb⟩
set_option maxRecDepth 100000 in
set_option maxHeartbeats 2000000 in
include h in
theorem epoch_any : Calls Tryz.prog 20 #[p] w fun r w' => r = .returned (.int .u64 x.E) ∧ Below w.heap.size w w' := by
  have C := Lib.hid (h w (Below.refl _ _))
  clear h
  obtain ⟨d, f, pg, sr, E, i, k, n, m⟩ := x
  dsimp only [LogV.cs] at C
  have q1 := fieldLC
  have q2 := fieldLP
  have q3 := fieldCE
  have q4 := fieldCN
  have q5 := fieldEE
  have q6 := fieldPD
  go_enter Tryz.func20, Tryz.ntmps20
  go_wp2_with (first
    | (go_at_call 42; refine C.out.mono ?_; rintro e w1 ⟨rfl, hb⟩)
    | fail)
  go_ret
  exact ⟨rfl, hb⟩
set_option maxRecDepth 100000 in
set_option maxHeartbeats 2000000 in
include h in
theorem ldisk_any : Calls Tryz.prog 13 #[p] w fun r w' => r = .returned (.pointer x.d) ∧ Below w.heap.size w w' := by
  have C := Lib.hid (h w (Below.refl _ _))
  clear h
  obtain ⟨d, f, pg, sr, E, i, k, n, m⟩ := x
  dsimp only [LogV.cs] at C
  have q1 := fieldLC
  have q2 := fieldLP
  have q3 := fieldCE
  have q4 := fieldCN
  have q5 := fieldEE
  have q6 := fieldPD
  go_enter Tryz.func13, Tryz.ntmps13
  go_wp2_with (first
    | (go_at_call 42; refine C.out.mono ?_; rintro e w1 ⟨rfl, hb⟩)
    | fail)
  go_ret
  exact ⟨rfl, hb⟩
set_option maxRecDepth 100000 in
set_option maxHeartbeats 2000000 in
include h in
/-- A log without a disk is missing. -/
theorem missing_yes (hd : x.d = none) : Calls Tryz.prog 48 #[p] w fun r w' => r = .returned (.int .i64 1) ∧ Below w.heap.size w w' := by
  have C := Lib.hid (h w (Below.refl _ _))
  clear h
  obtain ⟨d, f, pg, sr, E, i, k, n, m⟩ := x
  dsimp only [LogV.cs] at C
  have q1 := fieldLC
  have q2 := fieldLP
  have q3 := fieldCE
  have q4 := fieldCN
  have q5 := fieldEE
  have q6 := fieldPD
  simp only at hd
  subst hd
  go_enter Tryz.func48, Tryz.ntmps48
  go_wp2_with (first
    | (go_at_call 42; refine C.out.mono ?_; rintro e w1 ⟨rfl, hb⟩)
    | (go_at_call 39; refine (absent_nil f pg w1).mono ?_; rintro e w2 ⟨rfl, hb2⟩)
    | fail)
  go_ret
  exact ⟨rfl, kbT hb hb2⟩
set_option maxRecDepth 100000 in
set_option maxHeartbeats 2000000 in
include h in
/-- A log with a disk is not. -/
theorem missing_no (s : Dk.DS) (F : Foot) (hR : Dk.RepD w (.pointer x.d) s F) (hm : 1 ≤ s.many) : Calls Tryz.prog 48 #[p] w fun r w' => r = .returned (.int .i64 0) ∧ Below w.heap.size w w' := by
  have C := Lib.hid (h w (Below.refl _ _))
  clear h
  obtain ⟨d, f, pg, sr, E, i, k, n, m⟩ := x
  dsimp only [LogV.cs] at C
  have q1 := fieldLC
  have q2 := fieldLP
  have q3 := fieldCE
  have q4 := fieldCN
  have q5 := fieldEE
  have q6 := fieldPD
  have CA := Lib.hid fun (w1 : World) (hb : Below w.heap.size w w1) => absent_any s (.pointer d) f pg F w1 (rep_below hR hb) hm
  clear hR
  go_enter Tryz.func48, Tryz.ntmps48
  go_wp2_with (first
    | (go_at_call 42; refine C.out.mono ?_; rintro e w1 ⟨rfl, hb⟩)
    | (go_at_call 39; refine (CA.out w1 hb).mono ?_; rintro e w2 ⟨rfl, hb2⟩)
    | fail)
  go_ret
  exact ⟨rfl, kbT hb hb2⟩
end
end Go.Proofs.YtdanigigjainjaaGreat
namespace Go.Proofs.YtdanigigjainjaaGreat
open Go.RowKit Go.Shelf
attribute [local go_sem] Oper.semAt_some

set_option maxRecDepth 100000 in
set_option maxHeartbeats 3000000 in
theorem room_any (B : Nat) (w : World) (f i : Int) (h1 : w.cell? ⟨B, 1, none⟩ = some (.int .i64 f)) (h5 : w.cell? ⟨B, 5, none⟩ = some (.int .i64 i)) (hw : IntKind.i64.wrap (f - i) = f - i) :
    Calls Tryz.prog 43 #[.pointer (some ⟨B, 0, none⟩)] w fun r w' => r = .returned (.int .i64 (f - i)) ∧ ∃ n, w' = w.drewN n := by
  go_enter Tryz.func43, Tryz.ntmps43
  go_upto_region 1 with fail
  go_quiet (fail)
  go_wp2
  go_ret
  exact ⟨rfl, _, rfl⟩
set_option maxRecDepth 100000 in
set_option maxHeartbeats 3000000 in
theorem many_any (p : Value) (x : LogV) (w : World) (h : WholeIs p w x) (hw : IntKind.i64.wrap (x.f - x.i) = x.f - x.i) :
    Calls Tryz.prog 14 #[p] w fun r w' => r = .returned (.tuple #[.int .i64 x.i, .int .i64 (x.f - x.i)]) ∧ Below w.heap.size w w' := by
  have C := Lib.hid (h w (Below.refl _ _))
  clear h
  obtain ⟨d, f, pg, sr, E, i, k, n, m⟩ := x
  dsimp only [LogV.cs] at C
  simp only at hw ⊢
  go_enter Tryz.func14, Tryz.ntmps14
  go_wp2_with (first
    | (go_at_call 42; refine C.out.mono ?_; rintro e w1 ⟨rfl, hb⟩)
    | fail)
  have hb2 := hb.alloc hb.size (.cells #[.pointer d, .int .i64 f, .int .i64 pg, .int .u64 sr, .int .u64 E, .int .i64 i, .int .u32 k, .int .i64 n, .map m] 46)
  have CR := Lib.hid fun (q : Nat) => room_any w1.heap.size ((w1.alloc (.cells #[.pointer d, .int .i64 f, .int .i64 pg, .int .u64 sr, .int .u64 E, .int .i64 i, .int .u32 k, .int .i64 n, .map m] 46)).drewN q) f i (by go_cell) (by go_cell) hw
  try go_upto_region 2 with fail
  go_quiet ((go_at_call 43; exact Calls.quiet_of (CR.out _)))
  go_wp2
  go_ret2
  exact ⟨rfl, ⟨hb2.os, hb2.tape, hb2.output, hb2.size, hb2.block⟩⟩
end Go.Proofs.YtdanigigjainjaaGreat
namespace Go.Proofs.YtdanigigjainjaaGreat
open Go.RowKit Go.Shelf
attribute [local go_sem] Oper.semAt_some

/-- The first thing goes wrong. -/
theorem first_stops (fs : List FnV) (f0 : FnV) (p : Option Addr) (c : Nat) (e0 : Int) (w : World) (hn : fs.length ≤ 10000) (h0 : fs[0]? = some f0) (he : e0 ≠ 0)
    (hent : ∀ f ∈ fs, ∀ args w, (callFunc f.g args).run Tryz.prog w = .ok (.enter f.g args) w)
    (hcell : ∃ B off, p = some ⟨B, off, none⟩ ∧ w.cell? ⟨B, off, none⟩ = some f0.v)
    (hcall : Calls Tryz.prog f0.g (f0.first ++ #[] ++ f0.caps) w fun r W' => r = .returned (.int .i64 e0) ∧ Below w.heap.size w W') :
    Calls Tryz.prog 38 #[.slice p fs.length c] w fun r w' => r = .returned (.int .i64 e0) ∧ Below w.heap.size w w' := by
  have h1 : 0 < fs.length := (List.getElem?_eq_some_iff.1 h0).1
  refine (first_any fs p c (fun i W => i = 0 ∧ W = w) (fun e W => e = e0 ∧ Below w.heap.size w W) w hn hent ?_ ?_ ?_ ⟨rfl, rfl⟩).mono ?_
  · rintro i W ⟨rfl, rfl⟩ -
    obtain ⟨B, off, e, hc⟩ := hcell
    refine ⟨B, off, e, ?_⟩
    rw [List.getD_eq_getElem?_getD, List.getElem?_map, h0]
    exact hc
  · rintro i f W hf ⟨rfl, rfl⟩
    rw [h0] at hf
    injection hf with hf
    subst hf
    refine hcall.mono ?_
    rintro e W' ⟨rfl, hb⟩
    exact ⟨e0, rfl, fun h => absurd h he, fun _ => ⟨rfl, hb⟩⟩
  · rintro W ⟨h, -⟩
    omega
  · rintro e W ⟨e', rfl, rfl, hb⟩
    exact ⟨rfl, hb⟩
set_option maxRecDepth 100000 in
set_option maxHeartbeats 3000000 in
theorem reset_none (p : Value) (x : LogV) (w : World) (h : WholeIs p w x) (hd : x.d = none) :
    Calls Tryz.prog 18 #[p] w fun r w' => r = .returned (.int .i64 1) ∧ Below w.heap.size w w' := by
  have hmf : ∀ (fn : Fn) (first cap : Array Value) (w : World), (Instr.makeFunc fn first cap).run Tryz.prog w = .ok (.func fn first cap) w := fun _ _ _ _ => rfl
  have hb : Below w.heap.size w (w.alloc (.cells #[.func (.func 48) #[p] #[], .func (.func 52) #[p] #[]] 56)) := (Below.refl _ _).alloc (Nat.le_refl _) _
  have CM := Lib.hid (missing_yes p x _ (fun w' h' => h w' (kbT hb h')) hd)
  have CF := Lib.hid (first_stops [⟨48, #[p], #[]⟩, ⟨52, #[p], #[]⟩] _ (some ⟨w.heap.size, 0, none⟩) 2 1 (w.alloc (.cells #[.func (.func 48) #[p] #[], .func (.func 52) #[p] #[]] 56)) (by simp) rfl (by omega)
    (fun f hf => by
      rcases List.mem_cons.1 hf with rfl | hf
      · exact enters_of Tryz.func48 (by kernel_rfl) rfl
      · obtain rfl := List.mem_singleton.1 hf
        exact enters_of Tryz.func52 (by kernel_rfl) rfl)
    ⟨_, _, rfl, by go_cell⟩ (by simpa using CM.out))
  clear CM h
  go_enter Tryz.func18, Tryz.ntmps18
  go_wp2_with (first
    | (go_at_call 38; refine CF.out.mono ?_; rintro e w1 ⟨rfl, hb1⟩)
    | fail)
  go_ret
  exact ⟨rfl, kbT hb hb1⟩
end Go.Proofs.YtdanigigjainjaaGreat
namespace Go.Proofs.YtdanigigjainjaaGreat
open Go.RowKit Go.Shelf
attribute [local go_sem] Oper.semAt_some

set_option maxRecDepth 100000 in
set_option maxHeartbeats 3000000 in
theorem append_none (a : Option Addr) (x : LogV) (n : Int) (q : Option Addr) (ln cp : Nat) (w : World) (h : WholeIs (.pointer a) w x) (hd : x.d = none) :
    Calls Tryz.prog 17 #[.pointer a, .int .i64 n, .slice q ln cp] w fun r w' => r = .returned (.int .i64 1) ∧ Below w.heap.size w w' := by
  have hmf : ∀ (fn : Fn) (first cap : Array Value) (w : World), (Instr.makeFunc fn first cap).run Tryz.prog w = .ok (.func fn first cap) w := fun _ _ _ _ => rfl
  obtain ⟨w0, hw0⟩ : ∃ w0, w0 = (w.alloc (.cells #[.pointer a, .int .i64 n, .slice q ln cp] 102)).alloc (.cells #[.func (.func 48) #[.pointer a] #[], .func (.func 49) #[.agg #[.pointer a, .int .i64 n, .slice q ln cp]] #[], .func (.func 50) #[.agg #[.pointer a, .int .i64 n, .slice q ln cp]] #[], .func (.func 51) #[.agg #[.pointer a, .int .i64 n, .slice q ln cp]] #[]] 56) := ⟨_, rfl⟩
  have hb : Below w.heap.size w w0 := by subst hw0; exact ((Below.refl _ _).alloc (Nat.le_refl _) _).alloc (by simp) _
  have CM := Lib.hid (missing_yes (.pointer a) x w0 (fun w' h' => h w' (kbT hb h')) hd)
  have CF := Lib.hid (first_stops [⟨48, #[.pointer a], #[]⟩, ⟨49, #[.agg #[.pointer a, .int .i64 n, .slice q ln cp]], #[]⟩, ⟨50, #[.agg #[.pointer a, .int .i64 n, .slice q ln cp]], #[]⟩, ⟨51, #[.agg #[.pointer a, .int .i64 n, .slice q ln cp]], #[]⟩] _ (some ⟨w.heap.size + 1, 0, none⟩) 4 1 w0 (by simp) rfl (by omega)
    (fun f hf => by
      rcases List.mem_cons.1 hf with rfl | hf
      · exact enters_of Tryz.func48 (by kernel_rfl) rfl
      rcases List.mem_cons.1 hf with rfl | hf
      · exact enters_of Tryz.func49 (by kernel_rfl) rfl
      rcases List.mem_cons.1 hf with rfl | hf
      · exact enters_of Tryz.func50 (by kernel_rfl) rfl
      · obtain rfl := List.mem_singleton.1 hf
        exact enters_of Tryz.func51 (by kernel_rfl) rfl)
    ⟨_, _, rfl, by subst hw0; go_cell⟩ (by simpa using CM.out))
  clear CM h
  go_enter Tryz.func17, Tryz.ntmps17
  go_wp2_with (first
    | (go_at_call 38; rw [← hw0]; refine CF.out.mono ?_; rintro e w1 ⟨rfl, hb1⟩)
    | fail)
  go_ret
  exact ⟨rfl, kbT hb hb1⟩
end Go.Proofs.YtdanigigjainjaaGreat
namespace Go.Proofs.YtdanigigjainjaaGreat
open Go.RowKit Go.Shelf
attribute [local go_sem] Oper.semAt_some

theorem fieldCM (e f g h i : Value) (w : World) : (Instr.field 44 (.agg #[e, f, g, h, i]) 2).run Tryz.prog w = .ok i w := by
  simp [Instr.field, part, asAgg, Sem.run_bind, Tryz.underlying44, Tryz.isAgg42]
theorem look_nil (k : Int) (w : World) : (Instr.lookup 42 (.map none) (.int .i64 k) true).run Tryz.prog w = .ok (.tuple #[.slice none 0 0, .bool false]) w := by
  have hd : Tryz.prog.underlying 3 = some (.int .i64) := by kernel_rfl
  have ht : Tryz.prog.underlying 42 = some (.map 3 49) := by kernel_rfl
  have h1 : (Instr.checkKey true (9999 + 1) 3 (.int .i64 k)).run Tryz.prog w = .ok () w := MapKept.run_checkKey (k := .int .i64 k) hd (by simp [MapKept.IsKey]) true 9999
  have h2 : (Instr.findKey 3 (.int .i64 k) []).run Tryz.prog w = .ok none w := MapKept.run_findKey hd rfl
  have h3 : (zeroValue 49).run Tryz.prog w = .ok (.slice none 0 0) w := by kernel_rfl
  simp [Instr.lookup, run_underlying ht, h1, h2, h3, Result.andThen]
set_option maxRecDepth 100000 in
set_option maxHeartbeats 3000000 in
theorem page_none (p : Value) (x : LogV) (k : Int) (w : World) (h : WholeIs p w x) (hm : x.m = none) :
    Calls Tryz.prog 15 #[p, .int .i64 k] w fun r w' => ∃ t, r = .returned (.tuple #[t, .bool false]) ∧ Below w.heap.size w w' := by
  have C := Lib.hid (h w (Below.refl _ _))
  clear h
  obtain ⟨d, f, pg, sr, E, i, kk, n, m⟩ := x
  simp only at hm
  subst hm
  dsimp only [LogV.cs] at C
  have q1 := fieldLC
  have q2 := fieldCM
  have q3 := look_nil k
  have CC := Lib.hid fun (w' : World) => clone_any [] none 0 w' (by simp) (fun i hi => absurd hi (Nat.not_lt_zero i))
  go_enter Tryz.func15, Tryz.ntmps15
  go_wp2_with (first
    | (go_at_call 42; refine C.out.mono ?_; rintro e w1 ⟨rfl, hb⟩)
    | (go_at_call 44; refine (CC.out _).mono ?_; rintro e w2 ⟨t, rfl, hr⟩; have HR := Lib.hid hr.2; clear hr)
    | fail)
  go_ret2
  exact ⟨_, rfl, kbT hb HR.out⟩
end Go.Proofs.YtdanigigjainjaaGreat
namespace Go.Proofs.YtdanigigjainjaaGreat
open Go.RowKit Go.Shelf
attribute [local go_sem] Oper.semAt_some

/-- A head, and whether it is a good one. -/
structure HeadF where
  S : Nat
  E : Nat
  n : Int
  c : Int
  g : Bool
abbrev HeadF.cs (x : HeadF) : List Value := [.int .u64 x.S, .int .u64 x.E, .int .i64 x.n, .int .i64 x.c, .bool x.g]
def bestE (x y : HeadF) : HeadF := if x.g then (if y.g && decide (x.S < y.S) then y else x) else if y.g then y else ⟨0, 0, 0, 0, false⟩
theorem headsAt (a b c d e f g h i j : Value) (w : World) : (Instr.index 151 (.agg #[a, b, c, d, e, f, g, h, i, j]) (.int .i64 0)).run Tryz.prog w = .ok (.agg #[a, b, c, d, e]) w ∧ (Instr.index 151 (.agg #[a, b, c, d, e, f, g, h, i, j]) (.int .i64 1)).run Tryz.prog w = .ok (.agg #[f, g, h, i, j]) w := by
  constructor <;> simp [Instr.index, part, asIntOf, Sem.run_bind, Tryz.underlying151, Tryz.sizeOf149, Tryz.isAgg149]
set_option maxRecDepth 100000 in
set_option maxHeartbeats 6000000 in
theorem best_any (S E : Nat) (n c : Int) (g : Bool) (S' E' : Nat) (n' c' : Int) (g' : Bool) (w : World) :
    Calls Tryz.prog 94 #[.agg #[.int .u64 S, .int .u64 E, .int .i64 n, .int .i64 c, .bool g, .int .u64 S', .int .u64 E', .int .i64 n', .int .i64 c', .bool g']] w fun r w' => r = .returned (.agg (bestE ⟨S, E, n, c, g⟩ ⟨S', E', n', c', g'⟩).cs.toArray) ∧ Below w.heap.size w w' := by
  have hz : Tryz.prog.built 149 [] = some #[.int .u64 0, .int .u64 0, .int .i64 0, .int .i64 0, .bool false] := by kernel_rfl
  have q0 := fun (a b c d e f g h i j : Value) w => (headsAt a b c d e f g h i j w).1
  have q1 := fun (a b c d e f g h i j : Value) w => (headsAt a b c d e f g h i j w).2
  cases g
  · cases g'
    · go_enter Tryz.func94, Tryz.ntmps94
      go_wp2
      refine wp_loop_rounds 3 ?_
      rw [rounds_succ]
      go_wp2
      rw [rounds_succ]
      go_wp2
      rw [rounds_succ]
      go_wp2
      refine bodyPost_ret (v := .agg #[.int .u64 0, .int .u64 0, .int .i64 0, .int .i64 0, .bool false]) ?_ rfl ⟨rfl, ?_⟩
      · simp [results, Tryz.results94, go_sem]
      · repeat' (first | exact Below.refl _ _ | exact Nat.le_refl _ | (refine Below.alloc ?_ ?_ _) | (refine Below.setCell ?_ ?_ _) | (simp; done) | (simp; omega))
    · go_enter Tryz.func94, Tryz.ntmps94
      go_wp2
      refine wp_loop_rounds 3 ?_
      rw [rounds_succ]
      go_wp2
      rw [rounds_succ]
      go_wp2
      rw [rounds_succ]
      go_wp2
      refine bodyPost_ret (v := .agg #[.int .u64 S', .int .u64 E', .int .i64 n', .int .i64 c', .bool true]) ?_ rfl ⟨rfl, ?_⟩
      · simp [results, Tryz.results94, go_sem]
      · repeat' (first | exact Below.refl _ _ | exact Nat.le_refl _ | (refine Below.alloc ?_ ?_ _) | (refine Below.setCell ?_ ?_ _) | (simp; done) | (simp; omega))
  · cases g'
    · go_enter Tryz.func94, Tryz.ntmps94
      go_wp2
      refine wp_loop_rounds 3 ?_
      rw [rounds_succ]
      go_wp2
      rw [rounds_succ]
      go_wp2
      rw [rounds_succ]
      go_wp2
      refine bodyPost_ret (v := .agg #[.int .u64 S, .int .u64 E, .int .i64 n, .int .i64 c, .bool true]) ?_ rfl ⟨rfl, ?_⟩
      · simp [results, Tryz.results94, go_sem]
      · repeat' (first | exact Below.refl _ _ | exact Nat.le_refl _ | (refine Below.alloc ?_ ?_ _) | (refine Below.setCell ?_ ?_ _) | (simp; done) | (simp; omega))
    · by_cases hS : S < S'
      · have hd : ((S : Int) < (S' : Int)) := by omega
        have e : bestE ⟨S, E, n, c, true⟩ ⟨S', E', n', c', true⟩ = ⟨S', E', n', c', true⟩ := by simp [bestE, hS]
        rw [e]
        go_enter Tryz.func94, Tryz.ntmps94
        go_wp2
        refine wp_loop_rounds 3 ?_
        rw [rounds_succ]
        go_wp2
        rw [rounds_succ]
        go_wp2
        rw [rounds_succ]
        go_wp2
        refine bodyPost_ret (v := .agg #[.int .u64 S', .int .u64 E', .int .i64 n', .int .i64 c', .bool true]) ?_ rfl ⟨rfl, ?_⟩
        · simp [results, Tryz.results94, go_sem]
        · repeat' (first | exact Below.refl _ _ | exact Nat.le_refl _ | (refine Below.alloc ?_ ?_ _) | (refine Below.setCell ?_ ?_ _) | (simp; done) | (simp; omega))
      · have hd : ¬ ((S : Int) < (S' : Int)) := by omega
        have e : bestE ⟨S, E, n, c, true⟩ ⟨S', E', n', c', true⟩ = ⟨S, E, n, c, true⟩ := by simp [bestE, hS]
        rw [e]
        go_enter Tryz.func94, Tryz.ntmps94
        go_wp2
        refine wp_loop_rounds 3 ?_
        rw [rounds_succ]
        go_wp2
        rw [rounds_succ]
        go_wp2
        rw [rounds_succ]
        go_wp2
        refine bodyPost_ret (v := .agg #[.int .u64 S, .int .u64 E, .int .i64 n, .int .i64 c, .bool true]) ?_ rfl ⟨rfl, ?_⟩
        · simp [results, Tryz.results94, go_sem]
        · repeat' (first | exact Below.refl _ _ | exact Nat.le_refl _ | (refine Below.alloc ?_ ?_ _) | (refine Below.setCell ?_ ?_ _) | (simp; done) | (simp; omega))
end Go.Proofs.YtdanigigjainjaaGreat
namespace Go.Proofs.YtdanigigjainjaaGreat
open Go.RowKit Go.Shelf

/-- A sector is written; all is synced. -/
inductive DOp where
  | wr (k : Nat) (b : ByteArray)
  | sy
def stepOp (s : Dk.DS) : DOp → Dk.DS × Int
  | .wr k b => Dk.writeS s (k : Int) b
  | .sy => Dk.syncS s
/-- Up to the first error. -/
def runOps (s : Dk.DS) : List DOp → Dk.DS × Int
  | [] => (s, 0)
  | o :: l => if (stepOp s o).2 = 0 then runOps (stepOp s o).1 l else stepOp s o
theorem runOps_append (s : Dk.DS) (a b : List DOp) : runOps s (a ++ b) = if (runOps s a).2 = 0 then runOps (runOps s a).1 b else runOps s a := by
  induction a generalizing s with
  | nil => simp [runOps]
  | cons o a ih =>
    rw [List.cons_append, runOps, runOps]
    by_cases h : (stepOp s o).2 = 0
    · rw [if_pos h, if_pos h, ih]
    · rw [if_neg h, if_neg h, if_neg h]
theorem runOps_one (s : Dk.DS) (o : DOp) : runOps s [o] = stepOp s o := by
  rw [runOps]
  by_cases h : (stepOp s o).2 = 0
  · rw [if_pos h, runOps, ← h]
  · rw [if_neg h]
/-- Bytes are written to the sectors from one on. -/
def layOps (at' : Nat) (l : List Nat) : List DOp := (List.range (secN l.length)).map fun k => DOp.wr (at' + k) (Dk.strOf (secL l k))
theorem layS_run (s : Dk.DS) (at' : Nat) (l : List Nat) : layS s at' l = runOps s (layOps at' l) := by
  unfold layS layOps
  generalize secN l.length = n
  induction n with
  | zero => rfl
  | succ n ih =>
    rw [layTo, List.range_succ, List.map_append, runOps_append, List.map_singleton, runOps_one, ih]
    rfl
theorem layOps_length (at' : Nat) (l : List Nat) : (layOps at' l).length = secN l.length := by simp [layOps]
abbrev WL := List (Nat × ByteArray)
/-- What is synced and what is loose then, if there is no error. -/
def effOps (p : WL × WL) : List DOp → WL × WL
  | [] => p
  | .wr k b :: l => effOps (p.1, p.2 ++ [(k, b)]) l
  | .sy :: l => effOps (p.1 ++ p.2, []) l
theorem effOps_append (p : WL × WL) (a b : List DOp) : effOps p (a ++ b) = effOps (effOps p a) b := by
  induction a generalizing p with
  | nil => rfl
  | cons o a ih => cases o <;> exact ih _
def OkOp (m : Nat) : DOp → Prop
  | .wr k b => k < m ∧ b.size = 64
  | .sy => True
theorem step_ok {s : Dk.DS} {o : DOp} (h : OkOp s.many o) (hl : s.left ≠ 0) : (stepOp s o).2 = 0 ∧ (stepOp s o).1.many = s.many ∧ (stepOp s o).1.left = Dk.doneL s.left ∧ ((stepOp s o).1.sync, (stepOp s o).1.loose) = effOps (s.sync, s.loose) [o] := by
  cases o with
  | wr k b =>
    obtain ⟨h1, h2⟩ := h
    simp only [stepOp, Dk.writeS]
    rw [if_neg (by omega), if_neg (by omega), if_neg hl]
    exact ⟨rfl, rfl, rfl, rfl⟩
  | sy =>
    simp only [stepOp, Dk.syncS]
    rw [if_neg hl]
    exact ⟨rfl, rfl, rfl, rfl⟩
theorem step_no {s : Dk.DS} {o : DOp} (h : OkOp s.many o) (hl : s.left = 0) : stepOp s o = (s, 140) := by
  cases o with
  | wr k b =>
    obtain ⟨h1, h2⟩ := h
    simp only [stepOp, Dk.writeS]
    rw [if_neg (by omega), if_neg (by omega), if_pos hl]
  | sy =>
    simp only [stepOp, Dk.syncS]
    rw [if_pos hl]
theorem doneL_neg {n : Int} (h : n < 0) : Dk.doneL n = n := by unfold Dk.doneL; rw [if_neg (by omega)]
/-- All is done, or a stop came behind so many. -/
theorem run_cases {s : Dk.DS} {l : List DOp} (h : ∀ o ∈ l, OkOp s.many o) :
    (runOps s l).1.many = s.many ∧ ((runOps s l).2 = 0 ∧ ((runOps s l).1.sync, (runOps s l).1.loose) = effOps (s.sync, s.loose) l ∧ (s.left < 0 → (runOps s l).1.left = s.left) ∨
    (runOps s l).2 = 140 ∧ 0 ≤ s.left ∧ ∃ t, t < l.length ∧ ((runOps s l).1.sync, (runOps s l).1.loose) = effOps (s.sync, s.loose) (l.take t)) := by
  induction l generalizing s with
  | nil => exact ⟨rfl, .inl ⟨rfl, rfl, fun _ => rfl⟩⟩
  | cons o l ih =>
    have ho := h o (by simp)
    rw [runOps]
    by_cases hl : s.left = 0
    · rw [step_no ho hl, if_neg (by simp)]
      exact ⟨rfl, .inr ⟨rfl, by omega, 0, by simp, rfl⟩⟩
    · obtain ⟨h1, h2, h3, h4⟩ := step_ok ho hl
      rw [if_pos h1]
      have ih := ih (s := (stepOp s o).1) (fun x hx => by rw [h2]; exact h x (by simp [hx]))
      rw [h2, h4, ← effOps_append] at ih
      refine ⟨ih.1, ih.2.elim (fun ⟨a, b, c⟩ => .inl ⟨a, b, fun hn => ?_⟩) (fun ⟨a, b, t, ht, c⟩ => .inr ⟨a, ?_, t + 1, by simp; omega, ?_⟩)⟩
      · rw [h3, doneL_neg hn] at c
        exact c hn
      · rw [h3] at b
        unfold Dk.doneL at b
        split at b <;> omega
      · rw [List.take_succ_cons, c, ← effOps_append]
        rfl
/-- Writes alone. -/
def wrL : List DOp → WL
  | [] => []
  | .wr k b :: l => (k, b) :: wrL l
  | .sy :: l => wrL l
def isWr : DOp → Bool
  | .wr _ _ => true
  | .sy => false
theorem eff_wr (p : WL × WL) (l : List DOp) (h : ∀ o ∈ l, isWr o = true) : effOps p l = (p.1, p.2 ++ wrL l) := by
  induction l generalizing p with
  | nil => simp [effOps, wrL]
  | cons o l ih =>
    cases o with
    | wr k b => rw [effOps, ih _ (fun x hx => h x (by simp [hx]))]; simp [wrL]
    | sy => have := h .sy (by simp); cases this
theorem runOps_whole {s : Dk.DS} (h : Dk.Whole s) (l : List DOp) : Dk.Whole (runOps s l).1 := by
  induction l generalizing s with
  | nil => exact h
  | cons o l ih =>
    have : Dk.Whole (stepOp s o).1 := by cases o with | wr k b => exact h.write _ _ | sy => exact h.sync'
    rw [runOps]
    split
    · exact ih this
    · exact this
end Go.Proofs.YtdanigigjainjaaGreat
namespace Go.Proofs.YtdanigigjainjaaGreat
open Go.RowKit Go.Shelf

/-- A frame: its page, whether it commits, with which size, its bytes. -/
structure FR where
  p : Nat
  cm : Bool
  n : Nat
  bs : List Nat
def FR.zero : FR := ⟨0, false, 0, []⟩
structure FR.Ok (pg : Nat) (x : FR) : Prop where
  p : x.p < pg
  n : x.n ≤ (if x.cm then pg else 0)
  len : x.bs.length = 512
  byte : ∀ b ∈ x.bs, b < 256
/-- The sum of a frame at an index, with a link. -/
def linkN (E i k : Nat) (x : FR) : Nat := (~~~ sumN (frameB E i x.p x.cm x.n k ++ x.bs)).toNat
theorem linkN_lt (E i k : Nat) (x : FR) : linkN E i k x < 4294967296 := by unfold linkN; omega
/-- The link that the frame at an index has. -/
def lk (E : Nat) (l : List FR) : Nat → Nat
  | 0 => 0
  | i + 1 => linkN E i (lk E l i) (l.getD i FR.zero)
theorem lk_lt (E : Nat) (l : List FR) : ∀ i, lk E l i < 4294967296
  | 0 => by simp [lk]
  | i + 1 => linkN_lt _ _ _ _
theorem getD_app {l m : List FR} {i : Nat} (h : i < l.length) : (l ++ m).getD i FR.zero = l.getD i FR.zero := by
  rw [List.getD_eq_getElem?_getD, List.getD_eq_getElem?_getD, List.getElem?_append_left h]
theorem lk_app (E : Nat) (l m : List FR) : ∀ i, i ≤ l.length → lk E (l ++ m) i = lk E l i
  | 0, _ => rfl
  | i + 1, h => by rw [lk, lk, lk_app E l m i (by omega), getD_app (by omega)]
/-- The bytes of the frame at an index. -/
def frL (E : Nat) (l : List FR) (i : Nat) : List Nat := frameL E i (l.getD i FR.zero).p (l.getD i FR.zero).cm (l.getD i FR.zero).n (lk E l i) (l.getD i FR.zero).bs
theorem frL_app (E : Nat) (l m : List FR) {i : Nat} (h : i < l.length) : frL E (l ++ m) i = frL E l i := by
  unfold frL; rw [getD_app h, lk_app E l m i (by omega)]
theorem frL_length (E : Nat) (l : List FR) (i : Nat) (h : (l.getD i FR.zero).bs.length = 512) : (frL E l i).length = 576 := frameL_len _ _ _ _ _ _ _ h
def sizeF (hn : Nat) (l : List FR) : Nat := match l.getLast? with
  | some x => x.n
  | none => hn
/-- A page's last bytes. -/
def pageF (l : List FR) (p : Nat) : Option (List Nat) := l.foldl (fun o x => if x.p = p then some x.bs else o) none
theorem pageF_snoc (l : List FR) (x : FR) (p : Nat) : pageF (l ++ [x]) p = if x.p = p then some x.bs else pageF l p := by
  unfold pageF; rw [List.foldl_append]; rfl
/-- The writes of the frames from an index on, so many. -/
def frOps (E : Nat) (l : List FR) (i : Nat) : Nat → List DOp
  | 0 => []
  | m + 1 => frOps E l i m ++ layOps (2 + 9 * (i + m)) (frL E l (i + m))
def headOp (S E n c : Nat) : DOp := .wr (S % 2) (Dk.strOf (headL S E n c))
/-- What an append does: frames, a sync, a head, a sync. -/
def appOps (S E hn : Nat) (l m : List FR) : List DOp := frOps E (l ++ m) l.length m.length ++ [.sy, headOp (S + 1) E (sizeF hn l) (l.length + m.length), .sy]
def resOps (S E hn : Nat) (l : List FR) : List DOp := [headOp (S + 1) (E + 1) (sizeF hn l) 0, .sy]

/-- A log on a disk, but for the other head. -/
structure Base (s : Dk.DS) (f pg S E hn : Nat) (l : List FR) : Prop where
  whole : Dk.Whole s
  many : s.many = 2 + 9 * f + 8 * pg
  plan : 1 ≤ f ∧ f ≤ 2000 ∧ 1 ≤ pg ∧ pg ≤ 2000
  loose : s.loose = []
  num : S < 2 ^ 64 ∧ E < 2 ^ 64
  hsz : hn ≤ pg
  hd : Dk.lastS s.sync (S % 2) = Dk.strOf (headL S E hn l.length)
  fr : ∀ i, i < l.length → ∀ j, j < 9 → Dk.lastS s.sync (2 + 9 * i + j) = Dk.strOf (secL (frL E l i) j)
  oks : ∀ x ∈ l, x.Ok pg
  last : ∀ x, l.getLast? = some x → x.cm = true
  len : l.length ≤ f
/-- The other head is none, or an older one. -/
def Older (b : ByteArray) (S : Nat) : Prop := b = Dk.secS 0 ∨ ∃ S2 E2 n2 c2, b = Dk.strOf (headL S2 E2 n2 c2) ∧ S2 < S ∧ S2 < 2 ^ 64 ∧ E2 < 2 ^ 64 ∧ n2 ≤ 2000 ∧ c2 ≤ 2000
def Clean (s : Dk.DS) (f pg S E hn : Nat) (l : List FR) : Prop := Base s f pg S E hn l ∧ Older (Dk.lastS s.sync (1 - S % 2)) S
theorem zeros_no : isHead (List.replicate 64 0) = false := by decide +kernel
theorem zeros_byte : ∀ c ∈ List.replicate 64 0, c < 256 := fun c h => by rw [List.mem_replicate] at h; omega
theorem Base.size {s : Dk.DS} {f pg S E hn : Nat} {l : List FR} (h : Base s f pg S E hn l) : sizeF hn l ≤ pg := by
  unfold sizeF
  split
  · rename_i x hx
    have h1 := h.last x hx
    have h2 := (h.oks x (List.mem_of_getLast? hx)).n
    rw [h1] at h2
    simpa using h2
  · exact h.hsz
theorem wrL_app (a b : List DOp) : wrL (a ++ b) = wrL a ++ wrL b := by
  induction a with
  | nil => rfl
  | cons o a ih => cases o <;> simp [wrL, ih]
/-- What lies where behind bytes that were laid. -/
theorem lay_last (X : WL) (at' : Nat) (l : List Nat) (k : Nat) : Dk.lastS (X ++ wrL (layOps at' l)) k = if at' ≤ k ∧ k < at' + secN l.length then Dk.strOf (secL l (k - at')) else Dk.lastS X k := by
  unfold layOps
  generalize secN l.length = n
  induction n with
  | zero => rw [if_neg (by omega)]; simp [wrL]
  | succ n ih =>
    rw [List.range_succ, List.map_append, wrL_app, ← List.append_assoc, List.map_singleton]
    simp only [wrL]
    rw [Dk.lastS_snoc, ih]
    by_cases h1 : at' + n = k
    · rw [if_pos h1, if_pos (by omega), ← h1, Nat.add_sub_cancel_left]
    · rw [if_neg h1]
      by_cases h2 : at' ≤ k ∧ k < at' + n
      · rw [if_pos h2, if_pos (by omega)]
      · rw [if_neg h2, if_neg (by omega)]
theorem layOps_wr (at' : Nat) (l : List Nat) : ∀ o ∈ layOps at' l, isWr o = true := fun o ho => by
  obtain ⟨k, _, rfl⟩ := List.mem_map.1 ho
  rfl
theorem frOps_wr (E : Nat) (l : List FR) (i : Nat) : ∀ m, ∀ o ∈ frOps E l i m, isWr o = true
  | 0 => fun o h => by cases h
  | m + 1 => fun o h => (List.mem_append.1 h).elim (frOps_wr E l i m o) (layOps_wr _ _ o)
theorem secN_576 : secN 576 = 9 := rfl
theorem fr_last (X : WL) (E : Nat) (l : List FR) (i : Nat) : ∀ m, (∀ j, j < m → (l.getD (i + j) FR.zero).bs.length = 512) →
    (∀ k, (k < 2 + 9 * i ∨ 2 + 9 * (i + m) ≤ k) → Dk.lastS (X ++ wrL (frOps E l i m)) k = Dk.lastS X k) ∧ ∀ j, j < m → ∀ q, q < 9 → Dk.lastS (X ++ wrL (frOps E l i m)) (2 + 9 * (i + j) + q) = Dk.strOf (secL (frL E l (i + j)) q)
  | 0, _ => ⟨fun k _ => by simp [frOps, wrL], fun j hj => absurd hj (Nat.not_lt_zero j)⟩
  | m + 1, h => by
    obtain ⟨h1, h2⟩ := fr_last X E l i m (fun j hj => h j (by omega))
    have hl := frL_length E l (i + m) (h m (by omega))
    refine ⟨fun k hk => ?_, fun j hj q hq => ?_⟩
    · rw [frOps, wrL_app, ← List.append_assoc, lay_last, hl, secN_576, if_neg (by omega)]
      exact h1 k (by omega)
    · rw [frOps, wrL_app, ← List.append_assoc, lay_last, hl, secN_576]
      by_cases e : j = m
      · subst e
        rw [if_pos (by omega), Nat.add_sub_cancel_left]
      · rw [if_neg (by omega)]
        exact h2 j (by omega) q hq
theorem frOps_sec (E : Nat) (l : List FR) (i : Nat) : ∀ m, (∀ j, j < m → (l.getD (i + j) FR.zero).bs.length = 512) → ∀ k b, DOp.wr k b ∈ frOps E l i m → 2 + 9 * i ≤ k ∧ k < 2 + 9 * (i + m) ∧ b.size = 64
  | 0, _ => fun k b h => by cases h
  | m + 1, h => fun k b hm => by
    have hl := frL_length E l (i + m) (h m (by omega))
    rcases List.mem_append.1 hm with hm | hm
    · have := frOps_sec E l i m (fun j hj => h j (by omega)) k b hm
      omega
    · obtain ⟨q, hq, e⟩ := List.mem_map.1 hm
      rw [List.mem_range, hl, secN_576] at hq
      injection e with e1 e2
      subst e1
      subst e2
      rw [Dk.strOf_size, secL_length, hl]
      omega
end Go.Proofs.YtdanigigjainjaaGreat
namespace Go.Proofs.YtdanigigjainjaaGreat
open Go.RowKit Go.Shelf

theorem getD_get {l : List FR} {i : Nat} (h : i < l.length) : l.getD i FR.zero = l[i] := by rw [List.getD_eq_getElem?_getD, List.getElem?_eq_getElem h]; rfl
theorem oks_at {pg : Nat} {l : List FR} (h : ∀ x ∈ l, x.Ok pg) {i : Nat} (hi : i < l.length) : (l.getD i FR.zero).Ok pg := by rw [getD_get hi]; exact h _ (List.getElem_mem hi)
theorem getD_app2 {l m : List FR} {j : Nat} (h : j < m.length) : (l ++ m).getD (l.length + j) FR.zero = m.getD j FR.zero := by
  rw [List.getD_eq_getElem?_getD, List.getD_eq_getElem?_getD, List.getElem?_append_right (by omega), Nat.add_sub_cancel_left]
/-- Frames that may follow. -/
structure NextOk (f pg : Nat) (l m : List FR) : Prop where
  oks : ∀ x ∈ m, x.Ok pg
  ne : m ≠ []
  last : ∀ x, m.getLast? = some x → x.cm = true
  len : l.length + m.length ≤ f
theorem NextOk.size {f pg : Nat} {l m : List FR} (h : NextOk f pg l m) : ∀ j, j < m.length → ((l ++ m).getD (l.length + j) FR.zero).bs.length = 512 := fun j hj => by
  rw [getD_app2 hj]
  exact (oks_at h.oks hj).len
theorem last_app {l m : List FR} (h : m ≠ []) : (l ++ m).getLast? = m.getLast? := by
  rw [List.getLast?_append]
  cases e : m.getLast? with
  | none => exact absurd (List.getLast?_eq_none_iff.1 e) h
  | some x => rfl
theorem headOp_ok {s : Dk.DS} {f pg : Nat} (hm : s.many = 2 + 9 * f + 8 * pg) (S E n c : Nat) : OkOp s.many (headOp S E n c) := ⟨by omega, by rw [Dk.strOf_size, headL_length]⟩
theorem appOps_ok {s : Dk.DS} {f pg : Nat} {l m : List FR} (hm : s.many = 2 + 9 * f + 8 * pg) (h : NextOk f pg l m) (S E hn : Nat) : ∀ o ∈ appOps S E hn l m, OkOp s.many o := fun o ho => by
  rcases List.mem_append.1 ho with ho | ho
  · cases o with
    | wr k b =>
      have h1 := frOps_sec E (l ++ m) l.length m.length h.size k b ho
      have h2 := h.len
      exact ⟨by omega, h1.2.2⟩
    | sy => trivial
  · rcases List.mem_cons.1 ho with rfl | ho
    · trivial
    rcases List.mem_cons.1 ho with rfl | ho
    · exact headOp_ok hm _ _ _ _
    · obtain rfl := List.mem_singleton.1 ho
      trivial
theorem resOps_ok {s : Dk.DS} {f pg : Nat} (hm : s.many = 2 + 9 * f + 8 * pg) (S E hn : Nat) (l : List FR) : ∀ o ∈ resOps S E hn l, OkOp s.many o := fun o ho => by
  rcases List.mem_cons.1 ho with rfl | ho
  · exact headOp_ok hm _ _ _ _
  · obtain rfl := List.mem_singleton.1 ho
    trivial
/-- A head behind frames that are there. -/
theorem base_next {s : Dk.DS} {f pg S E hn : Nat} {l m : List FR} {X : WL} (B : Base s f pg S E hn l) (h : NextOk f pg l m) (s' : Dk.DS) (hw : Dk.Whole s') (hm : s'.many = s.many) (hl : s'.loose = []) (hS : S + 1 < 2 ^ 64)
    (hs : s'.sync = s.sync ++ wrL (frOps E (l ++ m) l.length m.length) ++ [((S + 1) % 2, Dk.strOf (headL (S + 1) E (sizeF hn l) (l.length + m.length)))]) : Clean s' f pg (S + 1) E (sizeF hn l) (l ++ m) := by
  obtain ⟨f1, f2⟩ := fr_last s.sync E (l ++ m) l.length m.length h.size
  have hz := B.size
  have hpl := B.plan
  have hlen := h.len
  refine ⟨⟨hw, hm.trans B.many, B.plan, hl, ⟨hS, B.num.2⟩, hz, ?_, fun i hi j hj => ?_, ?_, ?_, by rw [List.length_append]; exact hlen⟩, .inr ⟨S, E, hn, l.length, ?_, by omega, B.num.1, B.num.2, by have := B.hsz; omega, by omega⟩⟩
  · rw [hs, Dk.lastS_snoc, if_pos rfl, List.length_append]
  · rw [hs, Dk.lastS_snoc, if_neg (by simp only; omega)]
    rw [List.length_append] at hi
    by_cases hi2 : i < l.length
    · rw [f1 _ (by omega), frL_app E l m hi2]
      exact B.fr i hi2 j hj
    · have := f2 (i - l.length) (by omega) j hj
      rw [show l.length + (i - l.length) = i by omega] at this
      exact this
  · exact fun x hx => (List.mem_append.1 hx).elim (B.oks x) (h.oks x)
  · rw [last_app h.ne]
    exact h.last
  · rw [hs, Dk.lastS_snoc, if_neg (by simp only; omega), f1 _ (by omega), show 1 - (S + 1) % 2 = S % 2 by omega]
    exact B.hd
theorem base_reset {s : Dk.DS} {f pg S E hn : Nat} {l : List FR} (B : Base s f pg S E hn l) (s' : Dk.DS) (hw : Dk.Whole s') (hm : s'.many = s.many) (hl : s'.loose = []) (hS : S + 1 < 2 ^ 64) (hE : E + 1 < 2 ^ 64)
    (hs : s'.sync = s.sync ++ [((S + 1) % 2, Dk.strOf (headL (S + 1) (E + 1) (sizeF hn l) 0))]) : Clean s' f pg (S + 1) (E + 1) (sizeF hn l) [] := by
  have hz := B.size
  have hpl := B.plan
  have := B.len
  refine ⟨⟨hw, hm.trans B.many, B.plan, hl, ⟨hS, hE⟩, hz, ?_, fun i hi => absurd hi (Nat.not_lt_zero i), fun x hx => (by cases hx), fun x hx => (by cases hx), Nat.zero_le _⟩, .inr ⟨S, E, hn, l.length, ?_, by omega, B.num.1, B.num.2, by have := B.hsz; omega, by omega⟩⟩
  · rw [hs, Dk.lastS_snoc, if_pos rfl]
    rfl
  · rw [hs, Dk.lastS_snoc, if_neg (by simp only; omega), show 1 - (S + 1) % 2 = S % 2 by omega]
    exact B.hd
theorem eff_app (S E hn : Nat) (l m : List FR) (X : WL) : effOps (X, []) (appOps S E hn l m) = (X ++ wrL (frOps E (l ++ m) l.length m.length) ++ [((S + 1) % 2, Dk.strOf (headL (S + 1) E (sizeF hn l) (l.length + m.length)))], []) := by
  unfold appOps
  rw [effOps_append, eff_wr _ _ (frOps_wr _ _ _ _)]
  rfl
/-- Behind an append, a reset. -/
theorem append_clean {s : Dk.DS} {f pg S E hn : Nat} {l m : List FR} (B : Clean s f pg S E hn l) (h : NextOk f pg l m) (hS : S + 1 < 2 ^ 64) (h0 : (runOps s (appOps S E hn l m)).2 = 0) : Clean (runOps s (appOps S E hn l m)).1 f pg (S + 1) E (sizeF hn l) (l ++ m) := by
  obtain ⟨h1, h2⟩ := run_cases (appOps_ok B.1.many h S E hn)
  have hwr := runOps_whole B.1.whole (appOps S E hn l m)
  rw [B.1.loose, eff_app] at h2
  generalize runOps s (appOps S E hn l m) = R at *
  rcases h2 with ⟨-, h2, -⟩ | ⟨h2, -⟩
  · have h3 := congrArg Prod.snd h2
    have h4 := congrArg Prod.fst h2
    simp only at h3 h4
    exact base_next (X := []) B.1 h _ hwr h1 h3 hS h4
  · omega
theorem reset_clean {s : Dk.DS} {f pg S E hn : Nat} {l : List FR} (B : Clean s f pg S E hn l) (hS : S + 1 < 2 ^ 64) (hE : E + 1 < 2 ^ 64) (h0 : (runOps s (resOps S E hn l)).2 = 0) : Clean (runOps s (resOps S E hn l)).1 f pg (S + 1) (E + 1) (sizeF hn l) [] := by
  obtain ⟨h1, h2⟩ := run_cases (resOps_ok B.1.many S E hn l)
  have hwr := runOps_whole B.1.whole (resOps S E hn l)
  rw [B.1.loose] at h2
  generalize runOps s (resOps S E hn l) = R at *
  rcases h2 with ⟨-, h2, -⟩ | ⟨h2, -⟩
  · have h3 := congrArg Prod.snd h2
    have h4 := congrArg Prod.fst h2
    simp only [resOps, effOps, headOp, List.nil_append] at h3 h4
    exact base_reset B.1 _ hwr h1 h3 hS hE h4
  · omega

end Go.Proofs.YtdanigigjainjaaGreat
