/- FrameCuts: bytes, sector by sector. -/
import Derived.Test.YthnllhfdbnnjhaaR3
import Derived.Sort.CutIn
import Derived.Stop.RegionWithIn
import Derived.Deep.Heap
import Derived.Outline
import Derived.Deep.RegionHeld
namespace Go.Proofs.Ythnllhfdbnnjhaa
open Go.RowKit Go.Shelf
attribute [local go_sem] Oper.semAt_some

set_option maxRecDepth 100000 in
set_option maxHeartbeats 1000000 in
theorem cuts_long (p : Option Addr) (n cap : Nat) (m : Int) (w : World) (hn : 400 < n) (hm : n ≤ 9223372036854775807) :
    Calls Try.prog 6 #[.slice p n cap, .int .i64 m] w fun r w' => r = .returned (.bool true) ∧ Below w.heap.size w w' := by
  go_enter Try.func6, Try.ntmps6
  go_wp2_with (go_at_call 15; refine (works_any _).mono ?_; rintro e w' ⟨rfl, hb⟩; have c1 := (hb.cell (p := ⟨w.heap.size + 1 + 1, 0, none⟩) (by simp)).trans (show _ = some (Value.bool false) by go_cell); have f1 := (hb.frozen (p := ⟨w.heap.size + 1 + 1, 0, none⟩) (by simp)).trans (show _ = false by go_simp))
  have hb1 : Below w.heap.size w w' := (((((Below.refl _ _).alloc (Nat.le_refl _) _).alloc (by simp) _).alloc (by simp; omega) _).trans (hb.mono (by simp; omega)))
  have hs := hb.size
  simp only [World.size_alloc] at hs
  refine bodyPost_ret (v := .bool true) ?_ rfl ⟨rfl, hb1.setCell (by show w.heap.size ≤ w.heap.size + 1 + 1; omega) _⟩
  simp [results, Try.results6, go_sem, c1]
theorem eqi65 (f : Fn) (a b : Array Value) (w : World) (d : Nat) : (Op.equalIn (d + 1) 65 (.func f a b) .nilFunc).run Try.prog w = .ok false w := by
  unfold Op.equalIn
  simp [go_sem]
/-- A function that was made is not nil. -/
theorem eq65 (f : Fn) (a b : Array Value) (w : World) : (binOp .eql 65 (.func f a b) .nilFunc).run Try.prog w = .ok (.bool false) w := by
  have e : (Op.equalIn Op.maxDepth 65 (.func f a b) .nilFunc).run Try.prog w = .ok false w := eqi65 f a b w 9999
  simp [binOp, Op.equal, go_sem, e]
/-- What the law's own cells hold: the bytes, how many, the answer, how many sectors; the turn, how many have come; and what Cut made. -/
structure CutNow (w W : World) (l : List Nat) (p : Option Addr) (cap : Nat) (many : Int) (Bo : Nat) (p2 : Option Addr) (c2 : Nat) (Bt Bn : Nat) (tau cnt : Int) : Prop where
  b : W.cell? ⟨w.heap.size, 0, none⟩ = some (.slice p l.length cap)
  m : W.cell? ⟨w.heap.size + 1, 0, none⟩ = some (.int .i64 many)
  r : W.cell? ⟨w.heap.size + 1 + 1, 0, none⟩ = some (.bool false)
  rf : W.frozen? ⟨w.heap.size + 1 + 1, 0, none⟩ = false
  a : W.cell? ⟨w.heap.size + 1 + 1 + 1, 0, none⟩ = some (.int .i64 (secN l.length : Nat))
  t : W.cell? ⟨Bt, 0, none⟩ = some (.int .i64 tau)
  tf : W.frozen? ⟨Bt, 0, none⟩ = false
  n : W.cell? ⟨Bn, 0, none⟩ = some (.int .i64 cnt)
  nf : W.frozen? ⟨Bn, 0, none⟩ = false
  o : W.cell? ⟨Bo, 0, none⟩ = some (.slice p2 l.length c2)
  y : BytesAt W p2 l
  B : Below w.heap.size w W
theorem CutNow.low {w W W' : World} {l : List Nat} {p : Option Addr} {cap : Nat} {many : Int} {Bo : Nat} {p2 : Option Addr} {c2 Bt Bn : Nat} {tau cnt : Int} {Bd : Nat} (h : CutNow w W l p cap many Bo p2 c2 Bt Bn tau cnt) (hw : w.heap.size + 4 ≤ Bd) (hBo : Bo < Bd) (hp : ∀ k, inB p2 l.length k → k < Bd) (hBt : Bt < Bd) (hBn : Bn < Bd) (hb : Below Bd W W') : CutNow w W' l p cap many Bo p2 c2 Bt Bn tau cnt :=
  have e := fun k (hk : k < Bd) => hb.block k hk
  ⟨(World.cell?_of_block (e _ (by show w.heap.size < Bd; omega))).trans h.b, (World.cell?_of_block (e _ (by show w.heap.size + 1 < Bd; omega))).trans h.m, (World.cell?_of_block (e _ (by show w.heap.size + 1 + 1 < Bd; omega))).trans h.r, (World.frozen?_of_block (e _ (by show w.heap.size + 1 + 1 < Bd; omega))).trans h.rf,
    (World.cell?_of_block (e _ (by show w.heap.size + 1 + 1 + 1 < Bd; omega))).trans h.a, (World.cell?_of_block (e _ (by show Bt < Bd; omega))).trans h.t, (World.frozen?_of_block (e _ (by show Bt < Bd; omega))).trans h.tf, (World.cell?_of_block (e _ (by show Bn < Bd; omega))).trans h.n, (World.frozen?_of_block (e _ (by show Bn < Bd; omega))).trans h.nf, (World.cell?_of_block (e _ (by show Bo < Bd; omega))).trans h.o,
    fun j hj => by
      obtain ⟨B, off, e1, hi, c⟩ := bytesAt_in h.y j hj
      exact ⟨B, off, e1, (World.cell?_of_block (e _ (hp B hi))).trans c⟩, h.B.trans (hb.mono (by omega))⟩
theorem CutNow.count {w W : World} {l : List Nat} {p : Option Addr} {cap : Nat} {many : Int} {Bo : Nat} {p2 : Option Addr} {c2 Bt Bn : Nat} {tau cnt : Int} (h : CutNow w W l p cap many Bo p2 c2 Bt Bn tau cnt) (hw : w.heap.size + 4 ≤ Bn) (hBo : Bo ≠ Bn) (hp : ¬ inB p2 l.length Bn) (hBt : Bt ≠ Bn) (v : Int) : CutNow w (W.setCell ⟨Bn, 0, none⟩ (.int .i64 v)) l p cap many Bo p2 c2 Bt Bn tau v := by
  have e : ∀ k, k ≠ Bn → (W.setCell ⟨Bn, 0, none⟩ (.int .i64 v)).heap[k]? = W.heap[k]? := fun k h1 => Below.heap_setCell _ _ _ _ h1
  refine ⟨(World.cell?_of_block (e _ (by show w.heap.size ≠ Bn; omega))).trans h.b, (World.cell?_of_block (e _ (by show w.heap.size + 1 ≠ Bn; omega))).trans h.m, (World.cell?_of_block (e _ (by show w.heap.size + 1 + 1 ≠ Bn; omega))).trans h.r, (World.frozen?_of_block (e _ (by show w.heap.size + 1 + 1 ≠ Bn; omega))).trans h.rf,
    (World.cell?_of_block (e _ (by show w.heap.size + 1 + 1 + 1 ≠ Bn; omega))).trans h.a, (World.cell?_of_block (e _ hBt)).trans h.t, (World.frozen?_of_block (e _ hBt)).trans h.tf, World.cell?_setCell_same' _ _ _ (by rw [h.n]; rfl), (World.frozen?_setCell _ _ _ _).trans h.nf, (World.cell?_of_block (e _ hBo)).trans h.o, fun j hj => ?_, h.B.setCell (by show w.heap.size ≤ Bn; omega) _⟩
  obtain ⟨B, off, e1, hi, c⟩ := bytesAt_in h.y j hj
  exact ⟨B, off, e1, (World.cell?_of_block (e _ (by show B ≠ Bn; rintro rfl; exact hp hi))).trans c⟩
theorem below_kept {W W' : World} (hb : Below W.heap.size W W') (a : Addr) (v : Value) (h : W.cell? a = some v) : W'.cell? a = some v := (hb.cell (lt_of_cell_some h)).trans h
theorem range_next {pre : List (Nat × Option Addr)} {x : Nat × Option Addr} {n : Nat} (h : (pre ++ [x]).map (·.1) <+: List.range n) : x.1 = pre.length ∧ pre.length < n := by
  have hl : ((pre ++ [x]).map (·.1)).length ≤ n := by have := h.length_le; rw [List.length_range] at this; exact this
  rw [List.length_map, List.length_append, List.length_singleton] at hl
  have h2 := List.prefix_iff_eq_take.1 h
  have h3 : ((pre ++ [x]).map (·.1))[pre.length]? = some x.1 := by rw [List.map_append, List.getElem?_append_right (by rw [List.length_map]; exact Nat.le_refl _), List.length_map, Nat.sub_self]; rfl
  rw [h2, List.getElem?_take, List.length_map, List.length_append, List.length_singleton, if_pos (by omega), List.getElem?_range (by omega)] at h3
  injection h3 with h3
  exact ⟨h3.symm, by omega⟩
theorem upon_inRound {P : Program} {o : Oper} {a : Act} {next next' : Act → World → Prop} {Q : Exit → Act → World → Prop} (l n : Nat) (hn : ∀ a w, next a w → next' a w) {r : Result Next} (h : o.upon P a next Q r) :
    o.uponIn (Fence.wide.inRound l) n P a next' Q r := by
  cases r with
  | ok x w' =>
    cases x with
    | value v => exact hn _ _ h
    | skip => exact hn _ _ h
    | defer d => exact hn _ _ h
    | enter f args =>
      refine ⟨fun e => by simp [Fence.wide] at e, CallsIn.inRound l (callsIn_wide.2 (Calls.mono h ?_))⟩
      rintro (v | c | _) w'' hR
      · exact hn _ _ hR
      · exact hR
      · exact hR
    | row rw args =>
      refine ⟨fun e => by simp [Fence.wide] at e, fun c cs _ => ?_⟩
      obtain ⟨v, w'', r, s⟩ := h c cs
      exact ⟨v, w'', hn _ _ r, stepsIn_wide.2 s⟩
    | _ => exact h.elim
  | halt x w' =>
    cases x with
    | panic v => exact h
    | _ => exact h.elim
theorem ops_inRound {P : Program} {ops : Array Oper} {Q : Exit → Act → World → Prop} (lr n : Nat) (hQ : ¬ LetsOut Q) (hd : ∀ (i : Nat) (o : Oper), ops[i]? = some o → ∀ c, o.op ≠ .defer c) :
    ∀ (l : List Nat) (a : Act) (w : World), wpOps P ops Q l a w → wpOpsIn (Fence.wide.inRound lr) n P ops Q l a w
  | [], _, _, h => h
  | i :: rest, a, w, h => by
    unfold wpOps at h
    unfold wpOpsIn
    cases ho : ops[i]? with
    | none =>
      simp only [ho] at h ⊢
      exact ops_inRound lr n hQ hd rest a w h
    | some o =>
      simp only [ho] at h ⊢
      by_cases hw : Region.wanted o (yielded ops a.tmps) = true
      · rw [if_pos hw] at h ⊢
        rcases h with h | h
        · refine ⟨fun _ _ => trivial, ?_⟩
          rw [Oper.semAt_eq _ _ _ (hd i o ho)]
          exact upon_inRound lr n (fun a w h => ops_inRound lr n hQ hd rest a w h) h
        · exact absurd h.2 hQ
      · rw [if_neg hw] at h ⊢
        exact ⟨fun _ _ => trivial, ops_inRound lr n hQ hd rest _ _ h⟩
def noDefer (ops : Array Oper) : Bool := ops.all fun o => match o.op with | .defer _ => false | _ => true
theorem noDefer_spec {ops : Array Oper} (h : noDefer ops = true) (i : Nat) (o : Oper) (ho : ops[i]? = some o) : ∀ c, o.op ≠ .defer c := fun c e => by
  have := (Array.all_eq_true_iff_forall_mem.1 h) o (Array.mem_of_getElem? ho)
  rw [e] at this
  cases this
/-- A drawn region inside a round goes as one outside. -/
theorem region_inRound {P : Program} {ops : Array Oper} {Q : Exit → Act → World → Prop} {S : World → Prop} (lr n : Nat) {id : Nat} {a : Act} {w : World} (hQ : ¬ LetsOut Q) (hm : P.follows .mixedOrders = true) (hd : noDefer ops = true) (hS : S w.drew)
    (h : S w.drew → wpAnyH P .any ops Q S ops.size (Array.replicate ops.size false) a w.drew) : (Code.region id ops true).wpIn (Fence.wide.inRound lr) n P Q a w :=
  wpIn_region_draw fun t => ops_inRound lr n hQ (noDefer_spec hd) _ _ _ (by
    simp only [Region.schedule, hm, Bool.true_or, if_true]
    exact wpAny_sound ops.size t _ a _ (wpAny_of_held _ _ _ _ (h hS)))
/-- Neither a panic nor the room's end. -/
def calmX (Q : Exit → Act → World → Prop) : Exit → Act → World → Prop
  | .panic _, _, _ => False
  | .outgrown, _, _ => False
  | e, a, w => Q e a w
theorem calmX_out {Q : Exit → Act → World → Prop} : ∀ (e : Exit) (a : Act) (w : World), calmX Q e a w → Q e a w
  | .normal, _, _, h => h
  | .ret, _, _, h => h
  | .exit _, _, _, h => h
  | .goto _, _, _, h => h
  | .panic _, _, _, h => h.elim
  | .outgrown, _, _, h => h.elim
theorem calmX_in {Q : Exit → Act → World → Prop} {a : Act} {w : World} (h : Q .normal a w) : calmX Q .normal a w := h
theorem calmX_lets {Q : Exit → Act → World → Prop} : ¬ LetsOut (calmX Q) := fun ⟨_, _, h⟩ => h
theorem wpIn_calm {F : Fence} {n : Nat} {P : Program} {c : Code} {Q : Exit → Act → World → Prop} {a : Act} {w : World} (h : c.wpIn F n P (calmX Q) a w) : c.wpIn F n P Q a w := wpIn_mono h calmX_out
set_option maxRecDepth 100000 in
set_option maxHeartbeats 4000000 in
theorem cuts_few (l : List Nat) (p : Option Addr) (cap : Nat) (many : Int) (w : World) (hl : l.length ≤ 400) (hcap : l.length ≤ cap) (hc0 : cap ≤ 9223372036854775807) (hlb : ∀ b ∈ l, b < 256) (hc : BytesAt w p l) :
    Calls Try.prog 6 #[.slice p l.length cap, .int .i64 many] w fun r w' => r = .returned (.bool true) ∧ Below w.heap.size w w' := by
  have hq := fun Bo w => eq65 (.func 48) #[] #[.pointer (some ⟨Bo, 0, none⟩)] w
  obtain ⟨w0, hw0⟩ : ∃ w0, w0 = (((w.alloc (.cells #[.slice p l.length cap] 39)).alloc (.cells #[.int .i64 many] 3)).alloc (.cells #[.bool false] 4)).alloc (.cells #[.int .i64 (secN l.length : Nat)] 3) := ⟨_, rfl⟩
  have B0 : Below w.heap.size w w0 := by subst hw0; exact ((((Below.refl _ _).alloc (Nat.le_refl _) _).alloc (by simp) _).alloc (by simp; omega) _).alloc (by simp; omega) _
  have S0 : w0.heap.size = w.heap.size + 4 := by subst hw0; simp
  have HC := Lib.hid hc
  have CC := Lib.hid (cut_any l p cap w0 (by omega) (bytesAt_below hc B0))
  have hx : ((l.length : Int) + 63).tdiv 64 = (secN l.length : Nat) := by rw [Int.tdiv_eq_ediv_of_nonneg (by omega)]; unfold secN; omega
  have hsn : secN l.length ≤ 7 := by unfold secN; omega
  have hsi : ((secN l.length : Nat) : Int) ≤ 7 := by omega
  clear hc
  refine (callsIn_wide (n := 9)).1 ?_
  refine callsIn_of_wp_marks Try.func6 rfl trivial ?_ rfl
  simp only [Try.ntmps6, List.size_toArray, List.length_cons, List.length_nil, Nat.reduceAdd, Nat.reduceSub, Array.replicate_succ, Array.replicate_zero, List.push_toArray, List.append_toArray, List.nil_append, List.cons_append]
  refine wpIn_wide.2 ?_
  go_wp2_with (first
    | (rw [← hw0]; go_at_call 30; refine CC.out.mono ?_; rintro e w1 ⟨Bo, p2, c2, rfl, ho, hy, h1, h2, hb1, hs1⟩; have HY := Lib.hid (And.intro ho (And.intro hy (And.intro h1 (And.intro h2 (And.intro hb1 hs1))))); clear ho hy h1 h2 hb1 hs1)
    | fail)
  obtain ⟨ho, hy, h1, h2, hb1, hs1⟩ := HY.out
  obtain ⟨N0, hN0⟩ : ∃ N0, w1.heap.size = N0 := ⟨_, rfl⟩
  have hBo : Bo < N0 := by have := lt_of_cell_some ho; simp only at this; omega
  have hin : ∀ k, inB p2 l.length k → k < N0 := fun k h => by have := inB_lt hy h; omega
  have hN4 : w.heap.size + 4 ≤ N0 := by have := hb1.size; omega
  clear HY CC
  refine (wpIn_wide (n := 9)).1 ?_
  refine wpIn_loop_rounds 3 ?_
  rw [roundsIn_succ]
  gi_upto_region 10 with fail
  gi_cut [8] from 11 (fun v W => v = .pointer (some ⟨N0 + 1, 0, none⟩) ∧ CutNow w W l p cap many Bo p2 c2 N0 (N0 + 1) 0 0 ∧ W.heap.size = N0 + 2)
  case first =>
    subst hN0
    have B3 : Below w1.heap.size w1 ((w1.alloc (.cells #[.int .i64 0] 3)).alloc (.cells #[.int .i64 0] 3)) := ((Below.refl _ _).alloc (Nat.le_refl _) _).alloc (by simp) _
    have Bw := (B0.trans (hb1.mono (by omega))).trans (B3.mono (by omega))
    have q0 : w0.cell? ⟨w.heap.size, 0, none⟩ = some (.slice p l.length cap) := by subst hw0; go_cell
    have q1 : w0.cell? ⟨w.heap.size + 1, 0, none⟩ = some (.int .i64 many) := by subst hw0; go_cell
    have q2 : w0.cell? ⟨w.heap.size + 1 + 1, 0, none⟩ = some (.bool false) := by subst hw0; go_cell
    have q3 : w0.cell? ⟨w.heap.size + 1 + 1 + 1, 0, none⟩ = some (.int .i64 (secN l.length : Nat)) := by subst hw0; go_cell
    have q4 : w0.frozen? ⟨w.heap.size + 1 + 1, 0, none⟩ = false := by subst hw0; go_simp
    have BB := kbT hb1 B3
    have F : CutNow w ((w1.alloc (.cells #[.int .i64 0] 3)).alloc (.cells #[.int .i64 0] 3)) l p cap many Bo p2 c2 w1.heap.size (w1.heap.size + 1) 0 0 := ⟨below_kept BB _ _ q0, below_kept BB _ _ q1, below_kept BB _ _ q2, (BB.frozen (lt_of_cell_some q2)).trans q4, below_kept BB _ _ q3, by go_cell, by go_simp, by go_cell, by go_simp, below_kept B3 _ _ ho, bytesAt_below hy B3, Bw⟩
    have HF := Lib.hid F
    clear q0 q1 q2 q3 q4 BB B3 Bw F
    gi_wp2
    gi_meet
    exact ⟨rfl, HF.out, by simp⟩
  case rest =>
    obtain ⟨rfl, F0, S1⟩ := hcut
    rw [hN0]
    clear ho hy hb1 hs1 hw0 B0 S0 hN0 w1
    rename World => W0
    gi_wp2
    have HF0 := Lib.hid F0
    have HIN := Lib.hid hin
    refine range_norm 2 (fun D V => V.heap[D]? = some (.deferred (some [])) ∧ N0 + 2 ≤ D ∧ ∃ cnt : Nat, CutNow w V l p cap many Bo p2 c2 N0 (N0 + 1) 0 cnt ∧ (cnt : Int) = min (secN l.length : Int) (max 1 many)) (fun _ _ h => h) ?_ ?_
    · refine' range_low (n := 9) (ι := Unit) rfl (by decide) (gf := 48) (lb := #[.pointer (some ⟨Bo, 0, none⟩)]) rfl trivial (enters_of Try.func48 (by kernel_rfl) rfl)
        (cut_low (9 - 1) (by decide) l p2 c2 Bo W0 (by omega) F0.y F0.o) (fun x _ V => TC l x V) (fun x i A k o o' hk hc h => bytesAt_put h hk hc)
        (fun k h => h.elim (fun h => by omega) (fun h => by have := hin k h; omega)) (Below.refl _ _) (fun _ => rfl)
        (fun pre V => CutNow w V l p cap many Bo p2 c2 N0 (N0 + 1) 0 (pre.length : Nat) ∧ (pre = [] ∨ ((pre.length : Nat) : Int) < many))
        (fun c' pre V => c' = .exit 2 ∧ CutNow w V l p cap many Bo p2 c2 N0 (N0 + 1) 0 (pre.length : Nat) ∧ many ≤ ((pre.length : Nat) : Int) ∧ 0 < pre.length ∧ (pre.length = 1 ∨ ((pre.length : Nat) : Int) - 1 < many))
        (fun s A C h hB hb => ⟨h.1.low (by omega) (by omega) (fun k h => by have := hin k h; omega) (by omega) (by omega) hb, h.2⟩)
        (fun c s A C h hB hb => ⟨h.1, h.2.1.low (by omega) (by omega) (fun k h => by have := hin k h; omega) (by omega) (by omega) hb, h.2.2⟩)
        ⟨F0, .inl rfl⟩
        (fun x _ => { tmps := #[.slice p l.length cap, .int .i64 many, .pointer (some ⟨w.heap.size, 0, none⟩), .pointer (some ⟨w.heap.size + 1, 0, none⟩), .pointer (some ⟨w.heap.size + 1 + 1, 0, none⟩), .pointer (some ⟨w.heap.size + 1 + 1 + 1, 0, none⟩), .func (.func 48) #[] #[.pointer (some ⟨Bo, 0, none⟩)], .pointer (some ⟨N0, 0, none⟩), .pointer (some ⟨(N0 + 1), 0, none⟩), .int .i64 (x.1 : Int), .slice x.2 (secL l x.1).length (secL l x.1).length, u11, u12, u13, u14, u15, u16, u17, u18, u19, u20, u21, u22, u23, u24, u25, u26, .func (.func 48) #[] #[.pointer (some ⟨Bo, 0, none⟩)], .int .i64 (x.1 : Int), .slice x.2 (secL l x.1).length (secL l x.1).length, u30, u31, u32, u33, u34, u35, u36, u37, u38, u39, u40, u41, u42, u43, u44, u45, u46, u47, u48, u49, u50, u51, u52, u53, u54, u55, u56, u57, u58, u59, u60, u61, u62, u63, u64, u65, u66, u67, u68, u69, u70, u71, u72, u73, u74, u75, u76, u77, u78, u79, u80, u81, u82, u83], defers := [] }) ?assign ?body ?done ?stop
      case assign =>
        intro ly x V K hs hT hK
        gi_wp2
        exact hK () _ hT (Below.refl _ _)
      case body =>
        rintro ly pre x _ V ⟨hN, hpre⟩ hs hlen hsp hT
        obtain ⟨hx, hpn⟩ := range_next hsp
        have h64 := secN_lt.1 hpn
        have hx6 : x.1 ≤ 6 := by omega
        rw [← hx] at hN h64 hpn
        have hxi : ((x.1 : Nat) : Int) ≤ 6 := by omega
        have hd2 : decide (((secN l.length : Nat) : Int) ≤ (x.1 : Int)) = false := decide_eq_false (by omega)
        have hd3 : ¬ secN l.length ≤ x.1 := by omega
        have hm := secL_length l x.1
        have hsl : ∀ b ∈ secL l x.1, b < 256 := fun b h => hlb b (List.mem_of_mem_drop (List.mem_of_mem_take h))
        have hbV := bytesAt_below HC.out hN.B
        obtain ⟨Bb, off, hpe, -⟩ := hbV 0 (by omega)
        subst hpe
        obtain ⟨lo, hlo⟩ : ∃ lo : Nat, lo = 64 * x.1 := ⟨_, rfl⟩
        obtain ⟨hi, hhi⟩ : ∃ hi : Nat, hi = lo + (secL l x.1).length := ⟨_, rfl⟩
        have hhl : hi - lo = (secL l x.1).length := by omega
        have hb2 : ∀ w', Below V.heap.size V w' → BytesAt w' (some ⟨Bb, off + lo, none⟩) (secL l x.1) := fun w' hb => by
          have h2 := bytesAt_take (bytesAt_from (bytesAt_below hbV hb) (64 * x.1)) 64
          rw [Option.map_some, addr_plain, ← hlo] at h2
          unfold secL
          rw [← hlo]
          exact h2
        have CV : Hid (∀ w', Below V.heap.size V w' → (convert 39 9 (.slice x.2 (secL l x.1).length (secL l x.1).length)).run Try.prog w' = .ok (.string (strOf (secL l x.1))) w') := Lib.hid fun w' hb => conv_at w' x.2 _ (secL l x.1) hsl (bytesAt_below hT hb)
        have CV2 : Hid (∀ w', Below V.heap.size V w' → (convert 39 9 (.slice (some ⟨Bb, off + lo, none⟩) (hi - lo) (cap - lo))).run Try.prog w' = .ok (.string (strOf (secL l x.1))) w') := Lib.hid fun w' hb => by rw [hhl]; exact conv_at w' _ _ (secL l x.1) hsl (hb2 w' hb)
        have K14 : Hid (∀ w', Below V.heap.size V w' → w'.cell? ⟨w.heap.size, 0, none⟩ = some (.slice (some ⟨Bb, off, none⟩) l.length cap) ∧ w'.cell? ⟨w.heap.size + 1 + 1 + 1, 0, none⟩ = some (.int .i64 (secN l.length : Nat)) ∧ w'.cell? ⟨(N0 + 1), 0, none⟩ = some (.int .i64 (x.1 : Nat))) := Lib.hid fun w' hb => ⟨below_kept hb _ _ hN.b, below_kept hb _ _ hN.a, below_kept hb _ _ hN.n⟩
        have hmin : min (l.length : Int) ((lo : Int) + 64) = (hi : Int) := by omega
        have hmul : (64 * (x.1 : Int)) = (lo : Int) := by omega
        have hlh : lo ≤ hi := by omega
        have hhc : hi ≤ cap := by omega
        have hlc : ¬ cap = lo := by omega
        have hlo4 : (lo : Int) ≤ 400 := by omega
        have hwl : IntKind.i64.wrap (lo : Int) = (lo : Int) := wrap_small (by omega) (by omega)
        have hwl2 : IntKind.i64.wrap ((lo : Int) + 64) = (lo : Int) + 64 := wrap_small (by omega) (by omega)
        have hHI := Lib.hid (And.intro hhi hlo)
        have HN := Lib.hid hN
        have HX := Lib.hid hx
        have HP := Lib.hid hpn
        have HS := Lib.hid hs
        have HM := Lib.hid hm
        have HPRE := Lib.hid hpre
        clear hhi hlo hhl h64
        clear hN hT hsp hs hx hm hb2 hbV hsl hpn hpre
        generalize strOf (secL l x.1) = sk at CV CV2
        have hsk : (sk.toList == sk.toList) = true := by simp
        gi_wp2_with fail
        refine wpIn_calm ?_
        refine region_inRound (S := fun w' => Below V.heap.size V w') ly _ calmX_lets (by kernel_rfl) (by kernel_rfl) (Below.refl _ _).drew (fun H0 => ?_)
        refine wpAnyH_take (i := 0) (oi := { dst := some 30, op := Go.Op.move (Go.Operand.tmp 9), type := 3, pos := "law.go:93", after := #[], guard := none }) (v := ?_) rfl (by kernel_rfl) (by kernel_rfl) (by kernel_rfl) (fun _ _ _ h => h) (Or.inl ⟨by rfl, ?_⟩) H0 ?_
        rotate_left
        focus (intro w' hSw; (try dsimp only at hSw); go_simp; (try with_reducible rfl))
        simp only [Act.put, List.setIfInBounds_toArray, List.set_cons_zero, List.set_cons_succ]
        refine wpAnyH_take (i := 1) (oi := { dst := some 31, op := Go.Op.load 3 (Go.Operand.tmp 8), type := 3, pos := "law.go:93", after := #[], guard := none }) (v := ?_) rfl (by kernel_rfl) (by kernel_rfl) (by kernel_rfl) (fun _ _ _ h => h) (Or.inl ⟨by rfl, ?_⟩) H0 ?_
        rotate_left
        focus (intro w' hSw; (try dsimp only at hSw); obtain ⟨z0, z1, z2⟩ := K14.out _ hSw; go_simp; (try with_reducible rfl))
        simp only [Act.put, List.setIfInBounds_toArray, List.set_cons_zero, List.set_cons_succ]
        refine wpAnyH_take (i := 2) (oi := { dst := some 32, op := Go.Op.binOp Go.BinOp.neq 3 (Go.Operand.tmp 30) (Go.Operand.tmp 31) 3, type := 4, pos := "law.go:93", after := #[{ on := 0, ground := Go.Ground.data }, { on := 1, ground := Go.Ground.data }], guard := none }) (v := ?_) rfl (by kernel_rfl) (by kernel_rfl) (by kernel_rfl) (fun _ _ _ h => h) (Or.inl ⟨by rfl, ?_⟩) H0 ?_
        rotate_left
        focus (intro w' hSw; (try dsimp only at hSw); go_simp; (try with_reducible rfl))
        simp only [Act.put, List.setIfInBounds_toArray, List.set_cons_zero, List.set_cons_succ]
        refine wpAnyH_take (i := 3) (oi := { dst := some 33, op := Go.Op.move (Go.Operand.tmp 32), type := 4, pos := "law.go:93", after := #[{ on := 2, ground := Go.Ground.data }], guard := none }) (v := ?_) rfl (by kernel_rfl) (by kernel_rfl) (by kernel_rfl) (fun _ _ _ h => h) (Or.inl ⟨by rfl, ?_⟩) H0 ?_
        rotate_left
        focus (intro w' hSw; (try dsimp only at hSw); go_simp; (try with_reducible rfl))
        simp only [Act.put, List.setIfInBounds_toArray, List.set_cons_zero, List.set_cons_succ]
        refine wpAnyH_take (i := 4) (oi := { dst := some 34, op := Go.Op.load 3 (Go.Operand.tmp 8), type := 3, pos := "law.go:93", after := #[{ on := 3, ground := Go.Ground.guard }], guard := some (3, false) }) (v := ?_) rfl (by kernel_rfl) (by kernel_rfl) (by kernel_rfl) (fun _ _ _ h => h) (Or.inl ⟨by rfl, ?_⟩) H0 ?_
        rotate_left
        focus (intro w' hSw; (try dsimp only at hSw); obtain ⟨z0, z1, z2⟩ := K14.out _ hSw; go_simp; (try with_reducible rfl))
        simp only [Act.put, List.setIfInBounds_toArray, List.set_cons_zero, List.set_cons_succ]
        refine wpAnyH_take (i := 5) (oi := { dst := some 35, op := Go.Op.load 3 (Go.Operand.tmp 5), type := 3, pos := "law.go:93", after := #[{ on := 3, ground := Go.Ground.guard }], guard := some (3, false) }) (v := ?_) rfl (by kernel_rfl) (by kernel_rfl) (by kernel_rfl) (fun _ _ _ h => h) (Or.inl ⟨by rfl, ?_⟩) H0 ?_
        rotate_left
        focus (intro w' hSw; (try dsimp only at hSw); obtain ⟨z0, z1, z2⟩ := K14.out _ hSw; go_simp; (try with_reducible rfl))
        simp only [Act.put, List.setIfInBounds_toArray, List.set_cons_zero, List.set_cons_succ]
        refine wpAnyH_take (i := 6) (oi := { dst := some 36, op := Go.Op.binOp Go.BinOp.geq 3 (Go.Operand.tmp 34) (Go.Operand.tmp 35) 3, type := 4, pos := "law.go:93", after := #[{ on := 4, ground := Go.Ground.data }, { on := 5, ground := Go.Ground.data }, { on := 3, ground := Go.Ground.guard }], guard := some (3, false) }) (v := ?_) rfl (by kernel_rfl) (by kernel_rfl) (by kernel_rfl) (fun _ _ _ h => h) (Or.inl ⟨by rfl, ?_⟩) H0 ?_
        rotate_left
        focus (intro w' hSw; (try dsimp only at hSw); go_simp; (try with_reducible rfl))
        simp only [Act.put, List.setIfInBounds_toArray, List.set_cons_zero, List.set_cons_succ]
        refine wpAnyH_take (i := 7) (oi := { dst := some 37, op := Go.Op.pick (Go.Operand.tmp 33) (Go.Operand.const (Go.Value.bool true)) (Go.Operand.tmp 36), type := 4, pos := "law.go:93", after := #[{ on := 3, ground := Go.Ground.data }, { on := 6, ground := Go.Ground.data }], guard := none }) (v := ?_) rfl (by kernel_rfl) (by kernel_rfl) (by kernel_rfl) (fun _ _ _ h => h) (Or.inl ⟨by rfl, ?_⟩) H0 ?_
        rotate_left
        focus (intro w' hSw; (try dsimp only at hSw); go_simp; (try with_reducible rfl))
        simp only [Act.put, List.setIfInBounds_toArray, List.set_cons_zero, List.set_cons_succ]
        refine wpAnyH_take (i := 8) (oi := { dst := some 38, op := Go.Op.move (Go.Operand.tmp 37), type := 4, pos := "law.go:93", after := #[{ on := 7, ground := Go.Ground.data }, { on := 3, ground := Go.Ground.chain }], guard := none }) (v := ?_) rfl (by kernel_rfl) (by kernel_rfl) (by kernel_rfl) (fun _ _ _ h => h) (Or.inl ⟨by rfl, ?_⟩) H0 ?_
        rotate_left
        focus (intro w' hSw; (try dsimp only at hSw); go_simp; (try with_reducible rfl))
        simp only [Act.put, List.setIfInBounds_toArray, List.set_cons_zero, List.set_cons_succ]
        refine wpAnyH_take (i := 9) (oi := { dst := some 39, op := Go.Op.move (Go.Operand.tmp 10), type := 39, pos := "law.go:93", after := #[{ on := 8, ground := Go.Ground.guard }], guard := some (8, false) }) (v := ?_) rfl (by kernel_rfl) (by kernel_rfl) (by kernel_rfl) (fun _ _ _ h => h) (Or.inl ⟨by rfl, ?_⟩) H0 ?_
        rotate_left
        focus (intro w' hSw; (try dsimp only at hSw); go_simp; (try with_reducible rfl))
        simp only [Act.put, List.setIfInBounds_toArray, List.set_cons_zero, List.set_cons_succ]
        refine wpAnyH_take (i := 10) (oi := { dst := some 40, op := Go.Op.convert 39 9 (Go.Operand.tmp 39), type := 9, pos := "law.go:93", after := #[{ on := 9, ground := Go.Ground.data }, { on := 8, ground := Go.Ground.guard }], guard := some (8, false) }) (v := ?_) rfl (by kernel_rfl) (by kernel_rfl) (by kernel_rfl) (fun _ _ _ h => h) (Or.inl ⟨by rfl, ?_⟩) H0 ?_
        rotate_left
        focus (intro w' hSw; (try dsimp only at hSw); have hv := CV.out _ hSw; go_simp; (try with_reducible rfl))
        simp only [Act.put, List.setIfInBounds_toArray, List.set_cons_zero, List.set_cons_succ]
        refine wpAnyH_take (i := 11) (oi := { dst := some 41, op := Go.Op.load 39 (Go.Operand.tmp 2), type := 39, pos := "law.go:93", after := #[{ on := 8, ground := Go.Ground.guard }], guard := some (8, false) }) (v := ?_) rfl (by kernel_rfl) (by kernel_rfl) (by kernel_rfl) (fun _ _ _ h => h) (Or.inl ⟨by rfl, ?_⟩) H0 ?_
        rotate_left
        focus (intro w' hSw; (try dsimp only at hSw); obtain ⟨z0, z1, z2⟩ := K14.out _ hSw; go_simp; (try with_reducible rfl))
        simp only [Act.put, List.setIfInBounds_toArray, List.set_cons_zero, List.set_cons_succ]
        refine wpAnyH_take (i := 12) (oi := { dst := some 42, op := Go.Op.load 3 (Go.Operand.tmp 8), type := 3, pos := "law.go:93", after := #[{ on := 8, ground := Go.Ground.guard }], guard := some (8, false) }) (v := ?_) rfl (by kernel_rfl) (by kernel_rfl) (by kernel_rfl) (fun _ _ _ h => h) (Or.inl ⟨by rfl, ?_⟩) H0 ?_
        rotate_left
        focus (intro w' hSw; (try dsimp only at hSw); obtain ⟨z0, z1, z2⟩ := K14.out _ hSw; go_simp; (try with_reducible rfl))
        simp only [Act.put, List.setIfInBounds_toArray, List.set_cons_zero, List.set_cons_succ]
        refine wpAnyH_take (i := 13) (oi := { dst := some 43, op := Go.Op.binOp Go.BinOp.mul 3 (Go.Operand.const (Go.Value.int Go.IntKind.i64 64)) (Go.Operand.tmp 42) 3, type := 3, pos := "law.go:93", after := #[{ on := 12, ground := Go.Ground.data }, { on := 8, ground := Go.Ground.guard }], guard := some (8, false) }) (v := ?_) rfl (by kernel_rfl) (by kernel_rfl) (by kernel_rfl) (fun _ _ _ h => h) (Or.inl ⟨by rfl, ?_⟩) H0 ?_
        rotate_left
        focus (intro w' hSw; (try dsimp only at hSw); go_simp; (try with_reducible rfl))
        simp only [Act.put, List.setIfInBounds_toArray, List.set_cons_zero, List.set_cons_succ]
        refine wpAnyH_take (i := 14) (oi := { dst := some 44, op := Go.Op.load 39 (Go.Operand.tmp 2), type := 39, pos := "law.go:93", after := #[{ on := 8, ground := Go.Ground.guard }], guard := some (8, false) }) (v := ?_) rfl (by kernel_rfl) (by kernel_rfl) (by kernel_rfl) (fun _ _ _ h => h) (Or.inl ⟨by rfl, ?_⟩) H0 ?_
        rotate_left
        focus (intro w' hSw; (try dsimp only at hSw); obtain ⟨z0, z1, z2⟩ := K14.out _ hSw; go_simp; (try with_reducible rfl))
        simp only [Act.put, List.setIfInBounds_toArray, List.set_cons_zero, List.set_cons_succ]
        refine wpAnyH_take (i := 15) (oi := { dst := some 45, op := Go.Op.call { callee := Go.Callee.builtin Go.Builtin.len, args := #[Go.Operand.tmp 44], argTypes := #[39] }, type := 3, pos := "law.go:93", after := #[{ on := 14, ground := Go.Ground.data }, { on := 8, ground := Go.Ground.guard }], guard := some (8, false) }) (v := ?_) rfl (by kernel_rfl) (by kernel_rfl) (by kernel_rfl) (fun _ _ _ h => h) (Or.inl ⟨by rfl, ?_⟩) H0 ?_
        rotate_left
        focus (intro w' hSw; (try dsimp only at hSw); go_simp; (try with_reducible rfl))
        simp only [Act.put, List.setIfInBounds_toArray, List.set_cons_zero, List.set_cons_succ]
        refine wpAnyH_take (i := 16) (oi := { dst := some 46, op := Go.Op.load 3 (Go.Operand.tmp 8), type := 3, pos := "law.go:93", after := #[{ on := 8, ground := Go.Ground.guard }], guard := some (8, false) }) (v := ?_) rfl (by kernel_rfl) (by kernel_rfl) (by kernel_rfl) (fun _ _ _ h => h) (Or.inl ⟨by rfl, ?_⟩) H0 ?_
        rotate_left
        focus (intro w' hSw; (try dsimp only at hSw); obtain ⟨z0, z1, z2⟩ := K14.out _ hSw; go_simp; (try with_reducible rfl))
        simp only [Act.put, List.setIfInBounds_toArray, List.set_cons_zero, List.set_cons_succ]
        refine wpAnyH_take (i := 17) (oi := { dst := some 47, op := Go.Op.binOp Go.BinOp.mul 3 (Go.Operand.const (Go.Value.int Go.IntKind.i64 64)) (Go.Operand.tmp 46) 3, type := 3, pos := "law.go:93", after := #[{ on := 16, ground := Go.Ground.data }, { on := 8, ground := Go.Ground.guard }], guard := some (8, false) }) (v := ?_) rfl (by kernel_rfl) (by kernel_rfl) (by kernel_rfl) (fun _ _ _ h => h) (Or.inl ⟨by rfl, ?_⟩) H0 ?_
        rotate_left
        focus (intro w' hSw; (try dsimp only at hSw); go_simp; (try with_reducible rfl))
        simp only [Act.put, List.setIfInBounds_toArray, List.set_cons_zero, List.set_cons_succ]
        refine wpAnyH_take (i := 18) (oi := { dst := some 48, op := Go.Op.binOp Go.BinOp.add 3 (Go.Operand.tmp 47) (Go.Operand.const (Go.Value.int Go.IntKind.i64 64)) 3, type := 3, pos := "law.go:93", after := #[{ on := 17, ground := Go.Ground.data }, { on := 8, ground := Go.Ground.guard }], guard := some (8, false) }) (v := ?_) rfl (by kernel_rfl) (by kernel_rfl) (by kernel_rfl) (fun _ _ _ h => h) (Or.inl ⟨by rfl, ?_⟩) H0 ?_
        rotate_left
        focus (intro w' hSw; (try dsimp only at hSw); go_simp; (try with_reducible rfl))
        simp only [Act.put, List.setIfInBounds_toArray, List.set_cons_zero, List.set_cons_succ]
        refine wpAnyH_take (i := 19) (oi := { dst := some 49, op := Go.Op.call { callee := Go.Callee.builtin Go.Builtin.min, args := #[Go.Operand.tmp 45, Go.Operand.tmp 48], argTypes := #[3, 3] }, type := 3, pos := "law.go:93", after := #[{ on := 15, ground := Go.Ground.data }, { on := 18, ground := Go.Ground.data }, { on := 8, ground := Go.Ground.guard }], guard := some (8, false) }) (v := ?_) rfl (by kernel_rfl) (by kernel_rfl) (by kernel_rfl) (fun _ _ _ h => h) (Or.inl ⟨by rfl, ?_⟩) H0 ?_
        rotate_left
        focus (intro w' hSw; (try dsimp only at hSw); go_simp; (try with_reducible rfl))
        simp only [Act.put, List.setIfInBounds_toArray, List.set_cons_zero, List.set_cons_succ]
        refine wpAnyH_take (i := 20) (oi := { dst := some 50, op := Go.Op.slice 39 (Go.Operand.tmp 41) (some (Go.Operand.tmp 43)) (some (Go.Operand.tmp 49)) none, type := 39, pos := "law.go:93", after := #[{ on := 11, ground := Go.Ground.data }, { on := 13, ground := Go.Ground.data }, { on := 19, ground := Go.Ground.data }, { on := 8, ground := Go.Ground.guard }], guard := some (8, false) }) (v := ?_) rfl (by kernel_rfl) (by kernel_rfl) (by kernel_rfl) (fun _ _ _ h => h) (Or.inl ⟨by rfl, ?_⟩) H0 ?_
        rotate_left
        focus (intro w' hSw; (try dsimp only at hSw); go_simp; (try with_reducible rfl))
        simp only [Act.put, List.setIfInBounds_toArray, List.set_cons_zero, List.set_cons_succ]
        refine wpAnyH_take (i := 21) (oi := { dst := some 51, op := Go.Op.convert 39 9 (Go.Operand.tmp 50), type := 9, pos := "law.go:93", after := #[{ on := 20, ground := Go.Ground.data }, { on := 8, ground := Go.Ground.guard }], guard := some (8, false) }) (v := ?_) rfl (by kernel_rfl) (by kernel_rfl) (by kernel_rfl) (fun _ _ _ h => h) (Or.inl ⟨by rfl, ?_⟩) H0 ?_
        rotate_left
        focus (intro w' hSw; (try dsimp only at hSw); have hv := CV2.out _ hSw; go_simp; (try with_reducible rfl))
        simp only [Act.put, List.setIfInBounds_toArray, List.set_cons_zero, List.set_cons_succ]
        refine wpAnyH_take (i := 22) (oi := { dst := some 52, op := Go.Op.binOp Go.BinOp.neq 9 (Go.Operand.tmp 40) (Go.Operand.tmp 51) 9, type := 4, pos := "law.go:93", after := #[{ on := 10, ground := Go.Ground.data }, { on := 21, ground := Go.Ground.data }, { on := 8, ground := Go.Ground.guard }], guard := some (8, false) }) (v := ?_) rfl (by kernel_rfl) (by kernel_rfl) (by kernel_rfl) (fun _ _ _ h => h) (Or.inl ⟨by rfl, ?_⟩) H0 ?_
        rotate_left
        focus (intro w' hSw; (try dsimp only at hSw); go_simp; (try with_reducible rfl))
        simp only [Act.put, List.setIfInBounds_toArray, List.set_cons_zero, List.set_cons_succ]
        refine wpAnyH_take (i := 23) (oi := { dst := some 53, op := Go.Op.pick (Go.Operand.tmp 38) (Go.Operand.const (Go.Value.bool true)) (Go.Operand.tmp 52), type := 4, pos := "law.go:93", after := #[{ on := 8, ground := Go.Ground.data }, { on := 22, ground := Go.Ground.data }], guard := none }) (v := ?_) rfl (by kernel_rfl) (by kernel_rfl) (by kernel_rfl) (fun _ _ _ h => h) (Or.inl ⟨by rfl, ?_⟩) H0 ?_
        rotate_left
        focus (intro w' hSw; (try dsimp only at hSw); go_simp; (try with_reducible rfl))
        simp only [Act.put, List.setIfInBounds_toArray, List.set_cons_zero, List.set_cons_succ]

        refine wpAnyH_done (by kernel_rfl) (calmX_in ?_) _
        have HNa := Lib.hid (HN.out.low (Bd := V.heap.size) (by have := HS.out; omega) (by have := HS.out; omega) (fun k h => by have := HS.out; have := HIN.out k h; omega) (by have := HS.out; omega) (by have := HS.out; omega) H0)
        have kV : KpB (fun k => k = Bo ∨ inB p2 l.length k) W0.heap.size V V.drew := .of_below H0
        generalize V.drew = wa at *
        have HKf : Hid (KpB (fun k => k = Bo ∨ inB p2 l.length k) W0.heap.size V (wa.setCell ⟨(N0 + 1), 0, none⟩ (.int .i64 ((x.1 : Int) + 1)))) := Lib.hid (kV.trans (KpB.setCell _ _ _ (by show (N0 + 1) < _; omega) (fun e => e.elim (fun e => by simp only at e; omega) (fun e => by have := HIN.out _ e; simp only at this; omega))))
        have HL : Hid (((pre ++ [x]).length : Int) = (x.1 : Int) + 1) := Lib.hid (by rw [List.length_append, HX.out]; simp)
        have HNf : Hid (CutNow w (wa.setCell ⟨(N0 + 1), 0, none⟩ (.int .i64 ((x.1 : Int) + 1))) l (some ⟨Bb, off, none⟩) cap many Bo p2 c2 N0 (N0 + 1) 0 ((pre ++ [x]).length : Nat)) := Lib.hid (by
          have := HNa.out.count (by omega) (by omega) (fun e => by have := HIN.out _ e; omega) (by omega) ((x.1 : Int) + 1)
          rw [HL.out]
          exact this)
        clear kV
        obtain ⟨cb, cm, -, -, ca, ct, -, cn, cnf, -, -, -⟩ := HNa.out
        by_cases hge : many ≤ (x.1 : Int) + 1
        · gi_wp2_with fail
          refine ⟨HKf.out, rfl, HNf.out, ?_, ?_, ?_⟩
          · rw [HL.out]; exact hge
          · simp
          · rw [HL.out]
            rcases HPRE.out with rfl | h
            · exact .inl rfl
            · exact .inr (by rw [HX.out]; omega)
        · have hge2 : decide (many ≤ (x.1 : Int) + 1) = false := decide_eq_false hge
          gi_wp2_with fail
          exact ⟨by first | exact HKf.out | exact (by have h := HKf.out; rw [S1] at h; exact h), HNf.out, .inr (by rw [HL.out]; omega)⟩
      case done =>
        rintro D xs V hD hxs ⟨hN, hpre⟩ hK
        have hl2 : xs.length = secN l.length := by rw [← List.length_map (f := (·.1)), hxs, List.length_range]
        refine ⟨.inl rfl, D, rfl, hK, by omega, xs.length, hN, ?_⟩
        rcases hpre with rfl | h
        · simp only [List.length_nil] at hl2 ⊢
          omega
        · omega
      case stop =>
        rintro D c' pre V hD hsp ⟨rfl, hN, hge, hpos, hor⟩ hK
        have hl2 : pre.length ≤ secN l.length := by
          have := hsp.length_le
          rw [List.length_map, List.length_range] at this
          exact this
        refine wpIn_exit ?_
        exact ⟨.inr rfl, D, rfl, hK, by omega, pre.length, hN, by omega⟩
    · rintro D1 V ⟨hK1, hD, cnt, hN, hcnt⟩
      clear HF0 F0 S1 HIN
      have HN := Lib.hid hN
      have hDl : D1 < V.heap.size := (Array.getElem?_eq_some_iff.1 hK1).1
      have hVn : N0 + 1 < V.heap.size := lt_of_cell_some hN.n
      have hmm : ((cnt : Int) != min ((secN l.length : Nat) : Int) (max 1 many)) = false := by rw [← hcnt]; simp
      obtain ⟨cb, cm, cr, crf, ca, ct, ctf, cn, cnf, co, cy, cB⟩ := hN
      clear cy cB hcnt
      obtain ⟨N1, hN1⟩ : ∃ N1, V.heap.size = N1 := ⟨_, rfl⟩
      gi_wp2
      rw [roundsIn_succ]
      gi_upto_region 10 with fail
      gi_cut [8] from 11 (fun v W => v = .pointer (some ⟨N1 + 1, 0, none⟩) ∧ CutNow w W l p cap many Bo p2 c2 N1 (N1 + 1) 1 0 ∧ W.heap.size = N1 + 2 ∧ W.heap[D1]? = some (.deferred (some [])))
      case first =>
        subst hN1
        gi_wp2
        gi_meet
        have B3 : Below V.heap.size V ((V.alloc (.cells #[.int .i64 1] 3)).alloc (.cells #[.int .i64 0] 3)) := ((Below.refl _ _).alloc (Nat.le_refl _) _).alloc (by simp) _
        have L := HN.out.low (Bd := V.heap.size) (by omega) (by omega) (fun k h => by have := hin k h; omega) (by omega) (by omega) B3
        exact ⟨rfl, ⟨L.b, L.m, L.r, L.rf, L.a, by go_cell, by go_simp, by go_cell, by go_simp, L.o, L.y, L.B⟩, by simp, (B3.block _ hDl).trans hK1⟩
      case rest =>
        obtain ⟨rfl, F2, S2, D2x⟩ := hcut
        rw [hN1] at hDl hVn
        clear cb cm cr crf ca ct ctf cn cnf co hK1 HN hN1 hmm
        gi_wp2
        rename World => WR
        have hin : ∀ k, inB p2 l.length k → k < N1 := fun k h => by have := hin k h; omega
        have HF2 := Lib.hid F2
        have HIN := Lib.hid hin
        refine range_norm 2 (fun D V => V.heap[D]? = some (.deferred (some [])) ∧ N1 + 2 ≤ D ∧ V.heap[D1]? = some (.deferred (some [])) ∧ CutNow w V l p cap many Bo p2 c2 N1 (N1 + 1) 1 (secN l.length : Nat)) (fun _ _ h => h) ?_ ?_
        · refine' range_low (n := 9) (ι := Unit) rfl (by decide) (gf := 48) (lb := #[.pointer (some ⟨Bo, 0, none⟩)]) rfl trivial (enters_of Try.func48 (by kernel_rfl) rfl)
            (cut_low (9 - 1) (by decide) l p2 c2 Bo WR (by omega) F2.y F2.o) (fun x _ V => TC l x V) (fun x i A k o o' hk hc h => bytesAt_put h hk hc)
            (fun k h => h.elim (fun h => by omega) (fun h => by have := hin k h; omega)) (Below.refl _ _) (fun _ => rfl)
            (fun pre V => CutNow w V l p cap many Bo p2 c2 N1 (N1 + 1) 1 (pre.length : Nat) ∧ V.heap[D1]? = some (.deferred (some [])))
            (fun c' pre V => False)
            (fun s A C h hB hb => ⟨h.1.low (by omega) (by omega) (fun k h => by have := hin k h; omega) (by omega) (by omega) hb, (hb.block _ (by omega)).trans h.2⟩)
            (fun c s A C h hB hb => h)
            ⟨F2, D2x⟩
            (fun x _ => { tmps := #[.slice p l.length cap, .int .i64 many, .pointer (some ⟨w.heap.size, 0, none⟩), .pointer (some ⟨w.heap.size + 1, 0, none⟩), .pointer (some ⟨w.heap.size + 1 + 1, 0, none⟩), .pointer (some ⟨w.heap.size + 1 + 1 + 1, 0, none⟩), .func (.func 48) #[] #[.pointer (some ⟨Bo, 0, none⟩)], .pointer (some ⟨N1, 0, none⟩), .pointer (some ⟨(N1 + 1), 0, none⟩), .int .i64 (x.1 : Int), .slice x.2 (secL l x.1).length (secL l x.1).length, u11, u12, u13, u14, u15, u16, u17, u18, u19, u20, u21, u22, u23, u24, u25, u26, .func (.func 48) #[] #[.pointer (some ⟨Bo, 0, none⟩)], .int .i64 (x.1 : Int), .slice x.2 (secL l x.1).length (secL l x.1).length, u30, u31, u32, u33, u34, u35, u36, u37, u38, u39, u40, u41, u42, u43, u44, u45, u46, u47, u48, u49, u50, u51, u52, u53, u54, u55, u56, u57, u58, u59, u60, u61, u62, u63, u64, u65, u66, u67, u68, u69, u70, u71, u72, u73, u74, u75, u76, u77, u78, u79, u80, u81, u82, u83], defers := [] }) ?assign2 ?body2 ?done2 ?stop2
          case assign2 =>
            intro ly x V K hs hT hK
            gi_wp2
            exact hK () _ hT (Below.refl _ _)
          case body2 =>
            rintro ly pre x _ V ⟨hN, hpre⟩ hs hlen hsp hT
            have HD1 := Lib.hid hpre
            have S1 := S2
            obtain ⟨hx, hpn⟩ := range_next hsp
            have h64 := secN_lt.1 hpn
            have hx6 : x.1 ≤ 6 := by omega
            rw [← hx] at hN h64 hpn
            have hxi : ((x.1 : Nat) : Int) ≤ 6 := by omega
            have hd2 : decide (((secN l.length : Nat) : Int) ≤ (x.1 : Int)) = false := decide_eq_false (by omega)
            have hd3 : ¬ secN l.length ≤ x.1 := by omega
            have hm := secL_length l x.1
            have hsl : ∀ b ∈ secL l x.1, b < 256 := fun b h => hlb b (List.mem_of_mem_drop (List.mem_of_mem_take h))
            have hbV := bytesAt_below HC.out hN.B
            obtain ⟨Bb, off, hpe, -⟩ := hbV 0 (by omega)
            subst hpe
            obtain ⟨lo, hlo⟩ : ∃ lo : Nat, lo = 64 * x.1 := ⟨_, rfl⟩
            obtain ⟨hi, hhi⟩ : ∃ hi : Nat, hi = lo + (secL l x.1).length := ⟨_, rfl⟩
            have hhl : hi - lo = (secL l x.1).length := by omega
            have hb2 : ∀ w', Below V.heap.size V w' → BytesAt w' (some ⟨Bb, off + lo, none⟩) (secL l x.1) := fun w' hb => by
              have h2 := bytesAt_take (bytesAt_from (bytesAt_below hbV hb) (64 * x.1)) 64
              rw [Option.map_some, addr_plain, ← hlo] at h2
              unfold secL
              rw [← hlo]
              exact h2
            have CV : Hid (∀ w', Below V.heap.size V w' → (convert 39 9 (.slice x.2 (secL l x.1).length (secL l x.1).length)).run Try.prog w' = .ok (.string (strOf (secL l x.1))) w') := Lib.hid fun w' hb => conv_at w' x.2 _ (secL l x.1) hsl (bytesAt_below hT hb)
            have CV2 : Hid (∀ w', Below V.heap.size V w' → (convert 39 9 (.slice (some ⟨Bb, off + lo, none⟩) (hi - lo) (cap - lo))).run Try.prog w' = .ok (.string (strOf (secL l x.1))) w') := Lib.hid fun w' hb => by rw [hhl]; exact conv_at w' _ _ (secL l x.1) hsl (hb2 w' hb)
            have K14 : Hid (∀ w', Below V.heap.size V w' → w'.cell? ⟨w.heap.size, 0, none⟩ = some (.slice (some ⟨Bb, off, none⟩) l.length cap) ∧ w'.cell? ⟨w.heap.size + 1 + 1 + 1, 0, none⟩ = some (.int .i64 (secN l.length : Nat)) ∧ w'.cell? ⟨(N1 + 1), 0, none⟩ = some (.int .i64 (x.1 : Nat))) := Lib.hid fun w' hb => ⟨below_kept hb _ _ hN.b, below_kept hb _ _ hN.a, below_kept hb _ _ hN.n⟩
            have hmin : min (l.length : Int) ((lo : Int) + 64) = (hi : Int) := by omega
            have hmul : (64 * (x.1 : Int)) = (lo : Int) := by omega
            have hlh : lo ≤ hi := by omega
            have hhc : hi ≤ cap := by omega
            have hlc : ¬ cap = lo := by omega
            have hlo4 : (lo : Int) ≤ 400 := by omega
            have hwl : IntKind.i64.wrap (lo : Int) = (lo : Int) := wrap_small (by omega) (by omega)
            have hwl2 : IntKind.i64.wrap ((lo : Int) + 64) = (lo : Int) + 64 := wrap_small (by omega) (by omega)
            have hHI := Lib.hid (And.intro hhi hlo)
            have HN := Lib.hid hN
            have HX := Lib.hid hx
            have HP := Lib.hid hpn
            have HS := Lib.hid hs
            have HM := Lib.hid hm
            have HPRE := Lib.hid hpre
            clear hhi hlo hhl h64
            clear hN hT hsp hs hx hm hb2 hbV hsl hpn hpre
            generalize strOf (secL l x.1) = sk at CV CV2
            have hsk : (sk.toList == sk.toList) = true := by simp
            gi_wp2_with fail
            refine wpIn_calm ?_
            refine region_inRound (S := fun w' => Below V.heap.size V w') ly _ calmX_lets (by kernel_rfl) (by kernel_rfl) (Below.refl _ _).drew (fun H0 => ?_)
            refine wpAnyH_take (i := 0) (oi := { dst := some 30, op := Go.Op.move (Go.Operand.tmp 9), type := 3, pos := "law.go:93", after := #[], guard := none }) (v := ?_) rfl (by kernel_rfl) (by kernel_rfl) (by kernel_rfl) (fun _ _ _ h => h) (Or.inl ⟨by rfl, ?_⟩) H0 ?_
            rotate_left
            focus (intro w' hSw; (try dsimp only at hSw); go_simp; (try with_reducible rfl))
            simp only [Act.put, List.setIfInBounds_toArray, List.set_cons_zero, List.set_cons_succ]
            refine wpAnyH_take (i := 1) (oi := { dst := some 31, op := Go.Op.load 3 (Go.Operand.tmp 8), type := 3, pos := "law.go:93", after := #[], guard := none }) (v := ?_) rfl (by kernel_rfl) (by kernel_rfl) (by kernel_rfl) (fun _ _ _ h => h) (Or.inl ⟨by rfl, ?_⟩) H0 ?_
            rotate_left
            focus (intro w' hSw; (try dsimp only at hSw); obtain ⟨z0, z1, z2⟩ := K14.out _ hSw; go_simp; (try with_reducible rfl))
            simp only [Act.put, List.setIfInBounds_toArray, List.set_cons_zero, List.set_cons_succ]
            refine wpAnyH_take (i := 2) (oi := { dst := some 32, op := Go.Op.binOp Go.BinOp.neq 3 (Go.Operand.tmp 30) (Go.Operand.tmp 31) 3, type := 4, pos := "law.go:93", after := #[{ on := 0, ground := Go.Ground.data }, { on := 1, ground := Go.Ground.data }], guard := none }) (v := ?_) rfl (by kernel_rfl) (by kernel_rfl) (by kernel_rfl) (fun _ _ _ h => h) (Or.inl ⟨by rfl, ?_⟩) H0 ?_
            rotate_left
            focus (intro w' hSw; (try dsimp only at hSw); go_simp; (try with_reducible rfl))
            simp only [Act.put, List.setIfInBounds_toArray, List.set_cons_zero, List.set_cons_succ]
            refine wpAnyH_take (i := 3) (oi := { dst := some 33, op := Go.Op.move (Go.Operand.tmp 32), type := 4, pos := "law.go:93", after := #[{ on := 2, ground := Go.Ground.data }], guard := none }) (v := ?_) rfl (by kernel_rfl) (by kernel_rfl) (by kernel_rfl) (fun _ _ _ h => h) (Or.inl ⟨by rfl, ?_⟩) H0 ?_
            rotate_left
            focus (intro w' hSw; (try dsimp only at hSw); go_simp; (try with_reducible rfl))
            simp only [Act.put, List.setIfInBounds_toArray, List.set_cons_zero, List.set_cons_succ]
            refine wpAnyH_take (i := 4) (oi := { dst := some 34, op := Go.Op.load 3 (Go.Operand.tmp 8), type := 3, pos := "law.go:93", after := #[{ on := 3, ground := Go.Ground.guard }], guard := some (3, false) }) (v := ?_) rfl (by kernel_rfl) (by kernel_rfl) (by kernel_rfl) (fun _ _ _ h => h) (Or.inl ⟨by rfl, ?_⟩) H0 ?_
            rotate_left
            focus (intro w' hSw; (try dsimp only at hSw); obtain ⟨z0, z1, z2⟩ := K14.out _ hSw; go_simp; (try with_reducible rfl))
            simp only [Act.put, List.setIfInBounds_toArray, List.set_cons_zero, List.set_cons_succ]
            refine wpAnyH_take (i := 5) (oi := { dst := some 35, op := Go.Op.load 3 (Go.Operand.tmp 5), type := 3, pos := "law.go:93", after := #[{ on := 3, ground := Go.Ground.guard }], guard := some (3, false) }) (v := ?_) rfl (by kernel_rfl) (by kernel_rfl) (by kernel_rfl) (fun _ _ _ h => h) (Or.inl ⟨by rfl, ?_⟩) H0 ?_
            rotate_left
            focus (intro w' hSw; (try dsimp only at hSw); obtain ⟨z0, z1, z2⟩ := K14.out _ hSw; go_simp; (try with_reducible rfl))
            simp only [Act.put, List.setIfInBounds_toArray, List.set_cons_zero, List.set_cons_succ]
            refine wpAnyH_take (i := 6) (oi := { dst := some 36, op := Go.Op.binOp Go.BinOp.geq 3 (Go.Operand.tmp 34) (Go.Operand.tmp 35) 3, type := 4, pos := "law.go:93", after := #[{ on := 4, ground := Go.Ground.data }, { on := 5, ground := Go.Ground.data }, { on := 3, ground := Go.Ground.guard }], guard := some (3, false) }) (v := ?_) rfl (by kernel_rfl) (by kernel_rfl) (by kernel_rfl) (fun _ _ _ h => h) (Or.inl ⟨by rfl, ?_⟩) H0 ?_
            rotate_left
            focus (intro w' hSw; (try dsimp only at hSw); go_simp; (try with_reducible rfl))
            simp only [Act.put, List.setIfInBounds_toArray, List.set_cons_zero, List.set_cons_succ]
            refine wpAnyH_take (i := 7) (oi := { dst := some 37, op := Go.Op.pick (Go.Operand.tmp 33) (Go.Operand.const (Go.Value.bool true)) (Go.Operand.tmp 36), type := 4, pos := "law.go:93", after := #[{ on := 3, ground := Go.Ground.data }, { on := 6, ground := Go.Ground.data }], guard := none }) (v := ?_) rfl (by kernel_rfl) (by kernel_rfl) (by kernel_rfl) (fun _ _ _ h => h) (Or.inl ⟨by rfl, ?_⟩) H0 ?_
            rotate_left
            focus (intro w' hSw; (try dsimp only at hSw); go_simp; (try with_reducible rfl))
            simp only [Act.put, List.setIfInBounds_toArray, List.set_cons_zero, List.set_cons_succ]
            refine wpAnyH_take (i := 8) (oi := { dst := some 38, op := Go.Op.move (Go.Operand.tmp 37), type := 4, pos := "law.go:93", after := #[{ on := 7, ground := Go.Ground.data }, { on := 3, ground := Go.Ground.chain }], guard := none }) (v := ?_) rfl (by kernel_rfl) (by kernel_rfl) (by kernel_rfl) (fun _ _ _ h => h) (Or.inl ⟨by rfl, ?_⟩) H0 ?_
            rotate_left
            focus (intro w' hSw; (try dsimp only at hSw); go_simp; (try with_reducible rfl))
            simp only [Act.put, List.setIfInBounds_toArray, List.set_cons_zero, List.set_cons_succ]
            refine wpAnyH_take (i := 9) (oi := { dst := some 39, op := Go.Op.move (Go.Operand.tmp 10), type := 39, pos := "law.go:93", after := #[{ on := 8, ground := Go.Ground.guard }], guard := some (8, false) }) (v := ?_) rfl (by kernel_rfl) (by kernel_rfl) (by kernel_rfl) (fun _ _ _ h => h) (Or.inl ⟨by rfl, ?_⟩) H0 ?_
            rotate_left
            focus (intro w' hSw; (try dsimp only at hSw); go_simp; (try with_reducible rfl))
            simp only [Act.put, List.setIfInBounds_toArray, List.set_cons_zero, List.set_cons_succ]
            refine wpAnyH_take (i := 10) (oi := { dst := some 40, op := Go.Op.convert 39 9 (Go.Operand.tmp 39), type := 9, pos := "law.go:93", after := #[{ on := 9, ground := Go.Ground.data }, { on := 8, ground := Go.Ground.guard }], guard := some (8, false) }) (v := ?_) rfl (by kernel_rfl) (by kernel_rfl) (by kernel_rfl) (fun _ _ _ h => h) (Or.inl ⟨by rfl, ?_⟩) H0 ?_
            rotate_left
            focus (intro w' hSw; (try dsimp only at hSw); have hv := CV.out _ hSw; go_simp; (try with_reducible rfl))
            simp only [Act.put, List.setIfInBounds_toArray, List.set_cons_zero, List.set_cons_succ]
            refine wpAnyH_take (i := 11) (oi := { dst := some 41, op := Go.Op.load 39 (Go.Operand.tmp 2), type := 39, pos := "law.go:93", after := #[{ on := 8, ground := Go.Ground.guard }], guard := some (8, false) }) (v := ?_) rfl (by kernel_rfl) (by kernel_rfl) (by kernel_rfl) (fun _ _ _ h => h) (Or.inl ⟨by rfl, ?_⟩) H0 ?_
            rotate_left
            focus (intro w' hSw; (try dsimp only at hSw); obtain ⟨z0, z1, z2⟩ := K14.out _ hSw; go_simp; (try with_reducible rfl))
            simp only [Act.put, List.setIfInBounds_toArray, List.set_cons_zero, List.set_cons_succ]
            refine wpAnyH_take (i := 12) (oi := { dst := some 42, op := Go.Op.load 3 (Go.Operand.tmp 8), type := 3, pos := "law.go:93", after := #[{ on := 8, ground := Go.Ground.guard }], guard := some (8, false) }) (v := ?_) rfl (by kernel_rfl) (by kernel_rfl) (by kernel_rfl) (fun _ _ _ h => h) (Or.inl ⟨by rfl, ?_⟩) H0 ?_
            rotate_left
            focus (intro w' hSw; (try dsimp only at hSw); obtain ⟨z0, z1, z2⟩ := K14.out _ hSw; go_simp; (try with_reducible rfl))
            simp only [Act.put, List.setIfInBounds_toArray, List.set_cons_zero, List.set_cons_succ]
            refine wpAnyH_take (i := 13) (oi := { dst := some 43, op := Go.Op.binOp Go.BinOp.mul 3 (Go.Operand.const (Go.Value.int Go.IntKind.i64 64)) (Go.Operand.tmp 42) 3, type := 3, pos := "law.go:93", after := #[{ on := 12, ground := Go.Ground.data }, { on := 8, ground := Go.Ground.guard }], guard := some (8, false) }) (v := ?_) rfl (by kernel_rfl) (by kernel_rfl) (by kernel_rfl) (fun _ _ _ h => h) (Or.inl ⟨by rfl, ?_⟩) H0 ?_
            rotate_left
            focus (intro w' hSw; (try dsimp only at hSw); go_simp; (try with_reducible rfl))
            simp only [Act.put, List.setIfInBounds_toArray, List.set_cons_zero, List.set_cons_succ]
            refine wpAnyH_take (i := 14) (oi := { dst := some 44, op := Go.Op.load 39 (Go.Operand.tmp 2), type := 39, pos := "law.go:93", after := #[{ on := 8, ground := Go.Ground.guard }], guard := some (8, false) }) (v := ?_) rfl (by kernel_rfl) (by kernel_rfl) (by kernel_rfl) (fun _ _ _ h => h) (Or.inl ⟨by rfl, ?_⟩) H0 ?_
            rotate_left
            focus (intro w' hSw; (try dsimp only at hSw); obtain ⟨z0, z1, z2⟩ := K14.out _ hSw; go_simp; (try with_reducible rfl))
            simp only [Act.put, List.setIfInBounds_toArray, List.set_cons_zero, List.set_cons_succ]
            refine wpAnyH_take (i := 15) (oi := { dst := some 45, op := Go.Op.call { callee := Go.Callee.builtin Go.Builtin.len, args := #[Go.Operand.tmp 44], argTypes := #[39] }, type := 3, pos := "law.go:93", after := #[{ on := 14, ground := Go.Ground.data }, { on := 8, ground := Go.Ground.guard }], guard := some (8, false) }) (v := ?_) rfl (by kernel_rfl) (by kernel_rfl) (by kernel_rfl) (fun _ _ _ h => h) (Or.inl ⟨by rfl, ?_⟩) H0 ?_
            rotate_left
            focus (intro w' hSw; (try dsimp only at hSw); go_simp; (try with_reducible rfl))
            simp only [Act.put, List.setIfInBounds_toArray, List.set_cons_zero, List.set_cons_succ]
            refine wpAnyH_take (i := 16) (oi := { dst := some 46, op := Go.Op.load 3 (Go.Operand.tmp 8), type := 3, pos := "law.go:93", after := #[{ on := 8, ground := Go.Ground.guard }], guard := some (8, false) }) (v := ?_) rfl (by kernel_rfl) (by kernel_rfl) (by kernel_rfl) (fun _ _ _ h => h) (Or.inl ⟨by rfl, ?_⟩) H0 ?_
            rotate_left
            focus (intro w' hSw; (try dsimp only at hSw); obtain ⟨z0, z1, z2⟩ := K14.out _ hSw; go_simp; (try with_reducible rfl))
            simp only [Act.put, List.setIfInBounds_toArray, List.set_cons_zero, List.set_cons_succ]
            refine wpAnyH_take (i := 17) (oi := { dst := some 47, op := Go.Op.binOp Go.BinOp.mul 3 (Go.Operand.const (Go.Value.int Go.IntKind.i64 64)) (Go.Operand.tmp 46) 3, type := 3, pos := "law.go:93", after := #[{ on := 16, ground := Go.Ground.data }, { on := 8, ground := Go.Ground.guard }], guard := some (8, false) }) (v := ?_) rfl (by kernel_rfl) (by kernel_rfl) (by kernel_rfl) (fun _ _ _ h => h) (Or.inl ⟨by rfl, ?_⟩) H0 ?_
            rotate_left
            focus (intro w' hSw; (try dsimp only at hSw); go_simp; (try with_reducible rfl))
            simp only [Act.put, List.setIfInBounds_toArray, List.set_cons_zero, List.set_cons_succ]
            refine wpAnyH_take (i := 18) (oi := { dst := some 48, op := Go.Op.binOp Go.BinOp.add 3 (Go.Operand.tmp 47) (Go.Operand.const (Go.Value.int Go.IntKind.i64 64)) 3, type := 3, pos := "law.go:93", after := #[{ on := 17, ground := Go.Ground.data }, { on := 8, ground := Go.Ground.guard }], guard := some (8, false) }) (v := ?_) rfl (by kernel_rfl) (by kernel_rfl) (by kernel_rfl) (fun _ _ _ h => h) (Or.inl ⟨by rfl, ?_⟩) H0 ?_
            rotate_left
            focus (intro w' hSw; (try dsimp only at hSw); go_simp; (try with_reducible rfl))
            simp only [Act.put, List.setIfInBounds_toArray, List.set_cons_zero, List.set_cons_succ]
            refine wpAnyH_take (i := 19) (oi := { dst := some 49, op := Go.Op.call { callee := Go.Callee.builtin Go.Builtin.min, args := #[Go.Operand.tmp 45, Go.Operand.tmp 48], argTypes := #[3, 3] }, type := 3, pos := "law.go:93", after := #[{ on := 15, ground := Go.Ground.data }, { on := 18, ground := Go.Ground.data }, { on := 8, ground := Go.Ground.guard }], guard := some (8, false) }) (v := ?_) rfl (by kernel_rfl) (by kernel_rfl) (by kernel_rfl) (fun _ _ _ h => h) (Or.inl ⟨by rfl, ?_⟩) H0 ?_
            rotate_left
            focus (intro w' hSw; (try dsimp only at hSw); go_simp; (try with_reducible rfl))
            simp only [Act.put, List.setIfInBounds_toArray, List.set_cons_zero, List.set_cons_succ]
            refine wpAnyH_take (i := 20) (oi := { dst := some 50, op := Go.Op.slice 39 (Go.Operand.tmp 41) (some (Go.Operand.tmp 43)) (some (Go.Operand.tmp 49)) none, type := 39, pos := "law.go:93", after := #[{ on := 11, ground := Go.Ground.data }, { on := 13, ground := Go.Ground.data }, { on := 19, ground := Go.Ground.data }, { on := 8, ground := Go.Ground.guard }], guard := some (8, false) }) (v := ?_) rfl (by kernel_rfl) (by kernel_rfl) (by kernel_rfl) (fun _ _ _ h => h) (Or.inl ⟨by rfl, ?_⟩) H0 ?_
            rotate_left
            focus (intro w' hSw; (try dsimp only at hSw); go_simp; (try with_reducible rfl))
            simp only [Act.put, List.setIfInBounds_toArray, List.set_cons_zero, List.set_cons_succ]
            refine wpAnyH_take (i := 21) (oi := { dst := some 51, op := Go.Op.convert 39 9 (Go.Operand.tmp 50), type := 9, pos := "law.go:93", after := #[{ on := 20, ground := Go.Ground.data }, { on := 8, ground := Go.Ground.guard }], guard := some (8, false) }) (v := ?_) rfl (by kernel_rfl) (by kernel_rfl) (by kernel_rfl) (fun _ _ _ h => h) (Or.inl ⟨by rfl, ?_⟩) H0 ?_
            rotate_left
            focus (intro w' hSw; (try dsimp only at hSw); have hv := CV2.out _ hSw; go_simp; (try with_reducible rfl))
            simp only [Act.put, List.setIfInBounds_toArray, List.set_cons_zero, List.set_cons_succ]
            refine wpAnyH_take (i := 22) (oi := { dst := some 52, op := Go.Op.binOp Go.BinOp.neq 9 (Go.Operand.tmp 40) (Go.Operand.tmp 51) 9, type := 4, pos := "law.go:93", after := #[{ on := 10, ground := Go.Ground.data }, { on := 21, ground := Go.Ground.data }, { on := 8, ground := Go.Ground.guard }], guard := some (8, false) }) (v := ?_) rfl (by kernel_rfl) (by kernel_rfl) (by kernel_rfl) (fun _ _ _ h => h) (Or.inl ⟨by rfl, ?_⟩) H0 ?_
            rotate_left
            focus (intro w' hSw; (try dsimp only at hSw); go_simp; (try with_reducible rfl))
            simp only [Act.put, List.setIfInBounds_toArray, List.set_cons_zero, List.set_cons_succ]
            refine wpAnyH_take (i := 23) (oi := { dst := some 53, op := Go.Op.pick (Go.Operand.tmp 38) (Go.Operand.const (Go.Value.bool true)) (Go.Operand.tmp 52), type := 4, pos := "law.go:93", after := #[{ on := 8, ground := Go.Ground.data }, { on := 22, ground := Go.Ground.data }], guard := none }) (v := ?_) rfl (by kernel_rfl) (by kernel_rfl) (by kernel_rfl) (fun _ _ _ h => h) (Or.inl ⟨by rfl, ?_⟩) H0 ?_
            rotate_left
            focus (intro w' hSw; (try dsimp only at hSw); go_simp; (try with_reducible rfl))
            simp only [Act.put, List.setIfInBounds_toArray, List.set_cons_zero, List.set_cons_succ]

            refine wpAnyH_done (by kernel_rfl) (calmX_in ?_) _
            have HNa := Lib.hid (HN.out.low (Bd := V.heap.size) (by have := HS.out; omega) (by have := HS.out; omega) (fun k h => by have := HS.out; have := HIN.out k h; omega) (by have := HS.out; omega) (by have := HS.out; omega) H0)
            have kV : KpB (fun k => k = Bo ∨ inB p2 l.length k) WR.heap.size V V.drew := .of_below H0
            have HDa : Hid (V.drew.heap[D1]? = some (.deferred (some []))) := Lib.hid HD1.out
            generalize V.drew = wa at *
            have HKf : Hid (KpB (fun k => k = Bo ∨ inB p2 l.length k) WR.heap.size V (wa.setCell ⟨(N1 + 1), 0, none⟩ (.int .i64 ((x.1 : Int) + 1)))) := Lib.hid (kV.trans (KpB.setCell _ _ _ (by show (N1 + 1) < _; omega) (fun e => e.elim (fun e => by simp only at e; omega) (fun e => by have := HIN.out _ e; simp only at this; omega))))
            have HL : Hid (((pre ++ [x]).length : Int) = (x.1 : Int) + 1) := Lib.hid (by rw [List.length_append, HX.out]; simp)
            have HNf : Hid (CutNow w (wa.setCell ⟨(N1 + 1), 0, none⟩ (.int .i64 ((x.1 : Int) + 1))) l (some ⟨Bb, off, none⟩) cap many Bo p2 c2 N1 (N1 + 1) 1 ((pre ++ [x]).length : Nat)) := Lib.hid (by
              have := HNa.out.count (by omega) (by omega) (fun e => by have := HIN.out _ e; omega) (by omega) ((x.1 : Int) + 1)
              rw [HL.out]
              exact this)
            have HDf : Hid ((wa.setCell ⟨(N1 + 1), 0, none⟩ (.int .i64 ((x.1 : Int) + 1))).heap[D1]? = some (.deferred (some []))) := Lib.hid ((Below.heap_setCell _ _ _ _ (by show D1 ≠ (N1 + 1); omega)).trans HDa.out)
            clear kV
            obtain ⟨cb, cm, -, -, ca, ct, -, cn, cnf, -, -, -⟩ := HNa.out
            gi_wp2_with fail
            exact ⟨by first | exact HKf.out | exact (by have h := HKf.out; rw [S1] at h; exact h), HNf.out, HDf.out⟩
          case done2 =>
            rintro D xs V hD hxs ⟨hN, hpre⟩ hK
            have hl2 : xs.length = secN l.length := by rw [← List.length_map (f := (·.1)), hxs, List.length_range]
            rw [hl2] at hN
            exact ⟨.inl rfl, D, rfl, hK, by omega, hpre, hN⟩
          case stop2 =>
            rintro D c' pre V hD hsp h hK
            exact h.elim
        · rintro D2 V ⟨hK2, hD2, hK1, hN⟩
          clear HF2 F2 S2 HIN D2x
          have HN := Lib.hid hN
          have hDl2 : D2 < V.heap.size := (Array.getElem?_eq_some_iff.1 hK2).1
          have hVn2 : N1 + 1 < V.heap.size := lt_of_cell_some hN.n
          obtain ⟨cb, cm, cr, crf, ca, ct, ctf, cn, cnf, co, cy, cB⟩ := hN
          clear cy cB
          gi_wp2
          rw [roundsIn_succ]
          gi_wp2
          have hD1V : D1 < V.heap.size := (Array.getElem?_eq_some_iff.1 hK1).1
          have hD12 : D1 < D2 := by omega
          have HK := Lib.hid (And.intro hK1 hK2)
          clear cb cm cr crf ca ct ctf cn cnf co hK1 hK2
          go_wp2_with (go_at_call 15; refine (works_any _).mono ?_; rintro e w5 ⟨rfl, b5⟩; have B5 : Below V.heap.size V w5 := ((Below.refl _ _).alloc (Nat.le_refl _) _).trans (b5.mono (by simp)); have L5 := Lib.hid (HN.out.low (Bd := V.heap.size) (by omega) (by omega) (fun k h => by have := hin k h; omega) (by omega) (by omega) B5); have zr := L5.out.r; have zrf := L5.out.rf; have HB5 := Lib.hid B5; clear b5 B5)
          have hb5 : Below w.heap.size w (w5.setCell ⟨w.heap.size + 1 + 1, 0, none⟩ (.bool true)) := L5.out.B.setCell (p := ⟨w.heap.size + 1 + 1, 0, none⟩) (by show w.heap.size ≤ w.heap.size + 1 + 1; omega) _
          have c0 : (w5.setCell ⟨w.heap.size + 1 + 1, 0, none⟩ (.bool true)).cell? ⟨w.heap.size + 1 + 1, 0, none⟩ = some (.bool true) := World.cell?_setCell_same' _ _ _ (by rw [zr]; rfl)
          have hq2 : (w5.setCell ⟨w.heap.size + 1 + 1, 0, none⟩ (.bool true)).heap[D2]? = some (.deferred (some [])) := (Below.heap_setCell _ _ _ _ (by show D2 ≠ w.heap.size + 1 + 1; omega)).trans ((HB5.out.block _ hDl2).trans HK.out.2)
          have hq1 : (w5.setCell ⟨w.heap.size + 1 + 1, 0, none⟩ (.bool true)).heap[D1]? = some (.deferred (some [])) := (Below.heap_setCell _ _ _ _ (by show D1 ≠ w.heap.size + 1 + 1; omega)).trans ((HB5.out.block _ hD1V).trans HK.out.1)
          generalize w5.setCell ⟨w.heap.size + 1 + 1, 0, none⟩ (.bool true) = W5 at hb5 c0 hq2 hq1 ⊢
          have hq1' : (W5.putObj D2 (.deferred none)).heap[D1]? = some (.deferred (some [])) := (World.putObj_heap_other (by omega)).trans hq1
          have c1 : ((W5.putObj D2 (.deferred none)).putObj D1 (.deferred none)).cell? ⟨w.heap.size + 1 + 1, 0, none⟩ = some (.bool true) := (World.cell?_of_block (World.putObj_heap_other (by show w.heap.size + 1 + 1 ≠ D1; omega))).trans ((World.cell?_of_block (World.putObj_heap_other (by show w.heap.size + 1 + 1 ≠ D2; omega))).trans c0)
          have hb6 := hb5.trans (belowK_b (w := w) (Nat.le_refl _) W5 D2 _ (.deferred none) (by omega) hq2 rfl rfl)
          have hb7 := hb6.trans (belowK_b (w := w) (Nat.le_refl _) _ D1 _ (.deferred none) (by omega) hq1' rfl rfl)
          refine ⟨by simp, .inl ⟨_, _, rfl, run_takeDeferred hq2, ?_⟩⟩
          refine ⟨by simp, .inl ⟨_, _, rfl, run_takeDeferred hq1', ?_⟩⟩
          refine ⟨.bool true, ?_, rfl, hb7⟩
          simp [results, Try.results6, go_sem, c1]
theorem cuts_any (l : List Nat) (p : Option Addr) (cap : Nat) (many : Int) (w : World) (hcap : l.length ≤ cap) (hc0 : cap ≤ 9223372036854775807) (hlb : ∀ b ∈ l, b < 256) (hc : BytesAt w p l) :
    Calls Try.prog 6 #[.slice p l.length cap, .int .i64 many] w fun r w' => r = .returned (.bool true) ∧ Below w.heap.size w w' := by
  by_cases h : l.length ≤ 400
  · exact cuts_few l p cap many w h hcap hc0 hlb hc
  · exact cuts_long p l.length cap many w (by omega) (by omega)
end Go.Proofs.Ythnllhfdbnnjhaa
