/- Parts: W69 W50 W51 W52 W70 W55 W56 W57 W58 W59 W60 W61 W62 W63 W64 O29 O36 PE W65 W66. -/
import Derived.Test.YtdanigigjainjaaGreatHB10
import Derived.Shelf.SlMaps.Clone
import Derived.Stop.RegionWithIn
import Derived.ProofKit
import Derived.OpenShut
import Derived.Deep.DeepHandedRow
import Derived.Deep.DeepWitnessRowRef
import Derived.Deep.Slices
import Derived.Lib.SmallJoins
import Derived.ChangeSame
import Derived.Deep.Strs
import Derived.SizedLaws
import Derived.Test.YtdanigigjainjaaGreatRows
namespace Go.Proofs.YtdanigigjainjaaGreat
open Go.RowKit Go.Shelf
attribute [local go_sem] Oper.semAt_some

theorem rising_made (m : Option Nat) (w : World) :
    Calls Tryz.prog 47 #[.map m] w fun r w' => r = .returned (.func (.func 75) #[] #[.pointer (some ⟨w.heap.size, 0, none⟩)]) ∧ w' = w.alloc (.cells #[.map m] 42) := by
  have hmf : ∀ (fn : Fn) (first cap : Array Value) (w : World), (Instr.makeFunc fn first cap).run Tryz.prog w = .ok (.func fn first cap) w := fun _ _ _ _ => rfl
  go_enter Tryz.func47, Tryz.ntmps47
  go_wp2
  go_ret
  exact ⟨rfl, rfl⟩
abbrev valV (g : Nat → Option Value) (k : Nat) : Value := (g k).getD (.slice none 0 0)
abbrev encV (g : Nat → Option Value) (k : Nat) : Array Value := #[.int .i64 (k : Int), valV g k]
set_option maxRecDepth 100000 in
/-- A map is asked, for a value alone. -/
theorem MapV.look1 {w : World} {b n k : Nat} {g : Nat → Option Value} (h : MapV w b g n) (hk : k < 40000) : (Instr.lookup 42 (.map (some b)) (.int .i64 (k : Int)) false).run Tryz.prog w = .ok (valV g k) w := by
  obtain ⟨D, h1, h2, -⟩ := h
  obtain ⟨v, ps, hrun, hv⟩ := h1.lookup Dk.law3 Tryz.underlying42 (zero_bytes w) (zd := .held (.slice none 0 0)) (zp := []) rfl (Dk.key3 hk)
  obtain ⟨e1, e2⟩ := h2 k hk
  rw [hrun]
  unfold idR at hv
  simp only [Option.some.injEq, Prod.mk.injEq] at hv
  unfold valV
  cases hg : g k with
  | none =>
    rw [hg] at e1
    have := Maps.atKey_of_not_has (by simpa using e1) (DataW.held (Value.slice none 0 0))
    rw [this] at hv
    have hv1 : v = Value.slice none 0 0 := by have := hv.1; injection this
    rw [hv1]
    rfl
  | some u =>
    rw [e2 u hg] at hv
    have hv1 : v = u := by have := hv.1; injection this
    rw [hv1]
    rfl
theorem MapO.below {w w' : World} {mo : Option Nat} {g : Nat → Option Value} {n : Nat} (h : MapO w mo g n) (hb : Below w.heap.size w w') : MapO w' mo g n := by
  cases mo with
  | none => exact h
  | some b => exact MapV.below h hb
theorem MapO.kept {w w' : World} {mo : Option Nat} {g : Nat → Option Value} {n : Nat} {M : Nat → Prop} {B : Nat} (h : MapO w mo g n) (hk : KpB M B w w') (hM : ∀ b, mo = some b → M b) : MapO w' mo g n := by
  cases mo with
  | none => exact h
  | some b => exact MapV.of_block h (hk.2 b (MapV.lt h) (.inr (hM b rfl)))
theorem MapO.look1 {w : World} {mo : Option Nat} {g : Nat → Option Value} {n : Nat} (h : MapO w mo g n) {k : Nat} (hk : k ∈ keysV g) : (Instr.lookup 42 (.map mo) (.int .i64 (k : Int)) false).run Tryz.prog w = .ok (valV g k) w := by
  cases mo with
  | none =>
    have := (mem_keysV.1 hk).2
    rw [h k] at this
    cases this
  | some b => exact MapV.look1 h (mem_keysV.1 hk).1
set_option maxRecDepth 100000 in
set_option maxHeartbeats 8000000 in
theorem rising_lowV (n : Nat) (hn : 2 ≤ n) {mo : Option Nat} {nn Bm : Nat} {g : Nat → Option Value} {w : World} (h : MapO w mo g nn) (hnn : nn ≤ 100000) (hm : w.cell? ⟨Bm, 0, none⟩ = some (.map mo)) :
    SeqLow Fence.wide n Tryz.prog 75 #[.pointer (some ⟨Bm, 0, none⟩)] (encV g) (fun k => k = Bm ∨ mo = some k) (fun k _ => k ∈ keysV g) (fun xs => xs = keysV g) (fun pre => pre <+: keysV g) (keysV g).length w := fun ly J Jx W hW hJ hJx hY h0 => by
  have hcW := (hW.cell (p := ⟨Bm, 0, none⟩) (lt_of_cell_some hm)).trans hm
  have hMW := h.below hW
  have S64 := fun W1 (h1 : Hid (MapO W1 mo g nn)) (h2 : Hid (W1.cell? ⟨W1.heap.size - 1, 0, none⟩ = some (.map mo))) => sorted_gives h1.out hnn h2.out
  obtain ⟨L, hL⟩ : ∃ L, L = keysV g := ⟨_, rfl⟩
  have HLm : Hid (∀ i, i < L.length → L.getD i 0 ∈ L) := Lib.hid fun i hi => by
    rw [List.getD_eq_getElem?_getD, List.getElem?_eq_getElem hi]
    exact List.getElem_mem hi
  have hLl : L.length ≤ 40000 := by
    have := keysV_length g
    rw [hL]
    exact this
  rw [← hL] at S64 hY ⊢
  clear h hW hm
  have S1 : Hid (MapO (W.alloc (.cells #[.map mo] 42)) mo g nn) := Lib.hid (hMW.below ((Below.refl _ _).alloc (Nat.le_refl _) _))
  have S2 : Hid ((W.alloc (.cells #[.map mo] 42)).cell? ⟨(W.alloc (.cells #[.map mo] 42)).heap.size - 1, 0, none⟩ = some (.map mo)) := Lib.hid (by
    rw [World.size_alloc, Nat.add_sub_cancel]
    rw [World.cell?_alloc_new]; rfl)
  have S3 := Lib.hid (S64 _ S1 S2)
  rw [World.size_alloc, Nat.add_sub_cancel] at S3
  clear S64 S2
  have HJ := Lib.hid hJ
  have HY := Lib.hid hY
  have H0 := Lib.hid h0
  have HM := Lib.hid hMW
  have HLE := Lib.hid hL
  clear hJ hJx hY h0 hMW hL
  refine callsIn_of_wp Tryz.func75 rfl trivial ?_ rfl
  simp only [Tryz.ntmps75, List.size_toArray, List.length_cons, List.length_nil, Nat.reduceAdd, Nat.reduceSub, Array.replicate_succ, Array.replicate_zero, List.push_toArray, List.append_toArray, List.nil_append, List.cons_append]
  gi_wp2_with (first
    | (refine ⟨trivial, fun _ => by omega, (callsIn_wide.2 (keys_made mo _)).mono ?_⟩; rintro e w' ⟨rfl, rfl⟩)
    | (refine ⟨trivial, fun _ => by omega, (callsIn_wide.2 S3.out).mono ?_⟩; rintro e w1 ⟨p, c, rfl, hK, hB⟩))
  have hs1 : W.heap.size ≤ w1.heap.size := by have := hB.size; simp only [World.size_alloc] at this; omega
  have HB1 : Below W.heap.size W w1 := ((Below.refl _ W).alloc (Nat.le_refl _) _).trans (hB.mono (by omega))
  have J1 : Hid (J [] w1) := Lib.hid (HJ.out _ _ _ H0.out (Nat.le_refl _) HB1)
  have M1 : Hid (MapO w1 mo g nn) := Lib.hid (HM.out.below HB1)
  have C1 : w1.cell? ⟨Bm, 0, none⟩ = some (.map mo) := (HB1.cell (p := ⟨Bm, 0, none⟩) (lt_of_cell_some hcW)).trans hcW
  have K1 : Hid (KeysAt w1 W.heap.size p L) := Lib.hid fun i hi => by
    obtain ⟨gb, e, hg, hc⟩ := hK i hi
    exact ⟨gb, e, by omega, hc⟩
  have HS1 := Lib.hid hs1
  clear hK hB HB1 H0 HM hcW S3 S1 hs1
  gi_loopw [9] (fun i wr => ∃ k : Nat, k ≤ L.length ∧ i = .int .i64 k ∧ Hid (J (L.take k) wr) ∧ Hid (MapO wr mo g nn) ∧ wr.cell? ⟨Bm, 0, none⟩ = some (.map mo) ∧ Hid (KeysAt wr W.heap.size p L) ∧ Hid (W.heap.size ≤ wr.heap.size)) (fun i _ => (L.length - intOf i).toNat)
  case atStart => exact ⟨0, Nat.zero_le _, rfl, by rw [List.take_zero]; exact J1, M1, C1, K1, HS1⟩
  case round =>
    obtain ⟨k, hk, rfl, HJk, HMk, hck, HKk, HSk⟩ := hrel
    by_cases hlt : k < L.length
    · obtain ⟨gb, rfl, hg, hc⟩ := HKk.out k hlt
      have HG := Lib.hid hg
      have hkm := HLm.out k hlt
      have hlk := HMk.out.look1 (k := L.getD k 0) (by rw [← HLE.out]; exact hkm)
      have hyY := HY.out (L.take k) (L.getD k 0) wr HJk.out HSk.out (by rw [List.length_take]; omega) (by rw [← take_next hlt]; exact List.take_prefix _ _) (HLm.out k hlt)
      rw [← take_next hlt] at hyY
      obtain ⟨x, hx⟩ : ∃ x, x = L.getD k 0 := ⟨_, rfl⟩
      rw [← hx] at hlk hyY hkm hc
      obtain ⟨fn, tmps, assign, body, hy, hYR⟩ := hyY
      have HKM := Lib.hid hkm
      clear hg hx hkm
      gi_wp2_with fail
      refine ⟨fun _ => by omega, hYR.mono ?_⟩
      rintro e W3 (⟨rfl, hJ3, hK3⟩ | ⟨rfl, hJx3, hK3⟩)
      · have HJ3 := Lib.hid hJ3
        have HM3 := Lib.hid (HMk.out.kept hK3 (fun b e => .inr e))
        have hc3 := hK3.cell (.inr (.inl rfl)) hck
        have HKs3 := Lib.hid (HKk.out.kept fun k hk hk2 => hK3.2 k hk2 (.inl hk))
        have HS3 : Hid (W.heap.size ≤ W3.heap.size) := Lib.hid (Nat.le_trans HSk.out hK3.1)
        clear hJ3 hK3 hYR hck hlk
        gi_wp2
        go_roundw
        case rel => exact ⟨k + 1, by omega, by go_num, HJ3, HM3, hc3, HKs3, HS3⟩
        case measure => simp [intOf]; omega
      · have HS3 : Hid (W.heap.size ≤ W3.heap.size) := Lib.hid (Nat.le_trans HSk.out hK3.1)
        clear hYR
        gi_wp2
        refine bodyPost_ret (results_none rfl _ _ _) rfl ?_
        exact ⟨⟨_, rfl⟩, HS3.out, .inr ⟨_, List.take_prefix _ _, hJx3⟩⟩
    · obtain rfl : k = L.length := by omega
      gi_wp2
      refine bodyPost_end (results_none rfl _ _ _) rfl ?_
      exact ⟨⟨_, rfl⟩, HSk.out, .inl ⟨_, rfl, by have := HJk.out; rw [List.take_length] at this; exact this⟩⟩
end Go.Proofs.YtdanigigjainjaaGreat
namespace Go.Proofs.YtdanigigjainjaaGreat
open Go.RowKit Go.Shelf

abbrev openFs (d : Option Addr) (f pg : Int) (B : Nat) : List FnV := [⟨39, #[.agg #[.pointer d, .int .i64 f, .int .i64 pg]], #[]⟩, ⟨40, #[.agg #[.pointer d, .int .i64 f, .int .i64 pg]], #[]⟩, ⟨41, #[.pointer (some ⟨B, 0, none⟩)], #[]⟩]
theorem openFs_ent (d : Option Addr) (f pg : Int) (B : Nat) : ∀ x ∈ openFs d f pg B, ∀ args w, (callFunc x.g args).run Tryz.prog w = .ok (.enter x.g args) w := fun x hx => by
  rcases List.mem_cons.1 hx with rfl | hx
  · exact enters_of Tryz.func39 (by kernel_rfl) rfl
  rcases List.mem_cons.1 hx with rfl | hx
  · exact enters_of Tryz.func40 (by kernel_rfl) rfl
  · obtain rfl := List.mem_singleton.1 hx
    exact enters_of Tryz.func41 (by kernel_rfl) rfl
theorem open_nil (f pg : Int) (w : World) : Calls Tryz.prog 10 #[.pointer none, .agg #[.int .i64 f, .int .i64 pg]] w fun r w' => r = .returned (.tuple #[.pointer none, .int .i64 1]) ∧ Below w.heap.size w w' := by
  refine (open_any none f pg (fun e W => e = 1 ∧ Below w.heap.size w W ∧ LogAt W (w.heap.size + 1) ⟨none, f, pg, 0, 0, 0, 0, 0, none⟩) w ?_ ?_).mono ?_
  · intro W g c hb hl hg
    refine (first_stops (openFs none f pg (w.heap.size + 1)) _ (some ⟨g, 0, none⟩) c 1 W (by simp) rfl (by omega) (openFs_ent none f pg (w.heap.size + 1)) ⟨g, 0, rfl, (cell_of_row _ _ 0 _ _ _ hg).trans rfl⟩ (absent_nil f pg W)).mono ?_
    rintro e W' ⟨rfl, h⟩
    exact ⟨1, rfl, rfl, kbT hb h, logAt_below hl h⟩
  · rintro e W ⟨-, -, h⟩
    have hc := logAt_cells h
    exact ⟨hc 0 _ rfl, hc 1 _ rfl, hc 2 _ rfl⟩
  · rintro r W ⟨e, ⟨rfl, h, -⟩, rfl⟩
    exact ⟨rfl, h⟩
theorem open_unfit (Bd : Nat) (s : Dk.DS) (f pg : Int) (F : Foot) (w : World) (hR : Dk.RepD w (.pointer (some ⟨Bd, 0, none⟩)) s F) (hm : 1 ≤ s.many) (he : unfitE f pg s.many ≠ 0) :
    Calls Tryz.prog 10 #[.pointer (some ⟨Bd, 0, none⟩), .agg #[.int .i64 f, .int .i64 pg]] w fun r w' => r = .returned (.tuple #[.pointer none, .int .i64 (unfitE f pg s.many)]) ∧ Below w.heap.size w w' := by
  refine (open_any (some ⟨Bd, 0, none⟩) f pg (fun e W => e = unfitE f pg s.many ∧ Below w.heap.size w W ∧ LogAt W (w.heap.size + 1) ⟨some ⟨Bd, 0, none⟩, f, pg, 0, 0, 0, 0, 0, none⟩) w ?_ ?_).mono ?_
  · intro W g c hb hl hg
    refine first_any (openFs (some ⟨Bd, 0, none⟩) f pg (w.heap.size + 1)) (some ⟨g, 0, none⟩) c (fun i W' => i ≤ 1 ∧ Below W.heap.size W W') _ W (by simp) (openFs_ent _ f pg (w.heap.size + 1)) ?_ ?_ ?_ ⟨Nat.zero_le _, Below.refl _ _⟩
    · rintro i W' ⟨h0, hb2⟩ hi
      refine ⟨g, 0, rfl, ?_⟩
      have hg2 := (hb2.block g (Array.getElem?_eq_some_iff.1 hg).1).trans hg
      rw [Nat.zero_add, cell_of_row _ _ i _ _ _ hg2]
      rcases (show i = 0 ∨ i = 1 by omega) with rfl | rfl <;> rfl
    · rintro i x W' hx ⟨h0, hb2⟩
      rcases (show i = 0 ∨ i = 1 by omega) with rfl | rfl
      · simp only [List.getElem?_cons_zero, Option.some.injEq] at hx
        subst hx
        refine (absent_any s _ f pg F W' (rep_below hR (kbT hb hb2)) hm).mono ?_
        rintro e W2 ⟨rfl, h⟩
        exact ⟨0, rfl, fun _ => ⟨Nat.le_refl _, kbT hb2 h⟩, fun h => absurd rfl h⟩
      · simp only [List.getElem?_cons_succ, List.getElem?_cons_zero, Option.some.injEq] at hx
        subst hx
        refine (unfit_any s _ f pg F W' (rep_below hR (kbT hb hb2)) hm).mono ?_
        rintro e W2 ⟨rfl, h⟩
        exact ⟨_, rfl, fun h => absurd h he, fun _ => ⟨rfl, kbT hb (kbT hb2 h), logAt_below hl (kbT hb2 h)⟩⟩
    · rintro W' ⟨h, -⟩
      simp at h
  · rintro e W ⟨-, -, h⟩
    have hc := logAt_cells h
    exact ⟨hc 0 _ rfl, hc 1 _ rfl, hc 2 _ rfl⟩
  · rintro r W ⟨e, ⟨rfl, h, -⟩, rfl⟩
    rw [if_neg he]
    exact ⟨rfl, h⟩
end Go.Proofs.YtdanigigjainjaaGreat
namespace Go.Proofs.YtdanigigjainjaaGreat
open Go.RowKit Go.Shelf
attribute [local go_sem] Oper.semAt_some

def pageRow (c k : Nat) (i : Nat) : Value := if i < k then .int .u8 (c : Int) else .int .u8 0
theorem meas512 (k : Nat) (h : k < 512) : ((512 : Int) - ((k : Int) + 1)).toNat < ((512 : Int) - (k : Int)).toNat := by omega
set_option maxRecDepth 100000 in
set_option maxHeartbeats 3000000 in
theorem num06 (n : Int) (w : World) : Calls Tryz.prog 8 #[.int .i64 n] w fun r w' => r = .returned (.int .i64 n) ∧ w = w' := by
  go_enter Tryz.func8, Tryz.ntmps8
  go_wp2
  go_ret
  exact ⟨rfl, rfl⟩
set_option maxRecDepth 100000 in
set_option maxHeartbeats 3000000 in
theorem page06 (c : Nat) (w : World) : Calls Tryz.prog 37 #[.int .u8 (c : Int)] w fun r w' => r = .returned (.slice (some ⟨w.heap.size, 0, none⟩) 512 512) ∧ RowB w (List.replicate 512 c) (.slice (some ⟨w.heap.size, 0, none⟩) 512 512) w' := by
  have hmk := run_make_row' (P := Tryz.prog) 49 5 (.int .u8 0) 1 Tryz.underlying49 info5 rfl .i64 .i64 512 (by omega) (by omega)
  rw [show ((512 : Nat) : Int) = 512 from rfl] at hmk
  go_enter Tryz.func37, Tryz.ntmps37
  go_wp2
  have R0 : (w.alloc (.cells (madeCells #[.int .u8 0] 512) 5)).rowIs w.heap.size 5 512 (pageRow c 0) := by
    exact (World.rowIs_made w (.int .u8 0) 512 5).congr fun i hi => by unfold pageRow; rw [if_neg (by omega)]
  have B0 : Below w.heap.size w (w.alloc (.cells (madeCells #[.int .u8 0] 512) 5)) := (Below.refl _ _).alloc (Nat.le_refl _) _
  go_loopw [4] (fun i wr => ∃ k : Nat, k ≤ 512 ∧ i = .int .i64 (k : Int) ∧ wr.rowIs w.heap.size 5 512 (pageRow c k) ∧ Below w.heap.size w wr) (fun i _ => (512 - intOf i).toNat)
  case atStart => exact ⟨0, by omega, rfl, R0, B0⟩
  case round =>
    obtain ⟨k, hk, rfl, R, hB⟩ := hrel
    by_cases hlt : k < 512
    · have hltI : (k : Int) < 512 := by omega
      obtain ⟨hc, hfz⟩ : (∃ v, wr.cell? ⟨w.heap.size, k, none⟩ = some v) ∧ wr.frozen? ⟨w.heap.size, k, none⟩ = false := ⟨⟨_, R.cell (i := k) (by omega)⟩, R.frozen k⟩
      obtain ⟨v0, hc⟩ := hc
      have h2 := R.set k (.int .u8 (c : Int))
      have H2 := Lib.hid h2
      have HB := Lib.hid hB
      clear h2 R hB
      go_wp2
      go_roundw
      case rel => exact ⟨k + 1, hlt, by first | rfl | go_num, H2.out.congr fun i hi => (by unfold pageRow; by_cases h : i = k; subst h; simp; by_cases h3 : i < k; simp [h, h3, show i < k + 1 by omega]; simp [h, h3, show ¬ i < k + 1 by omega]), HB.out.setCell (Nat.le_refl _) _⟩
      case measure => exact meas512 k hlt
    · obtain rfl : k = 512 := by omega
      go_wp2
      go_ret
      exact ⟨rfl, rowB_of_is R (by simp) (by unfold maxLen; omega) (fun i hi => by unfold pageRow; rw [if_pos hi, List.getD_eq_getElem?_getD, List.getElem?_replicate, if_pos hi]; rfl) hB⟩
end Go.Proofs.YtdanigigjainjaaGreat
namespace Go.Proofs.YtdanigigjainjaaGreat
open Go.RowKit Go.Shelf
attribute [local go_sem] Oper.semAt_some

set_option maxRecDepth 100000 in
set_option maxHeartbeats 3000000 in
theorem mclone_nil (w : World) : Calls Tryz.prog 45 #[.map none] w fun r w' => r = .returned (.map none) ∧ w = w' := by
  have hq := fun w => run_eql_map_nil_sl (P := Tryz.prog) w 42 _ _ none Tryz.underlying42
  go_enter Tryz.func45, Tryz.ntmps45
  go_wp2
  go_ret
  exact ⟨rfl, rfl⟩
set_option maxRecDepth 100000 in
set_option maxHeartbeats 3000000 in
theorem pages_none (p : Value) (x : LogV) (w : World) (h : WholeIs p w x) (hm : x.m = none) :
    Calls Tryz.prog 16 #[p] w fun r w' => ∃ b, r = .returned (.func (.func 46) #[] #[.pointer (some ⟨b, 0, none⟩)]) ∧ w.heap.size ≤ b ∧ w'.heap[b]? = some (.cells #[.map none] 42 (0, 0)) ∧ Below w.heap.size w w' := by
  have hmf : ∀ (fn : Fn) (first cap : Array Value) (w : World), (Instr.makeFunc fn first cap).run Tryz.prog w = .ok (.func fn first cap) w := fun _ _ _ _ => rfl
  have C := Lib.hid (h w (Below.refl _ _))
  clear h
  obtain ⟨d, f, pg, sr, E, i, kk, n, m⟩ := x
  simp only at hm
  subst hm
  dsimp only [LogV.cs] at C
  have q1 := fieldLC
  have q2 := fieldCM
  go_enter Tryz.func16, Tryz.ntmps16
  go_wp2_with (first
    | (go_at_call 42; refine C.out.mono ?_; rintro e w1 ⟨rfl, hb⟩; have HB := Lib.hid hb; clear hb)
    | (go_at_call 45; refine (mclone_nil _).mono ?_; rintro e w2 ⟨rfl, rfl⟩)
    | fail)
  go_ret
  first
    | exact ⟨w1.heap.size, rfl, HB.out.size, heap_alloc_new _ _, HB.out.alloc HB.out.size _⟩
    | exact ⟨HB.out.size, heap_alloc_new _ _, HB.out.alloc HB.out.size _⟩
end Go.Proofs.YtdanigigjainjaaGreat
namespace Go.Proofs.YtdanigigjainjaaGreat
open Go.RowKit Go.Shelf
attribute [local go_sem] Oper.semAt_some

abbrev encP (x : Nat × Option Addr × Nat) : Array Value := #[.int .i64 (x.1 : Int), .slice x.2.1 512 x.2.2]
def TP (bt : Nat → List Nat) (K : List Nat) (x : Nat × Option Addr × Nat) (A : World) : Prop := x.1 ∈ K ∧ ByteBlk A 0 x.2.1 (bt x.1)
/-- What a map of pages has: each one's bytes, in blocks X. -/
def PagesBy (w : World) (g : Nat → Option Value) (bt : Nat → List Nat) (X : Foot) : Prop := ∀ k, k ∈ keysV g → ∃ q c, g k = some (.slice q 512 c) ∧ BytesAt w q (bt k) ∧ (bt k).length = 512 ∧ ∀ a, q = some a → X a.block
theorem PagesBy.kept {w w' : World} {g : Nat → Option Value} {bt : Nat → List Nat} {X : Foot} (h : PagesBy w g bt X) (hk : ∀ k, k < w.heap.size → X k → w'.heap[k]? = w.heap[k]?) : PagesBy w' g bt X := fun k hm => by
  obtain ⟨q, c, h1, h2, h3, h4⟩ := h k hm
  exact ⟨q, c, h1, bytes_but h2 (fun a e => hk _ (bytes_lt h2 (by omega) a e) (h4 a e)), h3, h4⟩
theorem PagesBy.below {w w' : World} {g : Nat → Option Value} {bt : Nat → List Nat} {X : Foot} (h : PagesBy w g bt X) (hb : Below w.heap.size w w') : PagesBy w' g bt X := h.kept fun k hk _ => hb.block k hk
set_option maxRecDepth 100000 in
set_option maxHeartbeats 8000000 in
theorem pages_low (n : Nat) (hn : 5 ≤ n) {mo : Option Nat} {nn Ba : Nat} {g : Nat → Option Value} {bt : Nat → List Nat} {X : Foot} {w : World} (h : MapO w mo g nn) (hnn : nn ≤ 100000) (hP : PagesBy w g bt X) (hXlt : ∀ k, X k → k < w.heap.size) (hm : w.cell? ⟨Ba, 0, none⟩ = some (.map mo)) :
    SeqLow Fence.wide n Tryz.prog 46 #[.pointer (some ⟨Ba, 0, none⟩)] encP (fun k => mo = some k ∨ X k) (TP bt (keysV g)) (fun xs => xs.map (·.1) = keysV g) (fun pre => pre.map (·.1) <+: keysV g) (keysV g).length w := fun ly J Jx W hW hJ hJx hY h0 => by
  have hcW := (hW.cell (p := ⟨Ba, 0, none⟩) (lt_of_cell_some hm)).trans hm
  have HM := Lib.hid (h.below hW)
  have HP := Lib.hid (hP.below hW)
  have HJ := Lib.hid hJ
  have HJx := Lib.hid hJx
  have HY := Lib.hid hY
  have H0 := Lib.hid h0
  replace hXlt : ∀ k, X k → k < W.heap.size := fun k hk => Nat.lt_of_lt_of_le (hXlt k hk) hW.size
  clear hJ hJx hY h0 h hP hW hm
  refine callsIn_of_wp_marks Tryz.func46 rfl trivial ?_ rfl
  simp only [Tryz.ntmps46, List.size_toArray, List.length_cons, List.length_nil, Nat.reduceAdd, Nat.reduceSub, Array.replicate_succ, Array.replicate_zero, List.push_toArray, List.append_toArray, List.nil_append, List.cons_append]
  have C0a : (W.alloc (.cells #[.func (.yield ly) #[] #[]] 99)).cell? ⟨Ba, 0, none⟩ = some (.map mo) := (World.cell?_alloc_old _ _ _ (by have := lt_of_cell_some hcW; show Ba ≠ _; simp only at this; omega)).trans hcW
  gi_wp2
  apply wpIn_scope_wide
  gi_wp2
  apply wpIn_label
  gi_wp2_with (refine ⟨trivial, fun _ => by omega, (callsIn_wide.2 (rising_made mo _)).mono ?_⟩; rintro e w' ⟨rfl, rfl⟩)
  generalize hW0 : (W.alloc (.cells #[.func (.yield ly) #[] #[]] 99)).alloc (.cells #[.map mo] 42) = W0
  have B0 : Below W.heap.size W W0 := by subst hW0; exact ((Below.refl _ _).alloc (Nat.le_refl _) _).alloc (by simp) _
  have S0 : W0.heap.size = W.heap.size + 2 := by subst hW0; simp
  have C0 : W0.heap[W.heap.size]? = some (.cells #[.func (.yield ly) #[] #[]] 99 (0, 0)) := by
    subst hW0
    exact (Below.heap_alloc _ _ _ (by simp)).trans (World.alloc_heap_new W _)
  have C1 : W0.cell? ⟨W.heap.size + 1, 0, none⟩ = some (.map mo) := by
    subst hW0
    go_cell
  have M0 : MapO W0 mo g nn := HM.out.below B0
  have P0 : PagesBy W0 g bt X := HP.out.below B0
  have J0 : J [] W0 := HJ.out _ _ _ H0.out (Nat.le_refl _) B0
  have hmlt : ∀ k, mo = some k → k < W.heap.size := fun k e => by
    have := HM.out
    rw [e] at this
    exact MapV.lt this
  clear hW0 H0 C0a
  refine range_norm 0 (fun D V => V.heap[D]? = some (.deferred (some [])) ∧ W.heap.size ≤ V.heap.size ∧ W.heap.size + 2 ≤ D ∧ ((∃ xs : List (Nat × Option Addr × Nat), xs.map (·.1) = keysV g ∧ J xs V) ∨ ∃ pre : List (Nat × Option Addr × Nat), pre.map (·.1) <+: keysV g ∧ Jx pre V)) (fun _ _ h => h) ?_ ?_
  · refine' range_low (n := n) (ι := Nat) rfl (by omega) (gf := 75) (lb := #[.pointer (some ⟨W.heap.size + 1, 0, none⟩)]) rfl trivial (enters_of Tryz.func75 (by kernel_rfl) rfl)
      (rising_lowV (n - 1) (by omega) M0 hnn C1) (fun x i V => x ∈ keysV g ∧ i = 0) (fun x i A l o o' hl hc h => h)
      (fun k h => h.elim (fun h => by omega) (fun h => by have := hmlt k h; omega)) (Below.refl _ _) (fun _ => rfl)
      (fun pre V => ((∃ xs : List (Nat × Option Addr × Nat), xs.map (·.1) = pre ∧ J xs V) ∧ V.heap[W.heap.size]? = some (.cells #[.func (.yield ly) #[] #[]] 99 (0, 0)) ∧ PagesBy V g bt X))
      (fun c pre V => c = .exit 0 ∧ W.heap.size ≤ V.heap.size ∧ ∃ xs : List (Nat × Option Addr × Nat), xs.map (·.1) = pre ∧ Jx xs V)
      (fun s A C h hB hb => ⟨by obtain ⟨xs, e, h⟩ := h.1; exact ⟨xs, e, HJ.out _ _ _ h (by omega) (hb.mono (by omega))⟩, (hb.block _ (by omega)).trans h.2.1, h.2.2.kept fun k hk hX => ?lowX⟩)
      (fun c s A C h hB hb => ⟨h.1, by have := hb.size; omega, by obtain ⟨xs, e, h⟩ := h.2.2; exact ⟨xs, e, HJx.out _ _ _ h (by omega) (hb.mono (by omega))⟩⟩)
      ⟨⟨[], rfl, J0⟩, C0, P0⟩
      (fun x i => { tmps := #[.func (.yield ly) #[] #[], .pointer (some ⟨Ba, 0, none⟩), .pointer (some ⟨W.heap.size, 0, none⟩), .int .i64 (x : Int), valV g x, .map mo, .func (.func 75) #[] #[.pointer (some ⟨W.heap.size + 1, 0, none⟩)], .int .i64 (x : Int), valV g x, undef, undef, undef, undef, undef, undef], defers := [] }) ?assign ?body ?done ?stop
    case lowX => exact hb.block k (by have := hXlt k hX; omega)
    case assign =>
      intro ly2 x V K hs hT hK
      gi_wp2
      exact hK 0 _ ⟨hT, rfl⟩ (Below.refl _ _)
    case body =>
      rintro ly2 pre x i V ⟨⟨xs, rfl, hJ⟩, hb, hP⟩ hs hlen hsp ⟨hxk, rfl⟩
      obtain ⟨q0, c0, hg0, hby, hbl, hqX⟩ := hP x hxk
      have hval : valV g x = .slice q0 512 c0 := by unfold valV; rw [hg0]; rfl
      have hcy : V.drew.cell? ⟨W.heap.size, 0, none⟩ = some (.func (.yield ly) #[] #[]) := cell_of_row V _ 0 _ 99 (0, 0) hb
      have CCL : Hid (∀ V1, Below V.drew.heap.size V.drew V1 → Calls Tryz.prog 44 #[.slice q0 512 c0] V1 fun r w' => ∃ q2 c2, r = .returned (.slice q2 512 c2) ∧ ByteBlk w' V1.heap.size q2 (bt x) ∧ Below V1.heap.size V1 w') := Lib.hid fun V1 hb1 => by
        have := clone_any (bt x) q0 c0 V1 (by omega) (bytesAt_below hby (kbD hb1))
        rw [hbl] at this
        refine this.mono ?_
        rintro e w' ⟨t, rfl, hr⟩
        obtain ⟨q2, c2, rfl, -, -, -, -⟩ := hr.at2
        rw [hbl] at hr ⊢
        exact ⟨q2, c2, rfl, ByteBlk.of hr (by omega), hr.2⟩
      have HNX : Hid (∀ W4 q4 c4, Below V.drew.heap.size V.drew W4 → ByteBlk W4 V.drew.heap.size q4 (bt x) → YieldAt Fence.wide (n - 1) Tryz.prog ly (encP (x, q4, c4)) W4 fun e A' => (e = .returned (.bool true) ∧ J (xs ++ [(x, q4, c4)]) A' ∧ KpB (fun k => mo = some k ∨ X k) W.heap.size W4 A') ∨ (e = .returned (.bool false) ∧ Jx (xs ++ [(x, q4, c4)]) A' ∧ KpB (fun k => mo = some k ∨ X k) W.heap.size W4 A')) := Lib.hid fun W4 q4 c4 hb4 hk4 =>
        HY.out xs (x, q4, c4) W4 (HJ.out _ _ _ hJ (by omega) ((kbD hb4).mono (by omega))) (by have := hb4.size; simp at this; omega) (by rw [← List.length_map (f := (·.1))]; exact hlen) (prefix_map hsp) ⟨hxk, hk4.mono (Nat.zero_le _)⟩
      have hkp : ∀ W4 W3, Below V.drew.heap.size V.drew W4 → KpB (fun k => mo = some k ∨ X k) W.heap.size W4 W3 → KpB (fun k => k = W.heap.size + 1 ∨ mo = some k) (W.heap.size + 2) V W3 := fun W4 W3 hb4 hK3 => (KpB.of_below (kbD hb4)).trans (hK3.mono fun k h => h.elim (fun h => .inl (by omega)) (fun h => h.elim (fun h => .inl (by omega)) (fun h => .inr (.inl h))))
      have FIN1 : Hid (∀ W4 W3 q4 c4, Below V.drew.heap.size V.drew W4 → J (xs ++ [(x, q4, c4)]) W3 → KpB (fun k => mo = some k ∨ X k) W.heap.size W4 W3 → KpB (fun k => k = W.heap.size + 1 ∨ mo = some k) (W.heap.size + 2) V W3 ∧ (∃ xs', List.map (fun x => x.fst) xs' = List.map (fun x => x.fst) xs ++ [x] ∧ J xs' W3) ∧ W3.heap[W.heap.size]? = some (.cells #[.func (.yield ly) #[] #[]] 99 (0, 0)) ∧ PagesBy W3 g bt X) := Lib.hid fun W4 W3 q4 c4 hb4 hJ3 hK3 => by
        have hbV := kbD hb4
        have hwl := (Array.getElem?_eq_some_iff.1 hb).1
        exact ⟨hkp W4 W3 hb4 hK3, ⟨_, by rw [List.map_append]; rfl, hJ3⟩, (hK3.2 _ (by have := hbV.size; omega) (.inl (Nat.le_refl _))).trans ((hbV.block _ hwl).trans hb), (hP.below hbV).kept fun k hk hX => hK3.2 k hk (.inr (.inr hX))⟩
      have FIN2 : Hid (∀ W4 W3 q4 c4, Below V.drew.heap.size V.drew W4 → Jx (xs ++ [(x, q4, c4)]) W3 → KpB (fun k => mo = some k ∨ X k) W.heap.size W4 W3 → KpB (fun k => k = W.heap.size + 1 ∨ mo = some k) (W.heap.size + 2) V W3 ∧ W.heap.size ≤ W3.heap.size ∧ ∃ xs', List.map (fun x => x.fst) xs' = List.map (fun x => x.fst) xs ++ [x] ∧ Jx xs' W3) := Lib.hid fun W4 W3 q4 c4 hb4 hJ3 hK3 =>
        ⟨hkp W4 W3 hb4 hK3, by have := hb4.size; have := hK3.1; simp at *; omega, ⟨_, by rw [List.map_append]; rfl, hJ3⟩⟩
      rw [hval]
      clear hkp hP hby hg0 hbl hqX hval hJ hlen hsp hxk
      apply wpIn_block
      apply wpIn_seq_k
      intro K1 hK1
      refine wpIn_region_any (by kernel_rfl) ?_
      try (change wpAnyIn _ _ _ _ _ _ _ _ _ (World.drew _))
      refine wpAnyIn_ready (rs := [0, 1, 2]) (by kernel_rfl) (by simp) ?_
      refine AllReadyIn.cons rfl (fun K hK => ?_) ?_
      · -- 0
        go_simp
        refine hK _ _ ?_
        clear hK K
        try simp only [Act.put, List.setIfInBounds_toArray, List.set_cons_zero, List.set_cons_succ]
        refine wpAnyIn_ready (rs := [1, 2]) (by kernel_rfl) (by simp) ?_
        refine AllReadyIn.cons rfl (fun K hK => ?_) ?_
        · -- 1
          go_simp
          refine hK _ _ ?_
          clear hK K
          try simp only [Act.put, List.setIfInBounds_toArray, List.set_cons_zero, List.set_cons_succ]
          refine wpAnyIn_ready (rs := [2]) (by kernel_rfl) (by simp) ?_
          refine AllReadyIn.cons rfl (fun K hK => ?_) ?_
          · -- 2
            go_simp
            refine hK _ _ ?_
            clear hK K
            try simp only [Act.put, List.setIfInBounds_toArray, List.set_cons_zero, List.set_cons_succ]
            refine wpAnyIn_ready (rs := [3]) (by kernel_rfl) (by simp) ?_
            refine AllReadyIn.cons rfl (fun K hK => ?_) ?_
            · -- 3
              go_simp
              refine ⟨trivial, fun _ => by omega, CallsIn.inRound ly2 ((callsIn_wide.2 (CCL.out _ (Below.refl _ _))).mono ?_)⟩
              rintro e W4 ⟨q4, c4, rfl, hk4, hb4⟩
              have hcy4 := (hb4.cell (lt_of_cell_some hcy)).trans hcy
              have HX4 := Lib.hid (And.intro hk4 hb4)
              clear hk4 hb4 hcy
              refine hK _ _ ?_
              clear hK K
              try simp only [Act.put, List.setIfInBounds_toArray, List.set_cons_zero, List.set_cons_succ]
              refine wpAnyIn_ready (rs := [4]) (by kernel_rfl) (by simp) ?_
              refine AllReadyIn.cons rfl (fun K hK => ?_) ?_
              · -- 4
                obtain ⟨fn, tmps, assign, body, hy, hYR⟩ := HNX.out W4 q4 c4 HX4.out.2 HX4.out.1
                go_simp
                refine ⟨fun _ => by omega, (round_wide hYR).mono ?_⟩
                rintro e W3 (⟨rfl, hJ3, hK3⟩ | ⟨rfl, hJx3, hK3⟩)
                · refine hK _ _ ?_
                  clear hK K
                  try simp only [Act.put, List.setIfInBounds_toArray, List.set_cons_zero, List.set_cons_succ]
                  refine wpAnyIn_ready (rs := [5]) (by kernel_rfl) (by simp) ?_
                  refine AllReadyIn.cons rfl (fun K hK => ?_) AllReadyIn.nil
                  go_simp
                  refine hK _ _ (wpAnyIn_done (by kernel_rfl) (hK1 _ _ ?_) _)
                  gi_wp2
                  exact FIN1.out W4 W3 q4 c4 HX4.out.2 hJ3 hK3
                · refine hK _ _ ?_
                  clear hK K
                  try simp only [Act.put, List.setIfInBounds_toArray, List.set_cons_zero, List.set_cons_succ]
                  refine wpAnyIn_ready (rs := [5]) (by kernel_rfl) (by simp) ?_
                  refine AllReadyIn.cons rfl (fun K hK => ?_) AllReadyIn.nil
                  go_simp
                  refine hK _ _ (wpAnyIn_done (by kernel_rfl) (hK1 _ _ ?_) _)
                  gi_wp2
                  exact ⟨(FIN2.out W4 W3 q4 c4 HX4.out.2 hJx3 hK3).1, rfl, (FIN2.out W4 W3 q4 c4 HX4.out.2 hJx3 hK3).2⟩
              exact AllReadyIn.nil
            exact AllReadyIn.nil
          exact AllReadyIn.nil
        refine AllReadyIn.cons rfl (fun K hK => ?_) ?_
        · -- 2
          go_simp
          refine hK _ _ ?_
          clear hK K
          try simp only [Act.put, List.setIfInBounds_toArray, List.set_cons_zero, List.set_cons_succ]
          refine wpAnyIn_ready (rs := [1, 3]) (by kernel_rfl) (by simp) ?_
          refine AllReadyIn.cons rfl (fun K hK => ?_) ?_
          · -- 1
            go_simp
            refine hK _ _ ?_
            clear hK K
            try simp only [Act.put, List.setIfInBounds_toArray, List.set_cons_zero, List.set_cons_succ]
            refine wpAnyIn_ready (rs := [3]) (by kernel_rfl) (by simp) ?_
            refine AllReadyIn.cons rfl (fun K hK => ?_) ?_
            · -- 3
              go_simp
              refine ⟨trivial, fun _ => by omega, CallsIn.inRound ly2 ((callsIn_wide.2 (CCL.out _ (Below.refl _ _))).mono ?_)⟩
              rintro e W4 ⟨q4, c4, rfl, hk4, hb4⟩
              have hcy4 := (hb4.cell (lt_of_cell_some hcy)).trans hcy
              have HX4 := Lib.hid (And.intro hk4 hb4)
              clear hk4 hb4 hcy
              refine hK _ _ ?_
              clear hK K
              try simp only [Act.put, List.setIfInBounds_toArray, List.set_cons_zero, List.set_cons_succ]
              refine wpAnyIn_ready (rs := [4]) (by kernel_rfl) (by simp) ?_
              refine AllReadyIn.cons rfl (fun K hK => ?_) ?_
              · -- 4
                obtain ⟨fn, tmps, assign, body, hy, hYR⟩ := HNX.out W4 q4 c4 HX4.out.2 HX4.out.1
                go_simp
                refine ⟨fun _ => by omega, (round_wide hYR).mono ?_⟩
                rintro e W3 (⟨rfl, hJ3, hK3⟩ | ⟨rfl, hJx3, hK3⟩)
                · refine hK _ _ ?_
                  clear hK K
                  try simp only [Act.put, List.setIfInBounds_toArray, List.set_cons_zero, List.set_cons_succ]
                  refine wpAnyIn_ready (rs := [5]) (by kernel_rfl) (by simp) ?_
                  refine AllReadyIn.cons rfl (fun K hK => ?_) AllReadyIn.nil
                  go_simp
                  refine hK _ _ (wpAnyIn_done (by kernel_rfl) (hK1 _ _ ?_) _)
                  gi_wp2
                  exact FIN1.out W4 W3 q4 c4 HX4.out.2 hJ3 hK3
                · refine hK _ _ ?_
                  clear hK K
                  try simp only [Act.put, List.setIfInBounds_toArray, List.set_cons_zero, List.set_cons_succ]
                  refine wpAnyIn_ready (rs := [5]) (by kernel_rfl) (by simp) ?_
                  refine AllReadyIn.cons rfl (fun K hK => ?_) AllReadyIn.nil
                  go_simp
                  refine hK _ _ (wpAnyIn_done (by kernel_rfl) (hK1 _ _ ?_) _)
                  gi_wp2
                  exact ⟨(FIN2.out W4 W3 q4 c4 HX4.out.2 hJx3 hK3).1, rfl, (FIN2.out W4 W3 q4 c4 HX4.out.2 hJx3 hK3).2⟩
              exact AllReadyIn.nil
            exact AllReadyIn.nil
          refine AllReadyIn.cons rfl (fun K hK => ?_) ?_
          · -- 3
            go_simp
            refine ⟨trivial, fun _ => by omega, CallsIn.inRound ly2 ((callsIn_wide.2 (CCL.out _ (Below.refl _ _))).mono ?_)⟩
            rintro e W4 ⟨q4, c4, rfl, hk4, hb4⟩
            have hcy4 := (hb4.cell (lt_of_cell_some hcy)).trans hcy
            have HX4 := Lib.hid (And.intro hk4 hb4)
            clear hk4 hb4 hcy
            refine hK _ _ ?_
            clear hK K
            try simp only [Act.put, List.setIfInBounds_toArray, List.set_cons_zero, List.set_cons_succ]
            refine wpAnyIn_ready (rs := [1]) (by kernel_rfl) (by simp) ?_
            refine AllReadyIn.cons rfl (fun K hK => ?_) ?_
            · -- 1
              go_simp
              refine hK _ _ ?_
              clear hK K
              try simp only [Act.put, List.setIfInBounds_toArray, List.set_cons_zero, List.set_cons_succ]
              refine wpAnyIn_ready (rs := [4]) (by kernel_rfl) (by simp) ?_
              refine AllReadyIn.cons rfl (fun K hK => ?_) ?_
              · -- 4
                obtain ⟨fn, tmps, assign, body, hy, hYR⟩ := HNX.out W4 q4 c4 HX4.out.2 HX4.out.1
                go_simp
                refine ⟨fun _ => by omega, (round_wide hYR).mono ?_⟩
                rintro e W3 (⟨rfl, hJ3, hK3⟩ | ⟨rfl, hJx3, hK3⟩)
                · refine hK _ _ ?_
                  clear hK K
                  try simp only [Act.put, List.setIfInBounds_toArray, List.set_cons_zero, List.set_cons_succ]
                  refine wpAnyIn_ready (rs := [5]) (by kernel_rfl) (by simp) ?_
                  refine AllReadyIn.cons rfl (fun K hK => ?_) AllReadyIn.nil
                  go_simp
                  refine hK _ _ (wpAnyIn_done (by kernel_rfl) (hK1 _ _ ?_) _)
                  gi_wp2
                  exact FIN1.out W4 W3 q4 c4 HX4.out.2 hJ3 hK3
                · refine hK _ _ ?_
                  clear hK K
                  try simp only [Act.put, List.setIfInBounds_toArray, List.set_cons_zero, List.set_cons_succ]
                  refine wpAnyIn_ready (rs := [5]) (by kernel_rfl) (by simp) ?_
                  refine AllReadyIn.cons rfl (fun K hK => ?_) AllReadyIn.nil
                  go_simp
                  refine hK _ _ (wpAnyIn_done (by kernel_rfl) (hK1 _ _ ?_) _)
                  gi_wp2
                  exact ⟨(FIN2.out W4 W3 q4 c4 HX4.out.2 hJx3 hK3).1, rfl, (FIN2.out W4 W3 q4 c4 HX4.out.2 hJx3 hK3).2⟩
              exact AllReadyIn.nil
            exact AllReadyIn.nil
          exact AllReadyIn.nil
        exact AllReadyIn.nil
      refine AllReadyIn.cons rfl (fun K hK => ?_) ?_
      · -- 1
        go_simp
        refine hK _ _ ?_
        clear hK K
        try simp only [Act.put, List.setIfInBounds_toArray, List.set_cons_zero, List.set_cons_succ]
        refine wpAnyIn_ready (rs := [0, 2]) (by kernel_rfl) (by simp) ?_
        refine AllReadyIn.cons rfl (fun K hK => ?_) ?_
        · -- 0
          go_simp
          refine hK _ _ ?_
          clear hK K
          try simp only [Act.put, List.setIfInBounds_toArray, List.set_cons_zero, List.set_cons_succ]
          refine wpAnyIn_ready (rs := [2]) (by kernel_rfl) (by simp) ?_
          refine AllReadyIn.cons rfl (fun K hK => ?_) ?_
          · -- 2
            go_simp
            refine hK _ _ ?_
            clear hK K
            try simp only [Act.put, List.setIfInBounds_toArray, List.set_cons_zero, List.set_cons_succ]
            refine wpAnyIn_ready (rs := [3]) (by kernel_rfl) (by simp) ?_
            refine AllReadyIn.cons rfl (fun K hK => ?_) ?_
            · -- 3
              go_simp
              refine ⟨trivial, fun _ => by omega, CallsIn.inRound ly2 ((callsIn_wide.2 (CCL.out _ (Below.refl _ _))).mono ?_)⟩
              rintro e W4 ⟨q4, c4, rfl, hk4, hb4⟩
              have hcy4 := (hb4.cell (lt_of_cell_some hcy)).trans hcy
              have HX4 := Lib.hid (And.intro hk4 hb4)
              clear hk4 hb4 hcy
              refine hK _ _ ?_
              clear hK K
              try simp only [Act.put, List.setIfInBounds_toArray, List.set_cons_zero, List.set_cons_succ]
              refine wpAnyIn_ready (rs := [4]) (by kernel_rfl) (by simp) ?_
              refine AllReadyIn.cons rfl (fun K hK => ?_) ?_
              · -- 4
                obtain ⟨fn, tmps, assign, body, hy, hYR⟩ := HNX.out W4 q4 c4 HX4.out.2 HX4.out.1
                go_simp
                refine ⟨fun _ => by omega, (round_wide hYR).mono ?_⟩
                rintro e W3 (⟨rfl, hJ3, hK3⟩ | ⟨rfl, hJx3, hK3⟩)
                · refine hK _ _ ?_
                  clear hK K
                  try simp only [Act.put, List.setIfInBounds_toArray, List.set_cons_zero, List.set_cons_succ]
                  refine wpAnyIn_ready (rs := [5]) (by kernel_rfl) (by simp) ?_
                  refine AllReadyIn.cons rfl (fun K hK => ?_) AllReadyIn.nil
                  go_simp
                  refine hK _ _ (wpAnyIn_done (by kernel_rfl) (hK1 _ _ ?_) _)
                  gi_wp2
                  exact FIN1.out W4 W3 q4 c4 HX4.out.2 hJ3 hK3
                · refine hK _ _ ?_
                  clear hK K
                  try simp only [Act.put, List.setIfInBounds_toArray, List.set_cons_zero, List.set_cons_succ]
                  refine wpAnyIn_ready (rs := [5]) (by kernel_rfl) (by simp) ?_
                  refine AllReadyIn.cons rfl (fun K hK => ?_) AllReadyIn.nil
                  go_simp
                  refine hK _ _ (wpAnyIn_done (by kernel_rfl) (hK1 _ _ ?_) _)
                  gi_wp2
                  exact ⟨(FIN2.out W4 W3 q4 c4 HX4.out.2 hJx3 hK3).1, rfl, (FIN2.out W4 W3 q4 c4 HX4.out.2 hJx3 hK3).2⟩
              exact AllReadyIn.nil
            exact AllReadyIn.nil
          exact AllReadyIn.nil
        refine AllReadyIn.cons rfl (fun K hK => ?_) ?_
        · -- 2
          go_simp
          refine hK _ _ ?_
          clear hK K
          try simp only [Act.put, List.setIfInBounds_toArray, List.set_cons_zero, List.set_cons_succ]
          refine wpAnyIn_ready (rs := [0, 3]) (by kernel_rfl) (by simp) ?_
          refine AllReadyIn.cons rfl (fun K hK => ?_) ?_
          · -- 0
            go_simp
            refine hK _ _ ?_
            clear hK K
            try simp only [Act.put, List.setIfInBounds_toArray, List.set_cons_zero, List.set_cons_succ]
            refine wpAnyIn_ready (rs := [3]) (by kernel_rfl) (by simp) ?_
            refine AllReadyIn.cons rfl (fun K hK => ?_) ?_
            · -- 3
              go_simp
              refine ⟨trivial, fun _ => by omega, CallsIn.inRound ly2 ((callsIn_wide.2 (CCL.out _ (Below.refl _ _))).mono ?_)⟩
              rintro e W4 ⟨q4, c4, rfl, hk4, hb4⟩
              have hcy4 := (hb4.cell (lt_of_cell_some hcy)).trans hcy
              have HX4 := Lib.hid (And.intro hk4 hb4)
              clear hk4 hb4 hcy
              refine hK _ _ ?_
              clear hK K
              try simp only [Act.put, List.setIfInBounds_toArray, List.set_cons_zero, List.set_cons_succ]
              refine wpAnyIn_ready (rs := [4]) (by kernel_rfl) (by simp) ?_
              refine AllReadyIn.cons rfl (fun K hK => ?_) ?_
              · -- 4
                obtain ⟨fn, tmps, assign, body, hy, hYR⟩ := HNX.out W4 q4 c4 HX4.out.2 HX4.out.1
                go_simp
                refine ⟨fun _ => by omega, (round_wide hYR).mono ?_⟩
                rintro e W3 (⟨rfl, hJ3, hK3⟩ | ⟨rfl, hJx3, hK3⟩)
                · refine hK _ _ ?_
                  clear hK K
                  try simp only [Act.put, List.setIfInBounds_toArray, List.set_cons_zero, List.set_cons_succ]
                  refine wpAnyIn_ready (rs := [5]) (by kernel_rfl) (by simp) ?_
                  refine AllReadyIn.cons rfl (fun K hK => ?_) AllReadyIn.nil
                  go_simp
                  refine hK _ _ (wpAnyIn_done (by kernel_rfl) (hK1 _ _ ?_) _)
                  gi_wp2
                  exact FIN1.out W4 W3 q4 c4 HX4.out.2 hJ3 hK3
                · refine hK _ _ ?_
                  clear hK K
                  try simp only [Act.put, List.setIfInBounds_toArray, List.set_cons_zero, List.set_cons_succ]
                  refine wpAnyIn_ready (rs := [5]) (by kernel_rfl) (by simp) ?_
                  refine AllReadyIn.cons rfl (fun K hK => ?_) AllReadyIn.nil
                  go_simp
                  refine hK _ _ (wpAnyIn_done (by kernel_rfl) (hK1 _ _ ?_) _)
                  gi_wp2
                  exact ⟨(FIN2.out W4 W3 q4 c4 HX4.out.2 hJx3 hK3).1, rfl, (FIN2.out W4 W3 q4 c4 HX4.out.2 hJx3 hK3).2⟩
              exact AllReadyIn.nil
            exact AllReadyIn.nil
          refine AllReadyIn.cons rfl (fun K hK => ?_) ?_
          · -- 3
            go_simp
            refine ⟨trivial, fun _ => by omega, CallsIn.inRound ly2 ((callsIn_wide.2 (CCL.out _ (Below.refl _ _))).mono ?_)⟩
            rintro e W4 ⟨q4, c4, rfl, hk4, hb4⟩
            have hcy4 := (hb4.cell (lt_of_cell_some hcy)).trans hcy
            have HX4 := Lib.hid (And.intro hk4 hb4)
            clear hk4 hb4 hcy
            refine hK _ _ ?_
            clear hK K
            try simp only [Act.put, List.setIfInBounds_toArray, List.set_cons_zero, List.set_cons_succ]
            refine wpAnyIn_ready (rs := [0]) (by kernel_rfl) (by simp) ?_
            refine AllReadyIn.cons rfl (fun K hK => ?_) ?_
            · -- 0
              go_simp
              refine hK _ _ ?_
              clear hK K
              try simp only [Act.put, List.setIfInBounds_toArray, List.set_cons_zero, List.set_cons_succ]
              refine wpAnyIn_ready (rs := [4]) (by kernel_rfl) (by simp) ?_
              refine AllReadyIn.cons rfl (fun K hK => ?_) ?_
              · -- 4
                obtain ⟨fn, tmps, assign, body, hy, hYR⟩ := HNX.out W4 q4 c4 HX4.out.2 HX4.out.1
                go_simp
                refine ⟨fun _ => by omega, (round_wide hYR).mono ?_⟩
                rintro e W3 (⟨rfl, hJ3, hK3⟩ | ⟨rfl, hJx3, hK3⟩)
                · refine hK _ _ ?_
                  clear hK K
                  try simp only [Act.put, List.setIfInBounds_toArray, List.set_cons_zero, List.set_cons_succ]
                  refine wpAnyIn_ready (rs := [5]) (by kernel_rfl) (by simp) ?_
                  refine AllReadyIn.cons rfl (fun K hK => ?_) AllReadyIn.nil
                  go_simp
                  refine hK _ _ (wpAnyIn_done (by kernel_rfl) (hK1 _ _ ?_) _)
                  gi_wp2
                  exact FIN1.out W4 W3 q4 c4 HX4.out.2 hJ3 hK3
                · refine hK _ _ ?_
                  clear hK K
                  try simp only [Act.put, List.setIfInBounds_toArray, List.set_cons_zero, List.set_cons_succ]
                  refine wpAnyIn_ready (rs := [5]) (by kernel_rfl) (by simp) ?_
                  refine AllReadyIn.cons rfl (fun K hK => ?_) AllReadyIn.nil
                  go_simp
                  refine hK _ _ (wpAnyIn_done (by kernel_rfl) (hK1 _ _ ?_) _)
                  gi_wp2
                  exact ⟨(FIN2.out W4 W3 q4 c4 HX4.out.2 hJx3 hK3).1, rfl, (FIN2.out W4 W3 q4 c4 HX4.out.2 hJx3 hK3).2⟩
              exact AllReadyIn.nil
            exact AllReadyIn.nil
          exact AllReadyIn.nil
        exact AllReadyIn.nil
      refine AllReadyIn.cons rfl (fun K hK => ?_) ?_
      · -- 2
        go_simp
        refine hK _ _ ?_
        clear hK K
        try simp only [Act.put, List.setIfInBounds_toArray, List.set_cons_zero, List.set_cons_succ]
        refine wpAnyIn_ready (rs := [0, 1, 3]) (by kernel_rfl) (by simp) ?_
        refine AllReadyIn.cons rfl (fun K hK => ?_) ?_
        · -- 0
          go_simp
          refine hK _ _ ?_
          clear hK K
          try simp only [Act.put, List.setIfInBounds_toArray, List.set_cons_zero, List.set_cons_succ]
          refine wpAnyIn_ready (rs := [1, 3]) (by kernel_rfl) (by simp) ?_
          refine AllReadyIn.cons rfl (fun K hK => ?_) ?_
          · -- 1
            go_simp
            refine hK _ _ ?_
            clear hK K
            try simp only [Act.put, List.setIfInBounds_toArray, List.set_cons_zero, List.set_cons_succ]
            refine wpAnyIn_ready (rs := [3]) (by kernel_rfl) (by simp) ?_
            refine AllReadyIn.cons rfl (fun K hK => ?_) ?_
            · -- 3
              go_simp
              refine ⟨trivial, fun _ => by omega, CallsIn.inRound ly2 ((callsIn_wide.2 (CCL.out _ (Below.refl _ _))).mono ?_)⟩
              rintro e W4 ⟨q4, c4, rfl, hk4, hb4⟩
              have hcy4 := (hb4.cell (lt_of_cell_some hcy)).trans hcy
              have HX4 := Lib.hid (And.intro hk4 hb4)
              clear hk4 hb4 hcy
              refine hK _ _ ?_
              clear hK K
              try simp only [Act.put, List.setIfInBounds_toArray, List.set_cons_zero, List.set_cons_succ]
              refine wpAnyIn_ready (rs := [4]) (by kernel_rfl) (by simp) ?_
              refine AllReadyIn.cons rfl (fun K hK => ?_) ?_
              · -- 4
                obtain ⟨fn, tmps, assign, body, hy, hYR⟩ := HNX.out W4 q4 c4 HX4.out.2 HX4.out.1
                go_simp
                refine ⟨fun _ => by omega, (round_wide hYR).mono ?_⟩
                rintro e W3 (⟨rfl, hJ3, hK3⟩ | ⟨rfl, hJx3, hK3⟩)
                · refine hK _ _ ?_
                  clear hK K
                  try simp only [Act.put, List.setIfInBounds_toArray, List.set_cons_zero, List.set_cons_succ]
                  refine wpAnyIn_ready (rs := [5]) (by kernel_rfl) (by simp) ?_
                  refine AllReadyIn.cons rfl (fun K hK => ?_) AllReadyIn.nil
                  go_simp
                  refine hK _ _ (wpAnyIn_done (by kernel_rfl) (hK1 _ _ ?_) _)
                  gi_wp2
                  exact FIN1.out W4 W3 q4 c4 HX4.out.2 hJ3 hK3
                · refine hK _ _ ?_
                  clear hK K
                  try simp only [Act.put, List.setIfInBounds_toArray, List.set_cons_zero, List.set_cons_succ]
                  refine wpAnyIn_ready (rs := [5]) (by kernel_rfl) (by simp) ?_
                  refine AllReadyIn.cons rfl (fun K hK => ?_) AllReadyIn.nil
                  go_simp
                  refine hK _ _ (wpAnyIn_done (by kernel_rfl) (hK1 _ _ ?_) _)
                  gi_wp2
                  exact ⟨(FIN2.out W4 W3 q4 c4 HX4.out.2 hJx3 hK3).1, rfl, (FIN2.out W4 W3 q4 c4 HX4.out.2 hJx3 hK3).2⟩
              exact AllReadyIn.nil
            exact AllReadyIn.nil
          refine AllReadyIn.cons rfl (fun K hK => ?_) ?_
          · -- 3
            go_simp
            refine ⟨trivial, fun _ => by omega, CallsIn.inRound ly2 ((callsIn_wide.2 (CCL.out _ (Below.refl _ _))).mono ?_)⟩
            rintro e W4 ⟨q4, c4, rfl, hk4, hb4⟩
            have hcy4 := (hb4.cell (lt_of_cell_some hcy)).trans hcy
            have HX4 := Lib.hid (And.intro hk4 hb4)
            clear hk4 hb4 hcy
            refine hK _ _ ?_
            clear hK K
            try simp only [Act.put, List.setIfInBounds_toArray, List.set_cons_zero, List.set_cons_succ]
            refine wpAnyIn_ready (rs := [1]) (by kernel_rfl) (by simp) ?_
            refine AllReadyIn.cons rfl (fun K hK => ?_) ?_
            · -- 1
              go_simp
              refine hK _ _ ?_
              clear hK K
              try simp only [Act.put, List.setIfInBounds_toArray, List.set_cons_zero, List.set_cons_succ]
              refine wpAnyIn_ready (rs := [4]) (by kernel_rfl) (by simp) ?_
              refine AllReadyIn.cons rfl (fun K hK => ?_) ?_
              · -- 4
                obtain ⟨fn, tmps, assign, body, hy, hYR⟩ := HNX.out W4 q4 c4 HX4.out.2 HX4.out.1
                go_simp
                refine ⟨fun _ => by omega, (round_wide hYR).mono ?_⟩
                rintro e W3 (⟨rfl, hJ3, hK3⟩ | ⟨rfl, hJx3, hK3⟩)
                · refine hK _ _ ?_
                  clear hK K
                  try simp only [Act.put, List.setIfInBounds_toArray, List.set_cons_zero, List.set_cons_succ]
                  refine wpAnyIn_ready (rs := [5]) (by kernel_rfl) (by simp) ?_
                  refine AllReadyIn.cons rfl (fun K hK => ?_) AllReadyIn.nil
                  go_simp
                  refine hK _ _ (wpAnyIn_done (by kernel_rfl) (hK1 _ _ ?_) _)
                  gi_wp2
                  exact FIN1.out W4 W3 q4 c4 HX4.out.2 hJ3 hK3
                · refine hK _ _ ?_
                  clear hK K
                  try simp only [Act.put, List.setIfInBounds_toArray, List.set_cons_zero, List.set_cons_succ]
                  refine wpAnyIn_ready (rs := [5]) (by kernel_rfl) (by simp) ?_
                  refine AllReadyIn.cons rfl (fun K hK => ?_) AllReadyIn.nil
                  go_simp
                  refine hK _ _ (wpAnyIn_done (by kernel_rfl) (hK1 _ _ ?_) _)
                  gi_wp2
                  exact ⟨(FIN2.out W4 W3 q4 c4 HX4.out.2 hJx3 hK3).1, rfl, (FIN2.out W4 W3 q4 c4 HX4.out.2 hJx3 hK3).2⟩
              exact AllReadyIn.nil
            exact AllReadyIn.nil
          exact AllReadyIn.nil
        refine AllReadyIn.cons rfl (fun K hK => ?_) ?_
        · -- 1
          go_simp
          refine hK _ _ ?_
          clear hK K
          try simp only [Act.put, List.setIfInBounds_toArray, List.set_cons_zero, List.set_cons_succ]
          refine wpAnyIn_ready (rs := [0, 3]) (by kernel_rfl) (by simp) ?_
          refine AllReadyIn.cons rfl (fun K hK => ?_) ?_
          · -- 0
            go_simp
            refine hK _ _ ?_
            clear hK K
            try simp only [Act.put, List.setIfInBounds_toArray, List.set_cons_zero, List.set_cons_succ]
            refine wpAnyIn_ready (rs := [3]) (by kernel_rfl) (by simp) ?_
            refine AllReadyIn.cons rfl (fun K hK => ?_) ?_
            · -- 3
              go_simp
              refine ⟨trivial, fun _ => by omega, CallsIn.inRound ly2 ((callsIn_wide.2 (CCL.out _ (Below.refl _ _))).mono ?_)⟩
              rintro e W4 ⟨q4, c4, rfl, hk4, hb4⟩
              have hcy4 := (hb4.cell (lt_of_cell_some hcy)).trans hcy
              have HX4 := Lib.hid (And.intro hk4 hb4)
              clear hk4 hb4 hcy
              refine hK _ _ ?_
              clear hK K
              try simp only [Act.put, List.setIfInBounds_toArray, List.set_cons_zero, List.set_cons_succ]
              refine wpAnyIn_ready (rs := [4]) (by kernel_rfl) (by simp) ?_
              refine AllReadyIn.cons rfl (fun K hK => ?_) ?_
              · -- 4
                obtain ⟨fn, tmps, assign, body, hy, hYR⟩ := HNX.out W4 q4 c4 HX4.out.2 HX4.out.1
                go_simp
                refine ⟨fun _ => by omega, (round_wide hYR).mono ?_⟩
                rintro e W3 (⟨rfl, hJ3, hK3⟩ | ⟨rfl, hJx3, hK3⟩)
                · refine hK _ _ ?_
                  clear hK K
                  try simp only [Act.put, List.setIfInBounds_toArray, List.set_cons_zero, List.set_cons_succ]
                  refine wpAnyIn_ready (rs := [5]) (by kernel_rfl) (by simp) ?_
                  refine AllReadyIn.cons rfl (fun K hK => ?_) AllReadyIn.nil
                  go_simp
                  refine hK _ _ (wpAnyIn_done (by kernel_rfl) (hK1 _ _ ?_) _)
                  gi_wp2
                  exact FIN1.out W4 W3 q4 c4 HX4.out.2 hJ3 hK3
                · refine hK _ _ ?_
                  clear hK K
                  try simp only [Act.put, List.setIfInBounds_toArray, List.set_cons_zero, List.set_cons_succ]
                  refine wpAnyIn_ready (rs := [5]) (by kernel_rfl) (by simp) ?_
                  refine AllReadyIn.cons rfl (fun K hK => ?_) AllReadyIn.nil
                  go_simp
                  refine hK _ _ (wpAnyIn_done (by kernel_rfl) (hK1 _ _ ?_) _)
                  gi_wp2
                  exact ⟨(FIN2.out W4 W3 q4 c4 HX4.out.2 hJx3 hK3).1, rfl, (FIN2.out W4 W3 q4 c4 HX4.out.2 hJx3 hK3).2⟩
              exact AllReadyIn.nil
            exact AllReadyIn.nil
          refine AllReadyIn.cons rfl (fun K hK => ?_) ?_
          · -- 3
            go_simp
            refine ⟨trivial, fun _ => by omega, CallsIn.inRound ly2 ((callsIn_wide.2 (CCL.out _ (Below.refl _ _))).mono ?_)⟩
            rintro e W4 ⟨q4, c4, rfl, hk4, hb4⟩
            have hcy4 := (hb4.cell (lt_of_cell_some hcy)).trans hcy
            have HX4 := Lib.hid (And.intro hk4 hb4)
            clear hk4 hb4 hcy
            refine hK _ _ ?_
            clear hK K
            try simp only [Act.put, List.setIfInBounds_toArray, List.set_cons_zero, List.set_cons_succ]
            refine wpAnyIn_ready (rs := [0]) (by kernel_rfl) (by simp) ?_
            refine AllReadyIn.cons rfl (fun K hK => ?_) ?_
            · -- 0
              go_simp
              refine hK _ _ ?_
              clear hK K
              try simp only [Act.put, List.setIfInBounds_toArray, List.set_cons_zero, List.set_cons_succ]
              refine wpAnyIn_ready (rs := [4]) (by kernel_rfl) (by simp) ?_
              refine AllReadyIn.cons rfl (fun K hK => ?_) ?_
              · -- 4
                obtain ⟨fn, tmps, assign, body, hy, hYR⟩ := HNX.out W4 q4 c4 HX4.out.2 HX4.out.1
                go_simp
                refine ⟨fun _ => by omega, (round_wide hYR).mono ?_⟩
                rintro e W3 (⟨rfl, hJ3, hK3⟩ | ⟨rfl, hJx3, hK3⟩)
                · refine hK _ _ ?_
                  clear hK K
                  try simp only [Act.put, List.setIfInBounds_toArray, List.set_cons_zero, List.set_cons_succ]
                  refine wpAnyIn_ready (rs := [5]) (by kernel_rfl) (by simp) ?_
                  refine AllReadyIn.cons rfl (fun K hK => ?_) AllReadyIn.nil
                  go_simp
                  refine hK _ _ (wpAnyIn_done (by kernel_rfl) (hK1 _ _ ?_) _)
                  gi_wp2
                  exact FIN1.out W4 W3 q4 c4 HX4.out.2 hJ3 hK3
                · refine hK _ _ ?_
                  clear hK K
                  try simp only [Act.put, List.setIfInBounds_toArray, List.set_cons_zero, List.set_cons_succ]
                  refine wpAnyIn_ready (rs := [5]) (by kernel_rfl) (by simp) ?_
                  refine AllReadyIn.cons rfl (fun K hK => ?_) AllReadyIn.nil
                  go_simp
                  refine hK _ _ (wpAnyIn_done (by kernel_rfl) (hK1 _ _ ?_) _)
                  gi_wp2
                  exact ⟨(FIN2.out W4 W3 q4 c4 HX4.out.2 hJx3 hK3).1, rfl, (FIN2.out W4 W3 q4 c4 HX4.out.2 hJx3 hK3).2⟩
              exact AllReadyIn.nil
            exact AllReadyIn.nil
          exact AllReadyIn.nil
        refine AllReadyIn.cons rfl (fun K hK => ?_) ?_
        · -- 3
          go_simp
          refine ⟨trivial, fun _ => by omega, CallsIn.inRound ly2 ((callsIn_wide.2 (CCL.out _ (Below.refl _ _))).mono ?_)⟩
          rintro e W4 ⟨q4, c4, rfl, hk4, hb4⟩
          have hcy4 := (hb4.cell (lt_of_cell_some hcy)).trans hcy
          have HX4 := Lib.hid (And.intro hk4 hb4)
          clear hk4 hb4 hcy
          refine hK _ _ ?_
          clear hK K
          try simp only [Act.put, List.setIfInBounds_toArray, List.set_cons_zero, List.set_cons_succ]
          refine wpAnyIn_ready (rs := [0, 1]) (by kernel_rfl) (by simp) ?_
          refine AllReadyIn.cons rfl (fun K hK => ?_) ?_
          · -- 0
            go_simp
            refine hK _ _ ?_
            clear hK K
            try simp only [Act.put, List.setIfInBounds_toArray, List.set_cons_zero, List.set_cons_succ]
            refine wpAnyIn_ready (rs := [1]) (by kernel_rfl) (by simp) ?_
            refine AllReadyIn.cons rfl (fun K hK => ?_) ?_
            · -- 1
              go_simp
              refine hK _ _ ?_
              clear hK K
              try simp only [Act.put, List.setIfInBounds_toArray, List.set_cons_zero, List.set_cons_succ]
              refine wpAnyIn_ready (rs := [4]) (by kernel_rfl) (by simp) ?_
              refine AllReadyIn.cons rfl (fun K hK => ?_) ?_
              · -- 4
                obtain ⟨fn, tmps, assign, body, hy, hYR⟩ := HNX.out W4 q4 c4 HX4.out.2 HX4.out.1
                go_simp
                refine ⟨fun _ => by omega, (round_wide hYR).mono ?_⟩
                rintro e W3 (⟨rfl, hJ3, hK3⟩ | ⟨rfl, hJx3, hK3⟩)
                · refine hK _ _ ?_
                  clear hK K
                  try simp only [Act.put, List.setIfInBounds_toArray, List.set_cons_zero, List.set_cons_succ]
                  refine wpAnyIn_ready (rs := [5]) (by kernel_rfl) (by simp) ?_
                  refine AllReadyIn.cons rfl (fun K hK => ?_) AllReadyIn.nil
                  go_simp
                  refine hK _ _ (wpAnyIn_done (by kernel_rfl) (hK1 _ _ ?_) _)
                  gi_wp2
                  exact FIN1.out W4 W3 q4 c4 HX4.out.2 hJ3 hK3
                · refine hK _ _ ?_
                  clear hK K
                  try simp only [Act.put, List.setIfInBounds_toArray, List.set_cons_zero, List.set_cons_succ]
                  refine wpAnyIn_ready (rs := [5]) (by kernel_rfl) (by simp) ?_
                  refine AllReadyIn.cons rfl (fun K hK => ?_) AllReadyIn.nil
                  go_simp
                  refine hK _ _ (wpAnyIn_done (by kernel_rfl) (hK1 _ _ ?_) _)
                  gi_wp2
                  exact ⟨(FIN2.out W4 W3 q4 c4 HX4.out.2 hJx3 hK3).1, rfl, (FIN2.out W4 W3 q4 c4 HX4.out.2 hJx3 hK3).2⟩
              exact AllReadyIn.nil
            exact AllReadyIn.nil
          refine AllReadyIn.cons rfl (fun K hK => ?_) ?_
          · -- 1
            go_simp
            refine hK _ _ ?_
            clear hK K
            try simp only [Act.put, List.setIfInBounds_toArray, List.set_cons_zero, List.set_cons_succ]
            refine wpAnyIn_ready (rs := [0]) (by kernel_rfl) (by simp) ?_
            refine AllReadyIn.cons rfl (fun K hK => ?_) ?_
            · -- 0
              go_simp
              refine hK _ _ ?_
              clear hK K
              try simp only [Act.put, List.setIfInBounds_toArray, List.set_cons_zero, List.set_cons_succ]
              refine wpAnyIn_ready (rs := [4]) (by kernel_rfl) (by simp) ?_
              refine AllReadyIn.cons rfl (fun K hK => ?_) ?_
              · -- 4
                obtain ⟨fn, tmps, assign, body, hy, hYR⟩ := HNX.out W4 q4 c4 HX4.out.2 HX4.out.1
                go_simp
                refine ⟨fun _ => by omega, (round_wide hYR).mono ?_⟩
                rintro e W3 (⟨rfl, hJ3, hK3⟩ | ⟨rfl, hJx3, hK3⟩)
                · refine hK _ _ ?_
                  clear hK K
                  try simp only [Act.put, List.setIfInBounds_toArray, List.set_cons_zero, List.set_cons_succ]
                  refine wpAnyIn_ready (rs := [5]) (by kernel_rfl) (by simp) ?_
                  refine AllReadyIn.cons rfl (fun K hK => ?_) AllReadyIn.nil
                  go_simp
                  refine hK _ _ (wpAnyIn_done (by kernel_rfl) (hK1 _ _ ?_) _)
                  gi_wp2
                  exact FIN1.out W4 W3 q4 c4 HX4.out.2 hJ3 hK3
                · refine hK _ _ ?_
                  clear hK K
                  try simp only [Act.put, List.setIfInBounds_toArray, List.set_cons_zero, List.set_cons_succ]
                  refine wpAnyIn_ready (rs := [5]) (by kernel_rfl) (by simp) ?_
                  refine AllReadyIn.cons rfl (fun K hK => ?_) AllReadyIn.nil
                  go_simp
                  refine hK _ _ (wpAnyIn_done (by kernel_rfl) (hK1 _ _ ?_) _)
                  gi_wp2
                  exact ⟨(FIN2.out W4 W3 q4 c4 HX4.out.2 hJx3 hK3).1, rfl, (FIN2.out W4 W3 q4 c4 HX4.out.2 hJx3 hK3).2⟩
              exact AllReadyIn.nil
            exact AllReadyIn.nil
          exact AllReadyIn.nil
        exact AllReadyIn.nil
      exact AllReadyIn.nil
    case done =>
      rintro D ys V hD rfl ⟨⟨xs, e, hJ⟩, hb, -⟩ hK
      exact ⟨.inl rfl, D, rfl, hK, by have := (Array.getElem?_eq_some_iff.1 hb).1; omega, by omega, .inl ⟨xs, e, hJ⟩⟩
    case stop =>
      rintro D c pre V hD hsp ⟨rfl, hs, xs, rfl, hJ⟩ hK
      gi_wp2
      all_goals first | exact (by omega) | exact .inr ⟨xs, hsp, hJ⟩ | exact ⟨by omega, .inr ⟨xs, hsp, hJ⟩⟩ | exact hs
  · rintro D V ⟨hK, hs, hD, hJ⟩
    gi_wp2
    refine ⟨by simp, .inl ⟨_, _, rfl, run_takeDeferred hK, ?_⟩⟩
    refine ⟨_, results_none rfl _ _ _, ⟨_, rfl⟩, by simpa using hs, ?_⟩
    have hp : Below W.heap.size V (V.putObj D (.deferred none)) := belowK_b (w := W0) (by omega) V D _ (.deferred none) (by omega) hK rfl rfl
    rcases hJ with ⟨xs, e, h⟩ | ⟨pre, e, h⟩
    · exact .inl ⟨xs, e, HJ.out _ _ _ h hs hp⟩
    · exact .inr ⟨pre, e, HJx.out _ _ _ h hs hp⟩
end Go.Proofs.YtdanigigjainjaaGreat
namespace Go.Proofs.YtdanigigjainjaaGreat
open Go.RowKit Go.Shelf
attribute [local go_sem] Oper.semAt_some

end Go.Proofs.YtdanigigjainjaaGreat
namespace Go.Proofs.YtdanigigjainjaaGreat
open Go.RowKit Go.Shelf
attribute [local go_sem] Oper.semAt_some

theorem pageF_memF (p : Nat) (bs : List Nat) : ∀ (l : List FR) (o : Option (List Nat)), l.foldl (fun o x => if x.p = p then some x.bs else o) o = some bs → o = some bs ∨ ∃ x ∈ l, x.bs = bs
  | [], o, h => .inl h
  | x :: l, o, h => by
    rcases pageF_memF p bs l _ h with h | ⟨y, hy, e⟩
    · dsimp only at h
      by_cases hp : x.p = p
      · rw [if_pos hp] at h
        injection h with h
        exact .inr ⟨x, by simp, h⟩
      · rw [if_neg hp] at h
        exact .inl h
    · exact .inr ⟨y, by simp [hy], e⟩
theorem pageF_mem (l : List FR) (p : Nat) (bs : List Nat) (h : pageF l p = some bs) : ∃ x ∈ l, x.bs = bs := (pageF_memF p bs l none h).resolve_left (by simp)
theorem pageF_ok {pg : Nat} {l : List FR} (h : ∀ x ∈ l, x.Ok pg) {p : Nat} {bs : List Nat} (e : pageF l p = some bs) : bs.length = 512 ∧ ∀ b ∈ bs, b < 256 := by
  obtain ⟨x, hx, rfl⟩ := pageF_mem l p bs e
  exact ⟨(h x hx).len, (h x hx).byte⟩
end Go.Proofs.YtdanigigjainjaaGreat
namespace Go.Proofs.YtdanigigjainjaaGreat
open Go.RowKit Go.Shelf
attribute [local go_sem] Oper.semAt_some

/-- Rows that a write has. -/
def PwAt (w : World) (q : Option Addr) (n : Nat) (ps : Nat → Int) (cs : Nat → Nat) : Prop := ∀ j, j < n → ∃ Bw off qj cj, q = some ⟨Bw, off, none⟩ ∧ w.cell? ⟨Bw, off + j * 2, none⟩ = some (.int .i64 (ps j)) ∧ w.cell? ⟨Bw, off + j * 2 + 1, none⟩ = some (.slice qj 512 cj) ∧ BytesAt w qj (List.replicate 512 (cs j))
end Go.Proofs.YtdanigigjainjaaGreat
namespace Go.Proofs.YtdanigigjainjaaGreat
open Go.RowKit Go.Shelf
attribute [local go_sem] Oper.semAt_some

/-- A log that was made since w0. -/
def LogN (w0 : World) (W : World) (B Bd : Nat) (s : Dk.DS) (f pg S E hn : Nat) (l : List FR) (N : Nat) : Prop := ∃ F, LogR W B Bd s f pg S E hn l F N ∧ (∀ k, F k → w0.heap.size ≤ k) ∧ Below w0.heap.size w0 W
theorem LogN.below {w0 W W' : World} {B Bd : Nat} {s : Dk.DS} {f pg S E hn : Nat} {l : List FR} {N : Nat} (h : LogN w0 W B Bd s f pg S E hn l N) (hb : Below W.heap.size W W') : LogN w0 W' B Bd s f pg S E hn l N := by
  obtain ⟨F, h1, h2, h3⟩ := h
  exact ⟨F, h1.keep hb.size (fun k hk => hb.block k (h1.low k hk)), h2, kbT h3 hb⟩
theorem LogN.turned {w0 W W' : World} {B Bd : Nat} {s s' : Dk.DS} {f pg S E hn S' E' hn' : Nat} {l l' : List FR} {N N' : Nat} {F F' : Foot} (hF : ∀ k, F k → w0.heap.size ≤ k) (hb : Below w0.heap.size w0 W) (h1 : ∀ k, F' k → F k ∨ W.heap.size ≤ k) (h2 : Dk.Apart F W W') (h3 : LogR W' B Bd s' f pg S' E' hn' l' F' N') : LogN w0 W' B Bd s' f pg S' E' hn' l' N' :=
  ⟨F', h3, fun k hk => (h1 k hk).elim (hF k) (fun h => Nat.le_trans hb.size h), h2.below hb hF⟩
/-- A log that is older than a world is kept by what comes behind that. -/
theorem LogN.since {w0 W : World} {B Bd : Nat} {s : Dk.DS} {f pg S E hn : Nat} {l : List FR} {N : Nat} (h : LogN w0 W B Bd s f pg S E hn l N) : Below w0.heap.size w0 W := by
  obtain ⟨F, -, -, h⟩ := h
  exact h
/-- The frames of an append. -/
def framesOf (n : Nat) (sz : Int) (ps : Nat → Int) (cs : Nat → Nat) : List FR := (List.range n).map fun j => ⟨(ps j).toNat, decide (j + 1 = n), if j + 1 = n then sz.toNat else 0, List.replicate 512 (cs j)⟩
theorem framesOf_length (n : Nat) (sz : Int) (ps : Nat → Int) (cs : Nat → Nat) : (framesOf n sz ps cs).length = n := by unfold framesOf; rw [List.length_map, List.length_range]
theorem framesOf_at {n : Nat} {sz : Int} {ps : Nat → Int} {cs : Nat → Nat} {j : Nat} (h : j < n) : (framesOf n sz ps cs).getD j FR.zero = ⟨(ps j).toNat, decide (j + 1 = n), if j + 1 = n then sz.toNat else 0, List.replicate 512 (cs j)⟩ := by
  unfold framesOf
  rw [List.getD_eq_getElem?_getD, List.getElem?_map, List.getElem?_range h]
  rfl
/-- What an append is refused for. -/
def rowsOf (n : Nat) (ps : Nat → Int) : List (Int × Nat) := (List.range n).map fun j => (ps j, 512)
def decE (f pg : Nat) (ln : Nat) (n : Nat) (sz : Int) (ps : Nat → Int) : Int := if wrongE pg sz (rowsOf n ps) ≠ 0 then wrongE pg sz (rowsOf n ps) else if (f : Int) - (ln : Int) < (n : Int) then 160 else 0
theorem rowsOf_length (n : Nat) (ps : Nat → Int) : (rowsOf n ps).length = n := by simp [rowsOf]
theorem wrongE_good {pg n : Nat} {sz : Int} {ps : Nat → Int} (h : wrongE pg sz (rowsOf n ps) = 0) : 0 < n ∧ 0 ≤ sz ∧ sz ≤ pg ∧ ∀ j, j < n → 0 ≤ ps j ∧ ps j < pg := by
  unfold wrongE at h
  split at h
  · cases h
  · rename_i hn
    simp only [not_or, rowsOf_length] at hn
    obtain ⟨h1, h2, h3, h4⟩ := hn
    refine ⟨by omega, by omega, by omega, fun j hj => ?_⟩
    have h5 : (rowsOf n ps).any (badPage pg) = false := by simpa using h4
    rw [List.any_eq_false] at h5
    have h6 := h5 (ps j, 512) (List.mem_map.2 ⟨j, List.mem_range.2 hj, rfl⟩)
    simp only [badPage, Bool.or_eq_true, decide_eq_true_eq, not_or] at h6
    omega
theorem next_of {f pg n : Nat} {l : List FR} {sz : Int} {ps : Nat → Int} {cs : Nat → Nat} (h : wrongE pg sz (rowsOf n ps) = 0) (hroom : ¬ ((f : Int) - (l.length : Int) < (n : Int))) (hcs : ∀ j, cs j < 256) : NextOk f pg l (framesOf n sz ps cs) where
  oks := fun x hx => by
    obtain ⟨h1, h2, h3, h4⟩ := wrongE_good h
    obtain ⟨j, hj, rfl⟩ := List.mem_map.1 hx
    rw [List.mem_range] at hj
    have := h4 j hj
    refine ⟨by simp only; omega, ?_, List.length_replicate, fun b hb => ?_⟩
    · simp only
      by_cases e : j + 1 = n
      · rw [if_pos e, if_pos (by simp [e])]; omega
      · rw [if_neg e, if_neg (by simp [e])]; omega
    · simp only [List.mem_replicate] at hb
      rw [hb.2]
      exact hcs j
  ne := fun e => by
    have := (wrongE_good h).1
    have h2 := framesOf_length n sz ps cs
    rw [e] at h2
    simp at h2
    omega
  last := fun x hx => by
    have h0 := (wrongE_good h).1
    rw [List.getLast?_eq_getElem?, framesOf_length] at hx
    have hg := framesOf_at (n := n) (sz := sz) (ps := ps) (cs := cs) (j := n - 1) (by omega)
    rw [List.getD_eq_getElem?_getD, hx] at hg
    simp only [Option.getD_some] at hg
    rw [hg]
    simp
    omega
  len := by rw [framesOf_length]; omega
theorem commits_of (n : Nat) (sz : Int) (ps : Nat → Int) (cs : Nat → Nat) : Commits (framesOf n sz ps cs) sz.toNat := fun j hj => by
  rw [framesOf_length] at hj
  rw [framesOf_at hj, framesOf_length]
  exact ⟨rfl, rfl⟩
theorem PwAt.pages {W : World} {q : Option Addr} {n : Nat} {ps : Nat → Int} {cs : Nat → Nat} {sz : Int} (h : PwAt W q n ps cs) (hp : ∀ j, j < n → 0 ≤ ps j) : PagesRow W q (framesOf n sz ps cs) := fun j hj => by
  rw [framesOf_length] at hj
  obtain ⟨Bw, off, qj, cj, e, h1, h2, h3⟩ := h j hj
  rw [framesOf_at hj]
  refine ⟨Bw, off, qj, cj, e, ?_, h2, h3⟩
  rw [h1]
  simp only
  rw [Int.toNat_of_nonneg (hp j hj)]
theorem PwAt.rows {W : World} {q : Option Addr} {n : Nat} {ps : Nat → Int} {cs : Nat → Nat} (h : PwAt W q n ps cs) : WritesRow W q (rowsOf n ps) := fun j x hx => by
  have hj := (List.getElem?_eq_some_iff.1 hx).1
  rw [rowsOf_length] at hj
  have e : x = (ps j, 512) := by
    unfold rowsOf at hx
    rw [List.getElem?_map, List.getElem?_range hj] at hx
    simp at hx
    exact hx.symm
  subst e
  obtain ⟨Bw, off, qj, cj, e, h1, h2, -⟩ := h j hj
  exact ⟨Bw, off, qj, cj, e, h1, h2⟩
/-- How an append of an act ends. -/
def AppN (w0 W' : World) (B Bd : Nat) (s : Dk.DS) (f pg S E hn : Nat) (l : List FR) (N n : Nat) (sz : Int) (ps : Nat → Int) (cs : Nat → Nat) (e : Int) : Prop :=
  (decE f pg l.length n sz ps ≠ 0 ∧ e = decE f pg l.length n sz ps ∧ LogN w0 W' B Bd s f pg S E hn l N) ∨
  (decE f pg l.length n sz ps = 0 ∧ e = (runOps s (appOps S E hn l (framesOf n sz ps cs))).2 ∧ (e ≠ 0 → LogN w0 W' B Bd (runOps s (appOps S E hn l (framesOf n sz ps cs))).1 f pg S E hn l N) ∧ (e = 0 → LogN w0 W' B Bd (runOps s (appOps S E hn l (framesOf n sz ps cs))).1 f pg (S + 1) E (sizeF hn l) (l ++ framesOf n sz ps cs) (N + n)))
theorem append_step {w0 W : World} {B Bd : Nat} {s : Dk.DS} {f pg S E hn : Nat} {l : List FR} {N n : Nat} {sz : Int} {ps : Nat → Int} {cs : Nat → Nat} {q : Option Addr} {c : Nat} (h : LogN w0 W B Bd s f pg S E hn l N) (hW : Dk.Whole s) (hlen : s.sync.length + s.loose.length ≤ 9000) (hp : 1 ≤ f ∧ f ≤ 2000 ∧ 1 ≤ pg ∧ pg ≤ 2000) (hl : l.length ≤ f) (hn1 : n ≤ 1000) (hNN : N ≤ 80000) (hS : S + 1 < 2 ^ 64) (hE : E < 2 ^ 64) (hsz : sizeF hn l ≤ 2000) (hcs : ∀ j, cs j < 256) (hrow : PwAt W q n ps cs) :
    Calls Tryz.prog 17 #[.pointer (some ⟨B, 0, none⟩), .int .i64 sz, .slice q n c] W fun r w' => ∃ e, r = .returned (.int .i64 e) ∧ AppN w0 w' B Bd s f pg S E hn l N n sz ps cs e := by
  obtain ⟨F, hL, hF, hb0⟩ := h
  have hm1 := hW.many.1
  have hkeep : ∀ W', Below W.heap.size W W' → LogR W' B Bd s f pg S E hn l F N := fun W' hb => hL.keep hb.size (fun k hk => hb.block k (hL.low k hk))
  have hwr : ∀ W', Below W.heap.size W W' → Calls Tryz.prog 49 #[.agg #[.pointer (some ⟨B, 0, none⟩), .int .i64 sz, .slice q n c]] W' fun r W2 => r = .returned (.int .i64 (wrongE pg sz (rowsOf n ps))) ∧ Below W'.heap.size W' W2 := fun W' hb => by
    obtain ⟨mb, Fd, X, g, r⟩ := hkeep W' hb
    have := wrong_any B _ pg sz (rowsOf n ps) q c W' r.log rfl (rows_below hrow.rows hb) (by rw [rowsOf_length]; omega)
    rw [rowsOf_length] at this
    exact this
  refine (append_any B Bd s f pg S E hn sz.toNat l (framesOf n sz ps cs) F N n sz q c (wrongE pg sz (rowsOf n ps)) W hL hm1 hp.2.1 (by omega) hwr (fun hw hroom W' hb => ?_)).mono ?_
  · obtain ⟨h1, h2, h3, h4⟩ := wrongE_good hw
    have := done_any B Bd s f pg S E hn sz.toNat l (framesOf n sz ps cs) F N q c W' (hkeep W' hb) hW hlen hp (next_of hw hroom hcs) (by rw [framesOf_length]; exact hn1) hNN hS hE hsz (commits_of n sz ps cs) (pagesRow_below (hrow.pages (fun j hj => (h4 j hj).1)) hb)
    rw [framesOf_length, Int.toNat_of_nonneg h2] at this
    exact this
  · rintro r w' ⟨e, rfl, h1 | h1 | h1⟩
    · obtain ⟨hw, rfl, hb⟩ := h1
      exact ⟨_, rfl, .inl ⟨by unfold decE; rw [if_pos hw]; exact hw, by unfold decE; rw [if_pos hw], LogN.below ⟨F, hL, hF, hb0⟩ hb⟩⟩
    · obtain ⟨hw, hr, rfl, hb⟩ := h1
      have hd : decE f pg l.length n sz ps = 160 := by unfold decE; rw [if_neg (by rw [hw]; simp), if_pos hr]
      exact ⟨_, rfl, .inl ⟨by rw [hd]; decide, hd.symm, LogN.below ⟨F, hL, hF, hb0⟩ hb⟩⟩
    · obtain ⟨hw, hr, he, F', k1, k2, k3, k4⟩ := h1
      have hd : decE f pg l.length n sz ps = 0 := by unfold decE; rw [if_neg (by rw [hw]; simp), if_neg hr]
      rw [framesOf_length] at k4
      exact ⟨e, rfl, .inr ⟨hd, he, fun h => LogN.turned (F := F) (S := S) (E := E) (hn := hn) (l := l) (N := N) (s := s) hF hb0 k1 k2 (k3 h), fun h => LogN.turned (F := F) (S := S) (E := E) (hn := hn) (l := l) (N := N) (s := s) hF hb0 k1 k2 (k4 h)⟩⟩
theorem reset_step {w0 W : World} {B Bd : Nat} {s : Dk.DS} {f pg S E hn : Nat} {l : List FR} {N : Nat} (h : LogN w0 W B Bd s f pg S E hn l N) (hW : Dk.Whole s) (hlen : s.sync.length + s.loose.length ≤ 9000) (hS : S + 1 < 2 ^ 64) (hE : E + 1 < 2 ^ 64) (hsz : sizeF hn l ≤ 2000) :
    Calls Tryz.prog 18 #[.pointer (some ⟨B, 0, none⟩)] W fun r w' => ∃ e, r = .returned (.int .i64 e) ∧ e = (runOps s (resOps S E hn l)).2 ∧ (e ≠ 0 → LogN w0 w' B Bd (runOps s (resOps S E hn l)).1 f pg S E hn l N) ∧ (e = 0 → LogN w0 w' B Bd (runOps s (resOps S E hn l)).1 f pg (S + 1) (E + 1) (sizeF hn l) [] 0) := by
  obtain ⟨F, hL, hF, hb0⟩ := h
  refine (reset_any B Bd s f pg S E hn l F N W hL hW.many.1 hW (by omega) hS hE hsz).mono ?_
  rintro r w' ⟨e, rfl, he, F', k1, k2, k3, k4⟩
  exact ⟨e, rfl, he, fun h => LogN.turned (F := F) (S := S) (E := E) (hn := hn) (l := l) (N := N) (s := s) hF hb0 k1 k2 (k3 h), fun h => LogN.turned (F := F) (S := S) (E := E) (hn := hn) (l := l) (N := N) (s := s) hF hb0 k1 k2 (k4 h)⟩
/-- The disk of a log. -/
def DiskN (w0 : World) (W : World) (Bd : Nat) (s : Dk.DS) : Prop := ∃ F, Dk.RepD W (.pointer (some ⟨Bd, 0, none⟩)) s F ∧ (∀ k, F k → w0.heap.size ≤ k) ∧ Below w0.heap.size w0 W
end Go.Proofs.YtdanigigjainjaaGreat
namespace Go.Proofs.YtdanigigjainjaaGreat
open Go.RowKit Go.Shelf
attribute [local go_sem] Oper.semAt_some

theorem new_step {n : Nat} (w0 W : World) (hb : Below w0.heap.size w0 W) (hn : 1 ≤ n ∧ n ≤ 40000) : Calls Tryz.prog 7 #[.int .i64 (n : Int)] W fun r w' => ∃ Bd, r = .returned (.tuple #[.pointer (some ⟨Bd, 0, none⟩), .int .i64 0]) ∧ DiskN w0 w' Bd (Dk.newS n) := by
  refine (Dk.diskOk.new n W hn).mono ?_
  rintro r w' ⟨d, F, rfl, hR, hF, hb2⟩
  obtain ⟨Bd, rfl⟩ := pointer_of hR
  exact ⟨Bd, rfl, F, hR, fun k hk => Nat.le_trans hb.size (hF k hk), kbT hb hb2⟩
theorem fresh_step {w0 W : World} {Bd f pg : Nat} (h : DiskN w0 W Bd (Dk.newS (2 + 9 * f + 8 * pg))) (hp : 1 ≤ f ∧ f ≤ 2000 ∧ 1 ≤ pg ∧ pg ≤ 2000) :
    Calls Tryz.prog 10 #[.pointer (some ⟨Bd, 0, none⟩), .agg #[.int .i64 (f : Int), .int .i64 (pg : Int)]] W fun r w' => ∃ s' B, r = .returned (.tuple #[.pointer (some ⟨B, 0, none⟩), .int .i64 0]) ∧ Clean s' f pg 1 1 0 [] ∧ s'.left = -1 ∧ s'.sync.length ≤ 1 ∧ LogN w0 w' B Bd s' f pg 1 1 0 [] 0 := by
  obtain ⟨F, hR, hF, hb⟩ := h
  refine (open_fresh Bd f pg (2 + 9 * f + 8 * pg) F W hR hp rfl).mono ?_
  rintro r w' ⟨s', B, F', h1, h2, h3, h4, h5, -, h7, rfl⟩
  exact ⟨s', B, rfl, h1, h2, h3, F', h4, fun k hk => (h5 k hk).elim (hF k) (fun h => Nat.le_trans hb.size h), h7.below hb hF⟩
/-- An append on a disk that does not stop. -/
theorem app_run {s : Dk.DS} {f pg S E hn : Nat} {l m : List FR} (B : Clean s f pg S E hn l) (h : NextOk f pg l m) (hS : S + 1 < 2 ^ 64) (hl : s.left = -1) : (runOps s (appOps S E hn l m)).2 = 0 ∧ (runOps s (appOps S E hn l m)).1.left = -1 ∧ Clean (runOps s (appOps S E hn l m)).1 f pg (S + 1) E (sizeF hn l) (l ++ m) ∧ (runOps s (appOps S E hn l m)).1.sync.length + (runOps s (appOps S E hn l m)).1.loose.length ≤ s.sync.length + (9 * m.length + 3) := by
  have hc := run_cases (appOps_ok B.1.many h S E hn)
  have hlen := run_len s (appOps S E hn l m)
  have hal : (appOps S E hn l m).length ≤ 9 * m.length + 3 := by
    have hfr : ∀ k, k ≤ m.length → (frOps E (l ++ m) l.length k).length ≤ 9 * k := fun k => by
      induction k with
      | zero => simp [frOps]
      | succ k ih =>
        intro hk
        have h1 := ih (by omega)
        have h2 := frL_length E (l ++ m) (l.length + k) (h.size k (by omega))
        rw [frOps, List.length_append, layOps_length, h2, secN_576]
        omega
    have := hfr m.length (Nat.le_refl _)
    unfold appOps
    rw [List.length_append]
    simp only [List.length_cons, List.length_nil]
    omega
  rw [B.1.loose] at hlen
  rcases hc.2 with ⟨h0, -, h3⟩ | ⟨-, h4, -⟩
  · exact ⟨h0, (h3 (by rw [hl]; decide)).trans hl, append_clean B h hS h0, by simp only [List.length_nil] at hlen; omega⟩
  · rw [hl] at h4
    exact absurd h4 (by decide)
theorem res_run {s : Dk.DS} {f pg S E hn : Nat} {l : List FR} (B : Clean s f pg S E hn l) (hS : S + 1 < 2 ^ 64) (hE : E + 1 < 2 ^ 64) (hl : s.left = -1) : (runOps s (resOps S E hn l)).2 = 0 ∧ (runOps s (resOps S E hn l)).1.left = -1 ∧ Clean (runOps s (resOps S E hn l)).1 f pg (S + 1) (E + 1) (sizeF hn l) [] ∧ (runOps s (resOps S E hn l)).1.sync.length + (runOps s (resOps S E hn l)).1.loose.length ≤ s.sync.length + 2 := by
  have hc := run_cases (resOps_ok B.1.many S E hn l)
  have hlen := run_len s (resOps S E hn l)
  rw [B.1.loose] at hlen
  rcases hc.2 with ⟨h0, -, h3⟩ | ⟨-, h4, -⟩
  · exact ⟨h0, (h3 (by rw [hl]; decide)).trans hl, reset_clean B hS hE h0, by simp only [resOps, List.length_nil, List.length_cons] at hlen ⊢; omega⟩
  · rw [hl] at h4
    exact absurd h4 (by decide)
end Go.Proofs.YtdanigigjainjaaGreat
namespace Go.Proofs.YtdanigigjainjaaGreat
open Go.RowKit Go.Shelf
attribute [local go_sem] Oper.semAt_some

theorem LogN.epoch {w0 W : World} {B Bd : Nat} {s : Dk.DS} {f pg S E hn : Nat} {l : List FR} {N : Nat} (h : LogN w0 W B Bd s f pg S E hn l N) : Calls Tryz.prog 20 #[.pointer (some ⟨B, 0, none⟩)] W fun r w' => r = .returned (.int .u64 (E : Nat)) ∧ Below W.heap.size W w' := by
  obtain ⟨F, hL, -, -⟩ := h
  exact lepoch_any B Bd s f pg S E hn l F N W hL
theorem LogN.sized {w0 W : World} {B Bd : Nat} {s : Dk.DS} {f pg S E hn : Nat} {l : List FR} {N : Nat} (h : LogN w0 W B Bd s f pg S E hn l N) : Calls Tryz.prog 19 #[.pointer (some ⟨B, 0, none⟩)] W fun r w' => r = .returned (.int .i64 (sizeF hn l : Nat)) ∧ Below W.heap.size W w' := by
  obtain ⟨F, hL, -, -⟩ := h
  exact lsize_any B Bd s f pg S E hn l F N W hL
theorem LogN.manys {w0 W : World} {B Bd : Nat} {s : Dk.DS} {f pg S E hn : Nat} {l : List FR} {N : Nat} (h : LogN w0 W B Bd s f pg S E hn l N) (hl : l.length ≤ f) (hf : f ≤ 2000) : Calls Tryz.prog 14 #[.pointer (some ⟨B, 0, none⟩)] W fun r w' => r = .returned (.tuple #[.int .i64 (l.length : Nat), .int .i64 ((f : Int) - (l.length : Int))]) ∧ Below W.heap.size W w' := by
  obtain ⟨F, hL, -, -⟩ := h
  exact lmany_any B Bd s f pg S E hn l F N W hL hl hf
theorem LogN.paged {w0 W : World} {B Bd : Nat} {s : Dk.DS} {f pg S E hn : Nat} {l : List FR} {N : Nat} (h : LogN w0 W B Bd s f pg S E hn l N) {pg' : Nat} (hok : ∀ x ∈ l, x.Ok pg') {k : Nat} (hk : k < 40000) : Calls Tryz.prog 15 #[.pointer (some ⟨B, 0, none⟩), .int .i64 (k : Int)] W fun r w' => ∃ t, r = .returned (.tuple #[t, .bool (pageF l k).isSome]) ∧ Below W.heap.size W w' ∧ RowB W ((pageF l k).getD []) t w' := by
  obtain ⟨F, hL, -, -⟩ := h
  exact page_any B Bd s f pg S E hn l F N k W hL hk (fun bs e => (pageF_ok hok e).1)
theorem pw_row1 {W : World} {b c n : Nat} {p : Int} {q : Option Addr} (hr : W.heap[b]? = some (.cells #[.int .i64 p, .slice q 512 c] 94 (0, 0))) (hb : BytesAt W q (List.replicate 512 n)) : PwAt W (some ⟨b, 0, none⟩) 1 (fun _ => p) (fun _ => n) := fun j hj => by
  obtain rfl : j = 0 := by omega
  exact ⟨b, 0, q, c, rfl, (cell_of_row W _ 0 _ _ _ hr).trans rfl, (cell_of_row W _ 1 _ _ _ hr).trans rfl, hb⟩
theorem pw_row3 {W : World} {b c n : Nat} {p : Int} {q : Option Addr} (hr : W.heap[b]? = some (.cells #[.int .i64 p, .slice q 512 c, .int .i64 p, .slice q 512 c, .int .i64 p, .slice q 512 c] 94 (0, 0))) (hb : BytesAt W q (List.replicate 512 n)) : PwAt W (some ⟨b, 0, none⟩) 3 (fun _ => p) (fun _ => n) := fun j hj => by
  rcases (show j = 0 ∨ j = 1 ∨ j = 2 by omega) with rfl | rfl | rfl
  · exact ⟨b, 0, q, c, rfl, (cell_of_row W _ 0 _ _ _ hr).trans rfl, (cell_of_row W _ 1 _ _ _ hr).trans rfl, hb⟩
  · exact ⟨b, 0, q, c, rfl, (cell_of_row W _ 2 _ _ _ hr).trans rfl, (cell_of_row W _ 3 _ _ _ hr).trans rfl, hb⟩
  · exact ⟨b, 0, q, c, rfl, (cell_of_row W _ 4 _ _ _ hr).trans rfl, (cell_of_row W _ 5 _ _ _ hr).trans rfl, hb⟩
/-- A page of a byte, and where it lies. -/
theorem pageN (c : Nat) (W : World) : Calls Tryz.prog 37 #[.int .u8 (c : Int)] W fun r w' => ∃ g, r = .returned (.slice (some ⟨g, 0, none⟩) 512 512) ∧ Below W.heap.size W w' ∧ BytesAt w' (some ⟨g, 0, none⟩) (List.replicate 512 c) := by
  refine (page06 c W).mono ?_
  rintro r w' ⟨rfl, h⟩
  exact ⟨_, rfl, h.2, (ByteBlk.of h (by rw [List.length_replicate]; decide)).at'⟩
theorem dec0 : decE 3 2 0 1 2 (fun _ => 1) = 0 := by decide
theorem dec1 : decE 3 2 1 3 2 (fun _ => 0) = 160 := by decide
def ch0 : List FR := framesOf 1 2 (fun _ => 1) (fun _ => 7)
theorem ch0_next (f pg : Nat) (hf : 1 ≤ f) (hp : 2 ≤ pg) : NextOk f pg [] ch0 := next_of (by unfold wrongE; rw [if_neg]; rintro (h | h | h | h); · rw [rowsOf_length] at h; omega
                                                                                             · omega
                                                                                             · omega
                                                                                             · simp [rowsOf, badPage] at h; omega) (by intro h; simp only [List.length_nil] at h; omega) (by intro; decide)
theorem ch0_size : sizeF 0 ([] ++ ch0) = 2 := by
  have := framesOf_at (n := 1) (sz := 2) (ps := fun _ => 1) (cs := fun _ => 7) (j := 0) (by omega)
  unfold sizeF ch0
  rw [List.nil_append, List.getLast?_eq_getElem?, framesOf_length]
  rw [List.getD_eq_getElem?_getD] at this
  have hl : (framesOf 1 2 (fun _ => 1) (fun _ => 7)).length = 1 := framesOf_length _ _ _ _
  rw [List.getElem?_eq_getElem (by omega)] at this ⊢
  simp only [Option.getD_some] at this ⊢
  rw [this]
  rfl
set_option maxRecDepth 100000 in
set_option maxHeartbeats 16000000 in
theorem works06 (w : World) : Calls Tryz.prog 9 #[] w fun r w' => r = .returned (.bool true) ∧ Below w.heap.size w w' := by
  have NM := Lib.hid num06
  go_enter Tryz.func9, Tryz.ntmps9
  have C1 := Lib.hid (new_step (n := 45) w w (Below.refl _ _) (by omega))
  go_upto_region 2 with (first
    | (go_at_call 7; refine C1.out.mono ?_; rintro e w1 ⟨Bd, rfl, hd⟩; have HD := Lib.hid hd; clear hd)
    | fail)
  have C2 := Lib.hid (fresh_step (f := 3) (pg := 2) HD.out (by omega))
  go_upto_region 3 with (first
    | (go_at_call 10; refine C2.out.mono ?_; rintro e w2 ⟨s1, B, rfl, hc1, hl1, hs1, hn1⟩; have HL := Lib.hid hn1; have HS := Lib.hid (And.intro hc1 (And.intro hl1 hs1)); clear hn1 hc1 hl1 hs1)
    | fail)
  have CE := Lib.hid HL.out.epoch
  have CP7 : Hid (∀ W, Calls Tryz.prog 37 #[.int .u8 7] W fun r w' => ∃ g, r = .returned (.slice (some ⟨g, 0, none⟩) 512 512) ∧ Below W.heap.size W w' ∧ BytesAt w' (some ⟨g, 0, none⟩) (List.replicate 512 7)) := Lib.hid (pageN 7)
  have CA1 : Hid (∀ W W' g, Below w2.heap.size w2 W → BytesAt W (some ⟨g, 0, none⟩) (List.replicate 512 7) → W' = W.alloc (.cells #[.int .i64 1, .slice (some ⟨g, 0, none⟩) 512 512] 94) → Calls Tryz.prog 17 #[.pointer (some ⟨B, 0, none⟩), .int .i64 2, .slice (some ⟨W.heap.size, 0, none⟩) 1 1] W' fun r w' => r = .returned (.int .i64 0) ∧ LogN w w' B Bd (runOps s1 (appOps 1 1 0 [] ch0)).1 3 2 2 1 0 ([] ++ ch0) 1) := Lib.hid fun W W' g hb hby e => by
    have hb2 : Below W.heap.size W W' := by rw [e]; exact (Below.refl _ _).alloc (Nat.le_refl _) _
    obtain ⟨hc, hl, hs⟩ := HS.out
    have hrun := app_run hc (ch0_next 3 2 (by omega) (by omega)) (by omega) hl
    have hrow : W'.heap[W.heap.size]? = some (.cells #[.int .i64 1, .slice (some ⟨g, 0, none⟩) 512 512] 94 (0, 0)) := by rw [e]; exact heap_alloc_new W _
    refine (append_step (sz := 2) (ps := fun _ => 1) (cs := fun _ => 7) (n := 1) (c := 1) (HL.out.below (kbT hb hb2)) hc.1.whole (by rw [hc.1.loose]; simp; omega) (by omega) (by simp) (by omega) (by omega) (by omega) (by omega) (by simp [sizeF]) (by intro; omega) (pw_row1 hrow (bytesAt_below hby hb2))).mono ?_
    rintro r w' ⟨e, rfl, h | h⟩
    · exact absurd dec0 h.1
    · obtain ⟨-, he, -, h2⟩ := h
      have e0 : e = 0 := he.trans hrun.1
      exact ⟨by rw [e0], h2 e0⟩
  go_upto_region 5 with (first
    | (go_at_call 8; (with_reducible refine (NM.out _ _).mono ?_); rintro e wn ⟨rfl, rfl⟩)
    | (go_at_call 20; refine CE.out.mono ?_; rintro e w3 ⟨rfl, hb3⟩; have HB3 := Lib.hid hb3; clear hb3)
    | (go_at_call 37; go_must (refine (CP7.out w3).mono ?_); rintro e w4 ⟨g4, rfl, hb4, hy4⟩; have HB4 := Lib.hid hb4; have HY4 := Lib.hid hy4; clear hb4 hy4)
    | (go_at_call 17; go_must (refine (CA1.out w4 _ g4 (kbT HB3.out HB4.out) HY4.out rfl).mono ?_); rintro e w5 ⟨rfl, hl5⟩; have HL5 := Lib.hid hl5; clear hl5)
    | fail)
  have hln : ([] ++ ch0 : List FR).length = 1 := framesOf_length _ _ _ _
  have CM := Lib.hid (HL5.out.manys (by rw [hln]; omega) (by omega))
  rw [hln] at CM
  have CP1 : Hid (∀ W, Calls Tryz.prog 37 #[.int .u8 1] W fun r w' => ∃ g, r = .returned (.slice (some ⟨g, 0, none⟩) 512 512) ∧ Below W.heap.size W w' ∧ BytesAt w' (some ⟨g, 0, none⟩) (List.replicate 512 1)) := Lib.hid (pageN 1)
  clear hln
  go_upto_region 7 with (first
    | (go_at_call 14; refine CM.out.mono ?_; rintro e w6 ⟨rfl, hb6⟩; have HB6 := Lib.hid hb6; clear hb6)
    | (go_at_call 37; go_must (refine (CP1.out w6).mono ?_); rintro e w7 ⟨g7, rfl, hb7, hy7⟩; have HB7 := Lib.hid hb7; have HY7 := Lib.hid hy7; clear hb7 hy7)
    | fail)
  obtain ⟨w8, hw8⟩ : ∃ w8, w8 = w7.alloc (.cells #[.int .i64 0, .slice (some ⟨g7, 0, none⟩) 512 512] 94) := ⟨_, rfl⟩
  rw [← hw8]
  have HB8 : Hid (Below w7.heap.size w7 w8) := Lib.hid (by rw [hw8]; exact (Below.refl _ _).alloc (Nat.le_refl _) _)
  have hr8 : w8.heap[w7.heap.size]? = some (.cells #[.int .i64 0, .slice (some ⟨g7, 0, none⟩) 512 512] 94 (0, 0)) := by rw [hw8]; exact heap_alloc_new w7 _
  clear hw8
  have a0 := (cell_of_row w8 _ 0 _ _ _ hr8).trans rfl
  have a1 := (cell_of_row w8 _ 1 _ _ _ hr8).trans rfl
  have CA2 : Hid (∀ W', W' = w8.alloc (.cells #[.int .i64 0, .slice (some ⟨g7, 0, none⟩) 512 512, .int .i64 0, .slice (some ⟨g7, 0, none⟩) 512 512, .int .i64 0, .slice (some ⟨g7, 0, none⟩) 512 512] 94) → Calls Tryz.prog 17 #[.pointer (some ⟨B, 0, none⟩), .int .i64 2, .slice (some ⟨w8.heap.size, 0, none⟩) 3 3] W' fun r w' => r = .returned (.int .i64 160) ∧ LogN w w' B Bd (runOps s1 (appOps 1 1 0 [] ch0)).1 3 2 2 1 0 ([] ++ ch0) 1) := Lib.hid fun W' e => by
    have hb2 : Below w8.heap.size w8 W' := by rw [e]; exact (Below.refl _ _).alloc (Nat.le_refl _) _
    obtain ⟨hc, hl, hs⟩ := HS.out
    have hrun := app_run hc (ch0_next 3 2 (by omega) (by omega)) (by omega) hl
    have hrow : W'.heap[w8.heap.size]? = some (.cells #[.int .i64 0, .slice (some ⟨g7, 0, none⟩) 512 512, .int .i64 0, .slice (some ⟨g7, 0, none⟩) 512 512, .int .i64 0, .slice (some ⟨g7, 0, none⟩) 512 512] 94 (0, 0)) := by rw [e]; exact heap_alloc_new w8 _
    have hlen : ([] ++ ch0 : List FR).length = 1 := framesOf_length _ _ _ _
    have hch : ch0.length = 1 := framesOf_length _ _ _ _
    refine (append_step (sz := 2) (ps := fun _ => 0) (cs := fun _ => 1) (n := 3) (c := 3) (HL5.out.below (kbT HB6.out (kbT HB7.out (kbT HB8.out hb2)))) hrun.2.2.1.1.whole (by have := hrun.2.2.2; omega) (by omega) (by rw [hlen]; omega) (by omega) (by omega) (by omega) (by omega) (by rw [ch0_size]; omega) (by intro; omega) (pw_row3 hrow (bytesAt_below HY7.out (kbT HB8.out hb2)))).mono ?_
    rintro r w' ⟨e, rfl, h | h⟩
    · rw [hlen, dec1] at h
      exact ⟨by rw [h.2.1], h.2.2⟩
    · rw [hlen, dec1] at h
      exact absurd h.1 (by decide)
  go_upto_region 8 with (first
    | (go_at_call 17; go_must (refine (CA2.out _ rfl).mono ?_); rintro e w9 ⟨rfl, hl9⟩; have HL9 := Lib.hid hl9; clear hl9 a0 a1)
    | fail)
  have CR : Hid (Calls Tryz.prog 18 #[.pointer (some ⟨B, 0, none⟩)] w9 fun r w' => r = .returned (.int .i64 0) ∧ ∃ s', LogN w w' B Bd s' 3 2 3 2 2 [] 0) := Lib.hid (by
    obtain ⟨hc, hl, hs⟩ := HS.out
    have hrun := app_run hc (ch0_next 3 2 (by omega) (by omega)) (by omega) hl
    have hch : ch0.length = 1 := framesOf_length _ _ _ _
    have hres := res_run hrun.2.2.1 (by omega) (by omega) hrun.2.1
    refine (reset_step HL9.out hrun.2.2.1.1.whole (by have := hrun.2.2.2; omega) (by omega) (by omega) (by rw [ch0_size]; omega)).mono ?_
    rintro r w' ⟨e, rfl, he, -, h2⟩
    have e0 : e = 0 := he.trans hres.1
    have h3 := h2 e0
    rw [ch0_size] at h3
    exact ⟨by rw [e0], _, h3⟩)
  go_upto_region 9 with (first
    | (go_at_call 18; go_must (refine CR.out.mono ?_); rintro e w10 ⟨rfl, s10, hl10⟩; have HL10 := Lib.hid hl10; clear hl10)
    | fail)
  have CG : Hid (Calls Tryz.prog 15 #[.pointer (some ⟨B, 0, none⟩), .int .i64 1] w10 fun r w' => ∃ t, r = .returned (.tuple #[t, .bool false]) ∧ Below w10.heap.size w10 w') := Lib.hid (by
    refine (HL10.out.paged (pg' := 2) (k := 1) (fun x h => by cases h) (by omega)).mono ?_
    rintro r w' ⟨t, rfl, h, -⟩
    exact ⟨t, rfl, h⟩)
  have CE2 : Hid (∀ W, Below w10.heap.size w10 W → Calls Tryz.prog 20 #[.pointer (some ⟨B, 0, none⟩)] W fun r w' => r = .returned (.int .u64 2) ∧ Below W.heap.size W w') := Lib.hid fun W hb => (HL10.out.below hb).epoch
  have CZ2 : Hid (∀ W, Below w10.heap.size w10 W → Calls Tryz.prog 19 #[.pointer (some ⟨B, 0, none⟩)] W fun r w' => r = .returned (.int .i64 2) ∧ Below W.heap.size W w') := Lib.hid fun W hb => (HL10.out.below hb).sized
  go_wp2_with (first
    | (go_at_call 8; (with_reducible refine (NM.out _ _).mono ?_); rintro e wn ⟨rfl, rfl⟩)
    | (go_at_call 15; go_must (refine CG.out.mono ?_); rintro e w11 ⟨t11, rfl, hb11⟩; have HB11 := Lib.hid hb11; clear hb11)
    | (go_at_call 20; go_must (refine (CE2.out w11 HB11.out).mono ?_); rintro e w12 ⟨rfl, hb12⟩; have HB12 := Lib.hid (kbT HB11.out hb12); clear hb12)
    | (go_at_call 19; go_must (refine (CZ2.out w12 HB12.out).mono ?_); rintro e w13 ⟨rfl, hb13⟩; have HB13 := Lib.hid (kbT HB12.out hb13); clear hb13)
    | fail)
  go_ret
  exact ⟨rfl, (HL10.out.below HB13.out).since⟩
end Go.Proofs.YtdanigigjainjaaGreat
namespace Go.Proofs.YtdanigigjainjaaGreat
open Go.RowKit Go.Shelf
attribute [local go_sem] Oper.semAt_some

end Go.Proofs.YtdanigigjainjaaGreat
namespace Go.Proofs.YtdanigigjainjaaGreat
open Go.RowKit Go.Shelf
attribute [local go_sem] Oper.semAt_some

end Go.Proofs.YtdanigigjainjaaGreat
namespace Go.Proofs.YtdanigigjainjaaGreat
open Go.RowKit Go.Shelf
attribute [local go_sem] Oper.semAt_some

theorem plan_nat {f pg : Int} (h : planOk f pg = true) : ∃ fn pn : Nat, f = fn ∧ pg = pn ∧ 1 ≤ fn ∧ fn ≤ 2000 ∧ 1 ≤ pn ∧ pn ≤ 2000 := by
  unfold planOk at h
  simp only [Bool.and_eq_true, decide_eq_true_eq] at h
  exact ⟨f.toNat, pg.toNat, by omega, by omega, by omega, by omega, by omega, by omega⟩
theorem DiskN.since {w0 W : World} {Bd : Nat} {s : Dk.DS} (h : DiskN w0 W Bd s) : Below w0.heap.size w0 W := by
  obtain ⟨F, -, -, h⟩ := h
  exact h
end Go.Proofs.YtdanigigjainjaaGreat
namespace Go.Proofs.YtdanigigjainjaaGreat
open Go.RowKit Go.Shelf
attribute [local go_sem] Oper.semAt_some

end Go.Proofs.YtdanigigjainjaaGreat
namespace Go.Proofs.YtdanigigjainjaaGreat
open Go.ChangeShapes Go.WideShapes Go.ChangeAt Go.RowKit
set_option maxRecDepth 100000
set_option maxHeartbeats 1000000

theorem own : ownKnob Tryz.prog.godebug = none := by kernel_rfl

/-- Arguments of whatever shape read behind the call as before, where below the call's own blocks nothing has turned. -/
theorem trodAll_stays {H : Type} {enc : TypeId × Value → H} {P : Program} (hl : laidOutB P = true) {W W' : World} (hb : Below W.heap.size W W') :
    ∀ (ts : List TypeId), (∀ t ∈ ts, P.readableRec t = true ∧ t < P.types.size) → ∀ (vs : List Value) (ds : List (DataW H)) (ps : List MemPlace), DataW.TrodAll enc P W 0 (fun _ => true) true ts vs ds ps → (∀ x ∈ ps, x.block < W.heap.size) →
      DataW.TrodAll enc P W' 0 (fun b => decide (b < W.heap.size)) true ts vs ds ps
  | [], _, vs, ds, ps, h, _ => by
    obtain ⟨rfl, rfl, rfl⟩ := trodAll_nil h
    exact trodAll_mk0
  | t :: ts, ht, vs, ds, ps, h, hp => by
    obtain ⟨v, vs', d, ds', p, q, rfl, rfl, rfl, h0, h1⟩ := trodAll_cons h
    obtain ⟨r1, r2⟩ := ht t (by simp)
    exact trodAll_cons_mk (Below.trod hl r1 r2 h0 hb (fun x hx => hp x (by simp [hx]))) (trodAll_stays hl hb ts (fun u hu => ht u (by simp [hu])) vs' ds' q h1 (fun x hx => hp x (by simp [hx])))

/-- A law that answers true and leaves what was there as it was meets its row. -/
theorem law_true {H : Type} {enc : TypeId × Value → H} {f : Func} {s : ChangeSpec} {W W' : World} {args : Array Value} {ds gs : List (DataW H)} {before : List MemPlace}
    (hW : DataW.Whole enc Tryz.prog f.params.toList s.vars false W args.toList ds gs before) (hv : s.vars = []) (hfn : (s.fn H (ds ++ gs)).results = [.lit (.bool true)] ∧ (s.fn H (ds ++ gs)).args = ds ∧ (s.fn H (ds ++ gs)).vars = [])
    (hr : f.resultTypes = #[4]) (hread : (f.params.toList.all fun t => Tryz.prog.readableRec t && decide (t < Tryz.prog.types.size)) = true) (hb : Below W.heap.size W W') :
    s.post enc Tryz.prog f false true false false W args (.bool true) W' := by
  have hW' := hW
  obtain ⟨p, q, hA, hV, hpq, _, _⟩ := hW
  have hlt : ∀ x ∈ before, x.block < W.heap.size := fun x hx => hW'.lt x hx
  refine ⟨ds, gs, before, [], p, [], hW', ?_, ?_, ?_, hb.frame _, fun h => by cases h⟩
  · rw [hfn.1, hr]
    exact trodAll_mk1 (shut_bool Tryz.underlying4 _)
  · rw [hfn.2.1]
    exact trodAll_stays (by kernel_rfl) hb _ (fun t ht => by simpa using List.all_eq_true.1 hread t ht) _ _ _ hA (fun x hx => hlt x (by rw [hpq]; simp [hx]))
  · rw [hfn.2.2, hv]
    rfl
noncomputable def laidWorld (os : Os) : World := World.holding Tryz.prog os ⟨#[], #[], []⟩
theorem laid_met (os : Os) (args : Array Value) : laidMet Tryz.prog ([] : List (String × DataW Unit)) ((laidWorld os).forCall (fun _ _ => 0) ⟨#[], args, []⟩).memory :=
  laidMet_of_run' 8 (by kernel_rfl) (by kernel_rfl)
open Go.Joins

end Go.Proofs.YtdanigigjainjaaGreat
namespace Go.Proofs.YtdanigigjainjaaGreat
open Go.ChangeShapes Go.WideShapes Go.ChangeAt Go.RowKit Go.Joins
set_option maxRecDepth 100000
set_option maxHeartbeats 1000000

end Go.Proofs.YtdanigigjainjaaGreat
namespace Go.Proofs.YtdanigigjainjaaGreat
open Go.ChangeShapes Go.WideShapes Go.ChangeAt Go.RowKit Go.Joins
set_option maxRecDepth 100000
set_option maxHeartbeats 1000000

theorem okWide_struct {P : Program} {w : World} {r : Reach} {base : Nat} {fs : Array Field} {t : TypeId} {v : Value} (ht : P.underlying t = some (.struct fs)) (h : Value.okWide P w r base t v) : ∃ cs, v = .agg cs ∧ cs.size = P.cellsOf t := by
  simp only [Value.okWide, ht] at h
  obtain ⟨cs, h1, h2, _⟩ := h
  exact ⟨cs, h1, h2⟩
set_option maxRecDepth 100000 in
theorem open_plan {H : Type} {enc : TypeId × Value → H} {w : World} {base b0 : Nat} {r : Reach} {spare : Nat → Bool} {held : Bool} {v : Value} {d : DataW H} {p : List MemPlace} (hv : Value.okWide Tryz.prog w r b0 23 v) (h : DataW.Trod enc Tryz.prog w base spare held 23 v d p) :
    ∃ F P : Int, v = .agg #[.int .i64 F, .int .i64 P] := by
  have hc : Tryz.prog.cellsOf 23 = 2 := by kernel_rfl
  have h3 : Tryz.prog.cellsOf 3 = 1 := by kernel_rfl
  obtain ⟨cs, rfl, hsz⟩ := okWide_struct Tryz.underlying23 hv
  obtain ⟨c0, c1, rfl⟩ := array2 (hsz.trans hc)
  obtain ⟨fuel, hf⟩ := h
  obtain ⟨xs, m, _, hx, _, hn, hi⟩ := DataW.trod_struct Tryz.underlying23 hf
  match xs, hn with
  | [x0, x1], _ =>
    obtain ⟨F, e0, -, _⟩ := DataW.trod_int Tryz.underlying3 (show DataW.trod enc Tryz.prog w base spare held m 3 [c0] = some x0 by simpa [h3, Value.cells] using hi 0 _ rfl)
    obtain ⟨P, e1, -, _⟩ := DataW.trod_int Tryz.underlying3 (show DataW.trod enc Tryz.prog w base spare held m 3 [c1] = some x1 by simpa [h3, Value.cells] using hi 1 _ rfl)
    simp at e0 e1
    exact ⟨F, P, by rw [e0, e1]⟩
end Go.Proofs.YtdanigigjainjaaGreat
namespace Go.Proofs.YtdanigigjainjaaGreat
open Go.ChangeShapes Go.WideShapes Go.ChangeAt Go.RowKit Go.Joins
set_option maxRecDepth 100000
set_option maxHeartbeats 1000000

end Go.Proofs.YtdanigigjainjaaGreat
namespace Go.Proofs.YtdanigigjainjaaGreat.WalH
open Go.ChangeShapes Go.WideShapes Go.ChangeAt Go.RowKit Go.Joins

end Go.Proofs.YtdanigigjainjaaGreat.WalH
namespace Go.Proofs.YtdanigigjainjaaGreat
end Go.Proofs.YtdanigigjainjaaGreat
