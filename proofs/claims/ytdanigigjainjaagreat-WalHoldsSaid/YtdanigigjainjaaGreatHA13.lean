/- Parts: W60 W61 W62 W63 W64 O29 O36 PE. -/
import Derived.Test.YtdanigigjainjaaGreatHA12
import Derived.ProofKit
import Derived.OpenShut
import Derived.Deep.DeepHandedRow
import Derived.Deep.DeepWitnessRowRef
import Derived.Deep.Slices
import Derived.Lib.SmallJoins
import Derived.ChangeSame
import Derived.Deep.Strs
namespace Go.Proofs.YtdanigigjainjaaGreat
open Go.RowKit Go.Shelf
attribute [local go_sem] Oper.semAt_some

theorem LogN.epoch {w0 W : World} {B Bd : Nat} {s : Dk.DS} {f pg S E hn : Nat} {l : List FR} {N : Nat} (h : LogN w0 W B Bd s f pg S E hn l N) : Calls Tryz.prog 20 #[.pointer (some ⟨B, 0, none⟩)] W fun r w' => r = .returned (.int .u64 (E : Nat)) ∧ Below W.heap.size W w' := by
  obtain ⟨F, hL, -, -⟩ := h
  exact lepoch_any B Bd s f pg S E hn l F N W hL
theorem LogN.sized {w0 W : World} {B Bd : Nat} {s : Dk.DS} {f pg S E hn : Nat} {l : List FR} {N : Nat} (h : LogN w0 W B Bd s f pg S E hn l N) : Calls Tryz.prog 19 #[.pointer (some ⟨B, 0, none⟩)] W fun r w' => r = .returned (.int .i64 (sizeF hn l : Nat)) ∧ Below W.heap.size W w' := by
  obtain ⟨F, hL, -, -⟩ := h
  exact lsize_any B Bd s f pg S E hn l F N W hL
theorem LogN.manys {w0 W : World} {B Bd : Nat} {s : Dk.DS} {f pg S E hn : Nat} {l : List FR} {N : Nat} (h : LogN w0 W B Bd s f pg S E hn l N) (hl : l.length ≤ f) (hf : f ≤ 2000) : Calls Tryz.prog 14 #[.pointer (some ⟨B, 0, none⟩)] W fun r w' => r = .returned (.tuple #[.int .i64 (l.length : Nat), .int .i64 ((f : Int) - (l.length : Int))]) ∧ Below W.heap.size W w' := by
  obtain ⟨F, hL, -, -⟩ := h
  exact lmany_any B Bd s f pg S E hn l F N W hL hl hf
theorem LogN.paged {w0 W : World} {B Bd : Nat} {s : Dk.DS} {f pg S E hn : Nat} {l : List FR} {N : Nat} (h : LogN w0 W B Bd s f pg S E hn l N) {pg' : Nat} (hok : ∀ x ∈ l, x.Ok pg') {k : Nat} (hk : k < 40000) : Calls Tryz.prog 15 #[.pointer (some ⟨B, 0, none⟩), .int .i64 (k : Int)] W fun r w' => ∃ t, r = .returned (.tuple #[t, .bool (pageF l k).isSome]) ∧ Below W.heap.size W w' ∧ RowB W ((pageF l k).getD []) t w' := by
  obtain ⟨F, hL, -, -⟩ := h
  exact page_any B Bd s f pg S E hn l F N k W hL hk (fun bs e => (pageF_ok hok e).1)
theorem pw_row1 {W : World} {b c n : Nat} {p : Int} {q : Option Addr} (hr : W.heap[b]? = some (.cells #[.int .i64 p, .slice q 512 c] 94 (0, 0))) (hb : BytesAt W q (List.replicate 512 n)) : PwAt W (some ⟨b, 0, none⟩) 1 (fun _ => p) (fun _ => n) := fun j hj => by
  obtain rfl : j = 0 := by omega
  exact ⟨b, 0, q, c, rfl, (cell_of_row W _ 0 _ _ _ hr).trans rfl, (cell_of_row W _ 1 _ _ _ hr).trans rfl, hb⟩
theorem pw_row3 {W : World} {b c n : Nat} {p : Int} {q : Option Addr} (hr : W.heap[b]? = some (.cells #[.int .i64 p, .slice q 512 c, .int .i64 p, .slice q 512 c, .int .i64 p, .slice q 512 c] 94 (0, 0))) (hb : BytesAt W q (List.replicate 512 n)) : PwAt W (some ⟨b, 0, none⟩) 3 (fun _ => p) (fun _ => n) := fun j hj => by
  rcases (show j = 0 ∨ j = 1 ∨ j = 2 by omega) with rfl | rfl | rfl
  · exact ⟨b, 0, q, c, rfl, (cell_of_row W _ 0 _ _ _ hr).trans rfl, (cell_of_row W _ 1 _ _ _ hr).trans rfl, hb⟩
  · exact ⟨b, 0, q, c, rfl, (cell_of_row W _ 2 _ _ _ hr).trans rfl, (cell_of_row W _ 3 _ _ _ hr).trans rfl, hb⟩
  · exact ⟨b, 0, q, c, rfl, (cell_of_row W _ 4 _ _ _ hr).trans rfl, (cell_of_row W _ 5 _ _ _ hr).trans rfl, hb⟩
/-- A page of a byte, and where it lies. -/
theorem pageN (c : Nat) (W : World) : Calls Tryz.prog 37 #[.int .u8 (c : Int)] W fun r w' => ∃ g, r = .returned (.slice (some ⟨g, 0, none⟩) 512 512) ∧ Below W.heap.size W w' ∧ BytesAt w' (some ⟨g, 0, none⟩) (List.replicate 512 c) := by
  refine (page06 c W).mono ?_
  rintro r w' ⟨rfl, h⟩
  exact ⟨_, rfl, h.2, (ByteBlk.of h (by rw [List.length_replicate]; decide)).at'⟩
theorem dec0 : decE 3 2 0 1 2 (fun _ => 1) = 0 := by decide
theorem dec1 : decE 3 2 1 3 2 (fun _ => 0) = 160 := by decide
def ch0 : List FR := framesOf 1 2 (fun _ => 1) (fun _ => 7)
theorem ch0_next (f pg : Nat) (hf : 1 ≤ f) (hp : 2 ≤ pg) : NextOk f pg [] ch0 := next_of (by unfold wrongE; rw [if_neg]; rintro (h | h | h | h); · rw [rowsOf_length] at h; omega
                                                                                             · omega
                                                                                             · omega
                                                                                             · simp [rowsOf, badPage] at h; omega) (by intro h; simp only [List.length_nil] at h; omega) (by intro; decide)
theorem ch0_size : sizeF 0 ([] ++ ch0) = 2 := by
  have := framesOf_at (n := 1) (sz := 2) (ps := fun _ => 1) (cs := fun _ => 7) (j := 0) (by omega)
  unfold sizeF ch0
  rw [List.nil_append, List.getLast?_eq_getElem?, framesOf_length]
  rw [List.getD_eq_getElem?_getD] at this
  have hl : (framesOf 1 2 (fun _ => 1) (fun _ => 7)).length = 1 := framesOf_length _ _ _ _
  rw [List.getElem?_eq_getElem (by omega)] at this ⊢
  simp only [Option.getD_some] at this ⊢
  rw [this]
  rfl
set_option maxRecDepth 100000 in
set_option maxHeartbeats 16000000 in
theorem works06 (w : World) : Calls Tryz.prog 9 #[] w fun r w' => r = .returned (.bool true) ∧ Below w.heap.size w w' := by
  have NM := Lib.hid num06
  go_enter Tryz.func9, Tryz.ntmps9
  have C1 := Lib.hid (new_step (n := 45) w w (Below.refl _ _) (by omega))
  go_upto_region 2 with (first
    | (go_at_call 7; refine C1.out.mono ?_; rintro e w1 ⟨Bd, rfl, hd⟩; have HD := Lib.hid hd; clear hd)
    | fail)
  have C2 := Lib.hid (fresh_step (f := 3) (pg := 2) HD.out (by omega))
  go_upto_region 3 with (first
    | (go_at_call 10; refine C2.out.mono ?_; rintro e w2 ⟨s1, B, rfl, hc1, hl1, hs1, hn1⟩; have HL := Lib.hid hn1; have HS := Lib.hid (And.intro hc1 (And.intro hl1 hs1)); clear hn1 hc1 hl1 hs1)
    | fail)
  have CE := Lib.hid HL.out.epoch
  have CP7 : Hid (∀ W, Calls Tryz.prog 37 #[.int .u8 7] W fun r w' => ∃ g, r = .returned (.slice (some ⟨g, 0, none⟩) 512 512) ∧ Below W.heap.size W w' ∧ BytesAt w' (some ⟨g, 0, none⟩) (List.replicate 512 7)) := Lib.hid (pageN 7)
  have CA1 : Hid (∀ W W' g, Below w2.heap.size w2 W → BytesAt W (some ⟨g, 0, none⟩) (List.replicate 512 7) → W' = W.alloc (.cells #[.int .i64 1, .slice (some ⟨g, 0, none⟩) 512 512] 94) → Calls Tryz.prog 17 #[.pointer (some ⟨B, 0, none⟩), .int .i64 2, .slice (some ⟨W.heap.size, 0, none⟩) 1 1] W' fun r w' => r = .returned (.int .i64 0) ∧ LogN w w' B Bd (runOps s1 (appOps 1 1 0 [] ch0)).1 3 2 2 1 0 ([] ++ ch0) 1) := Lib.hid fun W W' g hb hby e => by
    have hb2 : Below W.heap.size W W' := by rw [e]; exact (Below.refl _ _).alloc (Nat.le_refl _) _
    obtain ⟨hc, hl, hs⟩ := HS.out
    have hrun := app_run hc (ch0_next 3 2 (by omega) (by omega)) (by omega) hl
    have hrow : W'.heap[W.heap.size]? = some (.cells #[.int .i64 1, .slice (some ⟨g, 0, none⟩) 512 512] 94 (0, 0)) := by rw [e]; exact heap_alloc_new W _
    refine (append_step (sz := 2) (ps := fun _ => 1) (cs := fun _ => 7) (n := 1) (c := 1) (HL.out.below (kbT hb hb2)) hc.1.whole (by rw [hc.1.loose]; simp; omega) (by omega) (by simp) (by omega) (by omega) (by omega) (by omega) (by simp [sizeF]) (by intro; omega) (pw_row1 hrow (bytesAt_below hby hb2))).mono ?_
    rintro r w' ⟨e, rfl, h | h⟩
    · exact absurd dec0 h.1
    · obtain ⟨-, he, -, h2⟩ := h
      have e0 : e = 0 := he.trans hrun.1
      exact ⟨by rw [e0], h2 e0⟩
  go_upto_region 5 with (first
    | (go_at_call 8; (with_reducible refine (NM.out _ _).mono ?_); rintro e wn ⟨rfl, rfl⟩)
    | (go_at_call 20; refine CE.out.mono ?_; rintro e w3 ⟨rfl, hb3⟩; have HB3 := Lib.hid hb3; clear hb3)
    | (go_at_call 37; go_must (refine (CP7.out w3).mono ?_); rintro e w4 ⟨g4, rfl, hb4, hy4⟩; have HB4 := Lib.hid hb4; have HY4 := Lib.hid hy4; clear hb4 hy4)
    | (go_at_call 17; go_must (refine (CA1.out w4 _ g4 (kbT HB3.out HB4.out) HY4.out rfl).mono ?_); rintro e w5 ⟨rfl, hl5⟩; have HL5 := Lib.hid hl5; clear hl5)
    | fail)
  have hln : ([] ++ ch0 : List FR).length = 1 := framesOf_length _ _ _ _
  have CM := Lib.hid (HL5.out.manys (by rw [hln]; omega) (by omega))
  rw [hln] at CM
  have CP1 : Hid (∀ W, Calls Tryz.prog 37 #[.int .u8 1] W fun r w' => ∃ g, r = .returned (.slice (some ⟨g, 0, none⟩) 512 512) ∧ Below W.heap.size W w' ∧ BytesAt w' (some ⟨g, 0, none⟩) (List.replicate 512 1)) := Lib.hid (pageN 1)
  clear hln
  go_upto_region 7 with (first
    | (go_at_call 14; refine CM.out.mono ?_; rintro e w6 ⟨rfl, hb6⟩; have HB6 := Lib.hid hb6; clear hb6)
    | (go_at_call 37; go_must (refine (CP1.out w6).mono ?_); rintro e w7 ⟨g7, rfl, hb7, hy7⟩; have HB7 := Lib.hid hb7; have HY7 := Lib.hid hy7; clear hb7 hy7)
    | fail)
  obtain ⟨w8, hw8⟩ : ∃ w8, w8 = w7.alloc (.cells #[.int .i64 0, .slice (some ⟨g7, 0, none⟩) 512 512] 94) := ⟨_, rfl⟩
  rw [← hw8]
  have HB8 : Hid (Below w7.heap.size w7 w8) := Lib.hid (by rw [hw8]; exact (Below.refl _ _).alloc (Nat.le_refl _) _)
  have hr8 : w8.heap[w7.heap.size]? = some (.cells #[.int .i64 0, .slice (some ⟨g7, 0, none⟩) 512 512] 94 (0, 0)) := by rw [hw8]; exact heap_alloc_new w7 _
  clear hw8
  have a0 := (cell_of_row w8 _ 0 _ _ _ hr8).trans rfl
  have a1 := (cell_of_row w8 _ 1 _ _ _ hr8).trans rfl
  have CA2 : Hid (∀ W', W' = w8.alloc (.cells #[.int .i64 0, .slice (some ⟨g7, 0, none⟩) 512 512, .int .i64 0, .slice (some ⟨g7, 0, none⟩) 512 512, .int .i64 0, .slice (some ⟨g7, 0, none⟩) 512 512] 94) → Calls Tryz.prog 17 #[.pointer (some ⟨B, 0, none⟩), .int .i64 2, .slice (some ⟨w8.heap.size, 0, none⟩) 3 3] W' fun r w' => r = .returned (.int .i64 160) ∧ LogN w w' B Bd (runOps s1 (appOps 1 1 0 [] ch0)).1 3 2 2 1 0 ([] ++ ch0) 1) := Lib.hid fun W' e => by
    have hb2 : Below w8.heap.size w8 W' := by rw [e]; exact (Below.refl _ _).alloc (Nat.le_refl _) _
    obtain ⟨hc, hl, hs⟩ := HS.out
    have hrun := app_run hc (ch0_next 3 2 (by omega) (by omega)) (by omega) hl
    have hrow : W'.heap[w8.heap.size]? = some (.cells #[.int .i64 0, .slice (some ⟨g7, 0, none⟩) 512 512, .int .i64 0, .slice (some ⟨g7, 0, none⟩) 512 512, .int .i64 0, .slice (some ⟨g7, 0, none⟩) 512 512] 94 (0, 0)) := by rw [e]; exact heap_alloc_new w8 _
    have hlen : ([] ++ ch0 : List FR).length = 1 := framesOf_length _ _ _ _
    have hch : ch0.length = 1 := framesOf_length _ _ _ _
    refine (append_step (sz := 2) (ps := fun _ => 0) (cs := fun _ => 1) (n := 3) (c := 3) (HL5.out.below (kbT HB6.out (kbT HB7.out (kbT HB8.out hb2)))) hrun.2.2.1.1.whole (by have := hrun.2.2.2; omega) (by omega) (by rw [hlen]; omega) (by omega) (by omega) (by omega) (by omega) (by rw [ch0_size]; omega) (by intro; omega) (pw_row3 hrow (bytesAt_below HY7.out (kbT HB8.out hb2)))).mono ?_
    rintro r w' ⟨e, rfl, h | h⟩
    · rw [hlen, dec1] at h
      exact ⟨by rw [h.2.1], h.2.2⟩
    · rw [hlen, dec1] at h
      exact absurd h.1 (by decide)
  go_upto_region 8 with (first
    | (go_at_call 17; go_must (refine (CA2.out _ rfl).mono ?_); rintro e w9 ⟨rfl, hl9⟩; have HL9 := Lib.hid hl9; clear hl9 a0 a1)
    | fail)
  have CR : Hid (Calls Tryz.prog 18 #[.pointer (some ⟨B, 0, none⟩)] w9 fun r w' => r = .returned (.int .i64 0) ∧ ∃ s', LogN w w' B Bd s' 3 2 3 2 2 [] 0) := Lib.hid (by
    obtain ⟨hc, hl, hs⟩ := HS.out
    have hrun := app_run hc (ch0_next 3 2 (by omega) (by omega)) (by omega) hl
    have hch : ch0.length = 1 := framesOf_length _ _ _ _
    have hres := res_run hrun.2.2.1 (by omega) (by omega) hrun.2.1
    refine (reset_step HL9.out hrun.2.2.1.1.whole (by have := hrun.2.2.2; omega) (by omega) (by omega) (by rw [ch0_size]; omega)).mono ?_
    rintro r w' ⟨e, rfl, he, -, h2⟩
    have e0 : e = 0 := he.trans hres.1
    have h3 := h2 e0
    rw [ch0_size] at h3
    exact ⟨by rw [e0], _, h3⟩)
  go_upto_region 9 with (first
    | (go_at_call 18; go_must (refine CR.out.mono ?_); rintro e w10 ⟨rfl, s10, hl10⟩; have HL10 := Lib.hid hl10; clear hl10)
    | fail)
  have CG : Hid (Calls Tryz.prog 15 #[.pointer (some ⟨B, 0, none⟩), .int .i64 1] w10 fun r w' => ∃ t, r = .returned (.tuple #[t, .bool false]) ∧ Below w10.heap.size w10 w') := Lib.hid (by
    refine (HL10.out.paged (pg' := 2) (k := 1) (fun x h => by cases h) (by omega)).mono ?_
    rintro r w' ⟨t, rfl, h, -⟩
    exact ⟨t, rfl, h⟩)
  have CE2 : Hid (∀ W, Below w10.heap.size w10 W → Calls Tryz.prog 20 #[.pointer (some ⟨B, 0, none⟩)] W fun r w' => r = .returned (.int .u64 2) ∧ Below W.heap.size W w') := Lib.hid fun W hb => (HL10.out.below hb).epoch
  have CZ2 : Hid (∀ W, Below w10.heap.size w10 W → Calls Tryz.prog 19 #[.pointer (some ⟨B, 0, none⟩)] W fun r w' => r = .returned (.int .i64 2) ∧ Below W.heap.size W w') := Lib.hid fun W hb => (HL10.out.below hb).sized
  go_wp2_with (first
    | (go_at_call 8; (with_reducible refine (NM.out _ _).mono ?_); rintro e wn ⟨rfl, rfl⟩)
    | (go_at_call 15; go_must (refine CG.out.mono ?_); rintro e w11 ⟨t11, rfl, hb11⟩; have HB11 := Lib.hid hb11; clear hb11)
    | (go_at_call 20; go_must (refine (CE2.out w11 HB11.out).mono ?_); rintro e w12 ⟨rfl, hb12⟩; have HB12 := Lib.hid (kbT HB11.out hb12); clear hb12)
    | (go_at_call 19; go_must (refine (CZ2.out w12 HB12.out).mono ?_); rintro e w13 ⟨rfl, hb13⟩; have HB13 := Lib.hid (kbT HB12.out hb13); clear hb13)
    | fail)
  go_ret
  exact ⟨rfl, (HL10.out.below HB13.out).since⟩
end Go.Proofs.YtdanigigjainjaaGreat
namespace Go.Proofs.YtdanigigjainjaaGreat
open Go.RowKit Go.Shelf
attribute [local go_sem] Oper.semAt_some

/-- An act, and where its slices lie. -/
structure ActV where
  wh : Int
  sz : Int
  q1 : Option Addr
  n1 : Nat
  c1 : Nat
  q2 : Option Addr
  n2 : Nat
  c2 : Nat
  q3 : Option Addr
  n3 : Nat
  c3 : Nat
abbrev ActV.cs (x : ActV) : Array Value := #[.int .i64 x.wh, .int .i64 x.sz, .slice x.q1 x.n1 x.c1, .slice x.q2 x.n2 x.c2, .slice x.q3 x.n3 x.c3]
def ActRow (w : World) (q : Option Addr) (L : List ActV) : Prop := ∀ (i : Nat) (x : ActV), L[i]? = some x → ∃ B off, q = some ⟨B, off, none⟩ ∧ ∀ j v, x.cs[j]? = some v → w.cell? ⟨B, off + i * 5 + j, none⟩ = some v
theorem ActRow.below {w w' : World} {q : Option Addr} {L : List ActV} (h : ActRow w q L) (hb : Below w.heap.size w w') : ActRow w' q L := fun i x hx => by
  obtain ⟨B, off, e, hc⟩ := h i x hx
  exact ⟨B, off, e, fun j v hv => (hb.cell (lt_of_cell_some (hc j v hv))).trans (hc j v hv)⟩
def fewActs (k3 : Nat) (L : List ActV) : Bool := L.all fun x => decide (x.n1 ≤ 6) && decide (x.n3 ≤ k3)
theorem few_cons {k3 : Nat} {L : List ActV} {k : Nat} {x : ActV} (hx : L[k]? = some x) (h : fewActs k3 L = true) : x.n1 ≤ 6 ∧ x.n3 ≤ k3 := by
  unfold fewActs at h
  rw [List.all_eq_true] at h
  have := h x (List.mem_of_getElem? hx)
  simpa using this
theorem few_take {k3 : Nat} {L : List ActV} {k : Nat} {x : ActV} (hx : L[k]? = some x) (h : fewActs k3 (L.take k) = true) (h1 : x.n1 ≤ 6) (h3 : x.n3 ≤ k3) : fewActs k3 (L.take (k + 1)) = true := by
  unfold fewActs at h ⊢
  rw [List.take_add_one, hx, Option.toList_some, List.all_append, h]
  simp [h1, h3]
theorem few_not {k3 : Nat} {L : List ActV} {k : Nat} {x : ActV} (hx : L[k]? = some x) (h : ¬ (x.n1 ≤ 6 ∧ x.n3 ≤ k3)) : fewActs k3 L = false := by
  rw [Bool.eq_false_iff]
  exact fun e => h (few_cons hx e)
def smallE06 (f pg : Int) (A : List ActV) (most : Int) : Bool := fewActs 80 A && (planOk f pg && decide (f ≤ 6) && decide (pg ≤ 4) && decide ((A.length : Int) ≤ most))
set_option maxRecDepth 100000 in
set_option maxHeartbeats 8000000 in
theorem small06 (f pg most : Int) (A : List ActV) (q : Option Addr) (c : Nat) (w : World) (h : ActRow w q A) (hn : A.length ≤ 9223372036854775807) (hall : ∀ x ∈ A, x.n1 ≤ 9223372036854775807 ∧ x.n3 ≤ 9223372036854775807) :
    Calls Tryz.prog 21 #[.agg #[.int .i64 f, .int .i64 pg], .slice q A.length c, .int .i64 most] w fun r w' => r = .returned (.bool (smallE06 f pg A most)) ∧ Below w.heap.size w w' := by
  obtain ⟨n, hnn⟩ : ∃ n, n = A.length := ⟨_, rfl⟩
  unfold smallE06
  rw [← hnn] at hn ⊢
  have HNN := Lib.hid hnn
  have HA := Lib.hid h
  have HALL := Lib.hid hall
  have CR := Lib.hid (right_any f pg)
  clear h hnn hall
  go_enter Tryz.func21, Tryz.ntmps21
  go_wp2
  obtain ⟨w0, hw0⟩ : ∃ w0, w0 = w.alloc (.cells #[.int .i64 f, .int .i64 pg] 23) := ⟨_, rfl⟩
  rw [← hw0]
  have hb0 : Below w.heap.size w w0 := by subst hw0; exact (Below.refl _ _).alloc (Nat.le_refl _) _
  have hp0 : w0.heap[w.heap.size]? = some (.cells #[.int .i64 f, .int .i64 pg] 23 (0, 0)) := by subst hw0; exact heap_alloc_new _ _
  have HB0 := Lib.hid (And.intro hb0 hp0)
  clear hw0 hb0 hp0
  go_loopw [7] (fun i W => ∃ k : Nat, k ≤ n ∧ i = .int .i64 (k : Int) ∧ Hid (fewActs 80 (A.take k) = true) ∧ W = w0) (fun i _ => ((n : Int) - intOf i).toNat)
  case atStart => exact ⟨0, Nat.zero_le _, rfl, Lib.hid rfl, rfl⟩
  case round =>
    obtain ⟨k, hk, rfl, HF, rfl⟩ := hrel
    by_cases hlt : k < n
    · have hltI : (k : Int) < (n : Int) := by omega
      have hwk : wrap64 ((k : Int) + 1) = (k : Int) + 1 := by unfold wrap64; omega
      have hms : ((n : Int) - ((k : Int) + 1)).toNat < ((n : Int) - (k : Int)).toNat := meas_down n k hlt
      have HMS := Lib.hid hms
      obtain ⟨x, hx⟩ : ∃ x, A[k]? = some x := ⟨_, List.getElem?_eq_getElem (by rw [← HNN.out]; exact hlt)⟩
      obtain ⟨B, off, rfl, hc⟩ := HA.out.below HB0.out.1 k x hx
      have a2 := hc 2 _ rfl
      have a4 := hc 4 _ rfl
      have hx1 := (HALL.out x (List.mem_of_getElem? hx)).1
      have hx3 := (HALL.out x (List.mem_of_getElem? hx)).2
      have HX := Lib.hid hx
      clear hms hc hx
      by_cases h1 : x.n1 ≤ 6
      · have g1 : ¬ (6 < (x.n1 : Int)) := by omega
        by_cases h3 : x.n3 ≤ 80
        · have g3 : ¬ (80 < (x.n3 : Int)) := by omega
          go_wp2
          go_roundw
          case rel => exact ⟨k + 1, hlt, by first | rfl | go_num, Lib.hid (few_take HX.out HF.out h1 h3), by first | rfl | trivial⟩
          case measure => exact HMS.out
        · have g3 : 80 < (x.n3 : Int) := by omega
          go_wp2
          go_ret
          rw [few_not HX.out (fun e => h3 e.2)]
          exact ⟨rfl, HB0.out.1⟩
      · have g1 : 6 < (x.n1 : Int) := by omega
        go_wp2
        go_ret
        rw [few_not HX.out (fun e => h1 e.1)]
        exact ⟨rfl, HB0.out.1⟩
    · obtain rfl : k = n := by omega
      have hf : fewActs 80 A = true := by have := HF.out; rw [HNN.out, List.take_of_length_le (Nat.le_refl _)] at this; exact this
      have HFA := Lib.hid hf
      have p0 := (cell_of_row wr _ 0 _ _ _ HB0.out.2).trans rfl
      have p1 := (cell_of_row wr _ 1 _ _ _ HB0.out.2).trans rfl
      have CRw := Lib.hid (CR.out wr)
      have q0 : ∀ W, Below wr.heap.size wr W → W.cell? ⟨w.heap.size, 0, none⟩ = some (.int .i64 f) ∧ W.cell? ⟨w.heap.size, 1, none⟩ = some (.int .i64 pg) := fun W hb => ⟨(hb.cell (lt_of_cell_some p0)).trans p0, (hb.cell (lt_of_cell_some p1)).trans p1⟩
      have HQ := Lib.hid q0
      clear q0 hf
      by_cases hr : planOk f pg = true
      · rw [hr] at CRw
        by_cases h1 : f ≤ 6
        · by_cases h2 : pg ≤ 4
          · by_cases h3 : (k : Int) ≤ most
            · go_wp2_with (first
                | (go_at_call 11; refine CRw.out.mono ?_; rintro e w1 ⟨rfl, hb1⟩; have HB1 := Lib.hid hb1; obtain ⟨r0, r1⟩ := HQ.out _ hb1; clear p0 p1 hb1)
                | fail)
              go_ret
              exact ⟨by rw [HFA.out]; simp [hr, h1, h2, h3] <;> (intros; omega), kbT HB0.out.1 HB1.out⟩
            · go_wp2_with (first
                | (go_at_call 11; refine CRw.out.mono ?_; rintro e w1 ⟨rfl, hb1⟩; have HB1 := Lib.hid hb1; obtain ⟨r0, r1⟩ := HQ.out _ hb1; clear p0 p1 hb1)
                | fail)
              go_ret
              exact ⟨by rw [HFA.out]; simp [hr, h1, h2, h3] <;> (intros; omega), kbT HB0.out.1 HB1.out⟩
          · go_wp2_with (first
              | (go_at_call 11; refine CRw.out.mono ?_; rintro e w1 ⟨rfl, hb1⟩; have HB1 := Lib.hid hb1; obtain ⟨r0, r1⟩ := HQ.out _ hb1; clear p0 p1 hb1)
              | fail)
            go_ret
            exact ⟨by rw [HFA.out]; simp [hr, h1, h2] <;> (intros; omega), kbT HB0.out.1 HB1.out⟩
        · go_wp2_with (first
            | (go_at_call 11; refine CRw.out.mono ?_; rintro e w1 ⟨rfl, hb1⟩; have HB1 := Lib.hid hb1; obtain ⟨r0, r1⟩ := HQ.out _ hb1; clear p0 p1 hb1)
            | fail)
          go_ret
          exact ⟨by rw [HFA.out]; simp [hr, h1] <;> (intros; omega), kbT HB0.out.1 HB1.out⟩
      · have hr' : planOk f pg = false := by simpa using hr
        rw [hr'] at CRw
        go_wp2_with (first
          | (go_at_call 11; refine CRw.out.mono ?_; rintro e w1 ⟨rfl, hb1⟩; have HB1 := Lib.hid hb1; obtain ⟨r0, r1⟩ := HQ.out _ hb1; clear p0 p1 hb1)
          | fail)
        go_ret
        exact ⟨by rw [HFA.out]; simp [hr'] <;> (intros; omega), kbT HB0.out.1 HB1.out⟩
end Go.Proofs.YtdanigigjainjaaGreat
namespace Go.Proofs.YtdanigigjainjaaGreat
open Go.RowKit Go.Shelf
attribute [local go_sem] Oper.semAt_some

/-- A log behind so many acts, none of them stopped. -/
def LInv (w0 : World) (B Bd f pg k : Nat) (W : World) : Prop := ∃ s S E hn l N, LogN w0 W B Bd s f pg S E hn l N ∧ Clean s f pg S E hn l ∧ s.left = -1 ∧ S ≤ 1 + k ∧ E ≤ 1 + k ∧ s.sync.length ≤ 1 + 60 * k ∧ N ≤ 6 * k
theorem LInv.start {w0 W : World} {B Bd f pg : Nat} {s : Dk.DS} (h : LogN w0 W B Bd s f pg 1 1 0 [] 0) (hc : Clean s f pg 1 1 0 []) (hl : s.left = -1) (hs : s.sync.length ≤ 1) : LInv w0 B Bd f pg 0 W := ⟨s, 1, 1, 0, [], 0, h, hc, hl, by omega, by omega, by omega, by omega⟩
theorem LInv.below {w0 W W' : World} {B Bd f pg k : Nat} (h : LInv w0 B Bd f pg k W) (hb : Below W.heap.size W W') : LInv w0 B Bd f pg k W' := by
  obtain ⟨s, S, E, hn, l, N, h1, h2⟩ := h
  exact ⟨s, S, E, hn, l, N, h1.below hb, h2⟩
theorem LInv.since {w0 W : World} {B Bd f pg k : Nat} (h : LInv w0 B Bd f pg k W) : Below w0.heap.size w0 W := by
  obtain ⟨s, S, E, hn, l, N, h1, -⟩ := h
  exact h1.since
theorem LInv.reset {w0 W : World} {B Bd f pg k : Nat} (h : LInv w0 B Bd f pg k W) (hk : k ≤ 100) : Calls Tryz.prog 18 #[.pointer (some ⟨B, 0, none⟩)] W fun r w' => ∃ e, r = .returned (.int .i64 e) ∧ LInv w0 B Bd f pg (k + 1) w' := by
  obtain ⟨s, S, E, hn, l, N, h1, hc, hl, h2, h3, h4, h5⟩ := h
  have hz := hc.1.size
  have hp := hc.1.plan
  have hr := res_run hc (by omega) (by omega) hl
  refine (reset_step h1 hc.1.whole (by rw [hc.1.loose]; simp; omega) (by omega) (by omega) (by omega)).mono ?_
  rintro r w' ⟨e, rfl, he, -, h6⟩
  exact ⟨e, rfl, _, _, _, _, _, _, h6 (he.trans hr.1), hr.2.2.1, hr.2.1, by omega, by omega, by have := hr.2.2.2; omega, by omega⟩
theorem LInv.append {w0 W : World} {B Bd f pg k n c : Nat} {q : Option Addr} {sz : Int} {ps : Nat → Int} {cs : Nat → Nat} (h : LInv w0 B Bd f pg k W) (hk : k ≤ 100) (hn : n ≤ 6) (hcs : ∀ j, cs j < 256) (hrow : PwAt W q n ps cs) : Calls Tryz.prog 17 #[.pointer (some ⟨B, 0, none⟩), .int .i64 sz, .slice q n c] W fun r w' => ∃ e, r = .returned (.int .i64 e) ∧ LInv w0 B Bd f pg (k + 1) w' := by
  obtain ⟨s, S, E, hn', l, N, h1, hc, hl, h2, h3, h4, h5⟩ := h
  have hz := hc.1.size
  have hp := hc.1.plan
  refine (append_step h1 hc.1.whole (by rw [hc.1.loose]; simp; omega) hp hc.1.len (by omega) (by omega) (by omega) (by omega) (by omega) hcs hrow).mono ?_
  rintro r w' ⟨e, rfl, h6 | h6⟩
  · exact ⟨e, rfl, s, S, E, hn', l, N, h6.2.2, hc, hl, by omega, by omega, by omega, by omega⟩
  · obtain ⟨hd, he, -, h7⟩ := h6
    have hw : wrongE pg sz (rowsOf n ps) = 0 := by
      unfold decE at hd
      split at hd
      · rename_i h; exact absurd hd h
      · rename_i h; simpa using h
    have hroom : ¬ ((f : Int) - (l.length : Int) < (n : Int)) := by
      unfold decE at hd
      rw [if_neg (by rw [hw]; simp)] at hd
      intro h
      rw [if_pos h] at hd
      cases hd
    have hr := app_run hc (next_of hw hroom hcs) (by omega) hl
    have hfl := framesOf_length n sz ps cs
    exact ⟨e, rfl, _, _, _, _, _, _, h7 (he.trans hr.1), hr.2.2.1, hr.2.1, by omega, by omega, by have := hr.2.2.2; omega, by omega⟩
theorem dec_parts {f pg ln n : Nat} {sz : Int} {ps : Nat → Int} (hd : decE f pg ln n sz ps = 0) : wrongE pg sz (rowsOf n ps) = 0 ∧ ¬ ((f : Int) - (ln : Int) < (n : Int)) := by
  unfold decE at hd
  split at hd
  · rename_i h; exact absurd hd h
  · rename_i h
    refine ⟨by simpa using h, fun h => ?_⟩
    rw [if_pos h] at hd
    cases hd
/-- A sound log, whatever its disk's stop. -/
theorem Sound.stopped {s : Dk.DS} {f pg S E hn : Nat} {l : List FR} (h : Sound s f pg S E hn l) (n : Int) (hn' : -1 ≤ n) : Sound ⟨s.many, s.sync, s.loose, n⟩ f pg S E hn l :=
  ⟨⟨⟨h.1.whole.many, hn', h.1.whole.sync, h.1.whole.loose⟩, h.1.many, h.1.plan, h.1.loose, h.1.num, h.1.hsz, h.1.hd, h.1.fr, h.1.oks, h.1.last, h.1.len⟩, h.2⟩
theorem Clean.stopped {s : Dk.DS} {f pg S E hn : Nat} {l : List FR} (h : Clean s f pg S E hn l) (n : Int) (hn' : -1 ≤ n) : Clean ⟨s.many, s.sync, s.loose, n⟩ f pg S E hn l :=
  ⟨⟨⟨h.1.whole.many, hn', h.1.whole.sync, h.1.whole.loose⟩, h.1.many, h.1.plan, h.1.loose, h.1.num, h.1.hsz, h.1.hd, h.1.fr, h.1.oks, h.1.last, h.1.len⟩, h.2⟩
/-- What an act's append leaves to be told: nothing, or itself. -/
def wantN (f pg hn n : Nat) (l : List FR) (sz : Int) (ps : Nat → Int) (cs : Nat → Nat) : List Nat := if decE f pg l.length n sz ps = 0 then toldN (sizeF hn l) (l ++ framesOf n sz ps cs) pg else toldN hn l pg
/-- What is found behind whatever crash. -/
def Finds (s : Dk.DS) (f pg hn n : Nat) (l : List FR) (sz : Int) (ps : Nat → Int) (cs : Nat → Nat) (e : Int) : Prop :=
  Dk.Whole s ∧ s.sync.length + s.loose.length ≤ 9000 ∧ ∀ tear keep, (0 ≤ tear ∧ tear ≤ 63) → ∃ S' E' hn' l', Sound (Dk.crashS s tear keep).1 f pg S' E' hn' l' ∧ ((toldN hn' l' pg = toldN hn l pg ∧ e ≠ 0) ∨ toldN hn' l' pg = wantN f pg hn n l sz ps cs)
theorem app_len {S E hn : Nat} {l m : List FR} {f pg : Nat} (h : NextOk f pg l m) : (appOps S E hn l m).length ≤ 9 * m.length + 3 := by
  have hfr : ∀ k, k ≤ m.length → (frOps E (l ++ m) l.length k).length ≤ 9 * k := fun k => by
    induction k with
    | zero => simp [frOps]
    | succ k ih =>
      intro hk
      have h1 := ih (by omega)
      have h2 := frL_length E (l ++ m) (l.length + k) (h.size k (by omega))
      rw [frOps, List.length_append, layOps_length, h2, secN_576]
      omega
  have := hfr m.length (Nat.le_refl _)
  unfold appOps
  rw [List.length_append]
  simp only [List.length_cons, List.length_nil]
  omega
/-- An append on a disk that may stop: what is found then. -/
theorem AppN.finds {w0 W' : World} {B Bd : Nat} {s : Dk.DS} {f pg S E hn : Nat} {l : List FR} {N n : Nat} {sz : Int} {ps : Nat → Int} {cs : Nat → Nat} {e : Int} (h : AppN w0 W' B Bd s f pg S E hn l N n sz ps cs e) (hc : Clean s f pg S E hn l) (hS : S + 1 < 2 ^ 64) (hn6 : n ≤ 6) (hcs : ∀ j, cs j < 256) (hlen : s.sync.length ≤ 1000) : ∃ s', DiskN w0 W' Bd s' ∧ Finds s' f pg hn n l sz ps cs e := by
  rcases h with ⟨hd, he, h⟩ | ⟨hd, he, h1, h2⟩
  · refine ⟨s, h.disk, hc.1.whole, by rw [hc.1.loose]; simp; omega, fun tear keep ht => ?_⟩
    rw [crash_none hc.1.loose ht]
    have hcs2 := hc.stopped (-1) (by decide)
    rw [hc.1.loose] at hcs2
    exact ⟨S, E, hn, l, hcs2.sound, .inl ⟨rfl, by rw [he]; exact hd⟩⟩
  · obtain ⟨hw, hroom⟩ := dec_parts hd
    have hno := next_of (cs := cs) hw hroom hcs
    have hlen2 := run_len s (appOps S E hn l (framesOf n sz ps cs))
    have hal := app_len (S := S) (E := E) (hn := hn) hno
    have hfl := framesOf_length n sz ps cs
    rw [hc.1.loose] at hlen2
    simp only [List.length_nil] at hlen2
    have hwant : wantN f pg hn n l sz ps cs = toldN (sizeF hn l) (l ++ framesOf n sz ps cs) pg := if_pos hd
    have hwh := runOps_whole hc.1.whole (appOps S E hn l (framesOf n sz ps cs))
    have hdk : DiskN w0 W' Bd (runOps s (appOps S E hn l (framesOf n sz ps cs))).1 := by
      by_cases h0 : e = 0
      · exact (h2 h0).disk
      · exact (h1 h0).disk
    refine ⟨_, hdk, hwh, by omega, fun tear keep ht => ?_⟩
    by_cases h0 : e = 0
    · have hcl := append_clean hc hno hS (by rw [← he]; exact h0)
      rw [crash_none hcl.1.loose ht]
      have hcs2 := hcl.stopped (-1) (by decide)
      rw [hcl.1.loose] at hcs2
      exact ⟨_, _, _, _, hcs2.sound, .inr hwant.symm⟩
    · rcases append_crash (tear := tear) (keep := keep) hc hno hS ht (by rw [← he]; exact h0) with hs | hs
      · exact ⟨_, _, _, _, hs, .inl ⟨rfl, h0⟩⟩
      · exact ⟨_, _, _, _, hs, .inr hwant.symm⟩
end Go.Proofs.YtdanigigjainjaaGreat
namespace Go.Proofs.YtdanigigjainjaaGreat
open Go.RowKit Go.Shelf
attribute [local go_sem] Oper.semAt_some

/-- Acts that were handed in, and what their slices have. -/
structure ActsIn (w : World) (q : Option Addr) (A : List ActV) (P : Nat → Nat → Int) (Bs : Nat → Nat → Nat) (Kp : Nat → List Bool) : Prop where
  row : ActRow w q A
  nums : ∀ (i : Nat) (x : ActV), A[i]? = some x → NumRow w x.q1 x.n1 (P i)
  octs : ∀ (i : Nat) (x : ActV), A[i]? = some x → OctRow w x.q2 x.n2 (Bs i) ∧ x.n2 ≤ 9223372036854775807
  lt : ∀ i j, Bs i j < 256
  keep : ∀ (i : Nat) (x : ActV), A[i]? = some x → (Kp i).length = x.n3 ∧ Dk.BoolsAt w x.q3 (Kp i) ∧ (x.q3 = none → x.c3 = 0) ∧ x.n3 ≤ x.c3 ∧ x.c3 ≤ 9223372036854775807
def csOf (x : ActV) (Bs : Nat → Nat) : Nat → Nat := fun j => if j < x.n2 then Bs j else 0
theorem csOf_lt {x : ActV} {Bs : Nat → Nat} (h : ∀ j, Bs j < 256) (j : Nat) : csOf x Bs j < 256 := by
  unfold csOf
  split
  · exact h j
  · omega
theorem NumRow.below {w w' : World} {q : Option Addr} {n : Nat} {ps : Nat → Int} (h : NumRow w q n ps) (hb : Below w.heap.size w w') : NumRow w' q n ps := fun j hj => by
  obtain ⟨B, off, e, hc⟩ := h j hj
  exact ⟨B, off, e, (hb.cell (lt_of_cell_some hc)).trans hc⟩
theorem OctRow.below {w w' : World} {q : Option Addr} {n : Nat} {ps : Nat → Nat} (h : OctRow w q n ps) (hb : Below w.heap.size w w') : OctRow w' q n ps := fun j hj => by
  obtain ⟨B, off, e, hc⟩ := h j hj
  exact ⟨B, off, e, (hb.cell (lt_of_cell_some hc)).trans hc⟩
/-- What an act writes. -/
theorem acts_write {w : World} {q : Option Addr} {A : List ActV} {P : Nat → Nat → Int} {Bs : Nat → Nat → Nat} {Kp : Nat → List Bool} (h : ActsIn w q A P Bs Kp) {i : Nat} {x : ActV} (hx : A[i]? = some x) (h6 : x.n1 ≤ 6) (W : World) (hb : Below w.heap.size w W) :
    Calls Tryz.prog 22 #[.agg x.cs] W fun r w' => ∃ q c, r = .returned (.slice q x.n1 c) ∧ Below W.heap.size W w' ∧ PwAt w' q x.n1 (P i) (csOf x (Bs i)) :=
  writes06 x.wh x.sz x.q1 x.q2 x.n1 x.c1 x.n2 x.c2 (.slice x.q3 x.n3 x.c3) (P i) (Bs i) W ((h.nums i x hx).below hb) ((h.octs i x hx).1.below hb) (by omega) (h.octs i x hx).2
theorem plan_nat {f pg : Int} (h : planOk f pg = true) : ∃ fn pn : Nat, f = fn ∧ pg = pn ∧ 1 ≤ fn ∧ fn ≤ 2000 ∧ 1 ≤ pn ∧ pn ≤ 2000 := by
  unfold planOk at h
  simp only [Bool.and_eq_true, decide_eq_true_eq] at h
  exact ⟨f.toNat, pg.toNat, by omega, by omega, by omega, by omega, by omega, by omega⟩
theorem DiskN.since {w0 W : World} {Bd : Nat} {s : Dk.DS} (h : DiskN w0 W Bd s) : Below w0.heap.size w0 W := by
  obtain ⟨F, -, -, h⟩ := h
  exact h
theorem AppN.since {w0 W' : World} {B Bd : Nat} {s : Dk.DS} {f pg S E hn : Nat} {l : List FR} {N n : Nat} {sz : Int} {ps : Nat → Int} {cs : Nat → Nat} {e : Int} (h : AppN w0 W' B Bd s f pg S E hn l N n sz ps cs e) : Below w0.heap.size w0 W' := by
  rcases h with ⟨-, -, h⟩ | ⟨-, -, h1, h2⟩
  · exact h.since
  · by_cases h0 : e = 0
    · exact (h2 h0).since
    · exact (h1 h0).since
set_option maxRecDepth 100000 in
set_option maxHeartbeats 32000000 in
theorem holds06_yes (f pg : Nat) (a b : Int) (m : Nat) (A : List ActV) (q : Option Addr) (c : Nat) (P : Nat → Nat → Int) (Bs : Nat → Nat → Nat) (Kp : Nat → List Bool) (w : World) (h : ActsIn w q A P Bs Kp) (hm : A.length = m + 1) (hs : smallE06 f pg A 5 = true) (ha : 0 ≤ a ∧ a ≤ 200) (hb : 0 ≤ b ∧ b ≤ 10) :
    Calls Tryz.prog 4 #[.agg #[.int .i64 (f : Int), .int .i64 (pg : Int)], .slice q (m + 1) c, .agg #[.int .i64 a, .int .i64 b]] w fun r w' => r = .returned (.bool true) ∧ Below w.heap.size w w' := by
  obtain ⟨hfew, hpl, hf6, hp4, hm5⟩ : fewActs 80 A = true ∧ planOk (f : Int) (pg : Int) = true ∧ f ≤ 6 ∧ pg ≤ 4 ∧ m + 1 ≤ 5 := by
    unfold smallE06 at hs
    simp only [Bool.and_eq_true, decide_eq_true_eq] at hs
    rw [hm] at hs
    exact ⟨hs.1, hs.2.1.1.1, by omega, by omega, by omega⟩
  have hplan : 1 ≤ f ∧ f ≤ 2000 ∧ 1 ≤ pg ∧ pg ≤ 2000 := by unfold planOk at hpl; simp at hpl; omega
  have HIN := Lib.hid h
  have HFEW : Hid (∀ (i : Nat) (x : ActV), A[i]? = some x → x.n1 ≤ 6 ∧ x.n3 ≤ 80) := Lib.hid fun i x hx => few_cons hx hfew
  obtain ⟨w0, hw0⟩ : ∃ w0, w0 = (w.alloc (.cells #[.int .i64 (f : Int), .int .i64 (pg : Int)] 23)).alloc (.cells #[.int .i64 a, .int .i64 b] 61) := ⟨_, rfl⟩
  have hb0 : Below w.heap.size w w0 := by subst hw0; exact ((Below.refl _ _).alloc (Nat.le_refl _) _).alloc (by simp) _
  have hx0 : w0.heap[w.heap.size]? = some (.cells #[.int .i64 (f : Int), .int .i64 (pg : Int)] 23 (0, 0)) := by subst hw0; exact (Below.heap_alloc _ _ _ (by simp)).trans (heap_alloc_new w _)
  have hy0 : w0.heap[w.heap.size + 1]? = some (.cells #[.int .i64 a, .int .i64 b] 61 (0, 0)) := by subst hw0; exact heap2 w _ _
  have HC : Hid (∀ W, Below w0.heap.size w0 W → W.cell? ⟨w.heap.size, 0, none⟩ = some (.int .i64 (f : Int)) ∧ W.cell? ⟨w.heap.size, 1, none⟩ = some (.int .i64 (pg : Int)) ∧ W.cell? ⟨w.heap.size + 1, 0, none⟩ = some (.int .i64 a) ∧ W.cell? ⟨w.heap.size + 1, 1, none⟩ = some (.int .i64 b)) := Lib.hid fun W hb => by
    have e1 := (hb.block _ (Array.getElem?_eq_some_iff.1 hx0).1).trans hx0
    have e2 := (hb.block _ (Array.getElem?_eq_some_iff.1 hy0).1).trans hy0
    exact ⟨(cell_of_row _ _ 0 _ _ _ e1).trans rfl, (cell_of_row _ _ 1 _ _ _ e1).trans rfl, (cell_of_row _ _ 0 _ _ _ e2).trans rfl, (cell_of_row _ _ 1 _ _ _ e2).trans rfl⟩
  have HB0 := Lib.hid hb0
  have CS := Lib.hid (small06 f pg 5 A q c w0 (h.row.below hb0) (by omega) (fun x hx => by
    obtain ⟨i, hi⟩ := List.mem_iff_getElem?.1 hx
    have := HFEW.out i x hi
    omega))
  rw [hs, hm] at CS
  have NM := Lib.hid num06
  have WK := Lib.hid works06
  have HPL := Lib.hid (And.intro hpl hplan)
  have HM := Lib.hid hm
  obtain ⟨p0, p1, y0, y1⟩ := HC.out w0 (Below.refl _ _)
  clear h hs hfew hpl hplan hb0 hx0 hy0 hm
  go_enter Tryz.func4, Tryz.ntmps4
  go_upto_region 1 with fail
  try rw [← hw0]
  clear hw0
  have hn0 : ((m : Int) + 1 == 0) = false := by simp; omega
  have ha1 : ¬ a < 0 := by omega
  have ha2 : ¬ 200 < a := by omega
  have hb1 : ¬ b < 0 := by omega
  have hb2 : ¬ 10 < b := by omega
  go_upto_region 3 with (first
    | (go_at_call 21; refine CS.out.mono ?_; rintro e w1 ⟨rfl, hb1⟩; obtain ⟨p0, p1, y0, y1⟩ := HC.out w1 hb1; have HB1 := Lib.hid hb1; clear hb1)
    | fail)
  have CSe : Hid (∀ W, Calls Tryz.prog 12 #[.agg #[.int .i64 (f : Int), .int .i64 (pg : Int)]] W fun r w' => r = .returned (.int .i64 (2 + 9 * (f : Int) + 8 * (pg : Int))) ∧ Below W.heap.size W w') := Lib.hid fun W => refSectors_any f pg W HPL.out.1
  have CN : Hid (∀ W, Below w0.heap.size w0 W → Calls Tryz.prog 7 #[.int .i64 (2 + 9 * (f : Int) + 8 * (pg : Int))] W fun r w' => ∃ Bd, r = .returned (.tuple #[.pointer (some ⟨Bd, 0, none⟩), .int .i64 0]) ∧ DiskN w0 w' Bd (Dk.newS (2 + 9 * f + 8 * pg))) := Lib.hid fun W hb => by
    have h := new_step (n := 2 + 9 * f + 8 * pg) w0 W hb (by have := HPL.out.2; omega)
    rw [show ((2 + 9 * f + 8 * pg : Nat) : Int) = 2 + 9 * (f : Int) + 8 * (pg : Int) by omega] at h
    exact h
  clear hn0 ha1 ha2 hb1 hb2
  go_upto_region 4 with (first
    | (go_at_call 12; refine (CSe.out w1).mono ?_; rintro e w2 ⟨rfl, hb2⟩; have HB2 := Lib.hid (kbT HB1.out hb2); clear hb2 p0 p1 y0 y1)
    | (go_at_call 7; refine (CN.out w2 HB2.out).mono ?_; rintro e w3 ⟨Bd, rfl, hd3⟩; have HD3 := Lib.hid hd3; obtain ⟨p0, p1, y0, y1⟩ := HC.out w3 (by obtain ⟨F, -, -, h⟩ := hd3; exact h); clear hd3)
    | fail)
  have CO := Lib.hid (fresh_step HD3.out HPL.out.2)
  go_upto_region 7 with (first
    | (go_at_call 8; (with_reducible refine (NM.out _ _).mono ?_); rintro e wn ⟨rfl, rfl⟩)
    | (go_at_call 10; refine CO.out.mono ?_; rintro e w4 ⟨s4, B, rfl, hc4, hl4, hs4, hn4⟩; have HI4 := Lib.hid (LInv.start hn4 hc4 hl4 hs4); clear hc4 hl4 hs4 hn4 p0 p1 y0 y1)
    | fail)
  have hwm : wrap64 ((m : Int) + 1 - 1) = (m : Int) := by unfold wrap64; omega
  have hwm2 : wrap64 ((m : Int) + 1 + -1) = (m : Int) := by unfold wrap64; omega
  have hwm3 : (m : Int) + 1 - 1 = (m : Int) := by omega
  have hwm4 : wrap64 (m : Int) = (m : Int) := by unfold wrap64; omega
  go_upto_region 9 with fail
  clear hwm hwm2 hwm3 hwm4
  go_loopw [12] (fun i W => ∃ k : Nat, k ≤ m ∧ i = .int .i64 (k : Int) ∧ Hid (LInv w0 B Bd f pg k W)) (fun i _ => ((m : Int) - intOf i).toNat)
  case atStart => exact ⟨0, Nat.zero_le _, rfl, HI4⟩
  case round =>
    obtain ⟨k, hk, rfl, HI⟩ := hrel
    by_cases hlt : k < m
    · have hltI : (k : Int) < (m : Int) := by omega
      have hltJ : (k : Int) < (m : Int) + 1 := by omega
      have hms : ((m : Int) - ((k : Int) + 1)).toNat < ((m : Int) - (k : Int)).toNat := meas_down m k hlt
      have HMS := Lib.hid hms
      have hwk : wrap64 ((k : Int) + 1) = (k : Int) + 1 := by unfold wrap64; omega
      obtain ⟨x, hx⟩ : ∃ x, A[k]? = some x := ⟨_, List.getElem?_eq_getElem (by rw [HM.out]; omega)⟩
      have hbW : Below w.heap.size w wr := kbT HB0.out HI.out.since
      obtain ⟨Ba, off, rfl, hc⟩ := HIN.out.row k x hx
      have HCX : Hid (∀ W, Below w.heap.size w W → ∀ j v, x.cs[j]? = some v → W.cell? ⟨Ba, off + k * 5 + j, none⟩ = some v) := Lib.hid fun W hb j v hv => (hb.cell (lt_of_cell_some (hc j v hv))).trans (hc j v hv)
      have HX := Lib.hid hx
      have HBW := Lib.hid hbW
      have z0 : wr.cell? ⟨Ba, off + k * 5, none⟩ = some (.int .i64 x.wh) := HCX.out wr hbW 0 _ rfl
      clear hms hx hc hbW
      by_cases hwh : x.wh.tmod 5 = 4
      · have hwe : (x.wh.tmod 5 == 4) = true := by rw [hwh]; rfl
        have CRS := Lib.hid (HI.out.reset (by omega))
        go_wp2_with (first
          | (go_at_call 18; refine CRS.out.mono ?_; rintro e w5 ⟨e5, rfl, hi5⟩; have HI5 := Lib.hid hi5; clear hi5 z0)
          | fail)
        go_roundw
        case rel => exact ⟨k + 1, hlt, by first | rfl | go_num, HI5⟩
        case measure => exact HMS.out
      · have hwe : (x.wh.tmod 5 == 4) = false := by simpa using hwh
        go_upto_region 13 with fail
        clear z0
        refine wp_region_held_drew (S := fun w' => Below w0.heap.size w0 w') (by kernel_rfl) (HI.out.below ((Below.refl _ _).drew)).since (fun H0 => ?_)
        refine wpAnyH_take (i := 0) (oi := { dst := some 90, op := Go.Op.move (Go.Operand.tmp 9), type := 30, pos := "law.go:242", after := #[], guard := none }) (v := ?_) rfl (by kernel_rfl) (by kernel_rfl) (by kernel_rfl) (fun _ _ _ h => h) (Or.inl ⟨by rfl, ?_⟩) H0 ?_
        rotate_left
        focus (intro w' hSw; (try dsimp only at hSw); go_simp; (try with_reducible rfl))
        simp only [Act.put, List.setIfInBounds_toArray, List.set_cons_zero, List.set_cons_succ]
        refine wpAnyH_take (i := 1) (oi := { dst := some 91, op := Go.Op.move (Go.Operand.tmp 1), type := 60, pos := "law.go:242", after := #[], guard := none }) (v := ?_) rfl (by kernel_rfl) (by kernel_rfl) (by kernel_rfl) (fun _ _ _ h => h) (Or.inl ⟨by rfl, ?_⟩) H0 ?_
        rotate_left
        focus (intro w' hSw; (try dsimp only at hSw); go_simp; (try with_reducible rfl))
        simp only [Act.put, List.setIfInBounds_toArray, List.set_cons_zero, List.set_cons_succ]
        refine wpAnyH_take (i := 2) (oi := { dst := some 92, op := Go.Op.move (Go.Operand.tmp 12), type := 3, pos := "law.go:242", after := #[], guard := none }) (v := ?_) rfl (by kernel_rfl) (by kernel_rfl) (by kernel_rfl) (fun _ _ _ h => h) (Or.inl ⟨by rfl, ?_⟩) H0 ?_
        rotate_left
        focus (intro w' hSw; (try dsimp only at hSw); go_simp; (try with_reducible rfl))
        simp only [Act.put, List.setIfInBounds_toArray, List.set_cons_zero, List.set_cons_succ]
        refine wpAnyH_take (i := 3) (oi := { dst := some 93, op := Go.Op.indexAddr 60 (Go.Operand.tmp 91) (Go.Operand.tmp 92), type := 0, pos := "law.go:242", after := #[{ on := 1, ground := Go.Ground.data }, { on := 2, ground := Go.Ground.data }], guard := none }) (v := ?_) rfl (by kernel_rfl) (by kernel_rfl) (by kernel_rfl) (fun _ _ _ h => h) (Or.inl ⟨by rfl, ?_⟩) H0 ?_
        rotate_left
        focus (intro w' hSw; (try dsimp only at hSw); go_simp; (try with_reducible rfl))
        simp only [Act.put, List.setIfInBounds_toArray, List.set_cons_zero, List.set_cons_succ]
        refine wpAnyH_take (i := 4) (oi := { dst := some 94, op := Go.Op.fieldAddr 66 (Go.Operand.tmp 93) 1, type := 0, pos := "law.go:242", after := #[{ on := 3, ground := Go.Ground.data }], guard := none }) (v := ?_) rfl (by kernel_rfl) (by kernel_rfl) (by kernel_rfl) (fun _ _ _ h => h) (Or.inl ⟨by rfl, ?_⟩) H0 ?_
        rotate_left
        focus (intro w' hSw; (try dsimp only at hSw); go_simp; (try with_reducible rfl))
        simp only [Act.put, List.setIfInBounds_toArray, List.set_cons_zero, List.set_cons_succ]
        refine wpAnyH_take (i := 5) (oi := { dst := some 95, op := Go.Op.load 3 (Go.Operand.tmp 94), type := 3, pos := "law.go:242", after := #[{ on := 4, ground := Go.Ground.data }], guard := none }) (v := ?_) rfl (by kernel_rfl) (by kernel_rfl) (by kernel_rfl) (fun _ _ _ h => h) (Or.inl ⟨by rfl, ?_⟩) H0 ?_
        rotate_left
        focus (intro w' hSw; (try dsimp only at hSw); have z1 := HCX.out w' (kbT HB0.out hSw) 1 _ rfl; go_simp; (try with_reducible rfl))
        simp only [Act.put, List.setIfInBounds_toArray, List.set_cons_zero, List.set_cons_succ]
        refine wpAnyH_take (i := 6) (oi := { dst := some 96, op := Go.Op.move (Go.Operand.tmp 1), type := 60, pos := "law.go:242", after := #[], guard := none }) (v := ?_) rfl (by kernel_rfl) (by kernel_rfl) (by kernel_rfl) (fun _ _ _ h => h) (Or.inl ⟨by rfl, ?_⟩) H0 ?_
        rotate_left
        focus (intro w' hSw; (try dsimp only at hSw); go_simp; (try with_reducible rfl))
        simp only [Act.put, List.setIfInBounds_toArray, List.set_cons_zero, List.set_cons_succ]
        refine wpAnyH_take (i := 7) (oi := { dst := some 97, op := Go.Op.move (Go.Operand.tmp 12), type := 3, pos := "law.go:242", after := #[], guard := none }) (v := ?_) rfl (by kernel_rfl) (by kernel_rfl) (by kernel_rfl) (fun _ _ _ h => h) (Or.inl ⟨by rfl, ?_⟩) H0 ?_
        rotate_left
        focus (intro w' hSw; (try dsimp only at hSw); go_simp; (try with_reducible rfl))
        simp only [Act.put, List.setIfInBounds_toArray, List.set_cons_zero, List.set_cons_succ]
        refine wpAnyH_take (i := 8) (oi := { dst := some 98, op := Go.Op.indexAddr 60 (Go.Operand.tmp 96) (Go.Operand.tmp 97), type := 0, pos := "law.go:242", after := #[{ on := 6, ground := Go.Ground.data }, { on := 7, ground := Go.Ground.data }], guard := none }) (v := ?_) rfl (by kernel_rfl) (by kernel_rfl) (by kernel_rfl) (fun _ _ _ h => h) (Or.inl ⟨by rfl, ?_⟩) H0 ?_
        rotate_left
        focus (intro w' hSw; (try dsimp only at hSw); go_simp; (try with_reducible rfl))
        simp only [Act.put, List.setIfInBounds_toArray, List.set_cons_zero, List.set_cons_succ]
        refine wpAnyH_take (i := 9) (oi := { dst := some 99, op := Go.Op.load 66 (Go.Operand.tmp 98), type := 66, pos := "law.go:242", after := #[{ on := 8, ground := Go.Ground.data }], guard := none }) (v := ?_) rfl (by kernel_rfl) (by kernel_rfl) (by kernel_rfl) (fun _ _ _ h => h) (Or.inl ⟨by rfl, ?_⟩) H0 ?_
        rotate_left
        focus (intro w' hSw; (try dsimp only at hSw); have hz := HCX.out w' (kbT HB0.out hSw); have z0 : w'.cell? ⟨Ba, off + k * 5, none⟩ = some (.int .i64 x.wh) := hz 0 _ rfl; have z1 := hz 1 _ rfl; have z2 := hz 2 _ rfl; have z3 := hz 3 _ rfl; have z4 := hz 4 _ rfl; clear hz; go_simp; (try with_reducible rfl))
        simp only [Act.put, List.setIfInBounds_toArray, List.set_cons_zero, List.set_cons_succ]
        refine wpAnyH_ready (rs := [10]) (by kernel_rfl) (by simp) ?_
        refine AllReadyH.cons (o := { dst := some 100, op := Go.Op.call { callee := Go.Callee.value (Go.Operand.func 22), args := #[Go.Operand.tmp 99], argTypes := #[66] }, type := 67, pos := "law.go:242", after := #[{ on := 9, ground := Go.Ground.data }], guard := none }) rfl (fun K hK => ?_) ?_
        rotate_left
        exact AllReadyH.nil
        try go_simp
        (go_at_call 22; (refine (acts_write HIN.out HX.out (HFEW.out k x HX.out).1 _ (kbT HB0.out H0)).mono ?_); rintro e w5 ⟨q5, c5, rfl, hb5, hp5⟩; have HB5 := Lib.hid (kbD hb5); have HP5 := Lib.hid hp5; clear hb5 hp5)
        try go_wp2_with fail
        refine hK.out _ _ (HI.out.below HB5.out).since (fun H1 => ?_)
        clear hK K
        try simp only [Act.put, List.setIfInBounds_toArray, List.set_cons_zero, List.set_cons_succ]
        refine wpAnyH_ready (rs := [11]) (by kernel_rfl) (by simp) ?_
        refine AllReadyH.cons (o := { dst := some 101, op := Go.Op.call { callee := Go.Callee.value (Go.Operand.func 17), args := #[Go.Operand.tmp 90, Go.Operand.tmp 95, Go.Operand.tmp 100], argTypes := #[30, 3, 67] }, type := 25, pos := "law.go:242", after := #[{ on := 0, ground := Go.Ground.data }, { on := 5, ground := Go.Ground.data }, { on := 10, ground := Go.Ground.data }, { on := 10, ground := Go.Ground.chain }], guard := none }) rfl (fun K hK => ?_) ?_
        rotate_left
        exact AllReadyH.nil
        try go_simp
        (go_at_call 17; (refine ((HI.out.below HB5.out).append (by omega) (HFEW.out k x HX.out).1 (csOf_lt (HIN.out.lt k)) HP5.out).mono ?_); rintro e w6 ⟨e6, rfl, hi6⟩; have HI6 := Lib.hid hi6; clear hi6)
        try go_wp2_with fail
        refine hK.out _ _ HI6.out.since (fun H2 => ?_)
        clear hK K
        try simp only [Act.put, List.setIfInBounds_toArray, List.set_cons_zero, List.set_cons_succ]
        refine wpAnyH_done (by kernel_rfl) ?_ _
        go_wp2_with fail
        go_roundw
        case rel => exact ⟨k + 1, hlt, by first | rfl | go_num, HI6⟩
        case measure => exact HMS.out
    · obtain rfl : k = m := by omega
      obtain ⟨s, S, E, hn, l, N, hL, hcl, hleft, hS, hE, hsl, hN⟩ := HI.out
      have HL := Lib.hid hL
      have HCL := Lib.hid hcl
      have hz := hcl.1.size
      have HST := Lib.hid (And.intro hleft (And.intro hS (And.intro hE (And.intro hsl (And.intro hN hz)))))
      have hltJ : (k : Int) < (k : Int) + 1 := by omega
      obtain ⟨x, hx⟩ : ∃ x, A[k]? = some x := ⟨_, List.getElem?_eq_getElem (by rw [HM.out]; omega)⟩
      obtain ⟨Ba, off, rfl, hc⟩ := HIN.out.row k x hx
      have HCX : Hid (∀ W, Below w.heap.size w W → ∀ j v, x.cs[j]? = some v → W.cell? ⟨Ba, off + k * 5 + j, none⟩ = some v) := Lib.hid fun W hb j v hv => (hb.cell (lt_of_cell_some (hc j v hv))).trans (hc j v hv)
      have HX := Lib.hid hx
      have HK := Lib.hid (HIN.out.keep k x hx)
      have CT := Lib.hid (told_step hL hcl.1.oks (by omega) (by omega))
      obtain ⟨sA, hsA⟩ : ∃ t, t = strOf (toldN hn l pg) := ⟨_, rfl⟩
      rw [← hsA] at CT
      have HSA := Lib.hid hsA
      obtain ⟨p0, p1, -, -⟩ := HC.out wr hL.since
      clear hL hcl hleft hS hE hsl hN hz hx hc hsA
      go_upto_region 15 with (first
        | (go_at_call 23; refine CT.out.mono ?_; rintro e w7 ⟨rfl, hb7⟩; have HB7 := Lib.hid hb7; clear hb7 p0 p1)
        | fail)
      have HL7 := Lib.hid (HL.out.below HB7.out)
      refine wp_region_held_drew (S := fun w' => Below w0.heap.size w0 w') (by kernel_rfl) (HL7.out.below ((Below.refl _ _).drew)).since (fun H0 => ?_)
      refine wpAnyH_take (i := 0) (oi := { dst := some 107, op := Go.Op.move (Go.Operand.tmp 7), type := 24, pos := "law.go:245", after := #[], guard := none }) (v := ?_) rfl (by kernel_rfl) (by kernel_rfl) (by kernel_rfl) (fun _ _ _ h => h) (Or.inl ⟨by rfl, ?_⟩) H0 ?_
      rotate_left
      focus (intro w' hSw; (try dsimp only at hSw); go_simp; (try with_reducible rfl))
      simp only [Act.put, List.setIfInBounds_toArray, List.set_cons_zero, List.set_cons_succ]
      refine wpAnyH_take (i := 2) (oi := { dst := some 109, op := Go.Op.load 23 (Go.Operand.tmp 3), type := 23, pos := "law.go:245", after := #[], guard := none }) (v := ?_) rfl (by kernel_rfl) (by kernel_rfl) (by kernel_rfl) (fun _ _ _ h => h) (Or.inl ⟨by rfl, ?_⟩) H0 ?_
      rotate_left
      focus (intro w' hSw; (try dsimp only at hSw); obtain ⟨p0, p1, -, -⟩ := HC.out _ hSw; go_simp; (try with_reducible rfl))
      simp only [Act.put, List.setIfInBounds_toArray, List.set_cons_zero, List.set_cons_succ]
      refine wpAnyH_ready (rs := [1]) (by kernel_rfl) (by simp) ?_
      refine AllReadyH.cons (o := { dst := some 108, op := Go.Op.call { callee := Go.Callee.value (Go.Operand.func 24), args := #[Go.Operand.tmp 107], argTypes := #[24] }, type := 24, pos := "law.go:245", after := #[{ on := 0, ground := Go.Ground.data }], guard := none }) rfl (fun K hK => ?_) ?_
      rotate_left
      exact AllReadyH.nil
      try go_simp
      (go_at_call 24; (refine (copy_step (HL7.out.below ((Below.refl _ _).drew)).disk HCL.out.1.whole (Few_of (by rw [HCL.out.1.loose]; have := HST.out.2.2.2.1; simp; omega))).mono ?_); rintro e w8 ⟨Bc, rfl, hd8⟩; have HD8 := Lib.hid hd8; clear hd8)
      try go_wp2_with fail
      refine hK.out _ _ (by obtain ⟨F8, -, -, h8⟩ := HD8.out; exact (HL7.out.below (kbD h8)).since) (fun H1 => ?_)
      clear hK K
      try simp only [Act.put, List.setIfInBounds_toArray, List.set_cons_zero, List.set_cons_succ]
      refine wpAnyH_ready (rs := [3]) (by kernel_rfl) (by simp) ?_
      refine AllReadyH.cons (o := { dst := some 110, op := Go.Op.call { callee := Go.Callee.value (Go.Operand.func 10), args := #[Go.Operand.tmp 108, Go.Operand.tmp 109], argTypes := #[24, 23] }, type := 31, pos := "law.go:245", after := #[{ on := 1, ground := Go.Ground.data }, { on := 2, ground := Go.Ground.data }, { on := 1, ground := Go.Ground.chain }], guard := none }) rfl (fun K hK => ?_) ?_
      rotate_left
      exact AllReadyH.nil
      try go_simp
      (go_at_call 10; (refine (sound_step HD8.out HCL.out.sound (by rw [HST.out.1]; decide) (by rw [HCL.out.1.loose]; have := HST.out.2.2.2.1; simp; omega)).mono ?_); rintro e w9 ⟨B2, rfl, hl9⟩; have HL9 := Lib.hid hl9; clear hl9)
      try go_wp2_with fail
      refine hK.out _ _ (HL7.out.below (kbD HL9.out.since)).since (fun H2 => ?_)
      clear hK K
      try simp only [Act.put, List.setIfInBounds_toArray, List.set_cons_zero, List.set_cons_succ]
      refine wpAnyH_take (i := 4) (oi := { dst := some 106, op := Go.Op.move (Go.Operand.tmp 110), type := 31, pos := "law.go:245", after := #[{ on := 3, ground := Go.Ground.data }], guard := none }) (v := ?_) rfl (by kernel_rfl) (by kernel_rfl) (by kernel_rfl) (fun _ _ _ h => h) (Or.inl ⟨by rfl, ?_⟩) H2 ?_
      rotate_left
      focus (intro w' hSw; (try dsimp only at hSw); go_simp; (try with_reducible rfl))
      simp only [Act.put, List.setIfInBounds_toArray, List.set_cons_zero, List.set_cons_succ]
      refine wpAnyH_take (i := 5) (oi := { dst := some 111, op := Go.Op.extract (Go.Operand.tmp 106) 0, type := 30, pos := "law.go:245", after := #[{ on := 4, ground := Go.Ground.data }], guard := none }) (v := ?_) rfl (by kernel_rfl) (by kernel_rfl) (by kernel_rfl) (fun _ _ _ h => h) (Or.inl ⟨by rfl, ?_⟩) H2 ?_
      rotate_left
      focus (intro w' hSw; (try dsimp only at hSw); go_simp; (try with_reducible rfl))
      simp only [Act.put, List.setIfInBounds_toArray, List.set_cons_zero, List.set_cons_succ]
      refine wpAnyH_take (i := 6) (oi := { dst := some 112, op := Go.Op.extract (Go.Operand.tmp 106) 1, type := 25, pos := "law.go:245", after := #[{ on := 4, ground := Go.Ground.data }, { on := 7, ground := Go.Ground.gcOnly Go.Departure.lateStores }], guard := none }) (v := ?_) rfl (by kernel_rfl) (by kernel_rfl) (by kernel_rfl) (fun _ _ _ h => h) (Or.inl ⟨by rfl, ?_⟩) H2 ?_
      rotate_left
      focus (intro w' hSw; (try dsimp only at hSw); go_simp; (try with_reducible rfl))
      simp only [Act.put, List.setIfInBounds_toArray, List.set_cons_zero, List.set_cons_succ]
      refine wpAnyH_take (i := 7) (oi := { dst := some 14, op := Go.Op.assign (Go.Operand.tmp 111), type := 30, pos := "law.go:245", after := #[{ on := 5, ground := Go.Ground.data }, { on := 3, ground := Go.Ground.chain }, { on := 0, ground := Go.Ground.phase }, { on := 1, ground := Go.Ground.phase }, { on := 2, ground := Go.Ground.phase }, { on := 3, ground := Go.Ground.phase }, { on := 4, ground := Go.Ground.phase }, { on := 5, ground := Go.Ground.phase }, { on := 6, ground := Go.Ground.textOnly Go.Departure.lateStores }], guard := none }) (v := ?_) rfl (by kernel_rfl) (by kernel_rfl) (by kernel_rfl) (fun _ _ _ h => h) (Or.inl ⟨by rfl, ?_⟩) H2 ?_
      rotate_left
      focus (intro w' hSw; (try dsimp only at hSw); go_simp; (try with_reducible rfl))
      simp only [Act.put, List.setIfInBounds_toArray, List.set_cons_zero, List.set_cons_succ]
      refine wpAnyH_take (i := 8) (oi := { dst := some 15, op := Go.Op.assign (Go.Operand.tmp 112), type := 25, pos := "law.go:245", after := #[{ on := 6, ground := Go.Ground.data }, { on := 7, ground := Go.Ground.chain }, { on := 0, ground := Go.Ground.phase }, { on := 1, ground := Go.Ground.phase }, { on := 2, ground := Go.Ground.phase }, { on := 3, ground := Go.Ground.phase }, { on := 4, ground := Go.Ground.phase }, { on := 5, ground := Go.Ground.phase }, { on := 6, ground := Go.Ground.phase }, { on := 7, ground := Go.Ground.phase }], guard := none }) (v := ?_) rfl (by kernel_rfl) (by kernel_rfl) (by kernel_rfl) (fun _ _ _ h => h) (Or.inl ⟨by rfl, ?_⟩) H2 ?_
      rotate_left
      focus (intro w' hSw; (try dsimp only at hSw); go_simp; (try with_reducible rfl))
      simp only [Act.put, List.setIfInBounds_toArray, List.set_cons_zero, List.set_cons_succ]
      refine wpAnyH_done (by kernel_rfl) ?_ _
      go_upto_region 16 with fail
      have CT9 := Lib.hid (told_step HL9.out HCL.out.1.oks (by omega) (by have := HST.out.2.2.2.2.2; omega))
      rw [← HSA.out] at CT9
      have HB79 : Hid (Below w7.heap.size w7 w9) := Lib.hid (kbD HL9.out.since)
      obtain ⟨p0, p1, -, -⟩ := HC.out w9 (HL7.out.below HB79.out).since
      go_upto_region 19 with (first
        | (go_at_call 8; (with_reducible refine (NM.out _ _).mono ?_); rintro e wn ⟨rfl, rfl⟩)
        | (go_at_call 23; refine CT9.out.mono ?_; rintro e w10 ⟨rfl, hb10⟩; have HB10 := Lib.hid hb10; clear hb10 p0 p1)
        | fail)
      have HL10 := Lib.hid (HL9.out.below HB10.out)
      obtain ⟨sW, hsW⟩ : ∃ t, t = strOf (wantN f pg hn x.n1 l x.sz (P k) (csOf x (Bs k))) := ⟨_, rfl⟩
      have HSW := Lib.hid hsW
      clear hsW
      have HB710 : Hid (Below w7.heap.size w7 w10) := Lib.hid (kbT HB79.out HB10.out)
      refine wp_region_held_drew (S := fun w' => Below w0.heap.size w0 w') (by kernel_rfl) (HL7.out.below (kbT HB710.out ((Below.refl _ _).drew))).since (fun H0 => ?_)
      refine wpAnyH_take (i := 0) (oi := { dst := some 125, op := Go.Op.move (Go.Operand.tmp 14), type := 30, pos := "law.go:250", after := #[], guard := none }) (v := ?_) rfl (by kernel_rfl) (by kernel_rfl) (by kernel_rfl) (fun _ _ _ h => h) (Or.inl ⟨by rfl, ?_⟩) H0 ?_
      rotate_left
      focus (intro w' hSw; (try dsimp only at hSw); go_simp; (try with_reducible rfl))
      simp only [Act.put, List.setIfInBounds_toArray, List.set_cons_zero, List.set_cons_succ]
      refine wpAnyH_take (i := 1) (oi := { dst := some 126, op := Go.Op.move (Go.Operand.tmp 1), type := 60, pos := "law.go:250", after := #[], guard := none }) (v := ?_) rfl (by kernel_rfl) (by kernel_rfl) (by kernel_rfl) (fun _ _ _ h => h) (Or.inl ⟨by rfl, ?_⟩) H0 ?_
      rotate_left
      focus (intro w' hSw; (try dsimp only at hSw); go_simp; (try with_reducible rfl))
      simp only [Act.put, List.setIfInBounds_toArray, List.set_cons_zero, List.set_cons_succ]
      refine wpAnyH_take (i := 2) (oi := { dst := some 127, op := Go.Op.move (Go.Operand.tmp 11), type := 3, pos := "law.go:250", after := #[], guard := none }) (v := ?_) rfl (by kernel_rfl) (by kernel_rfl) (by kernel_rfl) (fun _ _ _ h => h) (Or.inl ⟨by rfl, ?_⟩) H0 ?_
      rotate_left
      focus (intro w' hSw; (try dsimp only at hSw); go_simp; (try with_reducible rfl))
      simp only [Act.put, List.setIfInBounds_toArray, List.set_cons_zero, List.set_cons_succ]
      refine wpAnyH_take (i := 3) (oi := { dst := some 128, op := Go.Op.indexAddr 60 (Go.Operand.tmp 126) (Go.Operand.tmp 127), type := 0, pos := "law.go:250", after := #[{ on := 1, ground := Go.Ground.data }, { on := 2, ground := Go.Ground.data }], guard := none }) (v := ?_) rfl (by kernel_rfl) (by kernel_rfl) (by kernel_rfl) (fun _ _ _ h => h) (Or.inl ⟨by rfl, ?_⟩) H0 ?_
      rotate_left
      focus (intro w' hSw; (try dsimp only at hSw); go_simp; (try with_reducible rfl))
      simp only [Act.put, List.setIfInBounds_toArray, List.set_cons_zero, List.set_cons_succ]
      refine wpAnyH_take (i := 4) (oi := { dst := some 129, op := Go.Op.fieldAddr 66 (Go.Operand.tmp 128) 1, type := 0, pos := "law.go:250", after := #[{ on := 3, ground := Go.Ground.data }], guard := none }) (v := ?_) rfl (by kernel_rfl) (by kernel_rfl) (by kernel_rfl) (fun _ _ _ h => h) (Or.inl ⟨by rfl, ?_⟩) H0 ?_
      rotate_left
      focus (intro w' hSw; (try dsimp only at hSw); go_simp; (try with_reducible rfl))
      simp only [Act.put, List.setIfInBounds_toArray, List.set_cons_zero, List.set_cons_succ]
      refine wpAnyH_take (i := 5) (oi := { dst := some 130, op := Go.Op.load 3 (Go.Operand.tmp 129), type := 3, pos := "law.go:250", after := #[{ on := 4, ground := Go.Ground.data }], guard := none }) (v := ?_) rfl (by kernel_rfl) (by kernel_rfl) (by kernel_rfl) (fun _ _ _ h => h) (Or.inl ⟨by rfl, ?_⟩) H0 ?_
      rotate_left
      focus (intro w' hSw; (try dsimp only at hSw); have z1 := HCX.out w' (kbT HB0.out hSw) 1 _ rfl; go_simp; (try with_reducible rfl))
      simp only [Act.put, List.setIfInBounds_toArray, List.set_cons_zero, List.set_cons_succ]
      refine wpAnyH_take (i := 6) (oi := { dst := some 131, op := Go.Op.move (Go.Operand.tmp 1), type := 60, pos := "law.go:250", after := #[], guard := none }) (v := ?_) rfl (by kernel_rfl) (by kernel_rfl) (by kernel_rfl) (fun _ _ _ h => h) (Or.inl ⟨by rfl, ?_⟩) H0 ?_
      rotate_left
      focus (intro w' hSw; (try dsimp only at hSw); go_simp; (try with_reducible rfl))
      simp only [Act.put, List.setIfInBounds_toArray, List.set_cons_zero, List.set_cons_succ]
      refine wpAnyH_take (i := 7) (oi := { dst := some 132, op := Go.Op.move (Go.Operand.tmp 11), type := 3, pos := "law.go:250", after := #[], guard := none }) (v := ?_) rfl (by kernel_rfl) (by kernel_rfl) (by kernel_rfl) (fun _ _ _ h => h) (Or.inl ⟨by rfl, ?_⟩) H0 ?_
      rotate_left
      focus (intro w' hSw; (try dsimp only at hSw); go_simp; (try with_reducible rfl))
      simp only [Act.put, List.setIfInBounds_toArray, List.set_cons_zero, List.set_cons_succ]
      refine wpAnyH_take (i := 8) (oi := { dst := some 133, op := Go.Op.indexAddr 60 (Go.Operand.tmp 131) (Go.Operand.tmp 132), type := 0, pos := "law.go:250", after := #[{ on := 6, ground := Go.Ground.data }, { on := 7, ground := Go.Ground.data }], guard := none }) (v := ?_) rfl (by kernel_rfl) (by kernel_rfl) (by kernel_rfl) (fun _ _ _ h => h) (Or.inl ⟨by rfl, ?_⟩) H0 ?_
      rotate_left
      focus (intro w' hSw; (try dsimp only at hSw); go_simp; (try with_reducible rfl))
      simp only [Act.put, List.setIfInBounds_toArray, List.set_cons_zero, List.set_cons_succ]
      refine wpAnyH_take (i := 9) (oi := { dst := some 134, op := Go.Op.load 66 (Go.Operand.tmp 133), type := 66, pos := "law.go:250", after := #[{ on := 8, ground := Go.Ground.data }], guard := none }) (v := ?_) rfl (by kernel_rfl) (by kernel_rfl) (by kernel_rfl) (fun _ _ _ h => h) (Or.inl ⟨by rfl, ?_⟩) H0 ?_
      rotate_left
      focus (intro w' hSw; (try dsimp only at hSw); have hz := HCX.out w' (kbT HB0.out hSw); have z0 : w'.cell? ⟨Ba, off + k * 5, none⟩ = some (.int .i64 x.wh) := hz 0 _ rfl; have z1 := hz 1 _ rfl; have z2 := hz 2 _ rfl; have z3 := hz 3 _ rfl; have z4 := hz 4 _ rfl; clear hz; go_simp; (try with_reducible rfl))
      simp only [Act.put, List.setIfInBounds_toArray, List.set_cons_zero, List.set_cons_succ]
      refine wpAnyH_ready (rs := [10]) (by kernel_rfl) (by simp) ?_
      refine AllReadyH.cons (o := { dst := some 135, op := Go.Op.call { callee := Go.Callee.value (Go.Operand.func 22), args := #[Go.Operand.tmp 134], argTypes := #[66] }, type := 67, pos := "law.go:250", after := #[{ on := 9, ground := Go.Ground.data }], guard := none }) rfl (fun K hK => ?_) ?_
      rotate_left
      exact AllReadyH.nil
      try go_simp
      (go_at_call 22; (refine (acts_write HIN.out HX.out (HFEW.out k x HX.out).1 _ (kbT HB0.out H0)).mono ?_); rintro e w11 ⟨q11, c11, rfl, hb11, hp11⟩; have HB11 := Lib.hid (kbD hb11); have HP11 := Lib.hid hp11; clear hb11 hp11)
      try go_wp2_with fail
      refine hK.out _ _ (HL7.out.below (kbT HB710.out HB11.out)).since (fun H1 => ?_)
      clear hK K
      try simp only [Act.put, List.setIfInBounds_toArray, List.set_cons_zero, List.set_cons_succ]
      refine wpAnyH_ready (rs := [11]) (by kernel_rfl) (by simp) ?_
      refine AllReadyH.cons (o := { dst := some 136, op := Go.Op.call { callee := Go.Callee.value (Go.Operand.func 17), args := #[Go.Operand.tmp 125, Go.Operand.tmp 130, Go.Operand.tmp 135], argTypes := #[30, 3, 67] }, type := 25, pos := "law.go:250", after := #[{ on := 0, ground := Go.Ground.data }, { on := 5, ground := Go.Ground.data }, { on := 10, ground := Go.Ground.data }, { on := 10, ground := Go.Ground.chain }], guard := none }) rfl (fun K hK => ?_) ?_
      rotate_left
      exact AllReadyH.nil
      try go_simp
      (go_at_call 17; (refine (append_step (HL10.out.below HB11.out) HCL.out.1.whole (by rw [HCL.out.1.loose]; have := HST.out.2.2.2.1; simp; omega) HPL.out.2 HCL.out.1.len (by have := (HFEW.out k x HX.out).1; omega) (by have := HCL.out.1.len; omega) (by have := HST.out.2.1; omega) (by have := HST.out.2.2.1; omega) (by have := HST.out.2.2.2.2.2; omega) (csOf_lt (HIN.out.lt k)) HP11.out).mono ?_); rintro e w12 ⟨e12, rfl, ha12⟩; have HA12 := Lib.hid ha12; clear ha12)
      try go_wp2_with fail
      refine hK.out _ _ (HL7.out.below (kbD (AppN.since HA12.out))).since (fun H2 => ?_)
      clear hK K
      try simp only [Act.put, List.setIfInBounds_toArray, List.set_cons_zero, List.set_cons_succ]
      refine wpAnyH_ready (rs := [12]) (by kernel_rfl) (by simp) ?_
      refine AllReadyH.cons (o := { dst := some 137, op := Go.Op.call { callee := Go.Callee.value (Go.Operand.func 8), args := #[Go.Operand.tmp 136], argTypes := #[25] }, type := 3, pos := "law.go:250", after := #[{ on := 11, ground := Go.Ground.data }, { on := 11, ground := Go.Ground.chain }], guard := none }) rfl (fun K hK => ?_) ?_
      rotate_left
      exact AllReadyH.nil
      try go_simp
      (go_at_call 8; (with_reducible refine (NM.out _ _).mono ?_); rintro e wn ⟨rfl, rfl⟩)
      try go_wp2_with fail
      refine hK.out _ _ H2 (fun H3 => ?_)
      clear hK K
      try simp only [Act.put, List.setIfInBounds_toArray, List.set_cons_zero, List.set_cons_succ]
      clear H3
      refine wpAnyH_take (i := 13) (oi := { dst := some 138, op := Go.Op.binOp Go.BinOp.eql 3 (Go.Operand.tmp 137) (Go.Operand.const (Go.Value.int Go.IntKind.i64 0)) 3, type := 4, pos := "law.go:250", after := #[{ on := 12, ground := Go.Ground.data }], guard := none }) (v := ?_) rfl (by kernel_rfl) (by kernel_rfl) (by kernel_rfl) (fun _ _ _ h => h) (Or.inl ⟨by rfl, ?_⟩) H2 ?_
      rotate_left
      focus (intro w' hSw; (try dsimp only at hSw); go_simp; (try with_reducible rfl))
      simp only [Act.put, List.setIfInBounds_toArray, List.set_cons_zero, List.set_cons_succ]
      refine wpAnyH_done (by kernel_rfl) ?_ _
      go_upto_if 138 with fail
      go_cut [16] from 125 to 142 (fun wv wx => wv = .string sW ∧ Below w7.heap.size w7 wx)
      case first =>
        have hrun : decE f pg l.length x.n1 x.sz (P k) = 0 → (runOps s (appOps S E hn l (framesOf x.n1 x.sz (P k) (csOf x (Bs k))))).2 = 0 ∧ Clean (runOps s (appOps S E hn l (framesOf x.n1 x.sz (P k) (csOf x (Bs k))))).1 f pg (S + 1) E (sizeF hn l) (l ++ framesOf x.n1 x.sz (P k) (csOf x (Bs k))) := fun hd => by
          obtain ⟨hw, hroom⟩ := dec_parts hd
          have h := app_run HCL.out (next_of (cs := csOf x (Bs k)) hw hroom (csOf_lt (HIN.out.lt k))) (by have := HST.out.2.1; omega) HST.out.1
          exact ⟨h.1, h.2.2.1⟩
        have HRUN := Lib.hid hrun
        clear hrun
        rcases HA12.out with h | h
        · obtain ⟨hd, he, hl⟩ := h
          have hee : (e12 == 0) = false := by rw [he]; simpa using hd
          have hw : sW = sA := by rw [HSW.out, HSA.out]; unfold wantN; rw [if_neg hd]
          have HWW := Lib.hid hw
          have HLB : Hid (Below w7.heap.size w7 w12) := Lib.hid (kbD hl.since)
          clear hd he hl hw
          go_wp2_with fail
          go_meet
          exact ⟨by rw [HWW.out], HLB.out⟩
        · obtain ⟨hd, he, -, hl⟩ := h
          have hr := HRUN.out hd
          have e0 : e12 = 0 := he.trans hr.1
          have hl2 := hl e0
          have hee : (e12 == 0) = true := by rw [e0]; rfl
          have hz := hr.2.1.size
          have CT12 := Lib.hid (told_step hl2 hr.2.1.oks (by omega) (by omega))
          have hw : sW = strOf (toldN (sizeF hn l) (l ++ framesOf x.n1 x.sz (P k) (csOf x (Bs k))) pg) := by rw [HSW.out]; unfold wantN; rw [if_pos hd]
          rw [← hw] at CT12
          have HLB : Hid (Below w7.heap.size w7 w12) := Lib.hid (kbD hl2.since)
          obtain ⟨p0, p1, -, -⟩ := HC.out w12 (HL7.out.below HLB.out).since
          clear hd he hl hl2 hr hw e0
          go_wp2_with (first
            | (go_at_call 23; refine CT12.out.mono ?_; rintro e w13 ⟨rfl, hb13⟩; have HB13 := Lib.hid hb13; clear hb13)
            | fail)
          go_meet

          exact ⟨rfl, kbT HLB.out HB13.out⟩
      case rest =>
        obtain ⟨rfl, hbc⟩ := hcut
        have HLC := Lib.hid (HL7.out.below hbc)
        clear hbc
        obtain ⟨-, -, y0, y1⟩ := HC.out wc HLC.out.since
        have CST := Lib.hid (lstop_step a HLC.out HCL.out.1.whole (by omega))
        go_upto_region 22 with (first
          | (go_at_call 25; refine CST.out.mono ?_; rintro e w14 ⟨rfl, hl14⟩; have HL14 := Lib.hid hl14; clear hl14 y0 y1)
          | fail)
        have HC14 := Lib.hid (HCL.out.stopped a (by omega))
        refine wp_region_held_drew (S := fun w' => Below w0.heap.size w0 w') (by kernel_rfl) (HL14.out.below ((Below.refl _ _).drew)).since (fun H0 => ?_)
        refine wpAnyH_take (i := 0) (oi := { dst := some 147, op := Go.Op.move (Go.Operand.tmp 9), type := 30, pos := "law.go:254", after := #[], guard := none }) (v := ?_) rfl (by kernel_rfl) (by kernel_rfl) (by kernel_rfl) (fun _ _ _ h => h) (Or.inl ⟨by rfl, ?_⟩) H0 ?_
        rotate_left
        focus (intro w' hSw; (try dsimp only at hSw); go_simp; (try with_reducible rfl))
        simp only [Act.put, List.setIfInBounds_toArray, List.set_cons_zero, List.set_cons_succ]
        refine wpAnyH_take (i := 1) (oi := { dst := some 148, op := Go.Op.move (Go.Operand.tmp 1), type := 60, pos := "law.go:254", after := #[], guard := none }) (v := ?_) rfl (by kernel_rfl) (by kernel_rfl) (by kernel_rfl) (fun _ _ _ h => h) (Or.inl ⟨by rfl, ?_⟩) H0 ?_
        rotate_left
        focus (intro w' hSw; (try dsimp only at hSw); go_simp; (try with_reducible rfl))
        simp only [Act.put, List.setIfInBounds_toArray, List.set_cons_zero, List.set_cons_succ]
        refine wpAnyH_take (i := 2) (oi := { dst := some 149, op := Go.Op.move (Go.Operand.tmp 11), type := 3, pos := "law.go:254", after := #[], guard := none }) (v := ?_) rfl (by kernel_rfl) (by kernel_rfl) (by kernel_rfl) (fun _ _ _ h => h) (Or.inl ⟨by rfl, ?_⟩) H0 ?_
        rotate_left
        focus (intro w' hSw; (try dsimp only at hSw); go_simp; (try with_reducible rfl))
        simp only [Act.put, List.setIfInBounds_toArray, List.set_cons_zero, List.set_cons_succ]
        refine wpAnyH_take (i := 3) (oi := { dst := some 150, op := Go.Op.indexAddr 60 (Go.Operand.tmp 148) (Go.Operand.tmp 149), type := 0, pos := "law.go:254", after := #[{ on := 1, ground := Go.Ground.data }, { on := 2, ground := Go.Ground.data }], guard := none }) (v := ?_) rfl (by kernel_rfl) (by kernel_rfl) (by kernel_rfl) (fun _ _ _ h => h) (Or.inl ⟨by rfl, ?_⟩) H0 ?_
        rotate_left
        focus (intro w' hSw; (try dsimp only at hSw); go_simp; (try with_reducible rfl))
        simp only [Act.put, List.setIfInBounds_toArray, List.set_cons_zero, List.set_cons_succ]
        refine wpAnyH_take (i := 4) (oi := { dst := some 151, op := Go.Op.fieldAddr 66 (Go.Operand.tmp 150) 1, type := 0, pos := "law.go:254", after := #[{ on := 3, ground := Go.Ground.data }], guard := none }) (v := ?_) rfl (by kernel_rfl) (by kernel_rfl) (by kernel_rfl) (fun _ _ _ h => h) (Or.inl ⟨by rfl, ?_⟩) H0 ?_
        rotate_left
        focus (intro w' hSw; (try dsimp only at hSw); go_simp; (try with_reducible rfl))
        simp only [Act.put, List.setIfInBounds_toArray, List.set_cons_zero, List.set_cons_succ]
        refine wpAnyH_take (i := 5) (oi := { dst := some 152, op := Go.Op.load 3 (Go.Operand.tmp 151), type := 3, pos := "law.go:254", after := #[{ on := 4, ground := Go.Ground.data }], guard := none }) (v := ?_) rfl (by kernel_rfl) (by kernel_rfl) (by kernel_rfl) (fun _ _ _ h => h) (Or.inl ⟨by rfl, ?_⟩) H0 ?_
        rotate_left
        focus (intro w' hSw; (try dsimp only at hSw); have z1 := HCX.out w' (kbT HB0.out hSw) 1 _ rfl; go_simp; (try with_reducible rfl))
        simp only [Act.put, List.setIfInBounds_toArray, List.set_cons_zero, List.set_cons_succ]
        refine wpAnyH_take (i := 6) (oi := { dst := some 153, op := Go.Op.move (Go.Operand.tmp 1), type := 60, pos := "law.go:254", after := #[], guard := none }) (v := ?_) rfl (by kernel_rfl) (by kernel_rfl) (by kernel_rfl) (fun _ _ _ h => h) (Or.inl ⟨by rfl, ?_⟩) H0 ?_
        rotate_left
        focus (intro w' hSw; (try dsimp only at hSw); go_simp; (try with_reducible rfl))
        simp only [Act.put, List.setIfInBounds_toArray, List.set_cons_zero, List.set_cons_succ]
        refine wpAnyH_take (i := 7) (oi := { dst := some 154, op := Go.Op.move (Go.Operand.tmp 11), type := 3, pos := "law.go:254", after := #[], guard := none }) (v := ?_) rfl (by kernel_rfl) (by kernel_rfl) (by kernel_rfl) (fun _ _ _ h => h) (Or.inl ⟨by rfl, ?_⟩) H0 ?_
        rotate_left
        focus (intro w' hSw; (try dsimp only at hSw); go_simp; (try with_reducible rfl))
        simp only [Act.put, List.setIfInBounds_toArray, List.set_cons_zero, List.set_cons_succ]
        refine wpAnyH_take (i := 8) (oi := { dst := some 155, op := Go.Op.indexAddr 60 (Go.Operand.tmp 153) (Go.Operand.tmp 154), type := 0, pos := "law.go:254", after := #[{ on := 6, ground := Go.Ground.data }, { on := 7, ground := Go.Ground.data }], guard := none }) (v := ?_) rfl (by kernel_rfl) (by kernel_rfl) (by kernel_rfl) (fun _ _ _ h => h) (Or.inl ⟨by rfl, ?_⟩) H0 ?_
        rotate_left
        focus (intro w' hSw; (try dsimp only at hSw); go_simp; (try with_reducible rfl))
        simp only [Act.put, List.setIfInBounds_toArray, List.set_cons_zero, List.set_cons_succ]
        refine wpAnyH_take (i := 9) (oi := { dst := some 156, op := Go.Op.load 66 (Go.Operand.tmp 155), type := 66, pos := "law.go:254", after := #[{ on := 8, ground := Go.Ground.data }], guard := none }) (v := ?_) rfl (by kernel_rfl) (by kernel_rfl) (by kernel_rfl) (fun _ _ _ h => h) (Or.inl ⟨by rfl, ?_⟩) H0 ?_
        rotate_left
        focus (intro w' hSw; (try dsimp only at hSw); have hz := HCX.out w' (kbT HB0.out hSw); have z0 : w'.cell? ⟨Ba, off + k * 5, none⟩ = some (.int .i64 x.wh) := hz 0 _ rfl; have z1 := hz 1 _ rfl; have z2 := hz 2 _ rfl; have z3 := hz 3 _ rfl; have z4 := hz 4 _ rfl; clear hz; go_simp; (try with_reducible rfl))
        simp only [Act.put, List.setIfInBounds_toArray, List.set_cons_zero, List.set_cons_succ]
        refine wpAnyH_ready (rs := [10]) (by kernel_rfl) (by simp) ?_
        refine AllReadyH.cons (o := { dst := some 157, op := Go.Op.call { callee := Go.Callee.value (Go.Operand.func 22), args := #[Go.Operand.tmp 156], argTypes := #[66] }, type := 67, pos := "law.go:254", after := #[{ on := 9, ground := Go.Ground.data }], guard := none }) rfl (fun K hK => ?_) ?_
        rotate_left
        exact AllReadyH.nil
        try go_simp
        (go_at_call 22; (refine (acts_write HIN.out HX.out (HFEW.out k x HX.out).1 _ (kbT HB0.out H0)).mono ?_); rintro e w15 ⟨q15, c15, rfl, hb15, hp15⟩; have HB15 := Lib.hid (kbD hb15); have HP15 := Lib.hid hp15; clear hb15 hp15)
        try go_wp2_with fail
        refine hK.out _ _ (HL14.out.below HB15.out).since (fun H1 => ?_)
        clear hK K
        try simp only [Act.put, List.setIfInBounds_toArray, List.set_cons_zero, List.set_cons_succ]
        refine wpAnyH_ready (rs := [11]) (by kernel_rfl) (by simp) ?_
        refine AllReadyH.cons (o := { dst := some 158, op := Go.Op.call { callee := Go.Callee.value (Go.Operand.func 17), args := #[Go.Operand.tmp 147, Go.Operand.tmp 152, Go.Operand.tmp 157], argTypes := #[30, 3, 67] }, type := 25, pos := "law.go:254", after := #[{ on := 0, ground := Go.Ground.data }, { on := 5, ground := Go.Ground.data }, { on := 10, ground := Go.Ground.data }, { on := 10, ground := Go.Ground.chain }], guard := none }) rfl (fun K hK => ?_) ?_
        rotate_left
        exact AllReadyH.nil
        try go_simp
        (go_at_call 17; (refine (append_step (HL14.out.below HB15.out) HC14.out.1.whole (by rw [HC14.out.1.loose]; have := HST.out.2.2.2.1; simp; omega) HPL.out.2 HCL.out.1.len (by have := (HFEW.out k x HX.out).1; omega) (by have := HST.out.2.2.2.2.1; omega) (by have := HST.out.2.1; omega) (by have := HST.out.2.2.1; omega) (by have := HST.out.2.2.2.2.2; omega) (csOf_lt (HIN.out.lt k)) HP15.out).mono ?_); rintro e w16 ⟨e16, rfl, ha16⟩; have HA16 := Lib.hid ha16; clear ha16)
        try go_wp2_with fail
        refine hK.out _ _ (AppN.since HA16.out) (fun H2 => ?_)
        clear hK K
        try simp only [Act.put, List.setIfInBounds_toArray, List.set_cons_zero, List.set_cons_succ]
        refine wpAnyH_take (i := 12) (oi := { dst := some 18, op := Go.Op.assign (Go.Operand.tmp 158), type := 25, pos := "law.go:254", after := #[{ on := 11, ground := Go.Ground.data }, { on := 11, ground := Go.Ground.chain }, { on := 0, ground := Go.Ground.phase }, { on := 1, ground := Go.Ground.phase }, { on := 2, ground := Go.Ground.phase }, { on := 3, ground := Go.Ground.phase }, { on := 4, ground := Go.Ground.phase }, { on := 5, ground := Go.Ground.phase }, { on := 6, ground := Go.Ground.phase }, { on := 7, ground := Go.Ground.phase }, { on := 8, ground := Go.Ground.phase }, { on := 9, ground := Go.Ground.phase }, { on := 10, ground := Go.Ground.phase }, { on := 11, ground := Go.Ground.phase }], guard := none }) (v := ?_) rfl (by kernel_rfl) (by kernel_rfl) (by kernel_rfl) (fun _ _ _ h => h) (Or.inl ⟨by rfl, ?_⟩) H2 ?_
        rotate_left
        focus (intro w' hSw; (try dsimp only at hSw); go_simp; (try with_reducible rfl))
        simp only [Act.put, List.setIfInBounds_toArray, List.set_cons_zero, List.set_cons_succ]
        refine wpAnyH_done (by kernel_rfl) ?_ _
        go_upto_region 23 with fail
        obtain ⟨s16, hd16, hw16, hn16, hf16⟩ := HA16.out.finds HC14.out (by have := HST.out.2.1; omega) (HFEW.out k x HX.out).1 (csOf_lt (HIN.out.lt k)) (by have := HST.out.2.2.2.1; show s.sync.length ≤ 1000; omega)
        have ht3 := (HFEW.out k x HX.out).2
        have htm : 0 ≤ (x.n3 : Int).tmod 64 ∧ (x.n3 : Int).tmod 64 ≤ 63 := by
          rw [Int.tmod_eq_emod_of_nonneg (by omega)]
          omega
        obtain ⟨S', E', hn', l', hso, hor⟩ := hf16 ((x.n3 : Int).tmod 64) (Kp k) htm
        have HD16 := Lib.hid hd16
        have HOR : Hid ((strOf (toldN hn' l' pg) = sA ∧ e16 ≠ 0) ∨ strOf (toldN hn' l' pg) = sW) := Lib.hid (by
          rcases hor with ⟨h1, h2⟩ | h1
          · exact .inl ⟨by rw [h1, HSA.out], h2⟩
          · exact .inr (by rw [h1, HSW.out]))
        have hsh := crash_shape (s := s16) (tear := (x.n3 : Int).tmod 64) (keep := Kp k) htm
        have hcl := crash_len (s := s16) (tear := (x.n3 : Int).tmod 64) (keep := Kp k)
        have CCR : Hid (∀ W, Below w16.heap.size w16 W → Calls Tryz.prog 26 #[.pointer (some ⟨Bd, 0, none⟩), .int .i64 ((x.n3 : Int).tmod 64), .slice x.q3 x.n3 x.c3] W fun r w' => r = .returned (.int .i64 0) ∧ DiskN w0 w' Bd (Dk.crashS s16 ((x.n3 : Int).tmod 64) (Kp k)).1) := Lib.hid fun W hb => by
          obtain ⟨k1, k2, k3, k4, k5⟩ := HK.out
          have hbw : Below w.heap.size w W := kbT HB0.out (HD16.out.below hb).since
          have h := crash_step ((x.n3 : Int).tmod 64) x.q3 (Kp k) x.c3 (HD16.out.below hb) hw16 (Few_of (by omega)) htm (by omega) (k2.below hbw) k3 (by rw [k1]; exact ⟨k4, k5⟩) (fun ne Bx ox e => by
            obtain ⟨By, oy, e1, e2⟩ := k2 0 _ (List.getElem?_eq_getElem (List.length_pos_iff.2 ne))
            rw [e] at e1
            injection e1 with e1
            injection e1 with e1
            subst e1
            have := lt_of_cell_some e2
            have := HB0.out.size
            simp only at *
            omega)
          rw [k1] at h
          exact h
        obtain ⟨s17, hs17⟩ : ∃ t, t = (Dk.crashS s16 ((x.n3 : Int).tmod 64) (Kp k)).1 := ⟨_, rfl⟩
        rw [← hs17] at CCR hso hsh hcl
        have H17 := Lib.hid (And.intro hso (And.intro hsh.2.2.1 (And.intro hsh.2.2.2 (show s17.sync.length ≤ 9000 by omega))))
        clear hd16 hw16 hn16 hf16 hso hor hsh hcl hs17
        have htm0 := htm
        refine wp_region_held_drew (S := fun w' => Below w0.heap.size w0 w') (by kernel_rfl) (HD16.out.below ((Below.refl _ _).drew)).since (fun H0 => ?_)
        refine wpAnyH_take (i := 0) (oi := { dst := some 159, op := Go.Op.move (Go.Operand.tmp 7), type := 24, pos := "law.go:255", after := #[], guard := none }) (v := ?_) rfl (by kernel_rfl) (by kernel_rfl) (by kernel_rfl) (fun _ _ _ h => h) (Or.inl ⟨by rfl, ?_⟩) H0 ?_
        rotate_left
        focus (intro w' hSw; (try dsimp only at hSw); go_simp; (try with_reducible rfl))
        simp only [Act.put, List.setIfInBounds_toArray, List.set_cons_zero, List.set_cons_succ]
        refine wpAnyH_take (i := 1) (oi := { dst := some 160, op := Go.Op.move (Go.Operand.tmp 1), type := 60, pos := "law.go:255", after := #[], guard := none }) (v := ?_) rfl (by kernel_rfl) (by kernel_rfl) (by kernel_rfl) (fun _ _ _ h => h) (Or.inl ⟨by rfl, ?_⟩) H0 ?_
        rotate_left
        focus (intro w' hSw; (try dsimp only at hSw); go_simp; (try with_reducible rfl))
        simp only [Act.put, List.setIfInBounds_toArray, List.set_cons_zero, List.set_cons_succ]
        refine wpAnyH_take (i := 2) (oi := { dst := some 161, op := Go.Op.move (Go.Operand.tmp 11), type := 3, pos := "law.go:255", after := #[], guard := none }) (v := ?_) rfl (by kernel_rfl) (by kernel_rfl) (by kernel_rfl) (fun _ _ _ h => h) (Or.inl ⟨by rfl, ?_⟩) H0 ?_
        rotate_left
        focus (intro w' hSw; (try dsimp only at hSw); go_simp; (try with_reducible rfl))
        simp only [Act.put, List.setIfInBounds_toArray, List.set_cons_zero, List.set_cons_succ]
        refine wpAnyH_take (i := 3) (oi := { dst := some 162, op := Go.Op.indexAddr 60 (Go.Operand.tmp 160) (Go.Operand.tmp 161), type := 0, pos := "law.go:255", after := #[{ on := 1, ground := Go.Ground.data }, { on := 2, ground := Go.Ground.data }], guard := none }) (v := ?_) rfl (by kernel_rfl) (by kernel_rfl) (by kernel_rfl) (fun _ _ _ h => h) (Or.inl ⟨by rfl, ?_⟩) H0 ?_
        rotate_left
        focus (intro w' hSw; (try dsimp only at hSw); go_simp; (try with_reducible rfl))
        simp only [Act.put, List.setIfInBounds_toArray, List.set_cons_zero, List.set_cons_succ]
        refine wpAnyH_take (i := 4) (oi := { dst := some 163, op := Go.Op.fieldAddr 66 (Go.Operand.tmp 162) 4, type := 0, pos := "law.go:255", after := #[{ on := 3, ground := Go.Ground.data }], guard := none }) (v := ?_) rfl (by kernel_rfl) (by kernel_rfl) (by kernel_rfl) (fun _ _ _ h => h) (Or.inl ⟨by rfl, ?_⟩) H0 ?_
        rotate_left
        focus (intro w' hSw; (try dsimp only at hSw); go_simp; (try with_reducible rfl))
        simp only [Act.put, List.setIfInBounds_toArray, List.set_cons_zero, List.set_cons_succ]
        refine wpAnyH_take (i := 5) (oi := { dst := some 164, op := Go.Op.load 64 (Go.Operand.tmp 163), type := 64, pos := "law.go:255", after := #[{ on := 4, ground := Go.Ground.data }], guard := none }) (v := ?_) rfl (by kernel_rfl) (by kernel_rfl) (by kernel_rfl) (fun _ _ _ h => h) (Or.inl ⟨by rfl, ?_⟩) H0 ?_
        rotate_left
        focus (intro w' hSw; (try dsimp only at hSw); have z4 := HCX.out w' (kbT HB0.out hSw) 4 _ rfl; go_simp; (try with_reducible rfl))
        simp only [Act.put, List.setIfInBounds_toArray, List.set_cons_zero, List.set_cons_succ]
        refine wpAnyH_take (i := 6) (oi := { dst := some 165, op := Go.Op.call { callee := Go.Callee.builtin Go.Builtin.len, args := #[Go.Operand.tmp 164], argTypes := #[64] }, type := 3, pos := "law.go:255", after := #[{ on := 5, ground := Go.Ground.data }], guard := none }) (v := ?_) rfl (by kernel_rfl) (by kernel_rfl) (by kernel_rfl) (fun _ _ _ h => h) (Or.inl ⟨by rfl, ?_⟩) H0 ?_
        rotate_left
        focus (intro w' hSw; (try dsimp only at hSw); go_simp; (try with_reducible rfl))
        simp only [Act.put, List.setIfInBounds_toArray, List.set_cons_zero, List.set_cons_succ]
        refine wpAnyH_take (i := 7) (oi := { dst := some 166, op := Go.Op.binOp Go.BinOp.rem 3 (Go.Operand.tmp 165) (Go.Operand.const (Go.Value.int Go.IntKind.i64 64)) 3, type := 3, pos := "law.go:255", after := #[{ on := 6, ground := Go.Ground.data }], guard := none }) (v := ?_) rfl (by kernel_rfl) (by kernel_rfl) (by kernel_rfl) (fun _ _ _ h => h) (Or.inl ⟨by rfl, ?_⟩) H0 ?_
        rotate_left
        focus (intro w' hSw; (try dsimp only at hSw); go_simp; (try with_reducible rfl))
        simp only [Act.put, List.setIfInBounds_toArray, List.set_cons_zero, List.set_cons_succ]
        refine wpAnyH_take (i := 8) (oi := { dst := some 167, op := Go.Op.move (Go.Operand.tmp 1), type := 60, pos := "law.go:255", after := #[], guard := none }) (v := ?_) rfl (by kernel_rfl) (by kernel_rfl) (by kernel_rfl) (fun _ _ _ h => h) (Or.inl ⟨by rfl, ?_⟩) H0 ?_
        rotate_left
        focus (intro w' hSw; (try dsimp only at hSw); go_simp; (try with_reducible rfl))
        simp only [Act.put, List.setIfInBounds_toArray, List.set_cons_zero, List.set_cons_succ]
        refine wpAnyH_take (i := 9) (oi := { dst := some 168, op := Go.Op.move (Go.Operand.tmp 11), type := 3, pos := "law.go:255", after := #[], guard := none }) (v := ?_) rfl (by kernel_rfl) (by kernel_rfl) (by kernel_rfl) (fun _ _ _ h => h) (Or.inl ⟨by rfl, ?_⟩) H0 ?_
        rotate_left
        focus (intro w' hSw; (try dsimp only at hSw); go_simp; (try with_reducible rfl))
        simp only [Act.put, List.setIfInBounds_toArray, List.set_cons_zero, List.set_cons_succ]
        refine wpAnyH_take (i := 10) (oi := { dst := some 169, op := Go.Op.indexAddr 60 (Go.Operand.tmp 167) (Go.Operand.tmp 168), type := 0, pos := "law.go:255", after := #[{ on := 8, ground := Go.Ground.data }, { on := 9, ground := Go.Ground.data }], guard := none }) (v := ?_) rfl (by kernel_rfl) (by kernel_rfl) (by kernel_rfl) (fun _ _ _ h => h) (Or.inl ⟨by rfl, ?_⟩) H0 ?_
        rotate_left
        focus (intro w' hSw; (try dsimp only at hSw); go_simp; (try with_reducible rfl))
        simp only [Act.put, List.setIfInBounds_toArray, List.set_cons_zero, List.set_cons_succ]
        refine wpAnyH_take (i := 11) (oi := { dst := some 170, op := Go.Op.fieldAddr 66 (Go.Operand.tmp 169) 4, type := 0, pos := "law.go:255", after := #[{ on := 10, ground := Go.Ground.data }], guard := none }) (v := ?_) rfl (by kernel_rfl) (by kernel_rfl) (by kernel_rfl) (fun _ _ _ h => h) (Or.inl ⟨by rfl, ?_⟩) H0 ?_
        rotate_left
        focus (intro w' hSw; (try dsimp only at hSw); go_simp; (try with_reducible rfl))
        simp only [Act.put, List.setIfInBounds_toArray, List.set_cons_zero, List.set_cons_succ]
        refine wpAnyH_take (i := 12) (oi := { dst := some 171, op := Go.Op.load 64 (Go.Operand.tmp 170), type := 64, pos := "law.go:255", after := #[{ on := 11, ground := Go.Ground.data }], guard := none }) (v := ?_) rfl (by kernel_rfl) (by kernel_rfl) (by kernel_rfl) (fun _ _ _ h => h) (Or.inl ⟨by rfl, ?_⟩) H0 ?_
        rotate_left
        focus (intro w' hSw; (try dsimp only at hSw); have z4 := HCX.out w' (kbT HB0.out hSw) 4 _ rfl; go_simp; (try with_reducible rfl))
        simp only [Act.put, List.setIfInBounds_toArray, List.set_cons_zero, List.set_cons_succ]
        refine wpAnyH_ready (rs := [13]) (by kernel_rfl) (by simp) ?_
        refine AllReadyH.cons (o := { dst := some 172, op := Go.Op.call { callee := Go.Callee.value (Go.Operand.func 26), args := #[Go.Operand.tmp 159, Go.Operand.tmp 166, Go.Operand.tmp 171], argTypes := #[24, 3, 64] }, type := 25, pos := "law.go:255", after := #[{ on := 0, ground := Go.Ground.data }, { on := 7, ground := Go.Ground.data }, { on := 12, ground := Go.Ground.data }], guard := none }) rfl (fun K hK => ?_) ?_
        rotate_left
        exact AllReadyH.nil
        try go_simp
        (go_at_call 26; go_must (refine (CCR.out _ ((Below.refl _ _).drew)).mono ?_); rintro e w17 ⟨rfl, hd17⟩; have HD17 := Lib.hid hd17; clear hd17)
        try go_wp2_with fail
        refine hK.out _ _ HD17.out.since (fun H1 => ?_)
        clear hK K
        try simp only [Act.put, List.setIfInBounds_toArray, List.set_cons_zero, List.set_cons_succ]
        refine wpAnyH_take (i := 14) (oi := { dst := some 19, op := Go.Op.assign (Go.Operand.tmp 172), type := 25, pos := "law.go:255", after := #[{ on := 13, ground := Go.Ground.data }, { on := 13, ground := Go.Ground.chain }, { on := 0, ground := Go.Ground.phase }, { on := 1, ground := Go.Ground.phase }, { on := 2, ground := Go.Ground.phase }, { on := 3, ground := Go.Ground.phase }, { on := 4, ground := Go.Ground.phase }, { on := 5, ground := Go.Ground.phase }, { on := 6, ground := Go.Ground.phase }, { on := 7, ground := Go.Ground.phase }, { on := 8, ground := Go.Ground.phase }, { on := 9, ground := Go.Ground.phase }, { on := 10, ground := Go.Ground.phase }, { on := 11, ground := Go.Ground.phase }, { on := 12, ground := Go.Ground.phase }, { on := 13, ground := Go.Ground.phase }], guard := none }) (v := ?_) rfl (by kernel_rfl) (by kernel_rfl) (by kernel_rfl) (fun _ _ _ h => h) (Or.inl ⟨by rfl, ?_⟩) H1 ?_
        rotate_left
        focus (intro w' hSw; (try dsimp only at hSw); go_simp; (try with_reducible rfl))
        simp only [Act.put, List.setIfInBounds_toArray, List.set_cons_zero, List.set_cons_succ]
        refine wpAnyH_done (by kernel_rfl) ?_ _
        go_upto_region 24 with fail
        clear htm0 htm ht3
        obtain ⟨-, -, y0, y1⟩ := HC.out w17 HD17.out.since
        have hwh17 := H17.out.1.1.whole
        have CS2 := Lib.hid (stop_step b HD17.out hwh17 (by omega))
        have hso18 : Sound ⟨s17.many, s17.sync, s17.loose, b⟩ f pg S' E' hn' l' := H17.out.1.stopped b (by omega)
        have HS18 := Lib.hid hso18
        clear hwh17 hso18
        go_upto_region 25 with (first
          | (go_at_call 25; refine CS2.out.mono ?_; rintro e w18 ⟨rfl, hd18⟩; have HD18 := Lib.hid hd18; clear hd18 y0 y1)
          | fail)
        have CO2 := Lib.hid (reopen_step HD18.out HS18.out (by show s17.sync.length + s17.loose.length ≤ 18000; rw [H17.out.2.1]; have := H17.out.2.2.2; simp; omega))
        obtain ⟨p0, p1, -, -⟩ := HC.out w18 HD18.out.since
        go_upto_region 26 with (first
          | (go_at_call 10; refine CO2.out.mono ?_; rintro e w19 ⟨v19, e19, rfl, hd19⟩; have HD19 := Lib.hid hd19; clear hd19 p0 p1)
          | fail)
        have hso20 : Sound ⟨s17.many, s17.sync, [], -1⟩ f pg S' E' hn' l' := by
          have h := H17.out.1.stopped (-1) (by decide)
          rw [H17.out.2.1] at h
          exact h
        have CC2 : Hid (Calls Tryz.prog 26 #[.pointer (some ⟨Bd, 0, none⟩), .int .i64 0, .slice none 0 0] w19 fun r w' => r = .returned (.int .i64 0) ∧ DiskN w0 w' Bd ⟨s17.many, s17.sync, [], -1⟩) := Lib.hid (by
          have h := crash_step 0 none [] 0 HD19.out HS18.out.1.whole (Few_of (by show s17.sync.length + s17.loose.length ≤ 18000; rw [H17.out.2.1]; have := H17.out.2.2.2; simp; omega)) (by decide) (by decide) (fun i b hi => by cases hi) (fun _ => rfl) (by decide) (fun ne => absurd rfl ne)
          rw [crash_none (s := ⟨s17.many, s17.sync, s17.loose, b⟩) H17.out.2.1 (by decide)] at h
          exact h)
        have HS20 := Lib.hid hso20
        clear hso20
        go_upto_region 27 with (first
          | (go_at_call 26; refine CC2.out.mono ?_; rintro e w20 ⟨rfl, hd20⟩; have HD20 := Lib.hid hd20; clear hd20)
          | fail)
        have CO3 := Lib.hid (sound_step HD20.out HS20.out (show (-1 : Int) ≠ 0 by decide) (by have := H17.out.2.2.2; show s17.sync.length + 0 ≤ 18000; omega))
        obtain ⟨p0, p1, -, -⟩ := HC.out w20 HD20.out.since
        go_upto_region 30 with (first
          | (go_at_call 10; refine CO3.out.mono ?_; rintro e w21 ⟨B3, rfl, hl21⟩; have HL21 := Lib.hid hl21; clear hl21 p0 p1)
          | (go_at_call 8; (with_reducible refine (NM.out _ _).mono ?_); rintro e wn ⟨rfl, rfl⟩)
          | fail)
        have hz21 := HS20.out.1.size
        have CT21 := Lib.hid (told_step HL21.out HS20.out.1.oks (by omega) (by omega))
        obtain ⟨sN, hsN⟩ : ∃ t, t = strOf (toldN hn' l' pg) := ⟨_, rfl⟩
        rw [← hsN] at CT21 HOR
        clear hz21 hsN
        obtain ⟨p0, p1, -, -⟩ := HC.out w21 HL21.out.since
        go_upto_region 31 with (first
          | (go_at_call 23; refine CT21.out.mono ?_; rintro e w22 ⟨rfl, hb22⟩; have HL22 := Lib.hid (HL21.out.below hb22); clear hb22 p0 p1)
          | fail)
        have HSB := Lib.hid Dk.str_beq
        rcases HOR.out with ⟨h1, h2⟩ | h1
        · have g1 : (sN.toList == sA.toList) = true := by rw [HSB.out]; exact decide_eq_true h1
          have g2 : (e16 != 0) = true := by simpa using h2
          clear h1 h2
          go_wp2_with (first
            | (go_at_call 8; (with_reducible refine (NM.out _ _).mono ?_); rintro e wn ⟨rfl, rfl⟩)
            | (go_at_call 9; refine (WK.out w22).mono ?_; rintro e w23 ⟨rfl, hb23⟩; have HB23 := Lib.hid hb23; clear hb23)
            | fail)
          go_ret
          exact ⟨rfl, kbT HB0.out (HL22.out.below HB23.out).since⟩
        · have g0 : (sN.toList == sW.toList) = true := by rw [HSB.out]; exact decide_eq_true h1
          by_cases h3 : sN = sA
          · have g1 : (sN.toList == sA.toList) = true := by rw [HSB.out]; exact decide_eq_true h3
            by_cases h2 : e16 = 0
            · have g2 : (e16 != 0) = false := by simpa using h2
              clear h1 h2 h3
              go_wp2_with (first
                | (go_at_call 8; (with_reducible refine (NM.out _ _).mono ?_); rintro e wn ⟨rfl, rfl⟩)
                | (go_at_call 9; refine (WK.out w22).mono ?_; rintro e w23 ⟨rfl, hb23⟩; have HB23 := Lib.hid hb23; clear hb23)
                | fail)
              go_ret
              exact ⟨rfl, kbT HB0.out (HL22.out.below HB23.out).since⟩
            · have g2 : (e16 != 0) = true := by simpa using h2
              clear h1 h2 h3
              go_wp2_with (first
                | (go_at_call 8; (with_reducible refine (NM.out _ _).mono ?_); rintro e wn ⟨rfl, rfl⟩)
                | (go_at_call 9; refine (WK.out w22).mono ?_; rintro e w23 ⟨rfl, hb23⟩; have HB23 := Lib.hid hb23; clear hb23)
                | fail)
              go_ret
              exact ⟨rfl, kbT HB0.out (HL22.out.below HB23.out).since⟩
          · have g1 : (sN.toList == sA.toList) = false := by rw [HSB.out]; exact decide_eq_false h3
            clear h1 h3
            go_wp2_with (first
              | (go_at_call 8; (with_reducible refine (NM.out _ _).mono ?_); rintro e wn ⟨rfl, rfl⟩)
              | (go_at_call 9; refine (WK.out w22).mono ?_; rintro e w23 ⟨rfl, hb23⟩; have HB23 := Lib.hid hb23; clear hb23)
              | fail)
            go_ret
            exact ⟨rfl, kbT HB0.out (HL22.out.below HB23.out).since⟩
end Go.Proofs.YtdanigigjainjaaGreat
namespace Go.Proofs.YtdanigigjainjaaGreat
open Go.RowKit Go.Shelf
attribute [local go_sem] Oper.semAt_some

set_option maxRecDepth 100000 in
set_option maxHeartbeats 32000000 in
theorem holds06_no (f pg : Int) (a b : Int) (n : Nat) (sm : Bool) (A : List ActV) (q : Option Addr) (c : Nat) (w : World) (hrow : ActRow w q A) (hn : n = A.length) (hlen : n ≤ 9223372036854775807) (hall : ∀ x ∈ A, x.n1 ≤ 9223372036854775807 ∧ x.n3 ≤ 9223372036854775807) (hsm : smallE06 f pg A 5 = sm) (hno : sm = false ∨ n = 0 ∨ a < 0 ∨ 200 < a ∨ b < 0 ∨ 10 < b) :
    Calls Tryz.prog 4 #[.agg #[.int .i64 f, .int .i64 pg], .slice q n c, .agg #[.int .i64 a, .int .i64 b]] w fun r w' => r = .returned (.bool true) ∧ Below w.heap.size w w' := by
  obtain ⟨w0, hw0⟩ : ∃ w0, w0 = (w.alloc (.cells #[.int .i64 f, .int .i64 pg] 23)).alloc (.cells #[.int .i64 a, .int .i64 b] 61) := ⟨_, rfl⟩
  have hb0 : Below w.heap.size w w0 := by subst hw0; exact ((Below.refl _ _).alloc (Nat.le_refl _) _).alloc (by simp) _
  have hx0 : w0.heap[w.heap.size]? = some (.cells #[.int .i64 f, .int .i64 pg] 23 (0, 0)) := by subst hw0; exact (Below.heap_alloc _ _ _ (by simp)).trans (heap_alloc_new w _)
  have hy0 : w0.heap[w.heap.size + 1]? = some (.cells #[.int .i64 a, .int .i64 b] 61 (0, 0)) := by subst hw0; exact heap2 w _ _
  have HC : Hid (∀ W, Below w0.heap.size w0 W → W.cell? ⟨w.heap.size, 0, none⟩ = some (.int .i64 f) ∧ W.cell? ⟨w.heap.size, 1, none⟩ = some (.int .i64 pg) ∧ W.cell? ⟨w.heap.size + 1, 0, none⟩ = some (.int .i64 a) ∧ W.cell? ⟨w.heap.size + 1, 1, none⟩ = some (.int .i64 b)) := Lib.hid fun W hb => by
    have e1 := (hb.block _ (Array.getElem?_eq_some_iff.1 hx0).1).trans hx0
    have e2 := (hb.block _ (Array.getElem?_eq_some_iff.1 hy0).1).trans hy0
    exact ⟨(cell_of_row _ _ 0 _ _ _ e1).trans rfl, (cell_of_row _ _ 1 _ _ _ e1).trans rfl, (cell_of_row _ _ 0 _ _ _ e2).trans rfl, (cell_of_row _ _ 1 _ _ _ e2).trans rfl⟩
  have HB0 := Lib.hid hb0
  have CS := Lib.hid (small06 f pg 5 A q c w0 (hrow.below hb0) (by omega) hall)
  rw [hsm, ← hn] at CS
  have WK := Lib.hid works06
  obtain ⟨p0, p1, y0, y1⟩ := HC.out w0 (Below.refl _ _)
  have HNO := Lib.hid hno
  clear hrow hn hall hsm hno hb0 hx0 hy0
  go_enter Tryz.func4, Tryz.ntmps4
  go_upto_region 1 with fail
  try rw [← hw0]
  clear hw0
  cases hs : sm with
  | false =>
    rw [hs] at CS
    clear hs
    go_wp2_with (first
      | (go_at_call 21; refine CS.out.mono ?_; rintro e w1 ⟨rfl, hb1⟩; obtain ⟨p0, p1, y0, y1⟩ := HC.out w1 hb1; have HB1 := Lib.hid hb1; clear hb1)
      | (go_at_call 9; refine (WK.out w1).mono ?_; rintro e w2 ⟨rfl, hb2⟩; have HB2 := Lib.hid hb2; clear hb2)
      | fail)
    go_ret
    exact ⟨rfl, kbT HB0.out (kbT HB1.out HB2.out)⟩
  | true =>
    rw [hs] at CS
    have hno : n = 0 ∨ a < 0 ∨ 200 < a ∨ b < 0 ∨ 10 < b := by
      rcases HNO.out with h | h
      · rw [hs] at h; cases h
      · exact h
    clear hs HNO
    by_cases h0 : n = 0
    · have hz : ((n : Int) == 0) = true := by simp [h0]
      clear hno h0
      go_wp2_with (first
        | (go_at_call 21; refine CS.out.mono ?_; rintro e w1 ⟨rfl, hb1⟩; obtain ⟨p0, p1, y0, y1⟩ := HC.out w1 hb1; have HB1 := Lib.hid hb1; clear hb1)
        | (go_at_call 9; refine (WK.out w1).mono ?_; rintro e w2 ⟨rfl, hb2⟩; have HB2 := Lib.hid hb2; clear hb2)
        | fail)
      go_ret
      exact ⟨rfl, kbT HB0.out (kbT HB1.out HB2.out)⟩
    · have hz : ((n : Int) == 0) = false := by simp; omega
      by_cases h1 : a < 0
      · clear hno h0
        go_wp2_with (first
          | (go_at_call 21; refine CS.out.mono ?_; rintro e w1 ⟨rfl, hb1⟩; obtain ⟨p0, p1, y0, y1⟩ := HC.out w1 hb1; have HB1 := Lib.hid hb1; clear hb1)
          | (go_at_call 9; refine (WK.out w1).mono ?_; rintro e w2 ⟨rfl, hb2⟩; have HB2 := Lib.hid hb2; clear hb2)
          | fail)
        go_ret
        exact ⟨rfl, kbT HB0.out (kbT HB1.out HB2.out)⟩
      · by_cases h2 : 200 < a
        · clear hno h0
          go_wp2_with (first
            | (go_at_call 21; refine CS.out.mono ?_; rintro e w1 ⟨rfl, hb1⟩; obtain ⟨p0, p1, y0, y1⟩ := HC.out w1 hb1; have HB1 := Lib.hid hb1; clear hb1)
            | (go_at_call 9; refine (WK.out w1).mono ?_; rintro e w2 ⟨rfl, hb2⟩; have HB2 := Lib.hid hb2; clear hb2)
            | fail)
          go_ret
          exact ⟨rfl, kbT HB0.out (kbT HB1.out HB2.out)⟩
        · by_cases h3 : b < 0
          · clear hno h0
            go_wp2_with (first
              | (go_at_call 21; refine CS.out.mono ?_; rintro e w1 ⟨rfl, hb1⟩; obtain ⟨p0, p1, y0, y1⟩ := HC.out w1 hb1; have HB1 := Lib.hid hb1; clear hb1)
              | (go_at_call 9; refine (WK.out w1).mono ?_; rintro e w2 ⟨rfl, hb2⟩; have HB2 := Lib.hid hb2; clear hb2)
              | fail)
            go_ret
            exact ⟨rfl, kbT HB0.out (kbT HB1.out HB2.out)⟩
          · have h4 : 10 < b := by omega
            clear hno h0
            go_wp2_with (first
              | (go_at_call 21; refine CS.out.mono ?_; rintro e w1 ⟨rfl, hb1⟩; obtain ⟨p0, p1, y0, y1⟩ := HC.out w1 hb1; have HB1 := Lib.hid hb1; clear hb1)
              | (go_at_call 9; refine (WK.out w1).mono ?_; rintro e w2 ⟨rfl, hb2⟩; have HB2 := Lib.hid hb2; clear hb2)
              | fail)
            go_ret
            exact ⟨rfl, kbT HB0.out (kbT HB1.out HB2.out)⟩
theorem holds06 (f pg a b : Int) (A : List ActV) (q : Option Addr) (c : Nat) (P : Nat → Nat → Int) (Bs : Nat → Nat → Nat) (Kp : Nat → List Bool) (w : World) (h : ActsIn w q A P Bs Kp) (hlen : A.length ≤ 9223372036854775807) (hall : ∀ x ∈ A, x.n1 ≤ 9223372036854775807 ∧ x.n3 ≤ 9223372036854775807) :
    Calls Tryz.prog 4 #[.agg #[.int .i64 f, .int .i64 pg], .slice q A.length c, .agg #[.int .i64 a, .int .i64 b]] w fun r w' => r = .returned (.bool true) ∧ Below w.heap.size w w' := by
  by_cases hno : smallE06 f pg A 5 = false ∨ A.length = 0 ∨ a < 0 ∨ 200 < a ∨ b < 0 ∨ 10 < b
  · exact holds06_no f pg a b A.length _ A q c w h.row rfl hlen hall rfl hno
  · simp only [not_or] at hno
    obtain ⟨h1, h2, h3, h4, h5, h6⟩ := hno
    have hs : smallE06 f pg A 5 = true := by simpa using h1
    obtain ⟨m, hm⟩ : ∃ m, A.length = m + 1 := ⟨A.length - 1, by omega⟩
    have hpl : planOk f pg = true := by
      unfold smallE06 at hs
      simp only [Bool.and_eq_true] at hs
      exact hs.2.1.1.1
    obtain ⟨fn, pn, rfl, rfl, -⟩ := plan_nat hpl
    rw [hm]
    exact holds06_yes fn pn a b m A q c P Bs Kp w h hm hs (by omega) (by omega)
end Go.Proofs.YtdanigigjainjaaGreat
namespace Go.Proofs.YtdanigigjainjaaGreat
open Go.ChangeShapes Go.WideShapes Go.ChangeAt Go.RowKit
set_option maxRecDepth 100000
set_option maxHeartbeats 1000000

theorem own : ownKnob Tryz.prog.godebug = none := by kernel_rfl

/-- Arguments of whatever shape read behind the call as before, where below the call's own blocks nothing has turned. -/
theorem trodAll_stays {H : Type} {enc : TypeId × Value → H} {P : Program} (hl : laidOutB P = true) {W W' : World} (hb : Below W.heap.size W W') :
    ∀ (ts : List TypeId), (∀ t ∈ ts, P.readableRec t = true ∧ t < P.types.size) → ∀ (vs : List Value) (ds : List (DataW H)) (ps : List MemPlace), DataW.TrodAll enc P W 0 (fun _ => true) true ts vs ds ps → (∀ x ∈ ps, x.block < W.heap.size) →
      DataW.TrodAll enc P W' 0 (fun b => decide (b < W.heap.size)) true ts vs ds ps
  | [], _, vs, ds, ps, h, _ => by
    obtain ⟨rfl, rfl, rfl⟩ := trodAll_nil h
    exact trodAll_mk0
  | t :: ts, ht, vs, ds, ps, h, hp => by
    obtain ⟨v, vs', d, ds', p, q, rfl, rfl, rfl, h0, h1⟩ := trodAll_cons h
    obtain ⟨r1, r2⟩ := ht t (by simp)
    exact trodAll_cons_mk (Below.trod hl r1 r2 h0 hb (fun x hx => hp x (by simp [hx]))) (trodAll_stays hl hb ts (fun u hu => ht u (by simp [hu])) vs' ds' q h1 (fun x hx => hp x (by simp [hx])))

/-- A law that answers true and leaves what was there as it was meets its row. -/
theorem law_true {H : Type} {enc : TypeId × Value → H} {f : Func} {s : ChangeSpec} {W W' : World} {args : Array Value} {ds gs : List (DataW H)} {before : List MemPlace}
    (hW : DataW.Whole enc Tryz.prog f.params.toList s.vars false W args.toList ds gs before) (hv : s.vars = []) (hfn : (s.fn H (ds ++ gs)).results = [.lit (.bool true)] ∧ (s.fn H (ds ++ gs)).args = ds ∧ (s.fn H (ds ++ gs)).vars = [])
    (hr : f.resultTypes = #[4]) (hread : (f.params.toList.all fun t => Tryz.prog.readableRec t && decide (t < Tryz.prog.types.size)) = true) (hb : Below W.heap.size W W') :
    s.post enc Tryz.prog f false true false false W args (.bool true) W' := by
  have hW' := hW
  obtain ⟨p, q, hA, hV, hpq, _, _⟩ := hW
  have hlt : ∀ x ∈ before, x.block < W.heap.size := fun x hx => hW'.lt x hx
  refine ⟨ds, gs, before, [], p, [], hW', ?_, ?_, ?_, hb.frame _, fun h => by cases h⟩
  · rw [hfn.1, hr]
    exact trodAll_mk1 (shut_bool Tryz.underlying4 _)
  · rw [hfn.2.1]
    exact trodAll_stays (by kernel_rfl) hb _ (fun t ht => by simpa using List.all_eq_true.1 hread t ht) _ _ _ hA (fun x hx => hlt x (by rw [hpq]; simp [hx]))
  · rw [hfn.2.2, hv]
    rfl
noncomputable def laidWorld (os : Os) : World := World.holding Tryz.prog os ⟨#[], #[], []⟩
theorem laid_met (os : Os) (args : Array Value) : laidMet Tryz.prog ([] : List (String × DataW Unit)) ((laidWorld os).forCall (fun _ _ => 0) ⟨#[], args, []⟩).memory :=
  laidMet_of_run' 8 (by kernel_rfl) (by kernel_rfl)
open Go.Joins

theorem okWide_array {P : Program} {w : World} {r : Reach} {base n : Nat} {t e : TypeId} {v : Value} (ht : P.underlying t = some (.array n e)) (h : Value.okWide P w r base t v) : ∃ cs, v = .agg cs ∧ cs.size = P.cellsOf t := by
  simp only [Value.okWide, ht] at h
  obtain ⟨cs, h1, h2, _⟩ := h
  exact ⟨cs, h1, h2⟩
theorem wf_u8 {n : Int} (h : (Lit.int .u8 n).wf = true) : 0 ≤ n ∧ n < 256 := by
  simp [Lit.wf] at h
  have hm : IntKind.u8.min = 0 := rfl
  have hM : IntKind.u8.max = 255 := rfl
  omega
set_option maxRecDepth 100000 in
theorem open_bytes {H : Type} {enc : TypeId × Value → H} {w : World} {a0 : Option Addr} {len cap : Nat} {d : DataW H} {p : List MemPlace}
    (h : DataW.Trod enc Tryz.prog w 0 (fun _ => true) true 49 (.slice a0 len cap) d p) : len ≤ cap ∧ cap ≤ maxLen ∧ ∃ l : List Nat, l.length = len ∧ (∀ b ∈ l, b < 256) ∧ BytesAt w a0 l := by
  obtain ⟨fuel, hf⟩ := h
  rcases open_ints Tryz.underlying49 Tryz.underlying5 (by kernel_rfl) hf with ⟨hcs, -⟩ | ⟨a, len', cap', zs, hcs, -, hl, hm, hzl, -, hcell, hwf⟩
  · simp only [Value.cells, List.cons.injEq, Value.slice.injEq, and_true] at hcs
    obtain ⟨rfl, rfl, rfl⟩ := hcs
    exact ⟨Nat.zero_le _, Nat.zero_le _, [], rfl, fun b hb => (by cases hb), fun i hi => absurd hi (Nat.not_lt_zero i)⟩
  · simp only [Value.cells, List.cons.injEq, Value.slice.injEq, and_true] at hcs
    obtain ⟨rfl, rfl, rfl⟩ := hcs
    have hz : zs.length = cap := by simpa using hzl
    refine ⟨hl, hm, (zs.take len).map Int.toNat, by simp; omega, fun b hb => ?_, fun i hi => ?_⟩
    · obtain ⟨z, hzm, rfl⟩ := List.mem_map.1 hb
      have := wf_u8 (hwf z (List.mem_of_mem_take hzm))
      omega
    have hil : i < len := by have := hi; simp at this; omega
    obtain ⟨b, off, spot⟩ := a
    have c := hcell i (by omega)
    have hspot : spot = none := by
      have h0 := hcell 0 (by omega)
      simpa [Addr.add] using World.cell?_spot h0
    subst hspot
    rw [addr_plain] at c
    have hzi : i < zs.length := by omega
    have hw := wf_u8 (hwf (zs.getD i 0) (by rw [List.getD_eq_getElem?_getD, List.getElem?_eq_getElem hzi]; exact List.getElem_mem hzi))
    refine ⟨b, off, rfl, ?_⟩
    rw [c]
    have e : ((zs.take len).map Int.toNat).getD i 0 = (zs.getD i 0).toNat := by
      simp [List.getD_eq_getElem?_getD, List.getElem?_take, hil, hzi]
    rw [e, Int.toNat_of_nonneg hw.1]
end Go.Proofs.YtdanigigjainjaaGreat
namespace Go.Proofs.YtdanigigjainjaaGreat
open Go.ChangeShapes Go.WideShapes Go.ChangeAt Go.RowKit Go.Joins
set_option maxRecDepth 100000
set_option maxHeartbeats 1000000

end Go.Proofs.YtdanigigjainjaaGreat
namespace Go.Proofs.YtdanigigjainjaaGreat
open Go.ChangeShapes Go.WideShapes Go.ChangeAt Go.RowKit Go.Joins
set_option maxRecDepth 100000
set_option maxHeartbeats 1000000

theorem okWide_struct {P : Program} {w : World} {r : Reach} {base : Nat} {fs : Array Field} {t : TypeId} {v : Value} (ht : P.underlying t = some (.struct fs)) (h : Value.okWide P w r base t v) : ∃ cs, v = .agg cs ∧ cs.size = P.cellsOf t := by
  simp only [Value.okWide, ht] at h
  obtain ⟨cs, h1, h2, _⟩ := h
  exact ⟨cs, h1, h2⟩
set_option maxRecDepth 100000 in
theorem open_plan {H : Type} {enc : TypeId × Value → H} {w : World} {base b0 : Nat} {r : Reach} {spare : Nat → Bool} {held : Bool} {v : Value} {d : DataW H} {p : List MemPlace} (hv : Value.okWide Tryz.prog w r b0 23 v) (h : DataW.Trod enc Tryz.prog w base spare held 23 v d p) :
    ∃ F P : Int, v = .agg #[.int .i64 F, .int .i64 P] := by
  have hc : Tryz.prog.cellsOf 23 = 2 := by kernel_rfl
  have h3 : Tryz.prog.cellsOf 3 = 1 := by kernel_rfl
  obtain ⟨cs, rfl, hsz⟩ := okWide_struct Tryz.underlying23 hv
  obtain ⟨c0, c1, rfl⟩ := array2 (hsz.trans hc)
  obtain ⟨fuel, hf⟩ := h
  obtain ⟨xs, m, _, hx, _, hn, hi⟩ := DataW.trod_struct Tryz.underlying23 hf
  match xs, hn with
  | [x0, x1], _ =>
    obtain ⟨F, e0, -, _⟩ := DataW.trod_int Tryz.underlying3 (show DataW.trod enc Tryz.prog w base spare held m 3 [c0] = some x0 by simpa [h3, Value.cells] using hi 0 _ rfl)
    obtain ⟨P, e1, -, _⟩ := DataW.trod_int Tryz.underlying3 (show DataW.trod enc Tryz.prog w base spare held m 3 [c1] = some x1 by simpa [h3, Value.cells] using hi 1 _ rfl)
    simp at e0 e1
    exact ⟨F, P, by rw [e0, e1]⟩
end Go.Proofs.YtdanigigjainjaaGreat
