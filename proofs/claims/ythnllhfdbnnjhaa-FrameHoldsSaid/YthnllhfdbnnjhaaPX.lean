/- FrameHolds, all cases. -/
import Derived.Test.YthnllhfdbnnjhaaPW
namespace Go.Proofs.Ythnllhfdbnnjhaa
open Go.RowKit Go.Shelf

set_option maxRecDepth 100000 in
set_option maxHeartbeats 1000000 in
theorem encode_no (E : Nat) (i p : Int) (cm : Bool) (n : Int) (k : Nat) (q : Option Addr) (ln cap : Nat) (hok : frameOk i p cm n ln = false) (w : World) :
    Calls Try.prog 23 #[frameV E i p cm n k q ln cap] w fun r w' => r = .returned (.tuple #[.slice none 0 0, .int .i64 2]) ∧ Below w.heap.size w w' := by
  have CC := Lib.hid (checkFrame_any E i p cm n k q ln cap)
  rw [if_neg (by simp [hok])] at CC
  unfold frameV at CC ⊢
  go_enter Try.func23, Try.ntmps23
  go_wp2_with (go_at_call 42; (with_reducible refine (CC.out _).mono ?_); rintro e wa ⟨rfl, hb1⟩; have B1 := Lib.hid (kbA hb1); clear hb1)
  go_ret2
  exact ⟨rfl, B1.out⟩
set_option maxRecDepth 100000 in
set_option maxHeartbeats 4000000 in
theorem holds_ff (E : Nat) (i p : Int) (cm : Bool) (n : Int) (k : Nat) (q : Option Addr) (cap : Nat) (S H : Nat) (m c : Int) (K0 K1 : Int) (w : World) (ln : Nat) (hok : frameOk i p cm n ln = false) (hh : headOk m c = false)  :
    Calls Try.prog 7 #[frameV E i p cm n k q ln cap, headV S H m c, .agg #[.int .i64 K0, .int .i64 K1]] w fun r w' => r = .returned (.bool true) ∧ Below w.heap.size w w' := by
  have NM := Lib.hid num_any
  have WKS := Lib.hid works_any
  have C23 := Lib.hid (encode_no E i p cm n k q ln cap hok)
  have C19 := Lib.hid (encodeHead_no S H m c hh)
  have hw0 : IntKind.i64.wrap 0 = 0 := wrap_small (by omega) (by omega)
  unfold frameV at C23
  unfold frameV headV
  clear hok hh
  go_enter Try.func7, Try.ntmps7
  go_upto_region 1 with fail
  obtain ⟨w1, hw1⟩ : ∃ w1, ((w.alloc (.cells #[.int .u64 E, .int .i64 i, .int .i64 p, .bool cm, .int .i64 n, .int .u32 k, .slice q ln cap] 51)).alloc (.cells #[.int .u64 S, .int .u64 H, .int .i64 m, .int .i64 c] 38)).alloc (.cells #[.int .i64 K0, .int .i64 K1] 68) = w1 := ⟨_, rfl⟩
  have B1 : Hid (Below w.heap.size w w1) := Lib.hid (by subst hw1; exact (((Below.refl _ _).alloc (Nat.le_refl _) _).alloc (by simp) _).alloc (by simp; omega) _)
  have c0 : w1.cell? ⟨w.heap.size, 0, none⟩ = some (.int .u64 E) := by subst hw1; go_cell
  have c1 : w1.cell? ⟨w.heap.size, 1, none⟩ = some (.int .i64 i) := by subst hw1; go_cell
  have c2 : w1.cell? ⟨w.heap.size, 2, none⟩ = some (.int .i64 p) := by subst hw1; go_cell
  have c3 : w1.cell? ⟨w.heap.size, 3, none⟩ = some (.bool cm) := by subst hw1; go_cell
  have c4 : w1.cell? ⟨w.heap.size, 4, none⟩ = some (.int .i64 n) := by subst hw1; go_cell
  have c5 : w1.cell? ⟨w.heap.size, 5, none⟩ = some (.int .u32 k) := by subst hw1; go_cell
  have c6 : w1.cell? ⟨w.heap.size, 6, none⟩ = some (.slice q ln cap) := by subst hw1; go_cell
  have d0 : w1.cell? ⟨w.heap.size + 1, 0, none⟩ = some (.int .u64 S) := by subst hw1; go_cell
  have d1 : w1.cell? ⟨w.heap.size + 1, 1, none⟩ = some (.int .u64 H) := by subst hw1; go_cell
  have d2 : w1.cell? ⟨w.heap.size + 1, 2, none⟩ = some (.int .i64 m) := by subst hw1; go_cell
  have d3 : w1.cell? ⟨w.heap.size + 1, 3, none⟩ = some (.int .i64 c) := by subst hw1; go_cell
  have e0 : w1.cell? ⟨w.heap.size + 1 + 1, 0, none⟩ = some (.int .i64 K0) := by subst hw1; go_cell
  have e1 : w1.cell? ⟨w.heap.size + 1 + 1, 1, none⟩ = some (.int .i64 K1) := by subst hw1; go_cell
  rw [hw1]
  clear hw1
  go_wp2_with (first
    | (go_at_call 23; (with_reducible refine (C23.out _).mono ?_); rintro e wa ⟨rfl, hb⟩; have d0 := (hb.cell (lt_of_cell_some d0)).trans d0; have d1 := (hb.cell (lt_of_cell_some d1)).trans d1; have d2 := (hb.cell (lt_of_cell_some d2)).trans d2; have d3 := (hb.cell (lt_of_cell_some d3)).trans d3; have e0 := (hb.cell (lt_of_cell_some e0)).trans e0; have e1 := (hb.cell (lt_of_cell_some e1)).trans e1; have B2 := Lib.hid (kbT B1.out hb); clear hb)
    | (go_at_call 19; (with_reducible refine (C19.out _).mono ?_); rintro e wv ⟨rfl, hb⟩; have e0 := (hb.cell (lt_of_cell_some e0)).trans e0; have e1 := (hb.cell (lt_of_cell_some e1)).trans e1; have B3 := Lib.hid (kbT B2.out hb); clear hb)
    | (go_at_call 13; refine (NM.out _ _).mono ?_; rintro e wn ⟨rfl, rfl⟩)
    | (go_at_call 15; refine (WKS.out _).mono ?_; rintro e wz ⟨rfl, hbz⟩))
  go_ret
  exact ⟨rfl, kbT B3.out hbz⟩
set_option maxRecDepth 100000 in
set_option maxHeartbeats 4000000 in
theorem holds_ft (E : Nat) (i p : Int) (cm : Bool) (n : Int) (k : Nat) (q : Option Addr) (cap : Nat) (S H : Nat) (m c : Nat) (K0 K1 : Int) (w : World) (ln : Nat) (hok : frameOk i p cm n ln = false) (hS1 : S < 2 ^ 64) (hH1 : H < 2 ^ 64) (hh : headOk m c = true)  :
    Calls Try.prog 7 #[frameV E i p cm n k q ln cap, headV S H m c, .agg #[.int .i64 K0, .int .i64 K1]] w fun r w' => r = .returned (.bool true) ∧ Below w.heap.size w w' := by
  have NM := Lib.hid num_any
  have WKS := Lib.hid works_any
  have C23 := Lib.hid (encode_no E i p cm n k q ln cap hok)
  have C19 := Lib.hid (encodeHead_ok S H m c hS1 hH1 hh)
  have hw0 : IntKind.i64.wrap 0 = 0 := wrap_small (by omega) (by omega)
  unfold frameV at C23
  unfold frameV headV
  clear hok hS1 hH1 hh
  go_enter Try.func7, Try.ntmps7
  go_upto_region 1 with fail
  obtain ⟨w1, hw1⟩ : ∃ w1, ((w.alloc (.cells #[.int .u64 E, .int .i64 i, .int .i64 p, .bool cm, .int .i64 n, .int .u32 k, .slice q ln cap] 51)).alloc (.cells #[.int .u64 S, .int .u64 H, .int .i64 m, .int .i64 c] 38)).alloc (.cells #[.int .i64 K0, .int .i64 K1] 68) = w1 := ⟨_, rfl⟩
  have B1 : Hid (Below w.heap.size w w1) := Lib.hid (by subst hw1; exact (((Below.refl _ _).alloc (Nat.le_refl _) _).alloc (by simp) _).alloc (by simp; omega) _)
  have c0 : w1.cell? ⟨w.heap.size, 0, none⟩ = some (.int .u64 E) := by subst hw1; go_cell
  have c1 : w1.cell? ⟨w.heap.size, 1, none⟩ = some (.int .i64 i) := by subst hw1; go_cell
  have c2 : w1.cell? ⟨w.heap.size, 2, none⟩ = some (.int .i64 p) := by subst hw1; go_cell
  have c3 : w1.cell? ⟨w.heap.size, 3, none⟩ = some (.bool cm) := by subst hw1; go_cell
  have c4 : w1.cell? ⟨w.heap.size, 4, none⟩ = some (.int .i64 n) := by subst hw1; go_cell
  have c5 : w1.cell? ⟨w.heap.size, 5, none⟩ = some (.int .u32 k) := by subst hw1; go_cell
  have c6 : w1.cell? ⟨w.heap.size, 6, none⟩ = some (.slice q ln cap) := by subst hw1; go_cell
  have d0 : w1.cell? ⟨w.heap.size + 1, 0, none⟩ = some (.int .u64 S) := by subst hw1; go_cell
  have d1 : w1.cell? ⟨w.heap.size + 1, 1, none⟩ = some (.int .u64 H) := by subst hw1; go_cell
  have d2 : w1.cell? ⟨w.heap.size + 1, 2, none⟩ = some (.int .i64 m) := by subst hw1; go_cell
  have d3 : w1.cell? ⟨w.heap.size + 1, 3, none⟩ = some (.int .i64 c) := by subst hw1; go_cell
  have e0 : w1.cell? ⟨w.heap.size + 1 + 1, 0, none⟩ = some (.int .i64 K0) := by subst hw1; go_cell
  have e1 : w1.cell? ⟨w.heap.size + 1 + 1, 1, none⟩ = some (.int .i64 K1) := by subst hw1; go_cell
  rw [hw1]
  clear hw1
  go_wp2_with (first
    | (go_at_call 23; (with_reducible refine (C23.out _).mono ?_); rintro e wa ⟨rfl, hb⟩; have d0 := (hb.cell (lt_of_cell_some d0)).trans d0; have d1 := (hb.cell (lt_of_cell_some d1)).trans d1; have d2 := (hb.cell (lt_of_cell_some d2)).trans d2; have d3 := (hb.cell (lt_of_cell_some d3)).trans d3; have e0 := (hb.cell (lt_of_cell_some e0)).trans e0; have e1 := (hb.cell (lt_of_cell_some e1)).trans e1; have B2 := Lib.hid (kbT B1.out hb); clear hb)
    | (go_at_call 19; (with_reducible refine (C19.out _).mono ?_); rintro e wv ⟨g1, rfl, -, -, hb⟩; have e0 := (hb.cell (lt_of_cell_some e0)).trans e0; have e1 := (hb.cell (lt_of_cell_some e1)).trans e1; have B3 := Lib.hid (kbT B2.out hb); clear hb)
    | (go_at_call 13; refine (NM.out _ _).mono ?_; rintro e wn ⟨rfl, rfl⟩)
    | (go_at_call 15; refine (WKS.out _).mono ?_; rintro e wz ⟨rfl, hbz⟩))
  go_ret
  exact ⟨rfl, kbT B3.out hbz⟩
set_option maxRecDepth 100000 in
set_option maxHeartbeats 4000000 in
theorem holds_tf (E : Nat) (i p : Nat) (cm : Bool) (n k : Nat) (q : Option Addr) (cap : Nat) (S H : Nat) (m c : Int) (K0 K1 : Int) (w : World) (hok : frameOk i p cm n 512 = true) (hE : E < 2 ^ 64) (hk : k < 4294967296) (bs : List Nat) (hbl : bs.length = 512) (hbb : ∀ b ∈ bs, b < 256) (hbs : BytesAt w q bs) (hqn : q = none → cap = 0) (hh : headOk m c = false)  :
    Calls Try.prog 7 #[frameV E i p cm n k q 512 cap, headV S H m c, .agg #[.int .i64 K0, .int .i64 K1]] w fun r w' => r = .returned (.bool true) ∧ Below w.heap.size w w' := by
  have NM := Lib.hid num_any
  have WKS := Lib.hid works_any
  have fb := frame_bounds hok
  have C23 := Lib.hid fun (w' : World) (h : Below w.heap.size w w') => encode_ok E i p cm n k hE (by omega) (by omega) (by omega) hk q cap bs hbl hbb w' (bytesAt_below hbs h) hqn hok
  have hfl : (frameL E i p cm n k bs).length = 576 := by unfold frameL; rw [List.length_append, frameS_length, hbl]
  have ne1 : frameL E i p cm n k bs ≠ [] := fun h => by rw [h] at hfl; simp at hfl
  generalize frameL E i p cm n k bs = fl at *
  have HFL := Lib.hid hfl
  have NE1 := Lib.hid ne1
  have C19 := Lib.hid (encodeHead_no S H m c hh)
  have hw0 : IntKind.i64.wrap 0 = 0 := wrap_small (by omega) (by omega)
  skip
  unfold frameV headV
  clear fb hok hE hk hbl hbb hbs hqn hfl ne1 hh
  go_enter Try.func7, Try.ntmps7
  go_upto_region 1 with fail
  obtain ⟨w1, hw1⟩ : ∃ w1, ((w.alloc (.cells #[.int .u64 E, .int .i64 i, .int .i64 p, .bool cm, .int .i64 n, .int .u32 k, .slice q 512 cap] 51)).alloc (.cells #[.int .u64 S, .int .u64 H, .int .i64 m, .int .i64 c] 38)).alloc (.cells #[.int .i64 K0, .int .i64 K1] 68) = w1 := ⟨_, rfl⟩
  have B1 : Hid (Below w.heap.size w w1) := Lib.hid (by subst hw1; exact (((Below.refl _ _).alloc (Nat.le_refl _) _).alloc (by simp) _).alloc (by simp; omega) _)
  have c0 : w1.cell? ⟨w.heap.size, 0, none⟩ = some (.int .u64 E) := by subst hw1; go_cell
  have c1 : w1.cell? ⟨w.heap.size, 1, none⟩ = some (.int .i64 i) := by subst hw1; go_cell
  have c2 : w1.cell? ⟨w.heap.size, 2, none⟩ = some (.int .i64 p) := by subst hw1; go_cell
  have c3 : w1.cell? ⟨w.heap.size, 3, none⟩ = some (.bool cm) := by subst hw1; go_cell
  have c4 : w1.cell? ⟨w.heap.size, 4, none⟩ = some (.int .i64 n) := by subst hw1; go_cell
  have c5 : w1.cell? ⟨w.heap.size, 5, none⟩ = some (.int .u32 k) := by subst hw1; go_cell
  have c6 : w1.cell? ⟨w.heap.size, 6, none⟩ = some (.slice q 512 cap) := by subst hw1; go_cell
  have d0 : w1.cell? ⟨w.heap.size + 1, 0, none⟩ = some (.int .u64 S) := by subst hw1; go_cell
  have d1 : w1.cell? ⟨w.heap.size + 1, 1, none⟩ = some (.int .u64 H) := by subst hw1; go_cell
  have d2 : w1.cell? ⟨w.heap.size + 1, 2, none⟩ = some (.int .i64 m) := by subst hw1; go_cell
  have d3 : w1.cell? ⟨w.heap.size + 1, 3, none⟩ = some (.int .i64 c) := by subst hw1; go_cell
  have e0 : w1.cell? ⟨w.heap.size + 1 + 1, 0, none⟩ = some (.int .i64 K0) := by subst hw1; go_cell
  have e1 : w1.cell? ⟨w.heap.size + 1 + 1, 1, none⟩ = some (.int .i64 K1) := by subst hw1; go_cell
  rw [hw1]
  clear hw1
  go_wp2_with (first
    | (go_at_call 23; (with_reducible refine (C23.out _ B1.out).mono ?_); rintro e wa ⟨t, rfl, hr⟩; obtain ⟨g0, gc0, ht, -, -, -, -, -⟩ := hr.own' NE1.out; rw [HFL.out] at ht; subst ht; have hb := hr.2; have d0 := (hb.cell (lt_of_cell_some d0)).trans d0; have d1 := (hb.cell (lt_of_cell_some d1)).trans d1; have d2 := (hb.cell (lt_of_cell_some d2)).trans d2; have d3 := (hb.cell (lt_of_cell_some d3)).trans d3; have e0 := (hb.cell (lt_of_cell_some e0)).trans e0; have e1 := (hb.cell (lt_of_cell_some e1)).trans e1; have B2 := Lib.hid (kbT B1.out hb); clear hr hb)
    | (go_at_call 19; (with_reducible refine (C19.out _).mono ?_); rintro e wv ⟨rfl, hb⟩; have e0 := (hb.cell (lt_of_cell_some e0)).trans e0; have e1 := (hb.cell (lt_of_cell_some e1)).trans e1; have B3 := Lib.hid (kbT B2.out hb); clear hb)
    | (go_at_call 13; refine (NM.out _ _).mono ?_; rintro e wn ⟨rfl, rfl⟩)
    | (go_at_call 15; refine (WKS.out _).mono ?_; rintro e wz ⟨rfl, hbz⟩))
  go_ret
  exact ⟨rfl, kbT B3.out hbz⟩
set_option maxRecDepth 100000 in
set_option maxHeartbeats 4000000 in
theorem holds_b1 (E : Nat) (i p : Nat) (cm : Bool) (n k : Nat) (q : Option Addr) (cap : Nat) (S H : Nat) (m c : Nat) (K0 K1 : Int) (w : World) (hok : frameOk i p cm n 512 = true) (hE : E < 2 ^ 64) (hk : k < 4294967296) (bs : List Nat) (hbl : bs.length = 512) (hbb : ∀ b ∈ bs, b < 256) (hbs : BytesAt w q bs) (hqn : q = none → cap = 0) (hS1 : S < 2 ^ 64) (hH1 : H < 2 ^ 64) (hh : headOk m c = true) (hK : K0 < 0) :
    Calls Try.prog 7 #[frameV E i p cm n k q 512 cap, headV S H m c, .agg #[.int .i64 K0, .int .i64 K1]] w fun r w' => r = .returned (.bool true) ∧ Below w.heap.size w w' := by
  have NM := Lib.hid num_any
  have WKS := Lib.hid works_any
  have fb := frame_bounds hok
  have C23 := Lib.hid fun (w' : World) (h : Below w.heap.size w w') => encode_ok E i p cm n k hE (by omega) (by omega) (by omega) hk q cap bs hbl hbb w' (bytesAt_below hbs h) hqn hok
  have hfl : (frameL E i p cm n k bs).length = 576 := by unfold frameL; rw [List.length_append, frameS_length, hbl]
  have ne1 : frameL E i p cm n k bs ≠ [] := fun h => by rw [h] at hfl; simp at hfl
  generalize frameL E i p cm n k bs = fl at *
  have HFL := Lib.hid hfl
  have NE1 := Lib.hid ne1
  have C19 := Lib.hid (encodeHead_ok S H m c hS1 hH1 hh)
  have hw0 : IntKind.i64.wrap 0 = 0 := wrap_small (by omega) (by omega)
  have dk0 : decide (K0 < 0) = true := by first | exact decide_eq_false (by omega) | exact decide_eq_true (by omega)
  clear hK
  skip
  unfold frameV headV
  clear fb hok hE hk hbl hbb hbs hqn hfl ne1 hS1 hH1 hh
  go_enter Try.func7, Try.ntmps7
  go_upto_region 1 with fail
  obtain ⟨w1, hw1⟩ : ∃ w1, ((w.alloc (.cells #[.int .u64 E, .int .i64 i, .int .i64 p, .bool cm, .int .i64 n, .int .u32 k, .slice q 512 cap] 51)).alloc (.cells #[.int .u64 S, .int .u64 H, .int .i64 m, .int .i64 c] 38)).alloc (.cells #[.int .i64 K0, .int .i64 K1] 68) = w1 := ⟨_, rfl⟩
  have B1 : Hid (Below w.heap.size w w1) := Lib.hid (by subst hw1; exact (((Below.refl _ _).alloc (Nat.le_refl _) _).alloc (by simp) _).alloc (by simp; omega) _)
  have c0 : w1.cell? ⟨w.heap.size, 0, none⟩ = some (.int .u64 E) := by subst hw1; go_cell
  have c1 : w1.cell? ⟨w.heap.size, 1, none⟩ = some (.int .i64 i) := by subst hw1; go_cell
  have c2 : w1.cell? ⟨w.heap.size, 2, none⟩ = some (.int .i64 p) := by subst hw1; go_cell
  have c3 : w1.cell? ⟨w.heap.size, 3, none⟩ = some (.bool cm) := by subst hw1; go_cell
  have c4 : w1.cell? ⟨w.heap.size, 4, none⟩ = some (.int .i64 n) := by subst hw1; go_cell
  have c5 : w1.cell? ⟨w.heap.size, 5, none⟩ = some (.int .u32 k) := by subst hw1; go_cell
  have c6 : w1.cell? ⟨w.heap.size, 6, none⟩ = some (.slice q 512 cap) := by subst hw1; go_cell
  have d0 : w1.cell? ⟨w.heap.size + 1, 0, none⟩ = some (.int .u64 S) := by subst hw1; go_cell
  have d1 : w1.cell? ⟨w.heap.size + 1, 1, none⟩ = some (.int .u64 H) := by subst hw1; go_cell
  have d2 : w1.cell? ⟨w.heap.size + 1, 2, none⟩ = some (.int .i64 m) := by subst hw1; go_cell
  have d3 : w1.cell? ⟨w.heap.size + 1, 3, none⟩ = some (.int .i64 c) := by subst hw1; go_cell
  have e0 : w1.cell? ⟨w.heap.size + 1 + 1, 0, none⟩ = some (.int .i64 K0) := by subst hw1; go_cell
  have e1 : w1.cell? ⟨w.heap.size + 1 + 1, 1, none⟩ = some (.int .i64 K1) := by subst hw1; go_cell
  rw [hw1]
  clear hw1
  go_wp2_with (first
    | (go_at_call 23; (with_reducible refine (C23.out _ B1.out).mono ?_); rintro e wa ⟨t, rfl, hr⟩; obtain ⟨g0, gc0, ht, -, -, -, -, -⟩ := hr.own' NE1.out; rw [HFL.out] at ht; subst ht; have hb := hr.2; have d0 := (hb.cell (lt_of_cell_some d0)).trans d0; have d1 := (hb.cell (lt_of_cell_some d1)).trans d1; have d2 := (hb.cell (lt_of_cell_some d2)).trans d2; have d3 := (hb.cell (lt_of_cell_some d3)).trans d3; have e0 := (hb.cell (lt_of_cell_some e0)).trans e0; have e1 := (hb.cell (lt_of_cell_some e1)).trans e1; have B2 := Lib.hid (kbT B1.out hb); clear hr hb)
    | (go_at_call 19; (with_reducible refine (C19.out _).mono ?_); rintro e wv ⟨g1, rfl, -, -, hb⟩; have e0 := (hb.cell (lt_of_cell_some e0)).trans e0; have e1 := (hb.cell (lt_of_cell_some e1)).trans e1; have B3 := Lib.hid (kbT B2.out hb); clear hb)
    | (go_at_call 13; refine (NM.out _ _).mono ?_; rintro e wn ⟨rfl, rfl⟩)
    | (go_at_call 15; refine (WKS.out _).mono ?_; rintro e wz ⟨rfl, hbz⟩))
  go_ret
  exact ⟨rfl, kbT B3.out hbz⟩
set_option maxRecDepth 100000 in
set_option maxHeartbeats 4000000 in
theorem holds_b2 (E : Nat) (i p : Nat) (cm : Bool) (n k : Nat) (q : Option Addr) (cap : Nat) (S H : Nat) (m c : Nat) (K0 K1 : Int) (w : World) (hok : frameOk i p cm n 512 = true) (hE : E < 2 ^ 64) (hk : k < 4294967296) (bs : List Nat) (hbl : bs.length = 512) (hbb : ∀ b ∈ bs, b < 256) (hbs : BytesAt w q bs) (hqn : q = none → cap = 0) (hS1 : S < 2 ^ 64) (hH1 : H < 2 ^ 64) (hh : headOk m c = true) (hK0 : ¬ K0 < 0) (hK : K0 ≥ 4608) :
    Calls Try.prog 7 #[frameV E i p cm n k q 512 cap, headV S H m c, .agg #[.int .i64 K0, .int .i64 K1]] w fun r w' => r = .returned (.bool true) ∧ Below w.heap.size w w' := by
  have NM := Lib.hid num_any
  have WKS := Lib.hid works_any
  have fb := frame_bounds hok
  have C23 := Lib.hid fun (w' : World) (h : Below w.heap.size w w') => encode_ok E i p cm n k hE (by omega) (by omega) (by omega) hk q cap bs hbl hbb w' (bytesAt_below hbs h) hqn hok
  have hfl : (frameL E i p cm n k bs).length = 576 := by unfold frameL; rw [List.length_append, frameS_length, hbl]
  have ne1 : frameL E i p cm n k bs ≠ [] := fun h => by rw [h] at hfl; simp at hfl
  generalize frameL E i p cm n k bs = fl at *
  have HFL := Lib.hid hfl
  have NE1 := Lib.hid ne1
  have C19 := Lib.hid (encodeHead_ok S H m c hS1 hH1 hh)
  have hw0 : IntKind.i64.wrap 0 = 0 := wrap_small (by omega) (by omega)
  have dk0 : decide (K0 < 0) = false := by first | exact decide_eq_false (by omega) | exact decide_eq_true (by omega)
  have dk1 : decide ((4608 : Int) ≤ K0) = true := by first | exact decide_eq_false (by omega) | exact decide_eq_true (by omega)
  clear hK hK0
  skip
  unfold frameV headV
  clear fb hok hE hk hbl hbb hbs hqn hfl ne1 hS1 hH1 hh
  go_enter Try.func7, Try.ntmps7
  go_upto_region 1 with fail
  obtain ⟨w1, hw1⟩ : ∃ w1, ((w.alloc (.cells #[.int .u64 E, .int .i64 i, .int .i64 p, .bool cm, .int .i64 n, .int .u32 k, .slice q 512 cap] 51)).alloc (.cells #[.int .u64 S, .int .u64 H, .int .i64 m, .int .i64 c] 38)).alloc (.cells #[.int .i64 K0, .int .i64 K1] 68) = w1 := ⟨_, rfl⟩
  have B1 : Hid (Below w.heap.size w w1) := Lib.hid (by subst hw1; exact (((Below.refl _ _).alloc (Nat.le_refl _) _).alloc (by simp) _).alloc (by simp; omega) _)
  have c0 : w1.cell? ⟨w.heap.size, 0, none⟩ = some (.int .u64 E) := by subst hw1; go_cell
  have c1 : w1.cell? ⟨w.heap.size, 1, none⟩ = some (.int .i64 i) := by subst hw1; go_cell
  have c2 : w1.cell? ⟨w.heap.size, 2, none⟩ = some (.int .i64 p) := by subst hw1; go_cell
  have c3 : w1.cell? ⟨w.heap.size, 3, none⟩ = some (.bool cm) := by subst hw1; go_cell
  have c4 : w1.cell? ⟨w.heap.size, 4, none⟩ = some (.int .i64 n) := by subst hw1; go_cell
  have c5 : w1.cell? ⟨w.heap.size, 5, none⟩ = some (.int .u32 k) := by subst hw1; go_cell
  have c6 : w1.cell? ⟨w.heap.size, 6, none⟩ = some (.slice q 512 cap) := by subst hw1; go_cell
  have d0 : w1.cell? ⟨w.heap.size + 1, 0, none⟩ = some (.int .u64 S) := by subst hw1; go_cell
  have d1 : w1.cell? ⟨w.heap.size + 1, 1, none⟩ = some (.int .u64 H) := by subst hw1; go_cell
  have d2 : w1.cell? ⟨w.heap.size + 1, 2, none⟩ = some (.int .i64 m) := by subst hw1; go_cell
  have d3 : w1.cell? ⟨w.heap.size + 1, 3, none⟩ = some (.int .i64 c) := by subst hw1; go_cell
  have e0 : w1.cell? ⟨w.heap.size + 1 + 1, 0, none⟩ = some (.int .i64 K0) := by subst hw1; go_cell
  have e1 : w1.cell? ⟨w.heap.size + 1 + 1, 1, none⟩ = some (.int .i64 K1) := by subst hw1; go_cell
  rw [hw1]
  clear hw1
  go_wp2_with (first
    | (go_at_call 23; (with_reducible refine (C23.out _ B1.out).mono ?_); rintro e wa ⟨t, rfl, hr⟩; obtain ⟨g0, gc0, ht, -, -, -, -, -⟩ := hr.own' NE1.out; rw [HFL.out] at ht; subst ht; have hb := hr.2; have d0 := (hb.cell (lt_of_cell_some d0)).trans d0; have d1 := (hb.cell (lt_of_cell_some d1)).trans d1; have d2 := (hb.cell (lt_of_cell_some d2)).trans d2; have d3 := (hb.cell (lt_of_cell_some d3)).trans d3; have e0 := (hb.cell (lt_of_cell_some e0)).trans e0; have e1 := (hb.cell (lt_of_cell_some e1)).trans e1; have B2 := Lib.hid (kbT B1.out hb); clear hr hb)
    | (go_at_call 19; (with_reducible refine (C19.out _).mono ?_); rintro e wv ⟨g1, rfl, -, -, hb⟩; have e0 := (hb.cell (lt_of_cell_some e0)).trans e0; have e1 := (hb.cell (lt_of_cell_some e1)).trans e1; have B3 := Lib.hid (kbT B2.out hb); clear hb)
    | (go_at_call 13; refine (NM.out _ _).mono ?_; rintro e wn ⟨rfl, rfl⟩)
    | (go_at_call 15; refine (WKS.out _).mono ?_; rintro e wz ⟨rfl, hbz⟩))
  go_ret
  exact ⟨rfl, kbT B3.out hbz⟩
set_option maxRecDepth 100000 in
set_option maxHeartbeats 4000000 in
theorem holds_b3 (E : Nat) (i p : Nat) (cm : Bool) (n k : Nat) (q : Option Addr) (cap : Nat) (S H : Nat) (m c : Nat) (K0 K1 : Int) (w : World) (hok : frameOk i p cm n 512 = true) (hE : E < 2 ^ 64) (hk : k < 4294967296) (bs : List Nat) (hbl : bs.length = 512) (hbb : ∀ b ∈ bs, b < 256) (hbs : BytesAt w q bs) (hqn : q = none → cap = 0) (hS1 : S < 2 ^ 64) (hH1 : H < 2 ^ 64) (hh : headOk m c = true) (hK0 : ¬ K0 < 0) (hK1 : ¬ K0 ≥ 4608) (hK : K1 < 0) :
    Calls Try.prog 7 #[frameV E i p cm n k q 512 cap, headV S H m c, .agg #[.int .i64 K0, .int .i64 K1]] w fun r w' => r = .returned (.bool true) ∧ Below w.heap.size w w' := by
  have NM := Lib.hid num_any
  have WKS := Lib.hid works_any
  have fb := frame_bounds hok
  have C23 := Lib.hid fun (w' : World) (h : Below w.heap.size w w') => encode_ok E i p cm n k hE (by omega) (by omega) (by omega) hk q cap bs hbl hbb w' (bytesAt_below hbs h) hqn hok
  have hfl : (frameL E i p cm n k bs).length = 576 := by unfold frameL; rw [List.length_append, frameS_length, hbl]
  have ne1 : frameL E i p cm n k bs ≠ [] := fun h => by rw [h] at hfl; simp at hfl
  generalize frameL E i p cm n k bs = fl at *
  have HFL := Lib.hid hfl
  have NE1 := Lib.hid ne1
  have C19 := Lib.hid (encodeHead_ok S H m c hS1 hH1 hh)
  have hw0 : IntKind.i64.wrap 0 = 0 := wrap_small (by omega) (by omega)
  have dk0 : decide (K0 < 0) = false := by first | exact decide_eq_false (by omega) | exact decide_eq_true (by omega)
  have dk1 : decide ((4608 : Int) ≤ K0) = false := by first | exact decide_eq_false (by omega) | exact decide_eq_true (by omega)
  have dk2 : decide (K1 < 0) = true := by first | exact decide_eq_false (by omega) | exact decide_eq_true (by omega)
  clear hK hK0 hK1
  skip
  unfold frameV headV
  clear fb hok hE hk hbl hbb hbs hqn hfl ne1 hS1 hH1 hh
  go_enter Try.func7, Try.ntmps7
  go_upto_region 1 with fail
  obtain ⟨w1, hw1⟩ : ∃ w1, ((w.alloc (.cells #[.int .u64 E, .int .i64 i, .int .i64 p, .bool cm, .int .i64 n, .int .u32 k, .slice q 512 cap] 51)).alloc (.cells #[.int .u64 S, .int .u64 H, .int .i64 m, .int .i64 c] 38)).alloc (.cells #[.int .i64 K0, .int .i64 K1] 68) = w1 := ⟨_, rfl⟩
  have B1 : Hid (Below w.heap.size w w1) := Lib.hid (by subst hw1; exact (((Below.refl _ _).alloc (Nat.le_refl _) _).alloc (by simp) _).alloc (by simp; omega) _)
  have c0 : w1.cell? ⟨w.heap.size, 0, none⟩ = some (.int .u64 E) := by subst hw1; go_cell
  have c1 : w1.cell? ⟨w.heap.size, 1, none⟩ = some (.int .i64 i) := by subst hw1; go_cell
  have c2 : w1.cell? ⟨w.heap.size, 2, none⟩ = some (.int .i64 p) := by subst hw1; go_cell
  have c3 : w1.cell? ⟨w.heap.size, 3, none⟩ = some (.bool cm) := by subst hw1; go_cell
  have c4 : w1.cell? ⟨w.heap.size, 4, none⟩ = some (.int .i64 n) := by subst hw1; go_cell
  have c5 : w1.cell? ⟨w.heap.size, 5, none⟩ = some (.int .u32 k) := by subst hw1; go_cell
  have c6 : w1.cell? ⟨w.heap.size, 6, none⟩ = some (.slice q 512 cap) := by subst hw1; go_cell
  have d0 : w1.cell? ⟨w.heap.size + 1, 0, none⟩ = some (.int .u64 S) := by subst hw1; go_cell
  have d1 : w1.cell? ⟨w.heap.size + 1, 1, none⟩ = some (.int .u64 H) := by subst hw1; go_cell
  have d2 : w1.cell? ⟨w.heap.size + 1, 2, none⟩ = some (.int .i64 m) := by subst hw1; go_cell
  have d3 : w1.cell? ⟨w.heap.size + 1, 3, none⟩ = some (.int .i64 c) := by subst hw1; go_cell
  have e0 : w1.cell? ⟨w.heap.size + 1 + 1, 0, none⟩ = some (.int .i64 K0) := by subst hw1; go_cell
  have e1 : w1.cell? ⟨w.heap.size + 1 + 1, 1, none⟩ = some (.int .i64 K1) := by subst hw1; go_cell
  rw [hw1]
  clear hw1
  go_wp2_with (first
    | (go_at_call 23; (with_reducible refine (C23.out _ B1.out).mono ?_); rintro e wa ⟨t, rfl, hr⟩; obtain ⟨g0, gc0, ht, -, -, -, -, -⟩ := hr.own' NE1.out; rw [HFL.out] at ht; subst ht; have hb := hr.2; have d0 := (hb.cell (lt_of_cell_some d0)).trans d0; have d1 := (hb.cell (lt_of_cell_some d1)).trans d1; have d2 := (hb.cell (lt_of_cell_some d2)).trans d2; have d3 := (hb.cell (lt_of_cell_some d3)).trans d3; have e0 := (hb.cell (lt_of_cell_some e0)).trans e0; have e1 := (hb.cell (lt_of_cell_some e1)).trans e1; have B2 := Lib.hid (kbT B1.out hb); clear hr hb)
    | (go_at_call 19; (with_reducible refine (C19.out _).mono ?_); rintro e wv ⟨g1, rfl, -, -, hb⟩; have e0 := (hb.cell (lt_of_cell_some e0)).trans e0; have e1 := (hb.cell (lt_of_cell_some e1)).trans e1; have B3 := Lib.hid (kbT B2.out hb); clear hb)
    | (go_at_call 13; refine (NM.out _ _).mono ?_; rintro e wn ⟨rfl, rfl⟩)
    | (go_at_call 15; refine (WKS.out _).mono ?_; rintro e wz ⟨rfl, hbz⟩))
  go_ret
  exact ⟨rfl, kbT B3.out hbz⟩
set_option maxRecDepth 100000 in
set_option maxHeartbeats 4000000 in
theorem holds_b4 (E : Nat) (i p : Nat) (cm : Bool) (n k : Nat) (q : Option Addr) (cap : Nat) (S H : Nat) (m c : Nat) (K0 K1 : Int) (w : World) (hok : frameOk i p cm n 512 = true) (hE : E < 2 ^ 64) (hk : k < 4294967296) (bs : List Nat) (hbl : bs.length = 512) (hbb : ∀ b ∈ bs, b < 256) (hbs : BytesAt w q bs) (hqn : q = none → cap = 0) (hS1 : S < 2 ^ 64) (hH1 : H < 2 ^ 64) (hh : headOk m c = true) (hK0 : ¬ K0 < 0) (hK1 : ¬ K0 ≥ 4608) (hK2 : ¬ K1 < 0) (hK : K1 ≥ 512) :
    Calls Try.prog 7 #[frameV E i p cm n k q 512 cap, headV S H m c, .agg #[.int .i64 K0, .int .i64 K1]] w fun r w' => r = .returned (.bool true) ∧ Below w.heap.size w w' := by
  have NM := Lib.hid num_any
  have WKS := Lib.hid works_any
  have fb := frame_bounds hok
  have C23 := Lib.hid fun (w' : World) (h : Below w.heap.size w w') => encode_ok E i p cm n k hE (by omega) (by omega) (by omega) hk q cap bs hbl hbb w' (bytesAt_below hbs h) hqn hok
  have hfl : (frameL E i p cm n k bs).length = 576 := by unfold frameL; rw [List.length_append, frameS_length, hbl]
  have ne1 : frameL E i p cm n k bs ≠ [] := fun h => by rw [h] at hfl; simp at hfl
  generalize frameL E i p cm n k bs = fl at *
  have HFL := Lib.hid hfl
  have NE1 := Lib.hid ne1
  have C19 := Lib.hid (encodeHead_ok S H m c hS1 hH1 hh)
  have hw0 : IntKind.i64.wrap 0 = 0 := wrap_small (by omega) (by omega)
  have dk0 : decide (K0 < 0) = false := by first | exact decide_eq_false (by omega) | exact decide_eq_true (by omega)
  have dk1 : decide ((4608 : Int) ≤ K0) = false := by first | exact decide_eq_false (by omega) | exact decide_eq_true (by omega)
  have dk2 : decide (K1 < 0) = false := by first | exact decide_eq_false (by omega) | exact decide_eq_true (by omega)
  have dk3 : decide ((512 : Int) ≤ K1) = true := by first | exact decide_eq_false (by omega) | exact decide_eq_true (by omega)
  clear hK hK0 hK1 hK2
  skip
  unfold frameV headV
  clear fb hok hE hk hbl hbb hbs hqn hfl ne1 hS1 hH1 hh
  go_enter Try.func7, Try.ntmps7
  go_upto_region 1 with fail
  obtain ⟨w1, hw1⟩ : ∃ w1, ((w.alloc (.cells #[.int .u64 E, .int .i64 i, .int .i64 p, .bool cm, .int .i64 n, .int .u32 k, .slice q 512 cap] 51)).alloc (.cells #[.int .u64 S, .int .u64 H, .int .i64 m, .int .i64 c] 38)).alloc (.cells #[.int .i64 K0, .int .i64 K1] 68) = w1 := ⟨_, rfl⟩
  have B1 : Hid (Below w.heap.size w w1) := Lib.hid (by subst hw1; exact (((Below.refl _ _).alloc (Nat.le_refl _) _).alloc (by simp) _).alloc (by simp; omega) _)
  have c0 : w1.cell? ⟨w.heap.size, 0, none⟩ = some (.int .u64 E) := by subst hw1; go_cell
  have c1 : w1.cell? ⟨w.heap.size, 1, none⟩ = some (.int .i64 i) := by subst hw1; go_cell
  have c2 : w1.cell? ⟨w.heap.size, 2, none⟩ = some (.int .i64 p) := by subst hw1; go_cell
  have c3 : w1.cell? ⟨w.heap.size, 3, none⟩ = some (.bool cm) := by subst hw1; go_cell
  have c4 : w1.cell? ⟨w.heap.size, 4, none⟩ = some (.int .i64 n) := by subst hw1; go_cell
  have c5 : w1.cell? ⟨w.heap.size, 5, none⟩ = some (.int .u32 k) := by subst hw1; go_cell
  have c6 : w1.cell? ⟨w.heap.size, 6, none⟩ = some (.slice q 512 cap) := by subst hw1; go_cell
  have d0 : w1.cell? ⟨w.heap.size + 1, 0, none⟩ = some (.int .u64 S) := by subst hw1; go_cell
  have d1 : w1.cell? ⟨w.heap.size + 1, 1, none⟩ = some (.int .u64 H) := by subst hw1; go_cell
  have d2 : w1.cell? ⟨w.heap.size + 1, 2, none⟩ = some (.int .i64 m) := by subst hw1; go_cell
  have d3 : w1.cell? ⟨w.heap.size + 1, 3, none⟩ = some (.int .i64 c) := by subst hw1; go_cell
  have e0 : w1.cell? ⟨w.heap.size + 1 + 1, 0, none⟩ = some (.int .i64 K0) := by subst hw1; go_cell
  have e1 : w1.cell? ⟨w.heap.size + 1 + 1, 1, none⟩ = some (.int .i64 K1) := by subst hw1; go_cell
  rw [hw1]
  clear hw1
  go_wp2_with (first
    | (go_at_call 23; (with_reducible refine (C23.out _ B1.out).mono ?_); rintro e wa ⟨t, rfl, hr⟩; obtain ⟨g0, gc0, ht, -, -, -, -, -⟩ := hr.own' NE1.out; rw [HFL.out] at ht; subst ht; have hb := hr.2; have d0 := (hb.cell (lt_of_cell_some d0)).trans d0; have d1 := (hb.cell (lt_of_cell_some d1)).trans d1; have d2 := (hb.cell (lt_of_cell_some d2)).trans d2; have d3 := (hb.cell (lt_of_cell_some d3)).trans d3; have e0 := (hb.cell (lt_of_cell_some e0)).trans e0; have e1 := (hb.cell (lt_of_cell_some e1)).trans e1; have B2 := Lib.hid (kbT B1.out hb); clear hr hb)
    | (go_at_call 19; (with_reducible refine (C19.out _).mono ?_); rintro e wv ⟨g1, rfl, -, -, hb⟩; have e0 := (hb.cell (lt_of_cell_some e0)).trans e0; have e1 := (hb.cell (lt_of_cell_some e1)).trans e1; have B3 := Lib.hid (kbT B2.out hb); clear hb)
    | (go_at_call 13; refine (NM.out _ _).mono ?_; rintro e wn ⟨rfl, rfl⟩)
    | (go_at_call 15; refine (WKS.out _).mono ?_; rintro e wz ⟨rfl, hbz⟩))
  go_ret
  exact ⟨rfl, kbT B3.out hbz⟩
/-- FrameHolds answers true. -/
theorem holds_any (E : Nat) (i p : Int) (cm : Bool) (n : Int) (k : Nat) (q : Option Addr) (bs : List Nat) (cap : Nat) (S H : Nat) (m c K0 K1 : Int) (w : World) (hE : E < 2 ^ 64) (hk : k < 2 ^ 32) (hS1 : S < 2 ^ 64) (hH1 : H < 2 ^ 64) (hbb : ∀ b ∈ bs, b < 256) (hbs : BytesAt w q bs) (hqn : q = none → cap = 0) :
    Calls Try.prog 7 #[frameV E i p cm n k q bs.length cap, headV S H m c, .agg #[.int .i64 K0, .int .i64 K1]] w fun r w' => r = .returned (.bool true) ∧ Below w.heap.size w w' := by
  have nat {n c : Int} (h : headOk n c = true) : ∃ a b : Nat, n = a ∧ c = b := by
    obtain ⟨x1, x2, x3, x4⟩ := head_bounds h
    exact ⟨n.toNat, c.toNat, by omega, by omega⟩
  cases h1 : frameOk i p cm n bs.length with
  | false =>
    cases h2 : headOk m c with
    | false => exact holds_ff E i p cm n k q cap S H m c K0 K1 w _ h1 h2
    | true =>
      obtain ⟨a, b, rfl, rfl⟩ := nat h2
      exact holds_ft E i p cm n k q cap S H a b K0 K1 w _ h1 hS1 hH1 h2
  | true =>
    have hfb := frame_bounds h1
    have hl : bs.length = 512 := by omega
    obtain ⟨i', rfl⟩ : ∃ a : Nat, i = a := ⟨i.toNat, by omega⟩
    obtain ⟨p', rfl⟩ : ∃ a : Nat, p = a := ⟨p.toNat, by omega⟩
    obtain ⟨n', rfl⟩ : ∃ a : Nat, n = a := ⟨n.toNat, by omega⟩
    rw [hl] at h1 ⊢
    cases h2 : headOk m c with
    | false => exact holds_tf E i' p' cm n' k q cap S H m c K0 K1 w h1 hE (by omega) bs hl hbb hbs hqn h2
    | true =>
      obtain ⟨a, b, rfl, rfl⟩ := nat h2
      by_cases k1 : K0 < 0
      · exact holds_b1 E i' p' cm n' k q cap S H a b K0 K1 w h1 hE (by omega) bs hl hbb hbs hqn hS1 hH1 h2 k1
      · by_cases k2 : K0 ≥ 4608
        · exact holds_b2 E i' p' cm n' k q cap S H a b K0 K1 w h1 hE (by omega) bs hl hbb hbs hqn hS1 hH1 h2 k1 k2
        · by_cases k3 : K1 < 0
          · exact holds_b3 E i' p' cm n' k q cap S H a b K0 K1 w h1 hE (by omega) bs hl hbb hbs hqn hS1 hH1 h2 k1 k2 k3
          · by_cases k4 : K1 ≥ 512
            · exact holds_b4 E i' p' cm n' k q cap S H a b K0 K1 w h1 hE (by omega) bs hl hbb hbs hqn hS1 hH1 h2 k1 k2 k3 k4
            · obtain ⟨x, rfl⟩ : ∃ a : Nat, K0 = a := ⟨K0.toNat, by omega⟩
              obtain ⟨y, rfl⟩ : ∃ a : Nat, K1 = a := ⟨K1.toNat, by omega⟩
              exact holds_walk E i' p' cm n' k q cap bs S H a b x y w hE (by omega) h1 hl hbb hbs hqn hS1 hH1 h2 (by omega) (by omega)
end Go.Proofs.Ythnllhfdbnnjhaa
