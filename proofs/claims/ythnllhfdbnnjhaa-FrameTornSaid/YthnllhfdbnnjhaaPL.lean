/- FrameTorn, all cases. -/
import Derived.Test.YthnllhfdbnnjhaaPK
namespace Go.Proofs.Ythnllhfdbnnjhaa
open Go.RowKit Go.Shelf

set_option maxRecDepth 100000 in
set_option maxHeartbeats 1000000 in
theorem torn_ff (S1 E1 S2 E2 : Nat) (n1 c1 : Int) (n2 c2 : Int) (M : Int) (w : World) (hS1 : S1 < 2 ^ 64) (hE1 : E1 < 2 ^ 64) (hS2 : S2 < 2 ^ 64) (hE2 : E2 < 2 ^ 64) (h1 : headOk n1 c1 = false) (h2 : headOk n2 c2 = false)  :
    Calls Try.prog 8 #[headV S1 E1 n1 c1, headV S2 E2 n2 c2, .int .i64 M] w fun r w' => r = .returned (.bool true) ∧ Below w.heap.size w w' := by
  have NM := Lib.hid num_any
  have WKS := Lib.hid works_any
  have C1 := Lib.hid (encodeHead_no S1 E1 n1 c1 h1)
  have C2 := Lib.hid (encodeHead_no S2 E2 n2 c2 h2)
  have hw0 : IntKind.i64.wrap 0 = 0 := wrap_small (by omega) (by omega)
  unfold headV
  clear h1 h2 hS1 hE1 hS2 hE2
  go_enter Try.func8, Try.ntmps8
  go_wp2_with (first
    | (go_at_call 19; (with_reducible refine (C1.out _).mono ?_); rintro e wa ⟨rfl, hb⟩; have B1 := Lib.hid (Below.trans (((Below.refl w.heap.size w).alloc (Nat.le_refl _) (.cells #[.int .u64 S1, .int .u64 E1, .int .i64 n1, .int .i64 c1] 38)).alloc (by simp) (.cells #[.int .u64 S2, .int .u64 E2, .int .i64 n2, .int .i64 c2] 38)) (hb.mono (by simp; omega)))
       have d0 : wa.cell? ⟨w.heap.size + 1, 0, none⟩ = some (.int .u64 S2) := (hb.cell (by simp)).trans (by go_cell)
       have d1 : wa.cell? ⟨w.heap.size + 1, 1, none⟩ = some (.int .u64 E2) := (hb.cell (by simp)).trans (by go_cell)
       have d2 : wa.cell? ⟨w.heap.size + 1, 2, none⟩ = some (.int .i64 n2) := (hb.cell (by simp)).trans (by go_cell)
       have d3 : wa.cell? ⟨w.heap.size + 1, 3, none⟩ = some (.int .i64 c2) := (hb.cell (by simp)).trans (by go_cell)
       clear hb)
    | (go_at_call 19; (with_reducible refine (C2.out _).mono ?_); rintro e we ⟨rfl, hb⟩; have B2 := Lib.hid (kbT B1.out hb); clear hb d0 d1 d2 d3)
    | (go_at_call 13; refine (NM.out _ _).mono ?_; rintro e wn ⟨rfl, rfl⟩)
    | (go_at_call 15; refine (WKS.out _).mono ?_; rintro e wz ⟨rfl, hbz⟩))
  go_ret
  exact ⟨rfl, kbT B2.out hbz⟩
set_option maxRecDepth 100000 in
set_option maxHeartbeats 1000000 in
theorem torn_ft (S1 E1 S2 E2 : Nat) (n1 c1 : Int) (n2 c2 : Nat) (M : Int) (w : World) (hS1 : S1 < 2 ^ 64) (hE1 : E1 < 2 ^ 64) (hS2 : S2 < 2 ^ 64) (hE2 : E2 < 2 ^ 64) (h1 : headOk n1 c1 = false) (h2 : headOk n2 c2 = true)  :
    Calls Try.prog 8 #[headV S1 E1 n1 c1, headV S2 E2 n2 c2, .int .i64 M] w fun r w' => r = .returned (.bool true) ∧ Below w.heap.size w w' := by
  have NM := Lib.hid num_any
  have WKS := Lib.hid works_any
  have C1 := Lib.hid (encodeHead_no S1 E1 n1 c1 h1)
  have C2 := Lib.hid (encodeHead_ok S2 E2 n2 c2 hS2 hE2 h2)
  have hw0 : IntKind.i64.wrap 0 = 0 := wrap_small (by omega) (by omega)
  unfold headV
  clear h1 h2 hS1 hE1 hS2 hE2
  go_enter Try.func8, Try.ntmps8
  go_wp2_with (first
    | (go_at_call 19; (with_reducible refine (C1.out _).mono ?_); rintro e wa ⟨rfl, hb⟩; have B1 := Lib.hid (Below.trans (((Below.refl w.heap.size w).alloc (Nat.le_refl _) (.cells #[.int .u64 S1, .int .u64 E1, .int .i64 n1, .int .i64 c1] 38)).alloc (by simp) (.cells #[.int .u64 S2, .int .u64 E2, .int .i64 n2, .int .i64 c2] 38)) (hb.mono (by simp; omega)))
       have d0 : wa.cell? ⟨w.heap.size + 1, 0, none⟩ = some (.int .u64 S2) := (hb.cell (by simp)).trans (by go_cell)
       have d1 : wa.cell? ⟨w.heap.size + 1, 1, none⟩ = some (.int .u64 E2) := (hb.cell (by simp)).trans (by go_cell)
       have d2 : wa.cell? ⟨w.heap.size + 1, 2, none⟩ = some (.int .i64 n2) := (hb.cell (by simp)).trans (by go_cell)
       have d3 : wa.cell? ⟨w.heap.size + 1, 3, none⟩ = some (.int .i64 c2) := (hb.cell (by simp)).trans (by go_cell)
       clear hb)
    | (go_at_call 19; (with_reducible refine (C2.out _).mono ?_); rintro e we ⟨g2, rfl, -, -, hb⟩; have B2 := Lib.hid (kbT B1.out hb); clear hb d0 d1 d2 d3)
    | (go_at_call 13; refine (NM.out _ _).mono ?_; rintro e wn ⟨rfl, rfl⟩)
    | (go_at_call 15; refine (WKS.out _).mono ?_; rintro e wz ⟨rfl, hbz⟩))
  go_ret
  exact ⟨rfl, kbT B2.out hbz⟩
set_option maxRecDepth 100000 in
set_option maxHeartbeats 1000000 in
theorem torn_tf (S1 E1 S2 E2 : Nat) (n1 c1 : Nat) (n2 c2 : Int) (M : Int) (w : World) (hS1 : S1 < 2 ^ 64) (hE1 : E1 < 2 ^ 64) (hS2 : S2 < 2 ^ 64) (hE2 : E2 < 2 ^ 64) (h1 : headOk n1 c1 = true) (h2 : headOk n2 c2 = false)  :
    Calls Try.prog 8 #[headV S1 E1 n1 c1, headV S2 E2 n2 c2, .int .i64 M] w fun r w' => r = .returned (.bool true) ∧ Below w.heap.size w w' := by
  have NM := Lib.hid num_any
  have WKS := Lib.hid works_any
  have C1 := Lib.hid (encodeHead_ok S1 E1 n1 c1 hS1 hE1 h1)
  have C2 := Lib.hid (encodeHead_no S2 E2 n2 c2 h2)
  have hw0 : IntKind.i64.wrap 0 = 0 := wrap_small (by omega) (by omega)
  unfold headV
  clear h1 h2 hS1 hE1 hS2 hE2
  go_enter Try.func8, Try.ntmps8
  go_wp2_with (first
    | (go_at_call 19; (with_reducible refine (C1.out _).mono ?_); rintro e wa ⟨g1, rfl, -, -, hb⟩; have B1 := Lib.hid (Below.trans (((Below.refl w.heap.size w).alloc (Nat.le_refl _) (.cells #[.int .u64 S1, .int .u64 E1, .int .i64 n1, .int .i64 c1] 38)).alloc (by simp) (.cells #[.int .u64 S2, .int .u64 E2, .int .i64 n2, .int .i64 c2] 38)) (hb.mono (by simp; omega)))
       have d0 : wa.cell? ⟨w.heap.size + 1, 0, none⟩ = some (.int .u64 S2) := (hb.cell (by simp)).trans (by go_cell)
       have d1 : wa.cell? ⟨w.heap.size + 1, 1, none⟩ = some (.int .u64 E2) := (hb.cell (by simp)).trans (by go_cell)
       have d2 : wa.cell? ⟨w.heap.size + 1, 2, none⟩ = some (.int .i64 n2) := (hb.cell (by simp)).trans (by go_cell)
       have d3 : wa.cell? ⟨w.heap.size + 1, 3, none⟩ = some (.int .i64 c2) := (hb.cell (by simp)).trans (by go_cell)
       clear hb)
    | (go_at_call 19; (with_reducible refine (C2.out _).mono ?_); rintro e we ⟨rfl, hb⟩; have B2 := Lib.hid (kbT B1.out hb); clear hb d0 d1 d2 d3)
    | (go_at_call 13; refine (NM.out _ _).mono ?_; rintro e wn ⟨rfl, rfl⟩)
    | (go_at_call 15; refine (WKS.out _).mono ?_; rintro e wz ⟨rfl, hbz⟩))
  go_ret
  exact ⟨rfl, kbT B2.out hbz⟩
set_option maxRecDepth 100000 in
set_option maxHeartbeats 1000000 in
theorem torn_neg (S1 E1 S2 E2 : Nat) (n1 c1 : Nat) (n2 c2 : Nat) (M : Int) (w : World) (hS1 : S1 < 2 ^ 64) (hE1 : E1 < 2 ^ 64) (hS2 : S2 < 2 ^ 64) (hE2 : E2 < 2 ^ 64) (h1 : headOk n1 c1 = true) (h2 : headOk n2 c2 = true) (hM : M < 0) :
    Calls Try.prog 8 #[headV S1 E1 n1 c1, headV S2 E2 n2 c2, .int .i64 M] w fun r w' => r = .returned (.bool true) ∧ Below w.heap.size w w' := by
  have NM := Lib.hid num_any
  have WKS := Lib.hid works_any
  have C1 := Lib.hid (encodeHead_ok S1 E1 n1 c1 hS1 hE1 h1)
  have C2 := Lib.hid (encodeHead_ok S2 E2 n2 c2 hS2 hE2 h2)
  have hw0 : IntKind.i64.wrap 0 = 0 := wrap_small (by omega) (by omega)
  unfold headV
  clear h1 h2 hS1 hE1 hS2 hE2
  go_enter Try.func8, Try.ntmps8
  go_wp2_with (first
    | (go_at_call 19; (with_reducible refine (C1.out _).mono ?_); rintro e wa ⟨g1, rfl, -, -, hb⟩; have B1 := Lib.hid (Below.trans (((Below.refl w.heap.size w).alloc (Nat.le_refl _) (.cells #[.int .u64 S1, .int .u64 E1, .int .i64 n1, .int .i64 c1] 38)).alloc (by simp) (.cells #[.int .u64 S2, .int .u64 E2, .int .i64 n2, .int .i64 c2] 38)) (hb.mono (by simp; omega)))
       have d0 : wa.cell? ⟨w.heap.size + 1, 0, none⟩ = some (.int .u64 S2) := (hb.cell (by simp)).trans (by go_cell)
       have d1 : wa.cell? ⟨w.heap.size + 1, 1, none⟩ = some (.int .u64 E2) := (hb.cell (by simp)).trans (by go_cell)
       have d2 : wa.cell? ⟨w.heap.size + 1, 2, none⟩ = some (.int .i64 n2) := (hb.cell (by simp)).trans (by go_cell)
       have d3 : wa.cell? ⟨w.heap.size + 1, 3, none⟩ = some (.int .i64 c2) := (hb.cell (by simp)).trans (by go_cell)
       clear hb)
    | (go_at_call 19; (with_reducible refine (C2.out _).mono ?_); rintro e we ⟨g2, rfl, -, -, hb⟩; have B2 := Lib.hid (kbT B1.out hb); clear hb d0 d1 d2 d3)
    | (go_at_call 13; refine (NM.out _ _).mono ?_; rintro e wn ⟨rfl, rfl⟩)
    | (go_at_call 15; refine (WKS.out _).mono ?_; rintro e wz ⟨rfl, hbz⟩))
  go_ret
  exact ⟨rfl, kbT B2.out hbz⟩
set_option maxRecDepth 100000 in
set_option maxHeartbeats 1000000 in
theorem torn_big (S1 E1 S2 E2 : Nat) (n1 c1 : Nat) (n2 c2 : Nat) (M : Int) (w : World) (hS1 : S1 < 2 ^ 64) (hE1 : E1 < 2 ^ 64) (hS2 : S2 < 2 ^ 64) (hE2 : E2 < 2 ^ 64) (h1 : headOk n1 c1 = true) (h2 : headOk n2 c2 = true) (hM : M > 64) :
    Calls Try.prog 8 #[headV S1 E1 n1 c1, headV S2 E2 n2 c2, .int .i64 M] w fun r w' => r = .returned (.bool true) ∧ Below w.heap.size w w' := by
  have NM := Lib.hid num_any
  have WKS := Lib.hid works_any
  have C1 := Lib.hid (encodeHead_ok S1 E1 n1 c1 hS1 hE1 h1)
  have C2 := Lib.hid (encodeHead_ok S2 E2 n2 c2 hS2 hE2 h2)
  have hw0 : IntKind.i64.wrap 0 = 0 := wrap_small (by omega) (by omega)
  unfold headV
  clear h1 h2 hS1 hE1 hS2 hE2
  go_enter Try.func8, Try.ntmps8
  go_wp2_with (first
    | (go_at_call 19; (with_reducible refine (C1.out _).mono ?_); rintro e wa ⟨g1, rfl, -, -, hb⟩; have B1 := Lib.hid (Below.trans (((Below.refl w.heap.size w).alloc (Nat.le_refl _) (.cells #[.int .u64 S1, .int .u64 E1, .int .i64 n1, .int .i64 c1] 38)).alloc (by simp) (.cells #[.int .u64 S2, .int .u64 E2, .int .i64 n2, .int .i64 c2] 38)) (hb.mono (by simp; omega)))
       have d0 : wa.cell? ⟨w.heap.size + 1, 0, none⟩ = some (.int .u64 S2) := (hb.cell (by simp)).trans (by go_cell)
       have d1 : wa.cell? ⟨w.heap.size + 1, 1, none⟩ = some (.int .u64 E2) := (hb.cell (by simp)).trans (by go_cell)
       have d2 : wa.cell? ⟨w.heap.size + 1, 2, none⟩ = some (.int .i64 n2) := (hb.cell (by simp)).trans (by go_cell)
       have d3 : wa.cell? ⟨w.heap.size + 1, 3, none⟩ = some (.int .i64 c2) := (hb.cell (by simp)).trans (by go_cell)
       clear hb)
    | (go_at_call 19; (with_reducible refine (C2.out _).mono ?_); rintro e we ⟨g2, rfl, -, -, hb⟩; have B2 := Lib.hid (kbT B1.out hb); clear hb d0 d1 d2 d3)
    | (go_at_call 13; refine (NM.out _ _).mono ?_; rintro e wn ⟨rfl, rfl⟩)
    | (go_at_call 15; refine (WKS.out _).mono ?_; rintro e wz ⟨rfl, hbz⟩))
  go_ret
  exact ⟨rfl, kbT B2.out hbz⟩
/-- FrameTorn answers true. -/
theorem torn_any (S1 E1 S2 E2 : Nat) (n1 c1 n2 c2 M : Int) (w : World) (hS1 : S1 < 2 ^ 64) (hE1 : E1 < 2 ^ 64) (hS2 : S2 < 2 ^ 64) (hE2 : E2 < 2 ^ 64) :
    Calls Try.prog 8 #[headV S1 E1 n1 c1, headV S2 E2 n2 c2, .int .i64 M] w fun r w' => r = .returned (.bool true) ∧ Below w.heap.size w w' := by
  have nat {n c : Int} (h : headOk n c = true) : ∃ a b : Nat, n = a ∧ c = b := by
    obtain ⟨x1, x2, x3, x4⟩ := head_bounds h
    exact ⟨n.toNat, c.toNat, by omega, by omega⟩
  cases h1 : headOk n1 c1 with
  | false =>
    cases h2 : headOk n2 c2 with
    | false => exact torn_ff S1 E1 S2 E2 n1 c1 n2 c2 M w hS1 hE1 hS2 hE2 h1 h2
    | true =>
      obtain ⟨a, b, rfl, rfl⟩ := nat h2
      exact torn_ft S1 E1 S2 E2 n1 c1 a b M w hS1 hE1 hS2 hE2 h1 h2
  | true =>
    obtain ⟨a, b, rfl, rfl⟩ := nat h1
    cases h2 : headOk n2 c2 with
    | false => exact torn_tf S1 E1 S2 E2 a b n2 c2 M w hS1 hE1 hS2 hE2 h1 h2
    | true =>
      obtain ⟨d, e, rfl, rfl⟩ := nat h2
      by_cases m1 : M < 0
      · exact torn_neg S1 E1 S2 E2 a b d e M w hS1 hE1 hS2 hE2 h1 h2 m1
      · by_cases m2 : M > 64
        · exact torn_big S1 E1 S2 E2 a b d e M w hS1 hE1 hS2 hE2 h1 h2 m2
        · obtain ⟨m, rfl⟩ : ∃ m : Nat, M = m := ⟨M.toNat, by omega⟩
          exact torn_walk S1 E1 a b S2 E2 d e m w hS1 hE1 hS2 hE2 h1 h2 (by omega)
end Go.Proofs.Ythnllhfdbnnjhaa
