import Derived.Test.YtoknfdgejiachaaKA
import Derived.WalkMore
namespace Go.Proofs.Ytoknfdgejiachaa
open Go.RowKit Go.Shelf
attribute [local go_sem] Oper.semAt_some

/-- The name of a type: of none the empty one. -/
def tname (m : Nat) : ByteArray := (#[⟨#[]⟩, ⟨#[98, 111, 111, 108]⟩, ⟨#[105, 110, 116]⟩, ⟨#[116, 101, 120, 116]⟩, ⟨#[98, 108, 111, 98]⟩] : Array ByteArray)[m]!

/-- The four types, rising. -/
def tl : List (Fin 4) := [0, 1, 2, 3]
abbrev tenc (x : Fin 4) : Array Value := #[.int .i64 (1 + (x.val : Int)), .string (tname (x.val + 1))]
theorem tl_take (k : Nat) (h : k < 4) : tl.take (k + 1) = tl.take k ++ [⟨k, h⟩] := by
  match k, h with
  | 0, _ => rfl
  | 1, _ => rfl
  | 2, _ => rfl
  | 3, _ => rfl
abbrev NAMES : Value := .agg #[.string ⟨#[98, 111, 111, 108]⟩, .string ⟨#[105, 110, 116]⟩, .string ⟨#[116, 101, 120, 116]⟩, .string ⟨#[98, 108, 111, 98]⟩]
set_option maxRecDepth 100000 in
set_option maxHeartbeats 400000 in
theorem names_run (k : Nat) (h : k < 4) (w : World) : (Instr.index 116 NAMES (.int .i64 k)).run Try.prog w = .ok (.string (tname (k + 1))) w := by
  match k, h with
  | 0, _ => go_simp; first | done | rfl | simp [tname]
  | 1, _ => go_simp; first | done | rfl | simp [tname]
  | 2, _ => go_simp; first | done | rfl | simp [tname]
  | 3, _ => go_simp; first | done | rfl | simp [tname]

set_option maxRecDepth 100000 in
set_option maxHeartbeats 2000000 in
theorem types_stops (F : Fence) (n : Nat) (h98 : F.fn 98) (hro : F.round = none) (hn : 1 ≤ n) (Kp : World → World → Prop) (w : World) :
    SeqStopsK F n Try.prog 98 #[] tenc Kp (fun xs => xs = tl) (fun pre => pre <+: tl) 4 w := fun l J Jx W hW hJ hJx hY h0 => by
  refine callsIn_of_wp Try.func98 rfl h98 ?_ hro
  simp only [Try.ntmps98, List.size_toArray, List.length_cons, List.length_nil, Nat.reduceAdd, Nat.reduceSub, Array.replicate_succ, Array.replicate_zero, List.push_toArray, List.append_toArray, List.nil_append, List.cons_append]
  gi_wp2
  gi_loopw [7] (fun i wr => ∃ k : Nat, k ≤ 4 ∧ i = .int .i64 k ∧ J (tl.take k) wr) (fun i _ => 4 - (intOf i).toNat)
  case atStart => exact ⟨0, Nat.zero_le _, rfl, hJ _ _ _ none h0 (World.grownBy_alloc W _ none) (fun r e => by cases e)⟩
  case round =>
    obtain ⟨k, hk, rfl, hJs⟩ := hrel
    by_cases hlt : k < 4
    · obtain ⟨fn, tmps, assign, body, hy, hR⟩ := hY (tl.take k) ⟨k, hlt⟩ wr hJs (by simp [tl]; omega)
      have hi := names_run k hlt
      have hk0 : (k : Int) < 4 := by omega
      gi_wp2
      refine hR.mono ?_
      rintro e W3 (⟨rfl, hJ3, _⟩ | ⟨rfl, hJx3⟩)
      · gi_wp2
        go_roundw
        case rel => exact ⟨k + 1, by omega, by simp, by rw [tl_take k hlt]; exact hJ3⟩
        case measure => simp [intOf]; omega
      · gi_wp2
        refine bodyPost_ret (results_none rfl _ _ _) rfl ?_
        exact ⟨⟨_, rfl⟩, .inr ⟨_, by rw [← tl_take k hlt]; exact List.take_prefix _ _, hJx3⟩⟩
    · obtain rfl : k = 4 := by omega
      gi_wp2
      go_end0
      exact ⟨⟨_, rfl⟩, .inl ⟨_, rfl, hJs⟩⟩
set_option maxHeartbeats 400000 in
theorem typesF_any (w : World) :
    Calls Try.prog 89 #[] w fun r w' => r = .returned (.func (.func 98) #[] #[]) ∧ w = w' := by
  go_enter Try.func89, Try.ntmps89
  go_wp2
  go_ret
  exact ⟨rfl, rfl⟩

theorem boxT_facts {w w1 : World} {k n t : Int} {s : ByteArray} (b1 : Below ((w.alloc (vObj k n s)).alloc (.cells #[.int .i64 t] 25)).heap.size ((w.alloc (vObj k n s)).alloc (.cells #[.int .i64 t] 25)) w1) :
    w1.cell? ⟨w.heap.size, 0, none⟩ = some (.int .i64 k) ∧ w1.cell? ⟨w.heap.size + 1, 0, none⟩ = some (.int .i64 t) ∧ Below w.heap.size w w1 ∧ w.heap.size + 2 ≤ w1.heap.size :=
  ⟨(b1.cell (by simp; omega)).trans (by go_cell), (b1.cell (by simp)).trans (by go_cell), (((Below.refl _ _).alloc (Nat.le_refl _) _).alloc (by simp) _).trans (b1.mono (by simp; omega)), by have := b1.size; simp at this; omega⟩

set_option maxRecDepth 100000 in
set_option maxHeartbeats 2000000 in
theorem is_yes (k n t : Int) (s : ByteArray) (w : World) (hc : Hid (checkV k n s = 0)) :
    Calls Try.prog 56 #[.agg #[.int .i64 k, .int .i64 n, .string s], .int .i64 t] w fun r w' => r = .returned (.bool (decide (1 ≤ t) && (decide (t ≤ 4) && (decide (k = t) || decide (k = 0))))) ∧ Below w.heap.size w w' := by
  refine (callsIn_wide (n := 3)).1 ?_
  refine callsIn_of_wp_marks Try.func56 rfl trivial ?_ rfl
  simp only [Try.ntmps56, List.size_toArray, List.length_cons, List.length_nil, Nat.reduceAdd, Nat.reduceSub, Array.replicate_succ, Array.replicate_zero, List.push_toArray, List.append_toArray, List.nil_append, List.cons_append]
  gi_wp2
  apply wpIn_scope_wide
  gi_wp2_with (first | (refine ⟨trivial, ?_⟩; gi_at_call 50; refine (callsIn_wide.2 (check_any _ _ _ _)).mono ?_; rintro e w1 ⟨rfl, b1⟩; rw [hc.out]; obtain ⟨kk0, kt0, hB, hS⟩ := boxT_facts b1) | (refine ⟨trivial, ?_⟩; gi_at_call 89; refine (callsIn_wide.2 (typesF_any _)).mono ?_; rintro e w' ⟨rfl, rfl⟩))
  apply wpIn_label
  gi_wp2_with (first | (refine ⟨trivial, ?_⟩; gi_at_call 50; refine (callsIn_wide.2 (check_any _ _ _ _)).mono ?_; rintro e w1 ⟨rfl, b1⟩; rw [hc.out]; obtain ⟨kk0, kt0, hB, hS⟩ := boxT_facts b1) | (refine ⟨trivial, ?_⟩; gi_at_call 89; refine (callsIn_wide.2 (typesF_any _)).mono ?_; rintro e w' ⟨rfl, rfl⟩))
  have hlt : w.heap.size < w1.heap.size := by omega
  have hlt1 : w.heap.size + 1 < w1.heap.size := by omega
  have z0 : (w1.alloc (.cells #[.bool false] 4)).cell? ⟨w.heap.size, 0, none⟩ = some (.int .i64 k) := by go_cell
  have z1 : (w1.alloc (.cells #[.bool false] 4)).cell? ⟨w.heap.size + 1, 0, none⟩ = some (.int .i64 t) := by go_cell
  have z2 : (w1.alloc (.cells #[.bool false] 4)).cell? ⟨w1.heap.size, 0, none⟩ = some (.bool false) := by go_cell
  have z3 : (w1.alloc (.cells #[.bool false] 4)).frozen? ⟨w1.heap.size, 0, none⟩ = false := by go_simp
  have hB0 : Below w.heap.size w (w1.alloc (.cells #[.bool false] 4)) := hB.alloc hB.size _
  have hle := Nat.le_of_lt hlt
  refine wpIn_rangeFunc_ownF (n := 3) rfl (by decide) (gf := 98) (lb := #[]) rfl trivial (enters_of Try.func98 (by kernel_rfl) rfl)
    (types_stops Fence.wide (3 - 1) trivial rfl (by decide) (Below w.heap.size) _) belowK_t (belowK_b (by simp; omega)) (Below.refl _ _) (fun _ => rfl)
    (fun pre W => (((W.cell? ⟨w.heap.size, 0, none⟩ = some (.int .i64 k) ∧ W.cell? ⟨w.heap.size + 1, 0, none⟩ = some (.int .i64 t) ∧ W.cell? ⟨w1.heap.size, 0, none⟩ = some (.bool false) ∧ W.frozen? ⟨w1.heap.size, 0, none⟩ = false) ∧ (∀ y ∈ pre, ¬ (1 + (y.val : Int)) = t)) ∧ Below w.heap.size w W))
    (fun c pre W => ((c = .exit 0 ∧ 1 ≤ t ∧ t ≤ 4 ∧ W.cell? ⟨w1.heap.size, 0, none⟩ = some (.bool (decide (k = t) || decide (k = 0)))) ∧ Below w.heap.size w W))
    (OwnFrom.and (Own.from (fun s A B row hs hg hr => ⟨⟨cell_kept hs.1.1 hg hr, cell_kept hs.1.2.1 hg hr, cell_kept hs.1.2.2.1 hg hr, (frozen_kept hs.1.2.2.1 hg hr).trans hs.1.2.2.2⟩, hs.2⟩) _) (ownFrom_below (Nat.le_refl _) (by simp; omega)))
    (fun c => OwnFrom.and (Own.from (fun s A B row hs hg hr => ⟨hs.1, hs.2.1, hs.2.2.1, cell_kept hs.2.2.2 hg hr⟩) _) (ownFrom_below (Nat.le_refl _) (by simp; omega)))
    ⟨⟨⟨z0, z1, z2, z3⟩, fun y hy => by cases hy⟩, hB0⟩
    (fun x => { tmps := #[.agg #[.int .i64 k, .int .i64 n, .string s], .int .i64 t, .pointer (some ⟨w.heap.size, 0, none⟩), .pointer (some ⟨w.heap.size + 1, 0, none⟩), .bool false, .pointer (some ⟨w1.heap.size, 0, none⟩), .int .i64 (1 + (x.val : Int)), .agg #[.int .i64 k, .int .i64 n, .string s], .int .i64 0, .bool false, .func (.func 98) #[] #[], .int .i64 (1 + (x.val : Int)), .string (tname (x.val + 1)), undef, undef, undef, undef, undef, undef, undef, undef, undef, undef, undef, undef, undef, undef], defers := [] }) ?assign ?body ?done ?stop
  case assign =>
    intro l x W K hK
    gi_wp2
    exact hK
  case body =>
    rintro l pre x W ⟨⟨⟨y0, y1, y2, y3⟩, hne⟩, hB1⟩ _
    have hxl := x.isLt
    by_cases hx : 1 + (x.val : Int) = t
    · have hx' : (1 + (x.val : Int) == t) = true := by simpa using hx
      by_cases hk : k = 0
      · have hk' : (k == 0) = true := by simpa using hk
        gi_wp2
        exact ⟨KeepsOthers.setCell _ _ _, ⟨rfl, by omega, by omega, by go_cell⟩, hB1.setCell (p := ⟨w1.heap.size, 0, none⟩) hle _⟩
      · have hk' : (k == 0) = false := by simpa using hk
        gi_wp2
        have e : (decide (k = t) || decide (k = 0)) = (k == t) := by simp [hk]; rfl
        exact ⟨KeepsOthers.setCell _ _ _, ⟨rfl, by omega, by omega, by rw [e]; go_cell⟩, hB1.setCell (p := ⟨w1.heap.size, 0, none⟩) hle _⟩
    · have hx' : (1 + (x.val : Int) == t) = false := by simpa using hx
      gi_wp2
      exact ⟨KeepsOthers.refl _, Below.refl _ _, ⟨⟨y0, y1, y2, y3⟩, fun y hy => by
        rcases List.mem_append.1 hy with hy | hy
        · exact hne y hy
        · simp only [List.mem_singleton] at hy
          subst hy
          exact hx⟩, hB1⟩
  case done =>
    rintro D ys W hD rfl ⟨⟨⟨y0, y1, y2, y3⟩, hne⟩, hB1⟩ hK
    gi_wp2
    refine ⟨by simp, .inl ⟨_, _, rfl, run_takeDeferred hK, ?_⟩⟩
    refine ⟨_, results_tmp rfl _ _ _, ?_, hB1.trans (belowK_b (w := w) (Nat.le_refl _) W D _ _ (by simp at hD; omega) hK rfl rfl)⟩
    have g0 := hne 0 (by decide)
    have g1 := hne 1 (by decide)
    have g2 := hne 2 (by decide)
    have g3 := hne 3 (by decide)
    have : (decide (1 ≤ t) && (decide (t ≤ 4) && (decide (k = t) || decide (k = 0)))) = false := by
      have : ¬ (1 ≤ t ∧ t ≤ 4) := by
        simp at g0 g1 g2 g3
        omega
      simp only [Bool.and_eq_false_iff, decide_eq_false_iff_not]
      omega
    rw [this]
    rfl
  case stop =>
    rintro D c pre W hD _ ⟨⟨rfl, ht1, ht4, y2⟩, hB1⟩ hK
    gi_wp2
    refine ⟨by simp, .inl ⟨_, _, rfl, run_takeDeferred hK, ?_⟩⟩
    refine ⟨_, results_tmp rfl _ _ _, ?_, hB1.trans (belowK_b (w := w) (Nat.le_refl _) W D _ _ (by simp at hD; omega) hK rfl rfl)⟩
    simp [ht1, ht4]

/-- Which numbers are types. -/
def tyB (t : Int) : Bool := decide (1 ≤ t ∧ t ≤ 4)
theorem isI_eq (t : Int) : (decide (1 ≤ t) && (decide (t ≤ 4) && (decide ((0 : Int) = t) || decide ((0 : Int) = 0)))) = tyB t := by
  unfold tyB
  by_cases h1 : 1 ≤ t <;> by_cases h2 : t ≤ 4 <;> simp [h1, h2]
theorem isI (t : Int) (w : World) :
    Calls Try.prog 56 #[.agg #[.int .i64 0, .int .i64 0, .string ⟨#[]⟩], .int .i64 t] w fun r w' => r = .returned (.bool (tyB t)) ∧ Below w.heap.size w w' := by
  have h := is_yes 0 0 t ⟨#[]⟩ w (Lib.hid (by decide +kernel))
  rw [isI_eq] at h
  exact h
set_option maxHeartbeats 400000 in
theorem isType_any (t : Int) (w : World) :
    Calls Try.prog 39 #[.int .i64 t] w fun r w' => r = .returned (.bool (tyB t)) ∧ Below w.heap.size w w' := by
  go_enter Try.func39, Try.ntmps39
  go_wp2_with (first | (go_at_call 57; refine (of_any 2 _).mono ?_; rintro e w1 ⟨rfl, b1⟩; unfold ofI) | (go_at_call 56; refine (isI t _).mono ?_; rintro e w2 ⟨rfl, b2⟩))
  go_ret
  exact ⟨rfl, b1.trans (b2.mono b1.size)⟩
end Go.Proofs.Ytoknfdgejiachaa
