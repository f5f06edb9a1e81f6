import Derived.WalkMore
import Derived.Test.YtcngoffmkbobhaaGreatDoorO2
namespace Go.Proofs.YtcngoffmkbobhaaGreatDoor
open Go.RowKit Go.Shelf
attribute [local go_sem] Oper.semAt_some

theorem wpIn_scope_wide {n : Nat} {P : Program} {c : Code} {Q : Exit → Act → World → Prop} {a : Act} {w : World} (h : c.wpIn Fence.wide n P (Exit.noGoto Q) a w) : (Code.scope c).wpIn Fence.wide n P Q a w := wpIn_wide.2 (wp_scope_straight (wpIn_wide.1 h))

set_option maxHeartbeats 400000 in
theorem typesF_any (w : World) :
    Calls Tryz.prog 31 #[] w fun r w' => r = .returned (.func (.func 58) #[] #[]) ∧ w = w' := by
  go_enter Tryz.func31, Tryz.ntmps31
  go_wp2
  go_ret
  exact ⟨rfl, rfl⟩

theorem boxT_facts {w w1 : World} {k n t : Int} {s : ByteArray} (b1 : Below ((w.alloc (vObj k n s)).alloc (.cells #[.int .i64 t] 32)).heap.size ((w.alloc (vObj k n s)).alloc (.cells #[.int .i64 t] 32)) w1) :
    w1.cell? ⟨w.heap.size, 0, none⟩ = some (.int .i64 k) ∧ w1.cell? ⟨w.heap.size + 1, 0, none⟩ = some (.int .i64 t) ∧ Below w.heap.size w w1 ∧ w.heap.size + 2 ≤ w1.heap.size :=
  ⟨(b1.cell (by simp; omega)).trans (by go_cell), (b1.cell (by simp)).trans (by go_cell), (((Below.refl _ _).alloc (Nat.le_refl _) _).alloc (by simp) _).trans (b1.mono (by simp; omega)), by have := b1.size; simp at this; omega⟩

set_option maxRecDepth 100000 in
set_option maxHeartbeats 2000000 in
theorem is_yes (k n t : Int) (s : ByteArray) (w : World) (hc : Hid (checkV k n s = 0)) :
    Calls Tryz.prog 15 #[.agg #[.int .i64 k, .int .i64 n, .string s], .int .i64 t] w fun r w' => r = .returned (.bool (decide (1 ≤ t) && (decide (t ≤ 4) && (decide (k = t) || decide (k = 0))))) ∧ Below w.heap.size w w' := by
  refine (callsIn_wide (n := 3)).1 ?_
  refine callsIn_of_wp_marks Tryz.func15 rfl trivial ?_ rfl
  simp only [Tryz.ntmps15, List.size_toArray, List.length_cons, List.length_nil, Nat.reduceAdd, Nat.reduceSub, Array.replicate_succ, Array.replicate_zero, List.push_toArray, List.append_toArray, List.nil_append, List.cons_append]
  gi_wp2
  apply wpIn_scope_wide
  gi_wp2_with (first | (refine ⟨trivial, ?_⟩; gi_at_call 11; refine (callsIn_wide.2 (check_any _ _ _ _)).mono ?_; rintro e w1 ⟨rfl, b1⟩; rw [hc.out]; obtain ⟨kk0, kt0, hB, hS⟩ := boxT_facts b1) | (refine ⟨trivial, ?_⟩; gi_at_call 31; refine (callsIn_wide.2 (typesF_any _)).mono ?_; rintro e w' ⟨rfl, rfl⟩))
  apply wpIn_label
  gi_wp2_with (first | (refine ⟨trivial, ?_⟩; gi_at_call 11; refine (callsIn_wide.2 (check_any _ _ _ _)).mono ?_; rintro e w1 ⟨rfl, b1⟩; rw [hc.out]; obtain ⟨kk0, kt0, hB, hS⟩ := boxT_facts b1) | (refine ⟨trivial, ?_⟩; gi_at_call 31; refine (callsIn_wide.2 (typesF_any _)).mono ?_; rintro e w' ⟨rfl, rfl⟩))
  have hlt : w.heap.size < w1.heap.size := by omega
  have hlt1 : w.heap.size + 1 < w1.heap.size := by omega
  have z0 : (w1.alloc (.cells #[.bool false] 4)).cell? ⟨w.heap.size, 0, none⟩ = some (.int .i64 k) := by go_cell
  have z1 : (w1.alloc (.cells #[.bool false] 4)).cell? ⟨w.heap.size + 1, 0, none⟩ = some (.int .i64 t) := by go_cell
  have z2 : (w1.alloc (.cells #[.bool false] 4)).cell? ⟨w1.heap.size, 0, none⟩ = some (.bool false) := by go_cell
  have z3 : (w1.alloc (.cells #[.bool false] 4)).frozen? ⟨w1.heap.size, 0, none⟩ = false := by go_simp
  have hB0 : Below w.heap.size w (w1.alloc (.cells #[.bool false] 4)) := hB.alloc hB.size _
  have hle := Nat.le_of_lt hlt
  refine wpIn_rangeFunc_ownF (n := 3) rfl (by decide) (gf := 58) (lb := #[]) rfl trivial (enters_of Tryz.func58 (by kernel_rfl) rfl)
    (types_stops Fence.wide (3 - 1) trivial rfl (by decide) (Below w.heap.size) _) belowK_t (belowK_b (by simp; omega)) (Below.refl _ _) (fun _ => rfl)
    (fun pre W => (((W.cell? ⟨w.heap.size, 0, none⟩ = some (.int .i64 k) ∧ W.cell? ⟨w.heap.size + 1, 0, none⟩ = some (.int .i64 t) ∧ W.cell? ⟨w1.heap.size, 0, none⟩ = some (.bool false) ∧ W.frozen? ⟨w1.heap.size, 0, none⟩ = false) ∧ (∀ y ∈ pre, ¬ (1 + (y.val : Int)) = t)) ∧ Below w.heap.size w W))
    (fun c pre W => ((c = .exit 0 ∧ 1 ≤ t ∧ t ≤ 4 ∧ W.cell? ⟨w1.heap.size, 0, none⟩ = some (.bool (decide (k = t) || decide (k = 0)))) ∧ Below w.heap.size w W))
    (OwnFrom.and (Own.from (fun s A B row hs hg hr => ⟨⟨cell_kept hs.1.1 hg hr, cell_kept hs.1.2.1 hg hr, cell_kept hs.1.2.2.1 hg hr, (frozen_kept hs.1.2.2.1 hg hr).trans hs.1.2.2.2⟩, hs.2⟩) _) (ownFrom_below (Nat.le_refl _) (by simp; omega)))
    (fun c => OwnFrom.and (Own.from (fun s A B row hs hg hr => ⟨hs.1, hs.2.1, hs.2.2.1, cell_kept hs.2.2.2 hg hr⟩) _) (ownFrom_below (Nat.le_refl _) (by simp; omega)))
    ⟨⟨⟨z0, z1, z2, z3⟩, fun y hy => by cases hy⟩, hB0⟩
    (fun x => { tmps := #[.agg #[.int .i64 k, .int .i64 n, .string s], .int .i64 t, .pointer (some ⟨w.heap.size, 0, none⟩), .pointer (some ⟨w.heap.size + 1, 0, none⟩), .bool false, .pointer (some ⟨w1.heap.size, 0, none⟩), .int .i64 (1 + (x.val : Int)), .agg #[.int .i64 k, .int .i64 n, .string s], .int .i64 0, .bool false, .func (.func 58) #[] #[], .int .i64 (1 + (x.val : Int)), .string (tname (x.val + 1)), undef, undef, undef, undef, undef, undef, undef, undef, undef, undef, undef, undef, undef, undef], defers := [] }) ?assign ?body ?done ?stop
  case assign =>
    intro l x W K hK
    gi_wp2
    exact hK
  case body =>
    rintro l pre x W ⟨⟨⟨y0, y1, y2, y3⟩, hne⟩, hB1⟩ _
    have hxl := x.isLt
    by_cases hx : 1 + (x.val : Int) = t
    · have hx' : (1 + (x.val : Int) == t) = true := by simpa using hx
      by_cases hk : k = 0
      · have hk' : (k == 0) = true := by simpa using hk
        gi_wp2
        exact ⟨KeepsOthers.setCell _ _ _, ⟨rfl, by omega, by omega, by go_cell⟩, hB1.setCell (p := ⟨w1.heap.size, 0, none⟩) hle _⟩
      · have hk' : (k == 0) = false := by simpa using hk
        gi_wp2
        have e : (decide (k = t) || decide (k = 0)) = (k == t) := by simp [hk]; rfl
        exact ⟨KeepsOthers.setCell _ _ _, ⟨rfl, by omega, by omega, by rw [e]; go_cell⟩, hB1.setCell (p := ⟨w1.heap.size, 0, none⟩) hle _⟩
    · have hx' : (1 + (x.val : Int) == t) = false := by simpa using hx
      gi_wp2
      exact ⟨KeepsOthers.refl _, Below.refl _ _, ⟨⟨y0, y1, y2, y3⟩, fun y hy => by
        rcases List.mem_append.1 hy with hy | hy
        · exact hne y hy
        · simp only [List.mem_singleton] at hy
          subst hy
          exact hx⟩, hB1⟩
  case done =>
    rintro D ys W hD rfl ⟨⟨⟨y0, y1, y2, y3⟩, hne⟩, hB1⟩ hK
    gi_wp2
    refine ⟨by simp, .inl ⟨_, _, rfl, run_takeDeferred hK, ?_⟩⟩
    refine ⟨_, results_tmp rfl _ _ _, ?_, hB1.trans (belowK_b (w := w) (Nat.le_refl _) W D _ _ (by simp at hD; omega) hK rfl rfl)⟩
    have g0 := hne 0 (by decide)
    have g1 := hne 1 (by decide)
    have g2 := hne 2 (by decide)
    have g3 := hne 3 (by decide)
    have : (decide (1 ≤ t) && (decide (t ≤ 4) && (decide (k = t) || decide (k = 0)))) = false := by
      have : ¬ (1 ≤ t ∧ t ≤ 4) := by
        simp at g0 g1 g2 g3
        omega
      simp only [Bool.and_eq_false_iff, decide_eq_false_iff_not]
      omega
    rw [this]
    rfl
  case stop =>
    rintro D c pre W hD _ ⟨⟨rfl, ht1, ht4, y2⟩, hB1⟩ hK
    gi_wp2
    refine ⟨by simp, .inl ⟨_, _, rfl, run_takeDeferred hK, ?_⟩⟩
    refine ⟨_, results_tmp rfl _ _ _, ?_, hB1.trans (belowK_b (w := w) (Nat.le_refl _) W D _ _ (by simp at hD; omega) hK rfl rfl)⟩
    simp [ht1, ht4]
end Go.Proofs.YtcngoffmkbobhaaGreatDoor
