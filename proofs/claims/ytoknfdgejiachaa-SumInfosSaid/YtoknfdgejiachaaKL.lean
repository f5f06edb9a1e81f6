import Derived.Test.YtoknfdgejiachaaKK
namespace Go.Proofs.Ytoknfdgejiachaa
open Go.RowKit Go.Shelf

/-- What the box of a sum under way holds, in a world that has grown. -/
theorem ws_below {w w1 w2 : World} {s : Value} {o : Int} (h : w1.cell? ⟨w.heap.size, 0, none⟩ = some s ∧ w1.cell? ⟨w.heap.size, 1, none⟩ = some (.int .i64 o) ∧ Below w.heap.size w w1) (hb : Below w1.heap.size w1 w2) :
    w2.cell? ⟨w.heap.size, 0, none⟩ = some s ∧ w2.cell? ⟨w.heap.size, 1, none⟩ = some (.int .i64 o) ∧ Below w.heap.size w w2 :=
  ⟨(hb.cell (lt_of_cell_some h.1)).trans h.1, (hb.cell (lt_of_cell_some h.2.1)).trans h.2.1, h.2.2.trans (hb.mono h.2.2.size)⟩
theorem ws_set {w w1 : World} {s : Value} {o : Int} {b j : Nat} {v : Value} (h : w1.cell? ⟨w.heap.size, 0, none⟩ = some s ∧ w1.cell? ⟨w.heap.size, 1, none⟩ = some (.int .i64 o) ∧ Below w.heap.size w w1) (hb : w.heap.size < b) :
    (w1.setCell ⟨b, j, none⟩ v).cell? ⟨w.heap.size, 0, none⟩ = some s ∧ (w1.setCell ⟨b, j, none⟩ v).cell? ⟨w.heap.size, 1, none⟩ = some (.int .i64 o) ∧ Below w.heap.size w (w1.setCell ⟨b, j, none⟩ v) := by
  obtain ⟨h0, h1, h2⟩ := h
  exact ⟨by go_cell, by go_cell, h2.setCell (Nat.le_of_lt hb) _⟩
theorem ws_start (w : World) (s : Value) (o : Int) (x : Obj) : ((w.alloc (.cells #[s, .int .i64 o] 67)).alloc x).drew.cell? ⟨w.heap.size, 0, none⟩ = some s ∧ ((w.alloc (.cells #[s, .int .i64 o] 67)).alloc x).drew.cell? ⟨w.heap.size, 1, none⟩ = some (.int .i64 o) ∧ Below w.heap.size w ((w.alloc (.cells #[s, .int .i64 o] 67)).alloc x).drew :=
  ⟨by go_cell, by go_cell, (((Below.refl _ _).alloc (Nat.le_refl _) _).alloc (by simp) _).drew⟩
set_option maxRecDepth 100000 in
set_option maxHeartbeats 1000000 in
theorem lack_any (p : Option Addr) (n cap : Nat) (o : Int) (nl : Bool) (w : World)
    (N : Hid (∀ w', Below w.heap.size w w' → Calls Try.prog 51 #[.slice p n cap] w' fun r w2 => r = .returned (.bool nl) ∧ Below w'.heap.size w' w2)) :
    Calls Try.prog 47 #[.agg #[.slice p n cap, .int .i64 o]] w fun r w' => r = .returned (val (boolV (nl == (o == 17)))) ∧ Below w.heap.size w w' := by
  go_enter Try.func47, Try.ntmps47
  go_wp2_with fail
  go_region_held3 (fun w' => w'.cell? ⟨w.heap.size, 0, none⟩ = some (.slice p n cap) ∧ w'.cell? ⟨w.heap.size, 1, none⟩ = some (.int .i64 o) ∧ Below w.heap.size w w')
    (first
      | (refine ws_below ?_ hb; assumption)
      | (refine ws_set (ws_set (ws_set ?_ ?_) ?_) ?_; (assumption); (omega); (omega); (omega))
      | exact ws_start _ _ _ _)
    (first
      | (go_at_call 51; refine (N.out _ (‹_ ∧ _ ∧ Below _ _ _›).2.2).mono ?_; rintro e w1 ⟨rfl, hb⟩; obtain ⟨f0, f1, f2, g0, g1, g2, hs⟩ := nul_kept (A := w.heap.size + 1) hb (by go_cell) (by go_cell) (by go_cell) (by go_cell) (by go_cell) (by go_cell))
      | (go_at_call 80; refine (truth_any _ _).mono ?_; rintro e w2 ⟨rfl, hb⟩; obtain ⟨p0, p1, p2, q0, q1, q2, hs2⟩ := nul_kept (A := w.heap.size + 1) hb f0 f1 f2 g0 g1 g2))
  obtain ⟨-, -, hfin⟩ := ‹_ ∧ _ ∧ Below _ _ _›
  go_wp2
  refine bodyPost_ret (v := val (boolV (nl == (o == 17)))) ?_ rfl ⟨rfl, hfin⟩
  simp [results, Try.results47, go_sem, p0, p1, p2]
end Go.Proofs.Ytoknfdgejiachaa
