import Derived.Test.YtoknfdgejiachaaKL
namespace Go.Proofs.Ytoknfdgejiachaa
open Go.RowKit Go.Shelf

/-- A method of values tells a value. -/
abbrev Tells (F : Nat) (v : Value) (x : V3) (w : World) : Prop := ∀ w', Below w.heap.size w w' → Calls Try.prog F #[v] w' fun r w2 => r = .returned (.agg #[.int .i64 x.1, .int .i64 x.2.1, .string x.2.2]) ∧ Below w'.heap.size w' w2
theorem field_0 (k m : Int) (s : ByteArray) (w : World) : (Instr.field 45 (.agg #[.int .i64 k, .int .i64 m, .string s]) 0).run Try.prog w = .ok (.int .i64 k) w := by kernel_rfl
theorem field_1 (k m : Int) (s : ByteArray) (w : World) : (Instr.field 45 (.agg #[.int .i64 k, .int .i64 m, .string s]) 1).run Try.prog w = .ok (.int .i64 m) w := by kernel_rfl
theorem field_2 (k m : Int) (s : ByteArray) (w : World) : (Instr.field 45 (.agg #[.int .i64 k, .int .i64 m, .string s]) 2).run Try.prog w = .ok (.string s) w := by kernel_rfl
set_option maxRecDepth 100000 in
set_option maxHeartbeats 1000000 in
theorem length_any (p : Option Addr) (n cap : Nat) (o k m : Int) (s : ByteArray) (hz : s.size ≤ 100000) (w : World) (C : Hid (Tells 58 (.slice p n cap) (k, m, s) w)) :
    Calls Try.prog 48 #[.agg #[.slice p n cap, .int .i64 o]] w fun r w' => r = .returned (val (2, (s.size : Int), ⟨#[]⟩)) ∧ Below w.heap.size w w' := by
  have z2 := field_2 k m s
  go_enter Try.func48, Try.ntmps48
  go_wp2_with (go_at_call 58; refine (C.out _ (((Below.refl _ _).alloc (Nat.le_refl _) _).alloc (by simp) _)).mono ?_; rintro e w1 ⟨rfl, hb⟩; obtain ⟨f0, f1, f2, g0, g1, g2, hs⟩ := nul_kept (A := w.heap.size + 1) hb (by go_cell) (by go_cell) (by go_cell) (by go_cell) (by go_cell) (by go_cell))
  have hB : Below w.heap.size w w1 := (((Below.refl _ _).alloc (Nat.le_refl _) _).alloc (by simp) _).trans (hb.mono (by simp; omega))
  refine bodyPost_ret (v := val (2, (s.size : Int), ⟨#[]⟩)) ?_ rfl ⟨rfl, ((hB.setCell (by simp) _).setCell (by simp) _).setCell (by simp) _⟩
  simp [results, Try.results48, go_sem, f0, f1, f2]
set_option maxRecDepth 100000 in
set_option maxHeartbeats 1000000 in
theorem joined_ok (p : Option Addr) (n cap : Nat) (o k1 m1 k2 m2 : Int) (s1 s2 : ByteArray) (h1 : s1.size ≤ 100000) (h2 : s2.size ≤ 100000) (h : s1.size + s2.size ≤ 1000) (w : World) (C : Hid (Tells 58 (.slice p n cap) (k1, m1, s1) w)) (D : Hid (Tells 59 (.slice p n cap) (k2, m2, s2) w)) :
    Calls Try.prog 44 #[.agg #[.slice p n cap, .int .i64 o]] w fun r w' => r = .returned (val (k1, 0, s1 ++ s2)) ∧ Below w.heap.size w w' := by
  have z0 : ¬ 9223372036854775807 < s1.size + s2.size := by omega
  have z1 := field_2 k1 m1 s1
  have z2 := field_2 k2 m2 s2
  have z3 := field_0 k1 m1 s1
  go_enter Try.func44, Try.ntmps44
  go_wp2_with fail
  go_region_held3 (fun w' => w'.cell? ⟨w.heap.size, 0, none⟩ = some (.slice p n cap) ∧ w'.cell? ⟨w.heap.size, 1, none⟩ = some (.int .i64 o) ∧ Below w.heap.size w w')
    (first
      | assumption
      | (refine ws_below ?_ hb; assumption)
      | exact ws_start _ _ _ _)
    (first
      | (go_at_call 58; refine (C.out _ (‹_ ∧ _ ∧ Below _ _ _›).2.2).mono ?_; rintro e w1 ⟨rfl, hb⟩; obtain ⟨f0, f1, f2, g0, g1, g2, hs⟩ := nul_kept (A := w.heap.size + 1) hb (by go_cell) (by go_cell) (by go_cell) (by go_cell) (by go_cell) (by go_cell))
      | (go_at_call 59; refine (D.out _ (‹_ ∧ _ ∧ Below _ _ _›).2.2).mono ?_; rintro e w2 ⟨rfl, hb⟩; obtain ⟨p0, p1, p2, q0, q1, q2, hs2⟩ := nul_kept (A := w.heap.size + 1) hb f0 f1 f2 g0 g1 g2))
  obtain ⟨c0, c1, hB⟩ := ‹_ ∧ _ ∧ Below _ _ _›
  clear z0
  have h3 : decide ((s1.size : Int) + (s2.size : Int) ≤ 1000) = true := by simp; omega
  go_wp2_with (first
    | (go_at_call 25; with_reducible refine (need_ok _ _).mono ?_; rintro e w' ⟨rfl, rfl⟩)
    | (go_at_call 58; refine (C.out _ hB).mono ?_; rintro e w3 ⟨rfl, hb3⟩; obtain ⟨r0, r1, r2, t0, t1, t2, hs3⟩ := nul_kept (A := w.heap.size + 1) hb3 p0 p1 p2 q0 q1 q2))
  have hB3 : Below w.heap.size w w3 := hB.trans (hb3.mono hB.size)
  refine bodyPost_ret (v := val (k1, 0, s1 ++ s2)) ?_ rfl ⟨rfl, ((hB3.setCell (by simp) _).setCell (by simp) _).setCell (by simp) _⟩
  simp [results, Try.results44, go_sem, r0, r1, r2]
set_option maxRecDepth 100000 in
set_option maxHeartbeats 1000000 in
theorem joined_no (p : Option Addr) (n cap : Nat) (o k1 m1 k2 m2 : Int) (s1 s2 : ByteArray) (h1 : s1.size ≤ 100000) (h2 : s2.size ≤ 100000) (h : ¬ s1.size + s2.size ≤ 1000) (w : World) (C : Hid (Tells 58 (.slice p n cap) (k1, m1, s1) w)) (D : Hid (Tells 59 (.slice p n cap) (k2, m2, s2) w)) :
    Calls Try.prog 44 #[.agg #[.slice p n cap, .int .i64 o]] w fun r w' => r = .panicked (gaveUp 3) ∧ Below w.heap.size w w' := by
  have z0 : ¬ 9223372036854775807 < s1.size + s2.size := by omega
  have z1 := field_2 k1 m1 s1
  have z2 := field_2 k2 m2 s2
  have z3 := field_0 k1 m1 s1
  go_enter Try.func44, Try.ntmps44
  go_wp2_with fail
  go_region_held3 (fun w' => w'.cell? ⟨w.heap.size, 0, none⟩ = some (.slice p n cap) ∧ w'.cell? ⟨w.heap.size, 1, none⟩ = some (.int .i64 o) ∧ Below w.heap.size w w')
    (first
      | assumption
      | (refine ws_below ?_ hb; assumption)
      | exact ws_start _ _ _ _)
    (first
      | (go_at_call 58; refine (C.out _ (‹_ ∧ _ ∧ Below _ _ _›).2.2).mono ?_; rintro e w1 ⟨rfl, hb⟩; obtain ⟨f0, f1, f2, g0, g1, g2, hs⟩ := nul_kept (A := w.heap.size + 1) hb (by go_cell) (by go_cell) (by go_cell) (by go_cell) (by go_cell) (by go_cell))
      | (go_at_call 59; refine (D.out _ (‹_ ∧ _ ∧ Below _ _ _›).2.2).mono ?_; rintro e w2 ⟨rfl, hb⟩; obtain ⟨p0, p1, p2, q0, q1, q2, hs2⟩ := nul_kept (A := w.heap.size + 1) hb f0 f1 f2 g0 g1 g2))
  obtain ⟨c0, c1, hB⟩ := ‹_ ∧ _ ∧ Below _ _ _›
  clear z0
  have h3 : decide ((s1.size : Int) + (s2.size : Int) ≤ 1000) = false := by simp; omega
  go_wp2_with (go_at_call 25; with_reducible refine (need_no _ _).mono ?_; rintro e w' ⟨rfl, rfl⟩)
  exact ⟨rfl, rfl, hB⟩
end Go.Proofs.Ytoknfdgejiachaa
