import Derived.Test.YtoknfdgejiachaaKO
namespace Go.Proofs.Ytoknfdgejiachaa
open Go.RowKit Go.Shelf

theorem ws_start2 (w : World) (s : Value) (o : Int) (x y : Obj) : (((w.alloc (.cells #[s, .int .i64 o] 67)).alloc x).alloc y).drew.cell? ⟨w.heap.size, 0, none⟩ = some s ∧ (((w.alloc (.cells #[s, .int .i64 o] 67)).alloc x).alloc y).drew.cell? ⟨w.heap.size, 1, none⟩ = some (.int .i64 o) ∧ Below w.heap.size w (((w.alloc (.cells #[s, .int .i64 o] 67)).alloc x).alloc y).drew :=
  ⟨by go_cell, by go_cell, ((((Below.refl _ _).alloc (Nat.le_refl _) _).alloc (by simp) _).alloc (by simp; omega) _).drew⟩
theorem ws_start3 (w : World) (s : Value) (o : Int) (x y z : Obj) : ((((w.alloc (.cells #[s, .int .i64 o] 67)).alloc x).alloc y).alloc z).drew.cell? ⟨w.heap.size, 0, none⟩ = some s ∧ ((((w.alloc (.cells #[s, .int .i64 o] 67)).alloc x).alloc y).alloc z).drew.cell? ⟨w.heap.size, 1, none⟩ = some (.int .i64 o) ∧ Below w.heap.size w ((((w.alloc (.cells #[s, .int .i64 o] 67)).alloc x).alloc y).alloc z).drew :=
  ⟨by go_cell, by go_cell, (((((Below.refl _ _).alloc (Nat.le_refl _) _).alloc (by simp) _).alloc (by simp; omega) _).alloc (by simp; omega) _).drew⟩
/-- A new cell, kept by a call. -/
theorem kept1 {G : Prop} {Y wb : World} {A : Nat} {v : Value} (b : Below Y.heap.size Y wb) (c : Y.cell? ⟨A, 0, none⟩ = some v) (f : Y.frozen? ⟨A, 0, none⟩ = false) (k : wb.cell? ⟨A, 0, none⟩ = some v ∧ wb.frozen? ⟨A, 0, none⟩ = false ∧ A < wb.heap.size → G) : G :=
  have l : A < Y.heap.size := lt_of_cell_some c
  k ⟨(b.cell l).trans c, (b.frozen l).trans f, Nat.lt_of_lt_of_le l b.size⟩
set_option maxHeartbeats 400000 in
theorem ordC_7 (A : Nat) (c : Int) (w : World) (ca : w.cell? ⟨A, 0, none⟩ = some (.int .i64 c)) :
    Calls Try.prog 74 #[.pointer (some ⟨A, 0, none⟩)] w fun r w' => r = .returned (.bool (truthE 7 c)) ∧ w = w' := by
  rw [show truthE 7 c = (c == 0) from rfl]
  go_enter Try.func74, Try.ntmps74
  go_wp2
  go_ret
  exact ⟨rfl, rfl⟩
set_option maxHeartbeats 400000 in
theorem ordC_8 (A : Nat) (c : Int) (w : World) (ca : w.cell? ⟨A, 0, none⟩ = some (.int .i64 c)) :
    Calls Try.prog 75 #[.pointer (some ⟨A, 0, none⟩)] w fun r w' => r = .returned (.bool (truthE 8 c)) ∧ w = w' := by
  rw [show truthE 8 c = (c != 0) from rfl]
  go_enter Try.func75, Try.ntmps75
  go_wp2
  go_ret
  exact ⟨rfl, rfl⟩
set_option maxHeartbeats 400000 in
theorem ordC_9 (A : Nat) (c : Int) (w : World) (ca : w.cell? ⟨A, 0, none⟩ = some (.int .i64 c)) :
    Calls Try.prog 76 #[.pointer (some ⟨A, 0, none⟩)] w fun r w' => r = .returned (.bool (truthE 9 c)) ∧ w = w' := by
  rw [show truthE 9 c = (decide (c < 0)) from rfl]
  go_enter Try.func76, Try.ntmps76
  go_wp2
  go_ret
  exact ⟨rfl, rfl⟩
set_option maxHeartbeats 400000 in
theorem ordC_10 (A : Nat) (c : Int) (w : World) (ca : w.cell? ⟨A, 0, none⟩ = some (.int .i64 c)) :
    Calls Try.prog 77 #[.pointer (some ⟨A, 0, none⟩)] w fun r w' => r = .returned (.bool (truthE 10 c)) ∧ w = w' := by
  rw [show truthE 10 c = (decide (c ≤ 0)) from rfl]
  go_enter Try.func77, Try.ntmps77
  go_wp2
  go_ret
  exact ⟨rfl, rfl⟩
set_option maxHeartbeats 400000 in
theorem ordC_11 (A : Nat) (c : Int) (w : World) (ca : w.cell? ⟨A, 0, none⟩ = some (.int .i64 c)) :
    Calls Try.prog 78 #[.pointer (some ⟨A, 0, none⟩)] w fun r w' => r = .returned (.bool (truthE 11 c)) ∧ w = w' := by
  rw [show truthE 11 c = (decide (0 < c)) from rfl]
  go_enter Try.func78, Try.ntmps78
  go_wp2
  go_ret
  exact ⟨rfl, rfl⟩
set_option maxHeartbeats 400000 in
theorem ordC_12 (A : Nat) (c : Int) (w : World) (ca : w.cell? ⟨A, 0, none⟩ = some (.int .i64 c)) :
    Calls Try.prog 79 #[.pointer (some ⟨A, 0, none⟩)] w fun r w' => r = .returned (.bool (truthE 12 c)) ∧ w = w' := by
  rw [show truthE 12 c = (decide (0 ≤ c)) from rfl]
  go_enter Try.func79, Try.ntmps79
  go_wp2
  go_ret
  exact ⟨rfl, rfl⟩
set_option maxRecDepth 100000 in
set_option maxHeartbeats 2000000 in
theorem order_gen (p : Option Addr) (n cap F : Nat) (o c : Int) (b : Bool) (x y : V3) (w : World) (C : Hid (Tells 58 (.slice p n cap) x w)) (D : Hid (Tells 59 (.slice p n cap) y w)) (HO : Hid (ordV x.1 x.2.1 y.1 y.2.1 x.2.2 y.2.2 = c))
    (hen : ∀ (args : Array Value) (w : World), (callFunc F args).run Try.prog w = .ok (.enter F args) w)
    (LK : Hid (∀ (A : Nat) (w : World), (Instr.lookup 97 (.map (some w.heap.size)) (.int .i64 o) false).run Try.prog (w.alloc (.map (ordE6 A) 6)) = .ok (.func (.func F) #[] #[.pointer (some ⟨A, 0, none⟩)]) (w.alloc (.map (ordE6 A) 6))))
    (CL : Hid (∀ (A : Nat) (w : World), w.cell? ⟨A, 0, none⟩ = some (.int .i64 c) → Calls Try.prog F #[.pointer (some ⟨A, 0, none⟩)] w fun r w' => r = .returned (.bool b) ∧ w = w')) :
    Calls Try.prog 45 #[.agg #[.slice p n cap, .int .i64 o]] w fun r w' => r = .returned (val (boolV b)) ∧ Below w.heap.size w w' := by
  have hmf : ∀ (fn : Fn) (first cap : Array Value) (w : World), (Instr.makeFunc fn first cap).run Try.prog w = .ok (.func fn first cap) w := fun _ _ _ _ => rfl
  have hmm := @run_makeMap Try.prog
  have OC : Hid (∀ w, Calls Try.prog 73 #[.agg #[.int .i64 x.1, .int .i64 x.2.1, .string x.2.2], .agg #[.int .i64 y.1, .int .i64 y.2.1, .string y.2.2]] w fun r w' => r = .returned (.int .i64 c) ∧ Below w.heap.size w w') := Lib.hid fun w => by rw [← HO.out]; exact order_any x.1 x.2.1 y.1 y.2.1 x.2.2 y.2.2 w
  go_enter Try.func45, Try.ntmps45
  go_wp2_with fail
  go_cut [3] from 5 to 11 (fun s wx => ∃ A, s = .pointer (some ⟨A, 0, none⟩) ∧ wx.cell? ⟨A, 0, none⟩ = some (.int .i64 c) ∧ wx.cell? ⟨w.heap.size, 0, none⟩ = some (.slice p n cap) ∧ wx.cell? ⟨w.heap.size, 1, none⟩ = some (.int .i64 o) ∧ NulAt wx (w.heap.size + 1) ∧ Below w.heap.size w wx)
  case first =>
    go_region_held3 (fun w' => w'.cell? ⟨w.heap.size, 0, none⟩ = some (.slice p n cap) ∧ w'.cell? ⟨w.heap.size, 1, none⟩ = some (.int .i64 o) ∧ Below w.heap.size w w')
      (first
        | assumption
        | (refine ws_below ?_ hb; assumption)
        | exact ws_start _ _ _ _
        | (refine ws_below ?_ ((Below.refl _ _).alloc (Nat.le_refl _) _); assumption)
        | (refine ws_set ?_ ?_; (focus assumption); (focus omega))
        | exact ws_start2 _ _ _ _ _
        | exact ws_start3 _ _ _ _ _ _
        | (refine ws_below (ws_set HSL.out ?_) ((Below.refl _ _).alloc (Nat.le_refl _) _); omega)
        | (refine ws_below HSL.out ?_; focus (go_grown; done)))
      (first
        | (go_at_call 58; refine (C.out _ (‹_ ∧ _ ∧ Below _ _ _›).2.2).mono ?_; rintro e wa ⟨rfl, hb⟩; have HSL := Lib.hid (ws_below ‹_ ∧ _ ∧ Below _ _ _› hb); have hN := nul_kept (A := w.heap.size + 1) hb (by first | assumption | go_cell) (by first | assumption | go_cell) (by first | assumption | go_cell) (by first | assumption | go_cell) (by first | assumption | go_cell) (by first | assumption | go_cell); obtain ⟨f0, f1, f2, g0, g1, g2, hs⟩ := hN; have hs3 : _ < _ + 1 := Nat.lt_succ_of_lt hs; (try (refine kept1 (A := w.heap.size + 1 + 1) (v := .int .i64 0) hb ?_ ?_ ?_; (focus (first | assumption | (go_cell; done))); (focus (first | assumption | (go_cell; done))); intro hX; obtain ⟨k0, k1, k2⟩ := hX)))
        | (go_at_call 59; refine (D.out _ (‹_ ∧ _ ∧ Below _ _ _›).2.2).mono ?_; rintro e wb ⟨rfl, hb⟩; have HSL := Lib.hid (ws_below ‹_ ∧ _ ∧ Below _ _ _› hb); have hN := nul_kept (A := w.heap.size + 1) hb (by first | assumption | go_cell) (by first | assumption | go_cell) (by first | assumption | go_cell) (by first | assumption | go_cell) (by first | assumption | go_cell) (by first | assumption | go_cell); obtain ⟨f0, f1, f2, g0, g1, g2, hs⟩ := hN; have hs3 : _ < _ + 1 := Nat.lt_succ_of_lt hs; (try (refine kept1 (A := w.heap.size + 1 + 1) (v := .int .i64 0) hb ?_ ?_ ?_; (focus (first | assumption | (go_cell; done))); (focus (first | assumption | (go_cell; done))); intro hX; obtain ⟨k0, k1, k2⟩ := hX)); (try (refine kept1 (A := wa.heap.size) (v := .int .i64 0) hb ?_ ?_ ?_; (focus (first | assumption | (go_cell; done))); (focus (first | assumption | (go_cell; done))); intro hX; obtain ⟨l0, l1, l2⟩ := hX)))
        | (go_at_call 73; refine (OC.out _).mono ?_; rintro e wd ⟨rfl, hb⟩; have HSL := Lib.hid (ws_below ‹_ ∧ _ ∧ Below _ _ _› hb); have hN := nul_kept (A := w.heap.size + 1) hb (by first | assumption | go_cell) (by first | assumption | go_cell) (by first | assumption | go_cell) (by first | assumption | go_cell) (by first | assumption | go_cell) (by first | assumption | go_cell); obtain ⟨f0, f1, f2, g0, g1, g2, hs⟩ := hN; have hs3 : _ < _ + 1 := Nat.lt_succ_of_lt hs; (try (refine kept1 (A := w.heap.size + 1 + 1) (v := .int .i64 0) hb ?_ ?_ ?_; (focus (first | assumption | (go_cell; done))); (focus (first | assumption | (go_cell; done))); intro hX; obtain ⟨k0, k1, k2⟩ := hX)); (try (refine kept1 (A := wa.heap.size) (v := .int .i64 0) hb ?_ ?_ ?_; (focus (first | assumption | (go_cell; done))); (focus (first | assumption | (go_cell; done))); intro hX; obtain ⟨l0, l1, l2⟩ := hX)); (try (refine kept1 (A := wb.heap.size) (v := .int .i64 0) hb ?_ ?_ ?_; (focus (first | assumption | (go_cell; done))); (focus (first | assumption | (go_cell; done))); intro hX; obtain ⟨m0, m1, m2⟩ := hX))))
    all_goals (obtain ⟨u0, u1, u2⟩ := ‹_ ∧ _ ∧ Below _ _ _›; go_wp2_with fail; go_meet; exact ⟨_, rfl, by go_cell, u0, u1, ⟨by go_cell, by go_cell, by go_cell, by go_cell, by go_cell, by go_cell, by first | omega | (simp; omega)⟩, u2⟩)
  case rest =>
    obtain ⟨A, rfl, ca, b0, b1, hN, hB⟩ := hcut
    obtain ⟨n0, n1, n2, m0, m1, m2, hlt⟩ := hN
    have HB := Lib.hid hB
    have p1 := ordE_put1 A
    have p2 := ordE_put2 A
    have p3 := ordE_put3 A
    have p4 := ordE_put4 A
    have p5 := ordE_put5 A
    have p6 := ordE_put6 A
    have lk := LK.out A
    have hA : A < wc.heap.size := lt_of_cell_some ca
    have hlt0 : w.heap.size < wc.heap.size := by omega
    clear hB
    go_wp2_with (first
      | (go_at_call 80; refine (truth_any _ _).mono ?_; rintro e wz ⟨rfl, hb⟩; obtain ⟨q0, q1, q2, r0, r1, r2, hs2⟩ := nul_kept (A := w.heap.size + 1) hb (by first | assumption | go_cell) (by first | assumption | go_cell) (by first | assumption | go_cell) (by first | assumption | go_cell) (by first | assumption | go_cell) (by first | assumption | go_cell))
      | (with_reducible refine (CL.out A _ (by go_cell)).mono ?_; rintro e w' ⟨rfl, rfl⟩))
    have hB2 : Below w.heap.size w wz := (HB.out.alloc HB.out.size _).trans (hb.mono (by have := HB.out.size; simp; omega))
    refine bodyPost_ret (v := val (boolV b)) ?_ rfl ⟨rfl, ((hB2.setCell (by simp) _).setCell (by simp) _).setCell (by simp) _⟩
    simp [results, Try.results45, go_sem, q0, q1, q2]
/-- How a number way ends. -/
def numEnd (q : Int × Int) : Ending := if q.2 = 0 then .returned (val (2, q.1, ⟨#[]⟩)) else .panicked (gaveUp q.2)
set_option maxRecDepth 100000 in
set_option maxHeartbeats 4000000 in
theorem number_gen (p : Option Addr) (n cap F : Nat) (o a b : Int) (q : Int × Int) (xk yk : Int) (xs ys : ByteArray) (caps : Nat → Nat → Array Value) (w : World) (C : Hid (Tells 58 (.slice p n cap) (xk, a, xs) w)) (D : Hid (Tells 59 (.slice p n cap) (yk, b, ys) w))
    (hen : ∀ (args : Array Value) (w : World), (callFunc F args).run Try.prog w = .ok (.enter F args) w)
    (LK : Hid (∀ (A B : Nat) (w : World), (Instr.lookup 96 (.map (some w.heap.size)) (.int .i64 o) false).run Try.prog (w.alloc (.map (numE7 A B) 7)) = .ok (.func (.func F) #[] (caps A B)) (w.alloc (.map (numE7 A B) 7))))
    (CL : Hid (∀ (A B : Nat) (w : World), w.cell? ⟨A, 0, none⟩ = some (.int .i64 a) → w.cell? ⟨B, 0, none⟩ = some (.int .i64 b) → Calls Try.prog F (caps A B) w fun r w' => r = endN q ∧ w = w')) :
    Calls Try.prog 43 #[.agg #[.slice p n cap, .int .i64 o]] w fun r w' => r = numEnd q ∧ Below w.heap.size w w' := by
  have hmf : ∀ (fn : Fn) (first cap : Array Value) (w : World), (Instr.makeFunc fn first cap).run Try.prog w = .ok (.func fn first cap) w := fun _ _ _ _ => rfl
  have hmm := @run_makeMap Try.prog
  have z1 := field_1 xk a xs
  have z2 := field_1 yk b ys
  go_enter Try.func43, Try.ntmps43
  go_wp2_with fail
  go_cut [3, 4] from 6 to 13 (fun s t wx => ∃ A B, s = .pointer (some ⟨A, 0, none⟩) ∧ t = .pointer (some ⟨B, 0, none⟩) ∧ wx.cell? ⟨A, 0, none⟩ = some (.int .i64 a) ∧ wx.cell? ⟨B, 0, none⟩ = some (.int .i64 b) ∧ wx.cell? ⟨w.heap.size, 0, none⟩ = some (.slice p n cap) ∧ wx.cell? ⟨w.heap.size, 1, none⟩ = some (.int .i64 o) ∧ NulAt wx (w.heap.size + 1) ∧ Below w.heap.size w wx)
  case first =>
    go_region_held3 (fun w' => w'.cell? ⟨w.heap.size, 0, none⟩ = some (.slice p n cap) ∧ w'.cell? ⟨w.heap.size, 1, none⟩ = some (.int .i64 o) ∧ Below w.heap.size w w')
      (first
        | assumption
        | (refine ws_below ?_ hb; assumption)
        | exact ws_start _ _ _ _
        | (refine ws_below ?_ ((Below.refl _ _).alloc (Nat.le_refl _) _); assumption)
        | (refine ws_set ?_ ?_; (focus assumption); (focus omega))
        | exact ws_start2 _ _ _ _ _
        | exact ws_start3 _ _ _ _ _ _
        | (refine ws_below (ws_set HSL.out ?_) ((Below.refl _ _).alloc (Nat.le_refl _) _); omega)
        | (refine ws_below HSL.out ?_; focus (go_grown; done)))
      (first
        | (go_at_call 58; refine (C.out _ (‹_ ∧ _ ∧ Below _ _ _›).2.2).mono ?_; rintro e wa ⟨rfl, hb⟩; have HSL := Lib.hid (ws_below ‹_ ∧ _ ∧ Below _ _ _› hb); have hN := nul_kept (A := w.heap.size + 1) hb (by first | assumption | go_cell) (by first | assumption | go_cell) (by first | assumption | go_cell) (by first | assumption | go_cell) (by first | assumption | go_cell) (by first | assumption | go_cell); obtain ⟨f0, f1, f2, g0, g1, g2, hs⟩ := hN; have hs3 : _ < _ + 1 := Nat.lt_succ_of_lt hs; (try (refine kept1 (A := w.heap.size + 1 + 1) (v := .int .i64 0) hb ?_ ?_ ?_; (focus (first | assumption | (go_cell; done))); (focus (first | assumption | (go_cell; done))); intro hX; obtain ⟨k0, k1, k2⟩ := hX)); (try (refine kept1 (A := w.heap.size + 1 + 1 + 1) (v := .int .i64 0) hb ?_ ?_ ?_; (focus (first | assumption | (go_cell; done))); (focus (first | assumption | (go_cell; done))); intro hX; obtain ⟨l0, l1, l2⟩ := hX)))
        | (go_at_call 59; refine (D.out _ (‹_ ∧ _ ∧ Below _ _ _›).2.2).mono ?_; rintro e wb ⟨rfl, hb⟩; have HSL := Lib.hid (ws_below ‹_ ∧ _ ∧ Below _ _ _› hb); have hN := nul_kept (A := w.heap.size + 1) hb (by first | assumption | go_cell) (by first | assumption | go_cell) (by first | assumption | go_cell) (by first | assumption | go_cell) (by first | assumption | go_cell) (by first | assumption | go_cell); obtain ⟨f0, f1, f2, g0, g1, g2, hs⟩ := hN; have hs3 : _ < _ + 1 := Nat.lt_succ_of_lt hs; (try (refine kept1 (A := w.heap.size + 1 + 1) (v := .int .i64 0) hb ?_ ?_ ?_; (focus (first | assumption | (go_cell; done))); (focus (first | assumption | (go_cell; done))); intro hX; obtain ⟨k0, k1, k2⟩ := hX)); (try (refine kept1 (A := w.heap.size + 1 + 1 + 1) (v := .int .i64 0) hb ?_ ?_ ?_; (focus (first | assumption | (go_cell; done))); (focus (first | assumption | (go_cell; done))); intro hX; obtain ⟨l0, l1, l2⟩ := hX)); (try (refine kept1 (A := wa.heap.size) (v := .int .i64 0) hb ?_ ?_ ?_; (focus (first | assumption | (go_cell; done))); (focus (first | assumption | (go_cell; done))); intro hX; obtain ⟨m0, m1, m2⟩ := hX)); (try (refine kept1 (A := wa.heap.size + 1) (v := .int .i64 0) hb ?_ ?_ ?_; (focus (first | assumption | (go_cell; done))); (focus (first | assumption | (go_cell; done))); intro hX; obtain ⟨n0, n1, n2⟩ := hX))))
    all_goals (obtain ⟨u0, u1, u2⟩ := ‹_ ∧ _ ∧ Below _ _ _›; go_wp2_with fail; go_meet; exact ⟨_, _, rfl, rfl, by first | assumption | go_cell, by first | assumption | go_cell, u0, u1, ⟨by first | assumption | go_cell, by first | assumption | go_cell, by first | assumption | go_cell, by first | assumption | go_cell, by first | assumption | go_cell, by first | assumption | go_cell, by first | omega | (simp; omega)⟩, u2⟩)
  case rest =>
    obtain ⟨A, B, rfl, rfl, ca, cb, b0, b1, hN, hB⟩ := hcut
    obtain ⟨n0, n1, n2, m0, m1, m2, hlt⟩ := hN
    have HB := Lib.hid hB
    have p1 := numE_put1 A B
    have p2 := numE_put2 A B
    have p3 := numE_put3 A B
    have p4 := numE_put4 A B
    have p5 := numE_put5 A B
    have p6 := numE_put6 A B
    have p7 := numE_put7 A B
    have lk := LK.out A B
    have hA : A < wc.heap.size := lt_of_cell_some ca
    have hA2 : B < wc.heap.size := lt_of_cell_some cb
    have hlt0 : w.heap.size < wc.heap.size := by omega
    clear hB
    by_cases hq : q.2 = 0
    · have CK : Hid (∀ w : World, w.cell? ⟨A, 0, none⟩ = some (.int .i64 a) → w.cell? ⟨B, 0, none⟩ = some (.int .i64 b) → Calls Try.prog F (caps A B) w fun r w' => r = .returned (.int .i64 q.1) ∧ w = w') := Lib.hid fun w h1 h2 => by rw [← endN_ok hq]; exact CL.out A B w h1 h2
      have HQ := Lib.hid hq
      clear hq
      go_wp2_with (with_reducible refine (CK.out _ (by go_cell) (by go_cell)).mono ?_; rintro e w' ⟨rfl, rfl⟩)
      have hB2 : Below w.heap.size w (wc.alloc (.map (numE7 A B) 7)) := HB.out.alloc HB.out.size _
      refine bodyPost_ret (v := val (2, q.1, ⟨#[]⟩)) ?_ rfl ⟨by unfold numEnd; rw [if_pos HQ.out], ?_⟩
      · simp [results, Try.results43, go_sem, n0, n1, n2, hlt]
      · exact (((HB.out.setCell (by simp) _).setCell (by simp) _).setCell (by simp) _).alloc (by have := HB.out.size; simp; omega) _
    · have CK : Hid (∀ w : World, w.cell? ⟨A, 0, none⟩ = some (.int .i64 a) → w.cell? ⟨B, 0, none⟩ = some (.int .i64 b) → Calls Try.prog F (caps A B) w fun r w' => r = .panicked (gaveUp q.2) ∧ w = w') := Lib.hid fun w h1 h2 => by rw [← endN_no hq]; exact CL.out A B w h1 h2
      have HQ := Lib.hid hq
      clear hq
      go_wp2_with (with_reducible refine (CK.out _ (by go_cell) (by go_cell)).mono ?_; rintro e w' ⟨rfl, rfl⟩)
      exact ⟨rfl, by unfold numEnd; rw [if_neg HQ.out], HB.out.alloc HB.out.size _⟩
end Go.Proofs.Ytoknfdgejiachaa
