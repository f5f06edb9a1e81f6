import Derived.Test.YtoknfdgejiachaaKH
import Derived.Defers
import Derived.Recover
namespace Go.Proofs.Ytoknfdgejiachaa
open Go.RowKit Go.Shelf

set_option maxRecDepth 10000 in
set_option maxHeartbeats 1000000 in
theorem catch_panic38 (B : Nat) (x n : Int) (w : World) (hb : B < w.heap.size) (hc : w.cell? ⟨B, 0, none⟩ = some (.int .i64 x)) (hz : w.frozen? ⟨B, 0, none⟩ = false) :
    CallsD Try.prog 38 #[.pointer (some ⟨B, 0, none⟩)] (.panicking (gaveUp n)) w fun e u' w' =>
      e = .returned (.tuple #[]) ∧ u' = .panicking [{ v := .iface 80 (.agg #[.int .i64 n]), recovered := true }] ∧ w' = (w.setCell ⟨B, 0, none⟩ (.int .i64 n)).alloc (.cells #[.int .i64 n] 80) := by
  refine callsD_of_wpS Try.func38 rfl fun c₀ cs hu => ?_
  simp only [Try.ntmps38, List.size_toArray, List.length_cons, List.length_nil, Nat.reduceAdd, Nat.reduceSub, Array.replicate_succ, Array.replicate_zero, List.push_toArray, List.append_toArray, List.nil_append, List.cons_append]
  apply wpS_seq
  apply wpS_region
  simp [wpOpsS, go_sem, recoverD, hu, Exit.thenS]
  clear hu
  refine wpS_of_wp ?_
  have hta : ∀ w : World, (Instr.typeAssert (.iface 80 (.agg #[.int .i64 n])) 20 80 true).run Try.prog w = .ok (.tuple #[.agg #[.int .i64 n], .bool true]) w := fun _ => by kernel_rfl
  go_wp2
  cases c₀
  simp_all [bodyPostS, results, Try.results38]
set_option maxRecDepth 10000 in
set_option maxHeartbeats 1000000 in
theorem catch_idle38 (B : Nat) (w : World) :
    CallsD Try.prog 38 #[.pointer (some ⟨B, 0, none⟩)] .returning w fun e u' w' => e = .returned (.tuple #[]) ∧ u' = .returning ∧ w = w' := by
  refine callsD_of_wpS Try.func38 rfl fun c₀ cs hu => ?_
  have HU := Lib.hid hu
  simp only [Try.ntmps38, List.size_toArray, List.length_cons, List.length_nil, Nat.reduceAdd, Nat.reduceSub, Array.replicate_succ, Array.replicate_zero, List.push_toArray, List.append_toArray, List.nil_append, List.cons_append]
  apply wpS_seq
  apply wpS_region
  simp [wpOpsS, go_sem, recoverD, hu, Exit.thenS]
  clear hu
  refine wpS_of_wp ?_
  go_wp2
  have hu := HU.out
  clear HU
  cases c₀
  simp_all [bodyPostS, results, Try.results38]
set_option maxRecDepth 10000 in
set_option maxHeartbeats 1000000 in
theorem catch_panic49 (B : Nat) (x n : Int) (w : World) (hb : B < w.heap.size) (hc : w.cell? ⟨B, 0, none⟩ = some (.int .i64 x)) (hz : w.frozen? ⟨B, 0, none⟩ = false) :
    CallsD Try.prog 49 #[.pointer (some ⟨B, 0, none⟩)] (.panicking (gaveUp n)) w fun e u' w' =>
      e = .returned (.tuple #[]) ∧ u' = .panicking [{ v := .iface 80 (.agg #[.int .i64 n]), recovered := true }] ∧ w' = (w.setCell ⟨B, 0, none⟩ (.int .i64 n)).alloc (.cells #[.int .i64 n] 80) := by
  refine callsD_of_wpS Try.func49 rfl fun c₀ cs hu => ?_
  simp only [Try.ntmps49, List.size_toArray, List.length_cons, List.length_nil, Nat.reduceAdd, Nat.reduceSub, Array.replicate_succ, Array.replicate_zero, List.push_toArray, List.append_toArray, List.nil_append, List.cons_append]
  apply wpS_seq
  apply wpS_region
  simp [wpOpsS, go_sem, recoverD, hu, Exit.thenS]
  clear hu
  refine wpS_of_wp ?_
  have hta : ∀ w : World, (Instr.typeAssert (.iface 80 (.agg #[.int .i64 n])) 20 80 true).run Try.prog w = .ok (.tuple #[.agg #[.int .i64 n], .bool true]) w := fun _ => by kernel_rfl
  go_wp2
  cases c₀
  simp_all [bodyPostS, results, Try.results49]
set_option maxRecDepth 10000 in
set_option maxHeartbeats 1000000 in
theorem catch_idle49 (B : Nat) (w : World) :
    CallsD Try.prog 49 #[.pointer (some ⟨B, 0, none⟩)] .returning w fun e u' w' => e = .returned (.tuple #[]) ∧ u' = .returning ∧ w = w' := by
  refine callsD_of_wpS Try.func49 rfl fun c₀ cs hu => ?_
  have HU := Lib.hid hu
  simp only [Try.ntmps49, List.size_toArray, List.length_cons, List.length_nil, Nat.reduceAdd, Nat.reduceSub, Array.replicate_succ, Array.replicate_zero, List.push_toArray, List.append_toArray, List.nil_append, List.cons_append]
  apply wpS_seq
  apply wpS_region
  simp [wpOpsS, go_sem, recoverD, hu, Exit.thenS]
  clear hu
  refine wpS_of_wp ?_
  go_wp2
  have hu := HU.out
  clear HU
  cases c₀
  simp_all [bodyPostS, results, Try.results49]

theorem err_box {w w1 : World} {o : Obj} {v : Value} (hv : (w.alloc o).cell? ⟨w.heap.size, 0, none⟩ = some v) (hf : (w.alloc o).frozen? ⟨w.heap.size, 0, none⟩ = false) (b1 : Below (w.alloc o).heap.size (w.alloc o) w1) :
    w1.cell? ⟨w.heap.size, 0, none⟩ = some v ∧ w1.frozen? ⟨w.heap.size, 0, none⟩ = false ∧ w.heap.size < w1.heap.size ∧ Below w.heap.size w w1 :=
  ⟨(b1.cell (by simp)).trans hv, (b1.frozen (by simp)).trans hf, by have := b1.size; simp at this; omega, ((Below.refl _ _).alloc (Nat.le_refl _) _).trans (b1.mono (by simp))⟩
set_option maxRecDepth 10000 in
set_option maxHeartbeats 1000000 in
theorem caughtT_ok (t : Int) (caps : Array Value) (w : World) (C : Hid (∀ w', Below w.heap.size w w' → Calls Try.prog 19 caps w' fun r w2 => r = .returned (.int .i64 t) ∧ Below w'.heap.size w' w2)) :
    Calls Try.prog 18 #[.func (.func 19) #[] caps] w fun r w' => r = .returned (.tuple #[.int .i64 t, .int .i64 0]) ∧ Below w.heap.size w w' := by
  have hmf : ∀ (fn : Fn) (first cap : Array Value) (w : World), (Instr.makeFunc fn first cap).run Try.prog w = .ok (.func fn first cap) w := fun _ _ _ _ => rfl
  go_enter_defers Try.func18, Try.ntmps18
  go_wp2_with (go_at_call 19; refine (C.out _ ((Below.refl _ _).alloc (Nat.le_refl _) _)).mono ?_; rintro e w1 ⟨rfl, b1⟩; obtain ⟨k0, kf, hs, hb⟩ := err_box (v := .int .i64 0) (by go_cell) (by go_cell) b1)
  refine leaves_cons (f := 38) (args := #[.pointer (some ⟨w.heap.size, 0, none⟩)]) (by simp) (by simp [go_sem]) ?_
  refine (catch_idle38 w.heap.size _).mono ?_
  rintro e u' w'' ⟨rfl, rfl, rfl⟩
  have hfin : Below w.heap.size w (w1.setCell ⟨w.heap.size, 0, none⟩ (.int .i64 0)) := hb.setCell (by simp) _
  simp [Leaves, settle, results, Try.results18, go_sem, k0, kf, hs, hfin]
set_option maxRecDepth 10000 in
set_option maxHeartbeats 1000000 in
theorem caughtT_no (n : Int) (caps : Array Value) (w : World) (C : Hid (∀ w', Below w.heap.size w w' → Calls Try.prog 19 caps w' fun r w2 => r = .panicked (gaveUp n) ∧ Below w'.heap.size w' w2)) :
    Calls Try.prog 18 #[.func (.func 19) #[] caps] w fun r w' => r = .returned (.tuple #[.int .i64 0, .int .i64 n]) ∧ Below w.heap.size w w' := by
  have hmf : ∀ (fn : Fn) (first cap : Array Value) (w : World), (Instr.makeFunc fn first cap).run Try.prog w = .ok (.func fn first cap) w := fun _ _ _ _ => rfl
  go_enter_defers Try.func18, Try.ntmps18
  go_wp2_with (go_at_call 19; refine (C.out _ ((Below.refl _ _).alloc (Nat.le_refl _) _)).mono ?_; rintro e w1 ⟨rfl, b1⟩; obtain ⟨k0, kf, hs, hb⟩ := err_box (v := .int .i64 0) (by go_cell) (by go_cell) b1)
  refine leaves_cons (f := 38) (args := #[.pointer (some ⟨w.heap.size, 0, none⟩)]) (by simp) (by simp [go_sem]) ?_
  refine (catch_panic38 w.heap.size 0 n _ hs k0 kf).mono ?_
  rintro e u' w'' ⟨rfl, rfl, rfl⟩
  have hfin : Below w.heap.size w ((w1.setCell ⟨w.heap.size, 0, none⟩ (.int .i64 n)).alloc (.cells #[.int .i64 n] 80)) := (hb.setCell (by simp) _).alloc (by simp; omega) _
  simp [Leaves, settle, results, Try.results18, go_sem, k0, kf, hs, hfin]
set_option maxHeartbeats 1000000 in
theorem makesC_any (o : Int) (l : List Int) (v : Value) (hl : l.length ≤ 4) (A B : Nat) (w : World) (ha : w.cell? ⟨A, 0, none⟩ = some (.int .i64 o)) (hb : w.cell? ⟨B, 0, none⟩ = some v) (hv : ∃ p n c, v = .slice p n c) (hI : Hid (Ints w v l)) :
    Calls Try.prog 19 #[.pointer (some ⟨A, 0, none⟩), .pointer (some ⟨B, 0, none⟩)] w fun r w' => r = endN (makesE o l) ∧ Below w.heap.size w w' := by
  obtain ⟨p, n, c, rfl⟩ := hv
  have CM := made_any o l _ w hI.out hl
  by_cases h : (makesE o l).2 = 0
  · rw [endN_ok h] at *
    have CM := Lib.hid CM
    clear h
    go_enter Try.func19, Try.ntmps19
    go_wp2_with (go_at_call 20; refine CM.out.mono ?_; rintro e w1 ⟨rfl, b1⟩)
    go_ret
    exact ⟨rfl, b1⟩
  · rw [endN_no h] at *
    have CM := Lib.hid CM
    clear h
    go_enter Try.func19, Try.ntmps19
    go_wp2_with (go_at_call 20; refine CM.out.mono ?_; rintro e w1 ⟨rfl, b1⟩)
    exact ⟨rfl, rfl, b1⟩
theorem makes_zero (o : Int) (l : List Int) : (makesE o l).2 ≠ 0 → (makesE o l).1 = 0 := by
  unfold makesE
  repeat' split
  all_goals first | (intro _; rfl) | (intro h; exact absurd rfl h)
theorem Ints.keep {w w' : World} {v : Value} {l : List Int} (h : Ints w v l) (hb : Below w.heap.size w w') : Ints w' v l := by
  obtain ⟨p, cap, hv, hl, hc⟩ := h
  refine ⟨p, cap, hv, hl, fun i hi => ?_⟩
  obtain ⟨B, off, hp, hx⟩ := hc i hi
  exact ⟨B, off, hp, (hb.cell (lt_of_cell_some hx)).trans hx⟩
set_option maxHeartbeats 1000000 in
theorem makes_any (o : Int) (l : List Int) (v : Value) (hl : l.length ≤ 4) (w : World) (hI : Ints w v l) :
    Calls Try.prog 9 #[.int .i64 o, v] w fun r w' => r = .returned (two (makesE o l)) ∧ Below w.heap.size w w' := by
  obtain ⟨p, c, hv, hl2, hc⟩ := hI
  have hI : Ints w v l := ⟨p, c, hv, hl2, hc⟩
  subst hv
  clear hc
  have hb0 : Below w.heap.size w ((w.alloc (.cells #[.int .i64 o] 30)).alloc (.cells #[.slice p l.length c] 22)) := ((Below.refl _ _).alloc (Nat.le_refl _) _).alloc (by simp) _
  have z0 : ((w.alloc (.cells #[.int .i64 o] 30)).alloc (.cells #[.slice p l.length c] 22)).cell? ⟨w.heap.size, 0, none⟩ = some (.int .i64 o) := by go_cell
  have z1 : ((w.alloc (.cells #[.int .i64 o] 30)).alloc (.cells #[.slice p l.length c] 22)).cell? ⟨w.heap.size + 1, 0, none⟩ = some (.slice p l.length c) := by go_cell
  obtain ⟨W, hW⟩ : ∃ W, (w.alloc (.cells #[.int .i64 o] 30)).alloc (.cells #[.slice p l.length c] 22) = W := ⟨_, rfl⟩
  rw [hW] at hb0 z0 z1
  have CC : ∀ w', Below W.heap.size W w' → Calls Try.prog 19 #[.pointer (some ⟨w.heap.size, 0, none⟩), .pointer (some ⟨w.heap.size + 1, 0, none⟩)] w' fun r w2 => r = endN (makesE o l) ∧ Below w'.heap.size w' w2 := fun w' h =>
    makesC_any o l _ hl _ _ w' ((h.cell (lt_of_cell_some z0)).trans z0) ((h.cell (lt_of_cell_some z1)).trans z1) ⟨_, _, _, rfl⟩ (Lib.hid ((hI.keep hb0).keep h))
  have CF : Calls Try.prog 18 #[.func (.func 19) #[] #[.pointer (some ⟨w.heap.size, 0, none⟩), .pointer (some ⟨w.heap.size + 1, 0, none⟩)]] W fun r w' => r = .returned (two (makesE o l)) ∧ Below W.heap.size W w' := by
    by_cases h : (makesE o l).2 = 0
    · rw [show two (makesE o l) = .tuple #[.int .i64 (makesE o l).1, .int .i64 0] by rw [← h]]
      rw [endN_ok h] at CC
      exact caughtT_ok _ _ _ (Lib.hid CC)
    · have h1 : (makesE o l).1 = 0 := makes_zero o l h
      rw [show two (makesE o l) = .tuple #[.int .i64 0, .int .i64 (makesE o l).2] by rw [← h1]]
      rw [endN_no h] at CC
      exact caughtT_no _ _ _ (Lib.hid CC)
  have HCF := Lib.hid CF
  have HW := Lib.hid hW
  have HB := Lib.hid hb0
  clear CC CF hW hb0 z0 z1 hI
  have hmf : ∀ (fn : Fn) (first cap : Array Value) (w : World), (Instr.makeFunc fn first cap).run Try.prog w = .ok (.func fn first cap) w := fun _ _ _ _ => rfl
  go_enter Try.func9, Try.ntmps9
  go_wp2_with (go_at_call 18; rw [HW.out]; refine HCF.out.mono ?_; rintro e w1 ⟨rfl, b1⟩)
  go_ret2
  exact ⟨rfl, HB.out.trans (b1.mono HB.out.size)⟩
end Go.Proofs.Ytoknfdgejiachaa
