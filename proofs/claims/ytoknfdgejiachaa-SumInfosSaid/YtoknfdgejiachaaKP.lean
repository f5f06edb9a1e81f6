import Derived.Test.YtoknfdgejiachaaKN
namespace Go.Proofs.Ytoknfdgejiachaa
open Go.RowKit Go.Shelf

theorem valI (a : Int) : ofI a = val (ofV a) := rfl
theorem Of_any (a : Int) (w : World) : Calls Try.prog 57 #[.int .i64 a] w fun r w' => r = .returned (val (ofV a)) ∧ Below w.heap.size w w' := of_any a w
set_option maxRecDepth 100000 in
set_option maxHeartbeats 2000000 in
theorem truth_gen (p : Option Addr) (n cap F : Nat) (o c : Int) (l : List Int) (w : World) (T : Hid (∀ w', Below w.heap.size w w' → Calls Try.prog 81 #[.slice p n cap] w' (GivesInts w' l)))
    (hen : ∀ (args : Array Value) (w : World), (callFunc F args).run Try.prog w = .ok (.enter F args) w)
    (LK : Hid (∀ (A : Nat) (w : World), (Instr.lookup 103 (.map (some w.heap.size)) (.int .i64 o) false).run Try.prog (w.alloc (.map (truE3 A) 3)) = .ok (.func (.func F) #[] #[.pointer (some ⟨A, 0, none⟩)]) (w.alloc (.map (truE3 A) 3))))
    (CL : Hid (∀ (A : Nat) (t : Value) (w : World), w.cell? ⟨A, 0, none⟩ = some t → Ints w t l → Calls Try.prog F #[.pointer (some ⟨A, 0, none⟩)] w fun r w' => r = .returned (.int .i64 c) ∧ w = w')) :
    Calls Try.prog 46 #[.agg #[.slice p n cap, .int .i64 o]] w fun r w' => r = .returned (val (ofV c)) ∧ Below w.heap.size w w' := by
  have hmf : ∀ (fn : Fn) (first cap : Array Value) (w : World), (Instr.makeFunc fn first cap).run Try.prog w = .ok (.func fn first cap) w := fun _ _ _ _ => rfl
  have hmm := @run_makeMap Try.prog
  go_enter Try.func46, Try.ntmps46
  go_upto_region 1 with fail
  go_cut [3] from 5 to 7 (fun s wx => ∃ A t, s = .pointer (some ⟨A, 0, none⟩) ∧ wx.cell? ⟨A, 0, none⟩ = some t ∧ Ints wx t l ∧ wx.cell? ⟨w.heap.size, 1, none⟩ = some (.int .i64 o) ∧ NulAt wx (w.heap.size + 1) ∧ Below w.heap.size w wx)
  case first =>
    go_wp2_with (go_at_call 81; refine (T.out _ (((Below.refl _ _).alloc (Nat.le_refl _) _).alloc (by simp) _)).mono ?_; rintro e wa ⟨t, rfl, hI, hb⟩; have HI := Lib.hid hI; obtain ⟨pp, cc, rfl, hlen, -⟩ := hI)
    obtain ⟨f0, f1, f2, g0, g1, g2, hs⟩ := nul_kept (A := w.heap.size + 1) hb (by go_cell) (by go_cell) (by go_cell) (by go_cell) (by go_cell) (by go_cell)
    have x1 : wa.cell? ⟨w.heap.size, 1, none⟩ = some (.int .i64 o) := (hb.cell (by simp; omega)).trans (by go_cell)
    have hB : Below w.heap.size w wa := (((Below.refl _ _).alloc (Nat.le_refl _) _).alloc (by simp) _).trans (hb.mono (by simp; omega))
    have ha : Below wa.heap.size wa (wa.alloc (.cells #[.slice pp l.length cc] 98)) := (Below.refl _ _).alloc (Nat.le_refl _) _
    go_meet
    exact ⟨_, _, rfl, by go_cell, ints_below HI.out ha, (ha.cell (by simp; omega)).trans x1, ⟨(ha.cell hs).trans f0, (ha.cell hs).trans f1, (ha.cell hs).trans f2, (ha.frozen hs).trans g0, (ha.frozen hs).trans g1, (ha.frozen hs).trans g2, Nat.lt_of_lt_of_le hs ha.size⟩, hB.trans (ha.mono hB.size)⟩
  case rest =>
    obtain ⟨A, t, rfl, ca, hI, b1, hN, hB⟩ := hcut
    obtain ⟨n0, n1, n2, m0, m1, m2, hlt⟩ := hN
    have HB := Lib.hid hB
    have HI := Lib.hid hI
    have ha : Below wc.heap.size wc (wc.alloc (.map (truE3 A) 3)) := (Below.refl _ _).alloc (Nat.le_refl _) _
    have CK := Lib.hid (CL.out A t (wc.alloc (.map (truE3 A) 3)) ((ha.cell (lt_of_cell_some ca)).trans ca) (ints_below hI ha))
    have p1 := truE_put1 A
    have p2 := truE_put2 A
    have p3 := truE_put3 A
    have lk := LK.out A
    have hlt0 : w.heap.size < wc.heap.size := by omega
    clear hB hI ha ca
    go_wp2_with (first
      | (go_at_call 57; refine (Of_any _ _).mono ?_; rintro e wz ⟨rfl, hb⟩; obtain ⟨q0, q1, q2, r0, r1, r2, hs2⟩ := nul_kept (A := w.heap.size + 1) hb (by go_cell) (by go_cell) (by go_cell) (by go_cell) (by go_cell) (by go_cell))
      | (with_reducible refine CK.out.mono ?_; rintro e w' ⟨rfl, rfl⟩))
    have hB2 : Below w.heap.size w wz := (HB.out.alloc HB.out.size _).trans (hb.mono (by have := HB.out.size; simp; omega))
    refine bodyPost_ret (v := val (ofV c)) ?_ rfl ⟨rfl, ((hB2.setCell (by simp) _).setCell (by simp) _).setCell (by simp) _⟩
    simp [results, Try.results46, go_sem, q0, q1, q2]
end Go.Proofs.Ytoknfdgejiachaa
