/- What each statement of this seat wants beside its walk: a start that fits, arguments that read as they did, values that were handed in. -/
import Derived.Test.YtoknfdgejiachaaKW
import Derived.ProofKit
import Derived.OpenShut
import Derived.Deep.DeepHandedRow
import Derived.Deep.DeepWitnessRowRef
import Derived.Deep.Slices
import Derived.Lib.SmallJoins
namespace Go.Proofs.Ytoknfdgejiachaa
open Go.ChangeShapes Go.WideShapes Go.ChangeAt Go.RowKit

theorem own : ownKnob Try.prog.godebug = none := by kernel_rfl

/-- Arguments of whatever shape read behind the call as before, where below the call's own blocks nothing has turned. -/
theorem trodAll_stays {H : Type} {enc : TypeId × Value → H} {P : Program} (hl : laidOutB P = true) {W W' : World} (hb : Below W.heap.size W W') :
    ∀ (ts : List TypeId), (∀ t ∈ ts, P.readableRec t = true ∧ t < P.types.size) → ∀ (vs : List Value) (ds : List (DataW H)) (ps : List MemPlace), DataW.TrodAll enc P W 0 (fun _ => true) true ts vs ds ps → (∀ x ∈ ps, x.block < W.heap.size) →
      DataW.TrodAll enc P W' 0 (fun b => decide (b < W.heap.size)) true ts vs ds ps
  | [], _, vs, ds, ps, h, _ => by
    obtain ⟨rfl, rfl, rfl⟩ := trodAll_nil h
    exact trodAll_mk0
  | t :: ts, ht, vs, ds, ps, h, hp => by
    obtain ⟨v, vs', d, ds', p, q, rfl, rfl, rfl, h0, h1⟩ := trodAll_cons h
    obtain ⟨r1, r2⟩ := ht t (by simp)
    exact trodAll_cons_mk (Below.trod hl r1 r2 h0 hb (fun x hx => hp x (by simp [hx]))) (trodAll_stays hl hb ts (fun u hu => ht u (by simp [hu])) vs' ds' q h1 (fun x hx => hp x (by simp [hx])))

/-- A law that answers true and leaves what was there as it was meets its row. -/
theorem law_true {H : Type} {enc : TypeId × Value → H} {f : Func} {s : ChangeSpec} {W W' : World} {args : Array Value} {ds gs : List (DataW H)} {before : List MemPlace}
    (hW : DataW.Whole enc Try.prog f.params.toList s.vars false W args.toList ds gs before) (hv : s.vars = []) (hfn : (s.fn H (ds ++ gs)).results = [.lit (.bool true)] ∧ (s.fn H (ds ++ gs)).args = ds ∧ (s.fn H (ds ++ gs)).vars = [])
    (hr : f.resultTypes = #[4]) (hread : (f.params.toList.all fun t => Try.prog.readableRec t && decide (t < Try.prog.types.size)) = true) (hb : Below W.heap.size W W') :
    s.post enc Try.prog f false true false false W args (.bool true) W' := by
  have hW' := hW
  obtain ⟨p, q, hA, hV, hpq, _, _⟩ := hW
  have hlt : ∀ x ∈ before, x.block < W.heap.size := fun x hx => hW'.lt x hx
  refine ⟨ds, gs, before, [], p, [], hW', ?_, ?_, ?_, hb.frame _, fun h => by cases h⟩
  · rw [hfn.1, hr]
    exact trodAll_mk1 (shut_bool Try.underlying4 _)
  · rw [hfn.2.1]
    exact trodAll_stays (by kernel_rfl) hb _ (fun t ht => by simpa using List.all_eq_true.1 hread t ht) _ _ _ hA (fun x hx => hlt x (by rw [hpq]; simp [hx]))
  · rw [hfn.2.2, hv]
    rfl

noncomputable def laidWorld (os : Os) : World := World.holding Try.prog os ⟨#[], #[], []⟩
theorem laid_met (os : Os) (args : Array Value) : laidMet Try.prog ([] : List (String × DataW Unit)) ((laidWorld os).forCall (fun _ _ => 0) ⟨#[], args, []⟩).memory :=
  laidMet_of_run' 8 (by kernel_rfl) (by kernel_rfl)

theorem in64_of {k : Int} (h : (Lit.int .i64 k).wf = true) : In64 k := by
  simp only [Lit.wf, IntKind.min, IntKind.max, IntKind.signed, IntKind.bits, Bool.and_eq_true, decide_eq_true_eq, if_true] at h
  unfold In64
  omega

set_option maxRecDepth 100000 in
theorem open_vals {H : Type} {enc : TypeId × Value → H} {w : World} {fuel : Nat} {a0 : Option Addr} {len cap : Nat} {x : DataW H × List MemPlace}
    (hf : DataW.trod enc Try.prog w 0 (fun _ => true) true fuel 42 [.slice a0 len cap] = some x) :
    len ≤ maxLen ∧ ∃ l : List V3, l.length = len ∧ CellsOf w a0 l ∧ (∀ y ∈ l, y.2.2.size ≤ 9223372036854775807) ∧ ∀ y ∈ l, In64 y.2.1 := by
  rcases Deep.open_slice Try.underlying42 hf with ⟨hcs, -⟩ | ⟨a, len', cap', m, n, D, Pl, hcs, -, hl, hm, hmm, -, hi⟩
  · simp only [List.cons.injEq, Value.slice.injEq, and_true] at hcs
    obtain ⟨rfl, rfl, rfl⟩ := hcs
    exact ⟨Nat.zero_le _, [], rfl, fun i hi => absurd hi (Nat.not_lt_zero i), fun y hy => (by cases hy), fun y hy => (by cases hy)⟩
  · simp only [List.cons.injEq, Value.slice.injEq, and_true] at hcs
    obtain ⟨rfl, rfl, rfl⟩ := hcs
    have hone : ∀ i, i < len → ∃ y : V3, w.cell? (a.add (i * 3)) = some (.int .i64 y.1) ∧ w.cell? (a.add (i * 3 + 1)) = some (.int .i64 y.2.1) ∧ w.cell? (a.add (i * 3 + 2)) = some (.string y.2.2) ∧ y.2.2.size ≤ 9223372036854775807 ∧ In64 y.2.1 := by
      intro i hil
      obtain ⟨cs', hc, ht⟩ := hi i (by rw [hmm]; simp; omega)
      rw [show Try.prog.cellsOf 45 = 3 by kernel_rfl] at hc
      obtain ⟨_, hcl, hat⟩ := World.cells?_some hc
      obtain ⟨ys, n', _, _, _, hyl, hfl⟩ := DataW.trod_struct Try.underlying45 ht
      match cs', hcl, ys, hyl with
      | [c0, c1, c2], _, [y0, y1, y2], _ =>
        have q43 : Try.prog.cellsOf 43 = 1 := by kernel_rfl
        have q2 : Try.prog.cellsOf 2 = 1 := by kernel_rfl
        have q9 : Try.prog.cellsOf 9 = 1 := by kernel_rfl
        have e0 : DataW.trod enc Try.prog w 0 (fun _ => true) true n' 43 (List.take (Try.prog.cellsOf 43) [c0, c1, c2]) = some y0 := hfl 0 _ rfl
        have e1 : DataW.trod enc Try.prog w 0 (fun _ => true) true n' 2 (List.take (Try.prog.cellsOf 2) [c1, c2]) = some y1 := hfl 1 _ rfl
        have e2 : DataW.trod enc Try.prog w 0 (fun _ => true) true n' 9 (List.take (Try.prog.cellsOf 9) [c2]) = some y2 := hfl 2 _ rfl
        rw [q43] at e0
        rw [q2] at e1
        rw [q9] at e2
        obtain ⟨k, g0, -, wk⟩ := DataW.trod_int Try.underlying43 e0
        obtain ⟨z, g1, -, wz⟩ := DataW.trod_int Try.underlying2 e1
        obtain ⟨s, g2, -, ws⟩ := DataW.trod_string Try.underlying9 e2
        have k0 : c0 = .int .i64 k := by simpa using g0
        have k1 : c1 = .int .i64 z := by simpa using g1
        have k2 : c2 = .string s := by simpa using g2
        refine ⟨(k, z, s), ?_, ?_, ?_, ws, in64_of wz⟩
        · have := hat 0 (by omega)
          rw [Addr.add_add] at this
          rw [← k0]
          exact this
        · have := hat 1 (by omega)
          rw [Addr.add_add] at this
          rw [← k1]
          exact this
        · have := hat 2 (by omega)
          rw [Addr.add_add] at this
          rw [← k2]
          exact this
    have hch : ∃ f : Nat → V3, ∀ i, i < len → w.cell? (a.add (i * 3)) = some (.int .i64 (f i).1) ∧ w.cell? (a.add (i * 3 + 1)) = some (.int .i64 (f i).2.1) ∧ w.cell? (a.add (i * 3 + 2)) = some (.string (f i).2.2) ∧ (f i).2.2.size ≤ 9223372036854775807 ∧ In64 (f i).2.1 :=
      ⟨fun i => if h : i < len then (hone i h).choose else nul, fun i h => by simp only [dif_pos h]; exact (hone i h).choose_spec⟩
    obtain ⟨f, hf'⟩ := hch
    refine ⟨by omega, (List.range len).map f, by simp, ?_, ?_, ?_⟩
    · intro i hi'
      have hil : i < len := by simpa using hi'
      have h0 : 0 < len := by omega
      obtain ⟨b, off, spot⟩ := a
      have hspot : spot = none := by simpa [Addr.add] using World.cell?_spot (hf' 0 h0).1
      subst hspot
      obtain ⟨d0, d1, d2, _, _⟩ := hf' i hil
      have e : ((List.range len).map f).getD i nul = f i := by simp [List.getD_eq_getElem?_getD, hil]
      rw [e]
      rw [add_plain] at d0 d1 d2
      exact ⟨b, off, rfl, d0, d1, d2⟩
    · intro y hy
      obtain ⟨i, hi', rfl⟩ := List.mem_map.1 hy
      exact (hf' i (by simpa using hi')).2.2.2.1
    · intro y hy
      obtain ⟨i, hi', rfl⟩ := List.mem_map.1 hy
      exact (hf' i (by simpa using hi')).2.2.2.2
end Go.Proofs.Ytoknfdgejiachaa
