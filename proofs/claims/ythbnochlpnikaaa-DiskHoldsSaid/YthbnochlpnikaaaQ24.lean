/- What each statement of this seat wants beside its walk: a start that fits, arguments that read as they did, values that were handed in. -/
import Derived.Test.YthbnochlpnikaaaQ21
import Derived.ProofKit
import Derived.OpenShut
import Derived.Deep.DeepHandedRow
import Derived.Deep.DeepWitnessRowRef
import Derived.Deep.Slices
import Derived.Lib.SmallJoins
namespace Go.Proofs.Ythbnochlpnikaaa
open Go.ChangeShapes Go.WideShapes Go.ChangeAt Go.RowKit

theorem own : ownKnob Try.prog.godebug = none := by kernel_rfl

/-- Arguments of whatever shape read behind the call as before, where below the call's own blocks nothing has turned. -/
theorem trodAll_stays {H : Type} {enc : TypeId × Value → H} {P : Program} (hl : laidOutB P = true) {W W' : World} (hb : Below W.heap.size W W') :
    ∀ (ts : List TypeId), (∀ t ∈ ts, P.readableRec t = true ∧ t < P.types.size) → ∀ (vs : List Value) (ds : List (DataW H)) (ps : List MemPlace), DataW.TrodAll enc P W 0 (fun _ => true) true ts vs ds ps → (∀ x ∈ ps, x.block < W.heap.size) →
      DataW.TrodAll enc P W' 0 (fun b => decide (b < W.heap.size)) true ts vs ds ps
  | [], _, vs, ds, ps, h, _ => by
    obtain ⟨rfl, rfl, rfl⟩ := trodAll_nil h
    exact trodAll_mk0
  | t :: ts, ht, vs, ds, ps, h, hp => by
    obtain ⟨v, vs', d, ds', p, q, rfl, rfl, rfl, h0, h1⟩ := trodAll_cons h
    obtain ⟨r1, r2⟩ := ht t (by simp)
    exact trodAll_cons_mk (Below.trod hl r1 r2 h0 hb (fun x hx => hp x (by simp [hx]))) (trodAll_stays hl hb ts (fun u hu => ht u (by simp [hu])) vs' ds' q h1 (fun x hx => hp x (by simp [hx])))

/-- A law that answers true and leaves what was there as it was meets its row. -/
theorem law_true {H : Type} {enc : TypeId × Value → H} {f : Func} {s : ChangeSpec} {W W' : World} {args : Array Value} {ds gs : List (DataW H)} {before : List MemPlace}
    (hW : DataW.Whole enc Try.prog f.params.toList s.vars false W args.toList ds gs before) (hv : s.vars = []) (hfn : (s.fn H (ds ++ gs)).results = [.lit (.bool true)] ∧ (s.fn H (ds ++ gs)).args = ds ∧ (s.fn H (ds ++ gs)).vars = [])
    (hr : f.resultTypes = #[4]) (hread : (f.params.toList.all fun t => Try.prog.readableRec t && decide (t < Try.prog.types.size)) = true) (hb : Below W.heap.size W W') :
    s.post enc Try.prog f false true false false W args (.bool true) W' := by
  have hW' := hW
  obtain ⟨p, q, hA, hV, hpq, _, _⟩ := hW
  have hlt : ∀ x ∈ before, x.block < W.heap.size := fun x hx => hW'.lt x hx
  refine ⟨ds, gs, before, [], p, [], hW', ?_, ?_, ?_, hb.frame _, fun h => by cases h⟩
  · rw [hfn.1, hr]
    exact trodAll_mk1 (shut_bool Try.underlying4 _)
  · rw [hfn.2.1]
    exact trodAll_stays (by kernel_rfl) hb _ (fun t ht => by simpa using List.all_eq_true.1 hread t ht) _ _ _ hA (fun x hx => hlt x (by rw [hpq]; simp [hx]))
  · rw [hfn.2.2, hv]
    rfl
noncomputable def laidWorld (os : Os) : World := World.holding Try.prog os ⟨#[], #[], []⟩
theorem laid_met (os : Os) (args : Array Value) : laidMet Try.prog ([] : List (String × DataW Unit)) ((laidWorld os).forCall (fun _ _ => 0) ⟨#[], args, []⟩).memory :=
  laidMet_of_run' 8 (by kernel_rfl) (by kernel_rfl)
open Go.Joins

theorem okWide_array {P : Program} {w : World} {r : Reach} {base n : Nat} {t e : TypeId} {v : Value} (ht : P.underlying t = some (.array n e)) (h : Value.okWide P w r base t v) : ∃ cs, v = .agg cs ∧ cs.size = P.cellsOf t := by
  simp only [Value.okWide, ht] at h
  obtain ⟨cs, h1, h2, _⟩ := h
  exact ⟨cs, h1, h2⟩
theorem wf_u8 {n : Int} (h : (Lit.int .u8 n).wf = true) : 0 ≤ n ∧ n < 256 := by
  simp [Lit.wf] at h
  have hm : IntKind.u8.min = 0 := rfl
  have hM : IntKind.u8.max = 255 := rfl
  omega
open Go.RowKit
set_option maxRecDepth 100000 in
/-- A slice of truths that is handed in. -/
theorem open_bools {H : Type} {enc : TypeId × Value → H} {w : World} {fuel : Nat} {a0 : Option Addr} {len cap : Nat} {x : DataW H × List MemPlace}
    (hf : DataW.trod enc Try.prog w 0 (fun _ => true) true fuel 23 [.slice a0 len cap] = some x) :
    len ≤ cap ∧ cap ≤ maxLen ∧ (a0 = none → cap = 0) ∧ ∃ l : List Bool, l.length = len ∧ BoolsAt w a0 l := by
  rcases Deep.open_slice1 Try.underlying23 (by kernel_rfl) hf with ⟨hcs, -⟩ | ⟨a, len', cap', m, n, V, D, Pl, hcs, -, hl, hm, hmm, -, hi⟩
  · simp only [List.cons.injEq, Value.slice.injEq, and_true] at hcs
    obtain ⟨rfl, rfl, rfl⟩ := hcs
    exact ⟨Nat.le_refl _, Nat.zero_le _, fun _ => rfl, [], rfl, fun i b hb => by cases hb⟩
  · simp only [List.cons.injEq, Value.slice.injEq, and_true] at hcs
    obtain ⟨rfl, rfl, rfl⟩ := hcs
    have hone : ∀ i, i < len → ∃ b : Bool, w.cell? (a.add i) = some (.bool b) := by
      intro i hil
      obtain ⟨hc, ht⟩ := hi i (by rw [hmm]; simp; omega)
      obtain ⟨b, hb, -⟩ := DataW.trod_bool Try.underlying4 ht
      simp at hb
      exact ⟨b, by rw [hc, hb]⟩
    have hch : ∃ f : Nat → Bool, ∀ i, i < len → w.cell? (a.add i) = some (.bool (f i)) :=
      ⟨fun i => if h : i < len then (hone i h).choose else false, fun i h => by simp only [dif_pos h]; exact (hone i h).choose_spec⟩
    obtain ⟨f, hf'⟩ := hch
    refine ⟨hl, hm, (fun e => by cases e), (List.range len).map f, by simp, fun i b hb => ?_⟩
    have hil : i < len := by
      have := (List.getElem?_eq_some_iff.1 hb).1
      simpa using this
    have hc := hf' i hil
    obtain ⟨B, off, spot⟩ := a
    have hspot : spot = none := by
      have h0 := hf' 0 (by omega)
      simpa [Addr.add] using World.cell?_spot h0
    subst hspot
    rw [addr_plain] at hc
    refine ⟨B, off, rfl, ?_⟩
    rw [List.getElem?_map, List.getElem?_range hil] at hb
    simp only [Option.map_some, Option.some.injEq] at hb
    rw [hc, hb]
set_option maxRecDepth 100000 in
/-- A slice of pairs of bytes that is handed in. -/
theorem open_pairs {H : Type} {enc : TypeId × Value → H} {w : World} {fuel : Nat} {a0 : Option Addr} {len cap : Nat} {x : DataW H × List MemPlace}
    (hf : DataW.trod enc Try.prog w 0 (fun _ => true) true fuel 45 [.slice a0 len cap] = some x) :
    ∃ l : List (Nat × Nat), l.length = len ∧ (∀ y ∈ l, y.1 < 256 ∧ y.2 < 256) ∧ PairsAt w a0 l := by
  rcases Deep.open_slice Try.underlying45 hf with ⟨hcs, -⟩ | ⟨a, len', cap', m, n, D, Pl, hcs, -, hl, hm, hmm, -, hi⟩
  · simp only [List.cons.injEq, Value.slice.injEq, and_true] at hcs
    obtain ⟨rfl, rfl, rfl⟩ := hcs
    exact ⟨[], rfl, fun y hy => (by cases hy), fun i b hb => by cases hb⟩
  · simp only [List.cons.injEq, Value.slice.injEq, and_true] at hcs
    obtain ⟨rfl, rfl, rfl⟩ := hcs
    have hone : ∀ i, i < len → ∃ y : Nat × Nat, w.cell? (a.add (i * 2)) = some (.int .u8 y.1) ∧ w.cell? (a.add (i * 2 + 1)) = some (.int .u8 y.2) ∧ y.1 < 256 ∧ y.2 < 256 := by
      intro i hil
      obtain ⟨cs', hc, ht⟩ := hi i (by rw [hmm]; simp; omega)
      rw [show Try.prog.cellsOf 48 = 2 by kernel_rfl] at hc
      obtain ⟨_, hcl, hat⟩ := World.cells?_some hc
      obtain ⟨xs, m', _, hx, _, hn, hj⟩ := DataW.trod_array Try.underlying48 ht
      have q5 : Try.prog.cellsOf 5 = 1 := by kernel_rfl
      match cs', hcl, xs, hn with
      | [c0, c1], _, [x0, x1], _ =>
        obtain ⟨z0, g0, -, w0⟩ := DataW.trod_int Try.underlying5 (show DataW.trod enc Try.prog w 0 (fun _ => true) true m' 5 [c0] = some x0 by simpa [q5] using hj 0 (by decide))
        obtain ⟨z1, g1, -, w1⟩ := DataW.trod_int Try.underlying5 (show DataW.trod enc Try.prog w 0 (fun _ => true) true m' 5 [c1] = some x1 by simpa [q5] using hj 1 (by decide))
        have k0 : c0 = .int .u8 z0 := by simpa using g0
        have k1 : c1 = .int .u8 z1 := by simpa using g1
        obtain ⟨a0', b0'⟩ := wf_u8 w0
        obtain ⟨a1', b1'⟩ := wf_u8 w1
        refine ⟨(z0.toNat, z1.toNat), ?_, ?_, by simp only; omega, by simp only; omega⟩
        · have := hat 0 (by omega)
          rw [Addr.add_add] at this
          simp only [Int.toNat_of_nonneg a0']
          rw [← k0]
          exact this
        · have := hat 1 (by omega)
          rw [Addr.add_add] at this
          simp only [Int.toNat_of_nonneg a1']
          rw [← k1]
          exact this
    have hch : ∃ f : Nat → Nat × Nat, ∀ i, i < len → w.cell? (a.add (i * 2)) = some (.int .u8 (f i).1) ∧ w.cell? (a.add (i * 2 + 1)) = some (.int .u8 (f i).2) ∧ (f i).1 < 256 ∧ (f i).2 < 256 :=
      ⟨fun i => if h : i < len then (hone i h).choose else (0, 0), fun i h => by simp only [dif_pos h]; exact (hone i h).choose_spec⟩
    obtain ⟨f, hf'⟩ := hch
    refine ⟨(List.range len).map f, by simp, fun y hy => ?_, fun i b hb => ?_⟩
    · obtain ⟨i, hi', rfl⟩ := List.mem_map.1 hy
      exact (hf' i (by simpa using hi')).2.2
    · have hil : i < len := by
        have := (List.getElem?_eq_some_iff.1 hb).1
        simpa using this
      obtain ⟨h1, h2, -⟩ := hf' i hil
      obtain ⟨B, off, spot⟩ := a
      have hspot : spot = none := by
        have h0 := (hf' 0 (by omega)).1
        simpa [Addr.add] using World.cell?_spot h0
      subst hspot
      rw [addr_plain] at h1 h2
      rw [List.getElem?_map, List.getElem?_range hil] at hb
      simp only [Option.map_some, Option.some.injEq] at hb
      subst hb
      refine ⟨B, off, rfl, ?_, ?_⟩
      · rw [show off + 2 * i = off + i * 2 by omega]; exact h1
      · rw [show off + (2 * i + 1) = off + (i * 2 + 1) by omega]; exact h2
end Go.Proofs.Ythbnochlpnikaaa
