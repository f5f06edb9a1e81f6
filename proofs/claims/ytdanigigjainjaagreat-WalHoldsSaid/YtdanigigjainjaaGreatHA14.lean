/- WalHolds: for every input the call returns true and leaves its arguments as they were. Condition: none besides the form's own. -/
import Derived.Test.YtdanigigjainjaaGreatHA13
import Derived.SizedLaws
import Derived.Test.YtdanigigjainjaaGreatRows
namespace Go.Proofs.YtdanigigjainjaaGreat
open Go.ChangeShapes Go.WideShapes Go.ChangeAt Go.RowKit Go.Joins
set_option maxRecDepth 100000
set_option maxHeartbeats 1000000

/-- A slice of truths that is handed in. -/
theorem open_truths {H : Type} {enc : TypeId × Value → H} {w : World} {fuel : Nat} {a0 : Option Addr} {len cap : Nat} {x : DataW H × List MemPlace}
    (hf : DataW.trod enc Tryz.prog w 0 (fun _ => true) true fuel 64 [.slice a0 len cap] = some x) :
    len ≤ cap ∧ cap ≤ maxLen ∧ (a0 = none → cap = 0) ∧ ∃ l : List Bool, l.length = len ∧ Dk.BoolsAt w a0 l := by
  rcases Deep.open_slice1 Tryz.underlying64 (by kernel_rfl) hf with ⟨hcs, -⟩ | ⟨a, len', cap', m, n, V, D, Pl, hcs, -, hl, hm, hmm, -, hi⟩
  · simp only [List.cons.injEq, Value.slice.injEq, and_true] at hcs
    obtain ⟨rfl, rfl, rfl⟩ := hcs
    exact ⟨Nat.le_refl _, Nat.zero_le _, fun _ => rfl, [], rfl, fun i b hb => by cases hb⟩
  · simp only [List.cons.injEq, Value.slice.injEq, and_true] at hcs
    obtain ⟨rfl, rfl, rfl⟩ := hcs
    have hone : ∀ i, i < len → ∃ b : Bool, w.cell? (a.add i) = some (.bool b) := by
      intro i hil
      obtain ⟨hc, ht⟩ := hi i (by rw [hmm]; simp; omega)
      obtain ⟨b, hb, -⟩ := DataW.trod_bool Tryz.underlying4 ht
      simp at hb
      exact ⟨b, by rw [hc, hb]⟩
    have hch : ∃ f : Nat → Bool, ∀ i, i < len → w.cell? (a.add i) = some (.bool (f i)) :=
      ⟨fun i => if h : i < len then (hone i h).choose else false, fun i h => by simp only [dif_pos h]; exact (hone i h).choose_spec⟩
    obtain ⟨f, hf'⟩ := hch
    refine ⟨hl, hm, (fun e => by cases e), (List.range len).map f, by simp, fun i b hb => ?_⟩
    have hil : i < len := by
      have := (List.getElem?_eq_some_iff.1 hb).1
      simpa using this
    have hc := hf' i hil
    obtain ⟨B, off, spot⟩ := a
    have hspot : spot = none := by
      have h0 := hf' 0 (by omega)
      simpa [Addr.add] using World.cell?_spot h0
    subst hspot
    rw [addr_plain] at hc
    refine ⟨B, off, rfl, ?_⟩
    rw [List.getElem?_map, List.getElem?_range hil] at hb
    simp only [Option.map_some, Option.some.injEq] at hb
    rw [hc, hb]
/-- A slice of numbers that is handed in. -/
theorem open_nums {H : Type} {enc : TypeId × Value → H} {w : World} {fuel : Nat} {a0 : Option Addr} {len cap : Nat} {x : DataW H × List MemPlace}
    (hf : DataW.trod enc Tryz.prog w 0 (fun _ => true) true fuel 63 [.slice a0 len cap] = some x) : len ≤ cap ∧ cap ≤ maxLen ∧ ∃ ps : Nat → Int, NumRow w a0 len ps := by
  rcases open_ints Tryz.underlying63 Tryz.underlying3 (by kernel_rfl) hf with ⟨hcs, -⟩ | ⟨a, len', cap', zs, hcs, -, hl, hm, hzl, -, hcell, hwf⟩
  · simp only [List.cons.injEq, Value.slice.injEq, and_true] at hcs
    obtain ⟨rfl, rfl, rfl⟩ := hcs
    exact ⟨Nat.zero_le _, Nat.zero_le _, fun _ => 0, fun i hi => absurd hi (Nat.not_lt_zero i)⟩
  · simp only [List.cons.injEq, Value.slice.injEq, and_true] at hcs
    obtain ⟨rfl, rfl, rfl⟩ := hcs
    have hz : zs.length = cap := by simpa using hzl
    clear hzl
    refine ⟨hl, hm, fun i => zs.getD i 0, fun i hil => ?_⟩
    obtain ⟨b, off, spot⟩ := a
    have c := hcell i (by omega)
    have hspot : spot = none := by
      have h0 := hcell 0 (by omega)
      simpa [Addr.add] using World.cell?_spot h0
    subst hspot
    rw [addr_plain] at c
    exact ⟨b, off, rfl, c⟩
/-- What an act's slices have. -/
structure ActC (w : World) (x : ActV) (ps : Nat → Int) (bs : Nat → Nat) (kp : List Bool) : Prop where
  nums : NumRow w x.q1 x.n1 ps
  octs : OctRow w x.q2 x.n2 bs
  lt : ∀ j, bs j < 256
  keep : kp.length = x.n3 ∧ Dk.BoolsAt w x.q3 kp ∧ (x.q3 = none → x.c3 = 0) ∧ x.n3 ≤ x.c3 ∧ x.c3 ≤ 9223372036854775807
  most : x.n1 ≤ 9223372036854775807 ∧ x.n2 ≤ 9223372036854775807
theorem is_slice {H : Type} {enc : TypeId × Value → H} {P : Program} {w : World} {fuel : Nat} {t e : TypeId} {c : Value} {x : DataW H × List MemPlace} (ht : P.underlying t = some (.slice e)) (hf : DataW.trod enc P w 0 (fun _ => true) true fuel t [c] = some x) : ∃ a l k, c = .slice a l k := by
  rcases Deep.open_slice ht hf with ⟨hcs, -⟩ | ⟨a, len', cap', m, n, D, Pl, hcs, -⟩
  · simp at hcs; exact ⟨_, _, _, hcs⟩
  · simp at hcs; exact ⟨_, _, _, hcs⟩
theorem array2 {α : Type} {cs : Array α} (h : cs.size = 2) : ∃ c0 c1, cs = #[c0, c1] := by
  obtain ⟨l⟩ := cs
  match l, h with
  | [c0, c1], _ => exact ⟨c0, c1, rfl⟩
/-- Two numbers that are handed in. -/
theorem open_two {H : Type} {enc : TypeId × Value → H} {w : World} {b0 : Nat} {r : Reach} {v : Value} {d : DataW H} {p : List MemPlace} (hv : Value.okWide Tryz.prog w r b0 61 v) (h : DataW.Trod enc Tryz.prog w 0 (fun _ => true) true 61 v d p) : ∃ a b : Int, v = .agg #[.int .i64 a, .int .i64 b] := by
  have hc2 : Tryz.prog.cellsOf 61 = 2 := by kernel_rfl
  obtain ⟨cs, rfl, hsz⟩ := okWide_array Tryz.underlying61 hv
  obtain ⟨c0, c1, rfl⟩ := array2 (hsz.trans hc2)
  obtain ⟨fuel, hf⟩ := h
  obtain ⟨xs, m, _, hx, _, hn, hi⟩ := DataW.trod_array Tryz.underlying61 hf
  have hc : Tryz.prog.cellsOf 3 = 1 := by kernel_rfl
  match xs, hn with
  | [x0, x1], _ =>
    have e0 : DataW.trod enc Tryz.prog w 0 (fun _ => true) true m 3 [c0] = some x0 := by simpa [hc, Value.cells] using hi 0 (by decide)
    have e1 : DataW.trod enc Tryz.prog w 0 (fun _ => true) true m 3 [c1] = some x1 := by simpa [hc, Value.cells] using hi 1 (by decide)
    obtain ⟨z0, g0, -, -⟩ := DataW.trod_int Tryz.underlying3 e0
    obtain ⟨z1, g1, -, -⟩ := DataW.trod_int Tryz.underlying3 e1
    have k0 : c0 = .int .i64 z0 := by simpa using g0
    have k1 : c1 = .int .i64 z1 := by simpa using g1
    exact ⟨z0, z1, by rw [k0, k1]⟩
/-- An act that is handed in. -/
theorem open_act06 {H : Type} {enc : TypeId × Value → H} {w : World} {fuel : Nat} {cs : List Value} {x : DataW H × List MemPlace} (hl : cs.length = 5) (ht : DataW.trod enc Tryz.prog w 0 (fun _ => true) true fuel 66 cs = some x) :
    ∃ (y : ActV) (ps : Nat → Int) (bs : Nat → Nat) (kp : List Bool), cs = y.cs.toList ∧ ActC w y ps bs kp := by
  obtain ⟨ys, n', _, _, _, hyl, hfl⟩ := DataW.trod_struct Tryz.underlying66 ht
  match cs, hl, ys, hyl with
  | [c0, c1, c2, c3, c4], _, [y0, y1, y2, y3, y4], _ =>
    have q3 : Tryz.prog.cellsOf 3 = 1 := by kernel_rfl
    have qn : Tryz.prog.cellsOf 63 = 1 := by kernel_rfl
    have qo : Tryz.prog.cellsOf 49 = 1 := by kernel_rfl
    have qb : Tryz.prog.cellsOf 64 = 1 := by kernel_rfl
    have e0 : DataW.trod enc Tryz.prog w 0 (fun _ => true) true n' 3 (List.take (Tryz.prog.cellsOf 3) [c0, c1, c2, c3, c4]) = some y0 := hfl 0 _ rfl
    have e1 : DataW.trod enc Tryz.prog w 0 (fun _ => true) true n' 3 (List.take (Tryz.prog.cellsOf 3) [c1, c2, c3, c4]) = some y1 := hfl 1 _ rfl
    have e2 : DataW.trod enc Tryz.prog w 0 (fun _ => true) true n' 63 (List.take (Tryz.prog.cellsOf 63) [c2, c3, c4]) = some y2 := hfl 2 _ rfl
    have e3 : DataW.trod enc Tryz.prog w 0 (fun _ => true) true n' 49 (List.take (Tryz.prog.cellsOf 49) [c3, c4]) = some y3 := hfl 3 _ rfl
    have e4 : DataW.trod enc Tryz.prog w 0 (fun _ => true) true n' 64 (List.take (Tryz.prog.cellsOf 64) [c4]) = some y4 := hfl 4 _ rfl
    rw [q3] at e0 e1
    rw [qn] at e2
    rw [qo] at e3
    rw [qb] at e4
    obtain ⟨z0, g0, -, w0⟩ := DataW.trod_int Tryz.underlying3 e0
    obtain ⟨z1, g1, -, w1⟩ := DataW.trod_int Tryz.underlying3 e1
    have k0 : c0 = .int .i64 z0 := by simpa using g0
    have k1 : c1 = .int .i64 z1 := by simpa using g1
    have e2' : DataW.trod enc Tryz.prog w 0 (fun _ => true) true n' 63 [c2] = some y2 := by simpa using e2
    have e3' : DataW.trod enc Tryz.prog w 0 (fun _ => true) true n' 49 [c3] = some y3 := by simpa using e3
    have e4' : DataW.trod enc Tryz.prog w 0 (fun _ => true) true n' 64 [c4] = some y4 := by simpa using e4
    obtain ⟨a2, l2, k2, rfl⟩ := is_slice Tryz.underlying63 e2'
    obtain ⟨a3, l3, k3, rfl⟩ := is_slice Tryz.underlying49 e3'
    obtain ⟨a4, l4, k4, rfl⟩ := is_slice Tryz.underlying64 e4'
    obtain ⟨h1, h2, ps, h3⟩ := open_nums e2'
    obtain ⟨o1, o2, bl, o3, o4, o5⟩ := open_bytes (d := y3.1) (p := y3.2) ⟨n', e3'⟩
    obtain ⟨t1, t2, t3, kp, t4, t5⟩ := open_truths e4'
    unfold maxLen at h2 o2 t2
    refine ⟨⟨z0, z1, a2, l2, k2, a3, l3, k3, a4, l4, k4⟩, ps, fun j => bl.getD j 0, kp, by rw [k0, k1], ⟨h3, fun j hj => o5 j (by rw [o3]; exact hj), fun j => ?_, ⟨t4, t5, t3, t1, by simp only; omega⟩, by simp only; omega⟩⟩
    rcases Nat.lt_or_ge j bl.length with hj | hj
    · simp only [List.getD_eq_getElem?_getD, List.getElem?_eq_getElem hj, Option.getD_some]
      exact o4 _ (List.getElem_mem hj)
    · simp only [List.getD_eq_getElem?_getD, List.getElem?_eq_none hj, Option.getD_none]
      omega
/-- A slice of acts that is handed in. -/
theorem open_acts06 {H : Type} {enc : TypeId × Value → H} {w : World} {fuel : Nat} {a0 : Option Addr} {len cap : Nat} {x : DataW H × List MemPlace}
    (hf : DataW.trod enc Tryz.prog w 0 (fun _ => true) true fuel 60 [.slice a0 len cap] = some x) :
    len ≤ 9223372036854775807 ∧ ∃ (A : List ActV) (P : Nat → Nat → Int) (Bs : Nat → Nat → Nat) (Kp : Nat → List Bool), A.length = len ∧ ActsIn w a0 A P Bs Kp ∧ ∀ x ∈ A, x.n1 ≤ 9223372036854775807 ∧ x.n3 ≤ 9223372036854775807 := by
  rcases Deep.open_slice Tryz.underlying60 hf with ⟨hcs, -⟩ | ⟨a, len', cap', m, n, D, Pl, hcs, -, hl, hm, hmm, hx, hi⟩
  · simp only [List.cons.injEq, Value.slice.injEq, and_true] at hcs
    obtain ⟨rfl, rfl, rfl⟩ := hcs
    exact ⟨Nat.zero_le _, [], fun _ _ => 0, fun _ _ => 0, fun _ => [], rfl, ⟨fun i x h => by simp at h, fun i x h => by simp at h, fun i x h => by simp at h, fun _ _ => by decide, fun i x h => by simp at h⟩, fun x h => by cases h⟩
  · simp only [List.cons.injEq, Value.slice.injEq, and_true] at hcs
    obtain ⟨rfl, rfl, rfl⟩ := hcs
    have hone : ∀ i, i < len → ∃ d : ActV × (Nat → Int) × (Nat → Nat) × List Bool, (∀ j v, d.1.cs[j]? = some v → w.cell? (a.add (i * 5 + j)) = some v) ∧ ActC w d.1 d.2.1 d.2.2.1 d.2.2.2 := by
      intro i hil
      obtain ⟨cs', hc, ht⟩ := hi i (by rw [hmm]; simp; omega)
      rw [show Tryz.prog.cellsOf 66 = 5 by kernel_rfl] at hc
      obtain ⟨_, hcl, hat⟩ := World.cells?_some hc
      obtain ⟨y, ps, bs, kp, hy, hay⟩ := open_act06 hcl ht
      refine ⟨⟨y, ps, bs, kp⟩, fun j v hv => ?_, hay⟩
      rw [← Array.getElem?_toList, ← hy] at hv
      have hj : j < cs'.length := (List.getElem?_eq_some_iff.1 hv).1
      have := hat j (by omega)
      rw [Addr.add_add] at this
      rw [this, ← hv]
      try simp [hj]
    have hch : ∃ f : Nat → ActV × (Nat → Int) × (Nat → Nat) × List Bool, ∀ i, i < len → (∀ j v, (f i).1.cs[j]? = some v → w.cell? (a.add (i * 5 + j)) = some v) ∧ ActC w (f i).1 (f i).2.1 (f i).2.2.1 (f i).2.2.2 :=
      ⟨fun i => if h : i < len then (hone i h).choose else ⟨⟨0, 0, none, 0, 0, none, 0, 0, none, 0, 0⟩, fun _ => 0, fun _ => 0, []⟩, fun i h => by simp only [dif_pos h]; exact (hone i h).choose_spec⟩
    obtain ⟨f, hf'⟩ := hch
    have key : ∀ (i : Nat) (y : ActV), ((List.range len).map fun i => (f i).1)[i]? = some y → i < len ∧ y = (f i).1 := fun i y hy => by
      have hil : i < len := by
        have := (List.getElem?_eq_some_iff.1 hy).1
        simpa using this
      rw [List.getElem?_map, List.getElem?_range hil] at hy
      simp only [Option.map_some, Option.some.injEq] at hy
      exact ⟨hil, hy.symm⟩
    unfold maxLen at hm
    refine ⟨by omega, (List.range len).map fun i => (f i).1, fun i => (f i).2.1, fun i j => if i < len then (f i).2.2.1 j else 0, fun i => (f i).2.2.2, by simp, ⟨fun i y hy => ?_, fun i y hy => ?_, fun i y hy => ?_, fun i j => ?_, fun i y hy => ?_⟩, fun y hy => ?_⟩
    · obtain ⟨hil, rfl⟩ := key i y hy
      obtain ⟨h1, -⟩ := hf' i hil
      obtain ⟨B, off, spot⟩ := a
      have hspot : spot = none := by
        have h0 := (hf' 0 (by omega)).1 0 _ rfl
        simpa [Addr.add] using World.cell?_spot h0
      subst hspot
      refine ⟨B, off, rfl, fun j v hv => ?_⟩
      have := h1 j v hv
      rw [addr_plain] at this
      rw [Nat.add_assoc]
      exact this
    · obtain ⟨hil, rfl⟩ := key i y hy
      exact (hf' i hil).2.nums
    · obtain ⟨hil, rfl⟩ := key i y hy
      refine ⟨fun j hj => ?_, (hf' i hil).2.most.2⟩
      simp only [if_pos hil]
      exact (hf' i hil).2.octs j hj
    · by_cases hil : i < len
      · simp only [if_pos hil]
        exact (hf' i hil).2.lt j
      · simp only [if_neg hil]
        omega
    · obtain ⟨hil, rfl⟩ := key i y hy
      exact (hf' i hil).2.keep
    · obtain ⟨i, hi', rfl⟩ := List.mem_map.1 hy
      have h := (hf' i (by simpa using hi')).2
      exact ⟨h.most.1, Nat.le_trans h.keep.2.2.2.1 h.keep.2.2.2.2⟩
end Go.Proofs.YtdanigigjainjaaGreat
namespace Go.Proofs.YtdanigigjainjaaGreat.WalH
open Go.ChangeShapes Go.WideShapes Go.ChangeAt Go.RowKit Go.Joins

set_option maxRecDepth 100000 in
theorem contract (H : Type) (enc : TypeId × Value → H) (W : World) (base : Nat) (args : Array Value) (ds gs : List (DataW H)) (before : List MemPlace)
    (hval : ∀ (j : Nat) t v, Tryz.f4.params[j]? = some t → args[j]? = some v → Value.okWide Tryz.prog W .any base t v)
    (hW : DataW.Whole enc Tryz.prog Tryz.f4.params.toList Rows.walHoldsSpec.vars false W args.toList ds gs before) :
    Calls Tryz.prog 4 args W fun e W' => ∃ v, e = .returned v ∧ Rows.walHoldsSpec.post enc Tryz.prog Tryz.f4 false true false false W args v W' := by
  have hW' := hW
  obtain ⟨p, q, hA0, hV, rfl, hfz, hnd⟩ := hW
  have hA : DataW.TrodAll enc Tryz.prog W 0 (fun _ => true) true Tryz.f4.params.toList args.toList ds p := hA0
  rw [Tryz.params4] at hA hval
  obtain ⟨v0, vs0, d0, ds0, p0, q0, hargs, rfl, rfl, h0, r0⟩ := trodAll_cons hA
  obtain ⟨v1, vs1, d1, ds1, p1, q1, rfl, rfl, rfl, h1, r1⟩ := trodAll_cons r0
  obtain ⟨v2, vs2, d2, ds2, p2, q2, rfl, rfl, rfl, h2, r2⟩ := trodAll_cons r1
  obtain ⟨rfl, rfl, rfl⟩ := trodAll_nil r2
  obtain rfl : args = #[v0, v1, v2] := by cases args; simp_all
  obtain ⟨rfl, rfl⟩ := trodVars_none hV
  have hpl := open_plan (hval 0 _ v0 rfl rfl) h0
  obtain ⟨a0, len, cap, rfl⟩ := okWide_slice Tryz.underlying60 (hval 1 _ v1 rfl rfl)
  obtain ⟨fuel1, hf1⟩ := h1
  obtain ⟨hlen, A, P, Bs, Kp, rfl, hin, hall⟩ := open_acts06 hf1
  obtain ⟨a, b, rfl⟩ := open_two (hval 2 _ v2 rfl rfl) h2
  obtain ⟨f, pg, rfl, -⟩ := hpl
  have fin := holds06 f pg a b A a0 cap P Bs Kp W hin hlen hall
  refine fin.mono fun e W' ⟨he, hb⟩ => ⟨_, he, law_true hW' rfl ⟨rfl, rfl, rfl⟩ (by kernel_rfl) (by kernel_rfl) hb⟩

theorem reads (os : Os) {H : Type} (enc : TypeId × Value → H) : ∃ places, DataW.whole enc Tryz.prog ((laidWorld os).forCall (fun _ _ => 0) ⟨#[], #[.agg #[.int .i64 0, .int .i64 0], .slice none 0 0, .agg #[.int .i64 0, .int .i64 0]], []⟩).memory Tryz.f4.params.toList Rows.walHoldsSpec.vars false (#[.agg #[.int .i64 0, .int .i64 0], .slice none 0 0, .agg #[.int .i64 0, .int .i64 0]] : Array Value).toList 9 = some ([.agg [.lit (.int .i64 0), .lit (.int .i64 0)], .nil, .agg [.lit (.int .i64 0), .lit (.int .i64 0)]], [], places) :=
  ⟨[], by kernel_rfl⟩

set_option maxRecDepth 100000 in
theorem lifted (os : Os) (started : os.Started) (H : Type) (enc : TypeId × Value → H) (F : Stop.Interp) :
    ReturnsInHanded {} Tryz.checked os 4 .any ((OpenSpec.ofChange Rows.walHoldsSpec).preRow enc Tryz.prog Tryz.f4 Rows.walHoldsRow.domain false Rows.walHoldsRow.laid) (((OpenSpec.ofChange Rows.walHoldsSpec).at F).post enc Tryz.prog Tryz.f4 false true false false) := by
  obtain ⟨places, hx⟩ := reads os enc
  refine returnsInHanded_of_row (C := Tryz.checked) (s := OpenSpec.ofChange Rows.walHoldsSpec) own started (by kernel_rfl) Tryz.func4
    (witness_row_at (enc := enc) (C := Tryz.checked) false (laidWorld os) #[.agg #[.int .i64 0, .int .i64 0], .slice none 0 0, .agg #[.int .i64 0, .int .i64 0]] rfl (by kernel_rfl) (by kernel_rfl) (by kernel_rfl)
      (OpenSpec.preRow_of_cond 9 hx (by kernel_rfl) (fun k hk => by cases hk) (by kernel_rfl) (laid_met os _))) ?_
  intro W base args ds gs before hval hW _ _ hsz hL hsh _
  exact contract H enc W base args ds gs before hval hW

theorem said : Rows.WalHoldsSaid :=
  OpenClaim.holds_of_cond 4 Tryz.f4 rfl rfl rfl rfl rfl rfl rfl ⟨rfl, rfl, rfl, rfl, rfl⟩ rfl rfl rfl rfl rfl (by kernel_rfl) Tryz.func4 (by kernel_rfl)
    (of_decide_eq_true (by kernel_rfl)) (by unfold Func.isWrapper; first | (rw [if_pos (by decide +kernel)]; kernel_rfl) | (rw [if_neg (by decide +kernel)]; exact ⟨rfl, rfl⟩))
    (fun os started H enc _ F => by rw [OpenClaim.pre_eq_preRow]; exact lifted os started H enc F)
end Go.Proofs.YtdanigigjainjaaGreat.WalH
namespace Go.Proofs.YtdanigigjainjaaGreat
theorem walHolds_holds : Rows.WalHoldsSaid := WalH.said
end Go.Proofs.YtdanigigjainjaaGreat
