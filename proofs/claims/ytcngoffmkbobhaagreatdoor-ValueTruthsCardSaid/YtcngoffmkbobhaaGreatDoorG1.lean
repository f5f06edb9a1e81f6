/- ValueTruths: for every input the call returns true and leaves its arguments as they were, while the listed library tables and errors hold what the program's text lays; the card ties them to that text. Condition: none besides the form's own. -/
import Derived.Test.YtcngoffmkbobhaaGreatDoorF
import Derived.Test.YtcngoffmkbobhaaGreatDoorT22
import Derived.Lib.SmallJoins
namespace Go.Proofs.YtcngoffmkbobhaaGreatDoor.Truths
open Go.ChangeShapes Go.WideShapes Go.ChangeAt Go.RowKit Go.Joins
open Go.ChangeMaps (open_string shut_string)

set_option maxRecDepth 100000 in
theorem contract (H : Type) (enc : TypeId × Value → H) (W : World) (base : Nat) (args : Array Value) (ds gs : List (DataW H)) (before : List MemPlace)
    (hval : ∀ (j : Nat) t v, Tryz.f4.params[j]? = some t → args[j]? = some v → Value.okWide Tryz.prog W .any base t v)
    (hW : DataW.Whole enc Tryz.prog Tryz.f4.params.toList Rows.valueTruthsSpec.vars false W args.toList ds gs before) (hL : laidMetH Tryz.prog Rows.valueTruthsRow.laid W) (hsh : W.ShapedOpen Tryz.prog) :
    Calls Tryz.prog 4 args W fun e W' => ∃ v, e = .returned v ∧ Rows.valueTruthsSpec.post enc Tryz.prog Tryz.f4 false true false false W args v W' := by
  have hbase : Base W := base_of hL hsh
  have hW' := hW
  obtain ⟨p, q, hA0, hV, rfl, hfz, hnd⟩ := hW
  have hA : DataW.TrodAll enc Tryz.prog W 0 (fun _ => true) true Tryz.f4.params.toList args.toList ds p := hA0
  rw [Tryz.params4] at hA hval
  obtain ⟨v0, vs0, d0, ds0, p0, q0, hargs, rfl, rfl, h0, r0⟩ := trodAll_cons hA
  obtain ⟨v1, vs1, d1, ds1, p1, q1, rfl, rfl, rfl, h1, r1⟩ := trodAll_cons r0
  obtain ⟨v2, vs2, d2, ds2, p2, q2, rfl, rfl, rfl, h2, r2⟩ := trodAll_cons r1
  obtain ⟨rfl, rfl, rfl⟩ := trodAll_nil r2
  obtain rfl : args = #[v0, v1, v2] := by cases args; simp_all
  obtain ⟨rfl, rfl⟩ := trodVars_none hV
  obtain ⟨t, rfl, rfl, rfl, wt⟩ := open_int Tryz.underlying36 (hval 1 36 v1 rfl rfl) h1
  obtain ⟨ca0, ca1, ca2, ya0, ya1, ya2, ma, rfl, rfl, rfl, ea0, ea1, ea2⟩ := open_agg3 Tryz.underlying24 (by kernel_rfl) (by kernel_rfl) (hval 2 24 v2 rfl rfl) h2
  obtain ⟨ka, ga0, rfl, wka⟩ := DataW.trod_int Tryz.underlying22 ea0
  obtain ⟨na, ga1, rfl, wna⟩ := DataW.trod_int Tryz.underlying2 ea1
  obtain ⟨sa, ga2, rfl, wsa⟩ := DataW.trod_string Tryz.underlying9 ea2
  simp only [List.cons.injEq, and_true] at ga0 ga1 ga2
  subst ga0 ga1 ga2
  obtain ⟨a0, len, cap, rfl⟩ := okWide_slice Tryz.underlying35 (hval 0 35 v0 rfl rfl)
  obtain ⟨fuel, hf⟩ := h0
  have fin : Calls Tryz.prog 4 #[.slice a0 len cap, .int .i64 t, .agg #[.int .i64 ka, .int .i64 na, .string sa]] W fun r w' => r = .returned (.bool true) ∧ Below W.heap.size W w' := by
    rcases open_ints Tryz.underlying35 Tryz.underlying36 (by kernel_rfl) hf with ⟨hcs, hx⟩ | ⟨a, len', cap', zs, hcs, _, hl, hm, hz, hx, hcell, hwz⟩
    · simp only [Value.cells, List.cons.injEq, Value.slice.injEq, and_true] at hcs
      obtain ⟨rfl, rfl, rfl⟩ := hcs
      by_cases hs : sa.size ≤ 1100
      · exact truths_zero none 0 t ka na sa W hbase hs
      · exact truths_long none 0 0 t ka na sa W hbase (by omega) (by omega)
    · simp only [Value.cells, List.cons.injEq, Value.slice.injEq, and_true] at hcs
      obtain ⟨rfl, rfl, rfl⟩ := hcs
      unfold maxLen at hm
      have hz' : zs.length = cap := by simpa using hz
      by_cases h12 : 12 < len
      · exact truths_many _ len cap t ka na sa W hbase (by omega) h12
      by_cases hs : sa.size ≤ 1100
      · by_cases hp : 0 < zs.length
        · obtain ⟨b, off, rfl, hc⟩ := ints_at hcell hp
          have e1 : len = (zs.take len).length := by rw [List.length_take]; omega
          have := truths_some b off cap (zs.take len) t ka na sa W hbase hs (by omega) (fun i hi => by
            rw [hc i (by omega)]
            simp [List.getD_eq_getElem?_getD, List.getElem?_take, show i < len by omega])
          rw [← e1] at this
          exact this
        · have e0 : len = 0 := by omega
          subst e0
          exact truths_zero (some a) cap t ka na sa W hbase hs
      · exact truths_long _ len cap t ka na sa W hbase (by omega) (by omega)
  refine fin.mono fun e W' ⟨he, hb⟩ => ⟨_, he, law_true hW' rfl ⟨rfl, rfl, rfl⟩ (by kernel_rfl) (by kernel_rfl) hb⟩

theorem reads (os : Os) {H : Type} (enc : TypeId × Value → H) : ∃ places, DataW.whole enc Tryz.prog ((laidWorld os).forCall (fun _ _ => 0) ⟨#[], #[.slice none 0 0, .int .i64 0, .agg #[.int .i64 0, .int .i64 0, .string ⟨#[]⟩]], []⟩).memory Tryz.f4.params.toList Rows.valueTruthsSpec.vars false (#[.slice none 0 0, .int .i64 0, .agg #[.int .i64 0, .int .i64 0, .string ⟨#[]⟩]] : Array Value).toList 8 = some ([.nil, .lit (.int .i64 0), .agg [.lit (.int .i64 0), .lit (.int .i64 0), .lit (.string [])]], [], places) :=
  ⟨[], by kernel_rfl⟩

set_option maxRecDepth 100000 in
theorem lifted (os : Os) (started : os.Started) (H : Type) (enc : TypeId × Value → H) (F : Stop.Interp) :
    ReturnsInHanded {} Tryz.checked os 4 .any ((OpenSpec.ofChange Rows.valueTruthsSpec).preRow enc Tryz.prog Tryz.f4 Rows.valueTruthsRow.domain false Rows.valueTruthsRow.laid) (((OpenSpec.ofChange Rows.valueTruthsSpec).at F).post enc Tryz.prog Tryz.f4 false true false false) := by
  obtain ⟨places, hx⟩ := reads os enc
  refine returnsInHanded_of_row (C := Tryz.checked) (s := OpenSpec.ofChange Rows.valueTruthsSpec) own started (by kernel_rfl) Tryz.func4
    (witness_row_at (enc := enc) (C := Tryz.checked) false (laidWorld os) #[.slice none 0 0, .int .i64 0, .agg #[.int .i64 0, .int .i64 0, .string ⟨#[]⟩]] rfl (by kernel_rfl) (by kernel_rfl) (by kernel_rfl)
      (OpenSpec.preRow_of_cond 8 hx (by kernel_rfl) (fun k hk => by cases hk) (by kernel_rfl) (laid_met os _))) ?_
  intro W base args ds gs before hval hW _ _ _ hL hsh _
  exact contract H enc W base args ds gs before hval hW hL hsh

theorem said : Rows.ValueTruthsSaid :=
  OpenClaim.holds_of_cond 4 Tryz.f4 rfl rfl rfl rfl rfl rfl rfl ⟨rfl, rfl, rfl, rfl, rfl⟩ rfl rfl rfl rfl rfl (by kernel_rfl) Tryz.func4 (by kernel_rfl)
    (of_decide_eq_true (by kernel_rfl)) (by unfold Func.isWrapper; first | (rw [if_pos (by decide +kernel)]; kernel_rfl) | (rw [if_neg (by decide +kernel)]; exact ⟨rfl, rfl⟩))
    (fun os started H enc _ F => by rw [OpenClaim.pre_eq_preRow]; exact lifted os started H enc F)

theorem plain (f : FuncId) (fn : Func) (hf : Tryz.pinned.checked.prog.funcNamed Rows.valueTruthsRow.func = some f) (hfn : Tryz.pinned.checked.prog.funcs[f]? = some fn) :
    true = Tryz.pinned.checked.prog.looks [] ∧ ∀ (j : Nat) t, fn.params[j]? = some t → Tryz.pinned.checked.prog.wantsStandIn t = false := by
  obtain rfl : f = 4 := Option.some.inj ((show Tryz.prog.funcNamed Rows.valueTruthsRow.func = some 4 by kernel_rfl).symm.trans hf) |>.symm
  obtain rfl : fn = Tryz.f4 := (Option.some.inj (Tryz.func4.symm.trans hfn)).symm
  refine ⟨by kernel_rfl, fun j t ht => ?_⟩
  rw [Tryz.params4] at ht
  have hm := Array.mem_of_getElem? ht
  simp only [List.mem_toArray, List.mem_cons, List.not_mem_nil, or_false] at hm
  rcases hm with rfl | rfl | rfl
  · exact (show Tryz.prog.wantsStandIn 35 = false by kernel_rfl)
  · exact (show Tryz.prog.wantsStandIn 36 = false by kernel_rfl)
  · exact (show Tryz.prog.wantsStandIn 24 = false by kernel_rfl)

end Go.Proofs.YtcngoffmkbobhaaGreatDoor.Truths
namespace Go.Proofs.YtcngoffmkbobhaaGreatDoor
theorem valueTruths_card : Rows.ValueTruthsCardSaid :=
  Claim7.holds_tied_plain_at .later [] _ _ _ _ Truths.said (fun _ h => by cases h) (by kernel_rfl) (fun _ h => by cases h) valueTruths_row_tie rfl ⟨rfl, rfl⟩ (by kernel_rfl) rfl Truths.plain (by kernel_rfl)
end Go.Proofs.YtcngoffmkbobhaaGreatDoor
