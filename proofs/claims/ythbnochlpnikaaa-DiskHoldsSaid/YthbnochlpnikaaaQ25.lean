/- DiskHolds: for every input the call returns true and leaves its arguments as they were. Condition: none besides the form's own. -/
import Derived.Test.YthbnochlpnikaaaQ24
namespace Go.Proofs.Ythbnochlpnikaaa.Holds
open Go.ChangeShapes Go.WideShapes Go.ChangeAt Go.RowKit Go.Joins
open Go.ChangeMaps (open_string shut_string)

theorem okWide_array {P : Program} {w : World} {r : Reach} {base n : Nat} {t e : TypeId} {v : Value} (ht : P.underlying t = some (.array n e)) (h : Value.okWide P w r base t v) : ∃ cs, v = .agg cs ∧ cs.size = P.cellsOf t := by
  simp only [Value.okWide, ht] at h
  obtain ⟨cs, h1, h2, _⟩ := h
  exact ⟨cs, h1, h2⟩
set_option maxRecDepth 100000 in
theorem open_two {H : Type} {enc : TypeId × Value → H} {w : World} {b0 : Nat} {r : Reach} {v : Value} {d : DataW H} {p : List MemPlace} (hv : Value.okWide Try.prog w r b0 46 v) (h : DataW.Trod enc Try.prog w 0 (fun _ => true) true 46 v d p) :
    ∃ a0 len0 cap0 a1 len1 cap1, v = .agg #[.slice a0 len0 cap0, .slice a1 len1 cap1] ∧ (∃ l : List (Nat × Nat), l.length = len0 ∧ (∀ y ∈ l, y.1 < 256 ∧ y.2 < 256) ∧ PairsAt w a0 l) ∧ (∃ l : List (Nat × Nat), l.length = len1 ∧ (∀ y ∈ l, y.1 < 256 ∧ y.2 < 256) ∧ PairsAt w a1 l) := by
  have hc2 : Try.prog.cellsOf 46 = 2 := by kernel_rfl
  obtain ⟨cs, rfl, hsz⟩ := okWide_array Try.underlying46 hv
  obtain ⟨c0, c1, rfl⟩ := array2 (hsz.trans hc2)
  obtain ⟨fuel, hf⟩ := h
  obtain ⟨xs, m, _, hx, _, hn, hi⟩ := DataW.trod_array Try.underlying46 hf
  have hc : Try.prog.cellsOf 45 = 1 := by kernel_rfl
  match xs, hn with
  | [x0, x1], _ =>
    have e0 : DataW.trod enc Try.prog w 0 (fun _ => true) true m 45 [c0] = some x0 := by simpa [hc, Value.cells] using hi 0 (by decide)
    have e1 : DataW.trod enc Try.prog w 0 (fun _ => true) true m 45 [c1] = some x1 := by simpa [hc, Value.cells] using hi 1 (by decide)
    have sl : ∀ {c : Value} {x}, DataW.trod enc Try.prog w 0 (fun _ => true) true m 45 [c] = some x → ∃ a l k, c = .slice a l k := by
      intro c x hx
      rcases Deep.open_slice Try.underlying45 hx with ⟨hcs, -⟩ | ⟨a, len', cap', m, n, D, Pl, hcs, -⟩
      · simp at hcs; exact ⟨_, _, _, hcs⟩
      · simp at hcs; exact ⟨_, _, _, hcs⟩
    obtain ⟨a0, l0, k0, rfl⟩ := sl e0
    obtain ⟨a1, l1, k1, rfl⟩ := sl e1
    exact ⟨a0, l0, k0, a1, l1, k1, rfl, open_pairs e0, open_pairs e1⟩
set_option maxRecDepth 100000 in
theorem contract {Rep : DiskRep} (S : DiskOk Rep) (H : Type) (enc : TypeId × Value → H) (W : World) (base : Nat) (args : Array Value) (ds gs : List (DataW H)) (before : List MemPlace)
    (hval : ∀ (j : Nat) t v, Try.f4.params[j]? = some t → args[j]? = some v → Value.okWide Try.prog W .any base t v)
    (hW : DataW.Whole enc Try.prog Try.f4.params.toList Rows.diskHoldsSpec.vars false W args.toList ds gs before) :
    Calls Try.prog 4 args W fun e W' => ∃ v, e = .returned v ∧ Rows.diskHoldsSpec.post enc Try.prog Try.f4 false true false false W args v W' := by
  have hW' := hW
  obtain ⟨p, q, hA0, hV, rfl, hfz, hnd⟩ := hW
  have hA : DataW.TrodAll enc Try.prog W 0 (fun _ => true) true Try.f4.params.toList args.toList ds p := hA0
  rw [Try.params4] at hA hval
  obtain ⟨v0, vs0, d0, ds0, p0, q0, hargs, rfl, rfl, h0, r0⟩ := trodAll_cons hA
  obtain ⟨v1, vs1, d1, ds1, p1, q1, rfl, rfl, rfl, h1, r1⟩ := trodAll_cons r0
  obtain ⟨v2, vs2, d2, ds2, p2, q2, rfl, rfl, rfl, h2, r2⟩ := trodAll_cons r1
  obtain ⟨rfl, rfl, rfl⟩ := trodAll_nil r2
  obtain rfl : args = #[v0, v1, v2] := by cases args; simp_all
  obtain ⟨rfl, rfl⟩ := trodVars_none hV
  obtain ⟨n, rfl, rfl, rfl, wb⟩ := open_int Try.underlying3 (hval 0 3 v0 rfl rfl) h0
  obtain ⟨a0, len0, cap0, a1, len1, cap1, rfl, ⟨L0, rfl, hb0, hP0⟩, ⟨L1, rfl, hb1, hP1⟩⟩ := open_two (hval 1 46 v1 rfl rfl) h1
  obtain ⟨kp, klen, kcap, rfl⟩ := okWide_slice Try.underlying23 (hval 2 23 v2 rfl rfl)
  obtain ⟨fuel2, hf2⟩ := h2
  obtain ⟨hk1, hk2, hkn, keep, rfl, hK⟩ := open_bools hf2
  have fin := holds_any S n L0 L1 a0 a1 cap0 cap1 kp keep kcap W hb0 hb1 (Lib.hid hP0) (Lib.hid hP1) (Lib.hid hK) hkn ⟨hk1, by unfold maxLen at hk2; omega⟩
  refine fin.mono fun e W' ⟨he, hb⟩ => ⟨_, he, law_true hW' rfl ⟨rfl, rfl, rfl⟩ (by kernel_rfl) (by kernel_rfl) hb⟩

theorem reads (os : Os) {H : Type} (enc : TypeId × Value → H) : ∃ places, DataW.whole enc Try.prog ((laidWorld os).forCall (fun _ _ => 0) ⟨#[], #[.int .i64 0, .agg #[.slice none 0 0, .slice none 0 0], .slice none 0 0], []⟩).memory Try.f4.params.toList Rows.diskHoldsSpec.vars false (#[.int .i64 0, .agg #[.slice none 0 0, .slice none 0 0], .slice none 0 0] : Array Value).toList 8 = some ([.lit (.int .i64 0), .agg [.nil, .nil], .nil], [], places) :=
  ⟨[], by kernel_rfl⟩

set_option maxRecDepth 100000 in
theorem lifted {Rep : DiskRep} (S : DiskOk Rep) (os : Os) (started : os.Started) (H : Type) (enc : TypeId × Value → H) (F : Stop.Interp) :
    ReturnsInHanded {} Try.checked os 4 .any ((OpenSpec.ofChange Rows.diskHoldsSpec).preRow enc Try.prog Try.f4 Rows.diskHoldsRow.domain false Rows.diskHoldsRow.laid) (((OpenSpec.ofChange Rows.diskHoldsSpec).at F).post enc Try.prog Try.f4 false true false false) := by
  obtain ⟨places, hx⟩ := reads os enc
  refine returnsInHanded_of_row (C := Try.checked) (s := OpenSpec.ofChange Rows.diskHoldsSpec) own started (by kernel_rfl) Try.func4
    (witness_row_at (enc := enc) (C := Try.checked) false (laidWorld os) #[.int .i64 0, .agg #[.slice none 0 0, .slice none 0 0], .slice none 0 0] rfl (by kernel_rfl) (by kernel_rfl) (by kernel_rfl)
      (OpenSpec.preRow_of_cond 8 hx (by kernel_rfl) (fun k hk => by cases hk) (by kernel_rfl) (laid_met os _))) ?_
  intro W base args ds gs before hval hW _ _ _ hL hsh _
  exact contract S H enc W base args ds gs before hval hW

theorem said {Rep : DiskRep} (S : DiskOk Rep) : Rows.DiskHoldsSaid :=
  OpenClaim.holds_of_cond 4 Try.f4 rfl rfl rfl rfl rfl rfl rfl ⟨rfl, rfl, rfl, rfl, rfl⟩ rfl rfl rfl rfl rfl (by kernel_rfl) Try.func4 (by kernel_rfl)
    (of_decide_eq_true (by kernel_rfl)) (by unfold Func.isWrapper; first | (rw [if_pos (by decide +kernel)]; kernel_rfl) | (rw [if_neg (by decide +kernel)]; exact ⟨rfl, rfl⟩))
    (fun os started H enc _ F => by rw [OpenClaim.pre_eq_preRow]; exact lifted S os started H enc F)
end Go.Proofs.Ythbnochlpnikaaa.Holds
namespace Go.Proofs.Ythbnochlpnikaaa
theorem diskHolds_of {Rep : DiskRep} (S : DiskOk Rep) : Rows.DiskHoldsSaid := Holds.said S
end Go.Proofs.Ythbnochlpnikaaa
