/- How a pair of numbers reads as an argument. No condition. -/
import Derived.Test.YthnllhfdbnnjhaaPE
namespace Go.Proofs.Ythnllhfdbnnjhaa
open Go.ChangeShapes Go.WideShapes Go.ChangeAt Go.RowKit Go.Joins
set_option maxRecDepth 100000 in
theorem open_bits {H : Type} {enc : TypeId × Value → H} {w : World} {base b0 : Nat} {r : Reach} {spare : Nat → Bool} {held : Bool} {v : Value} {d : DataW H} {p : List MemPlace} (hv : Value.okWide Try.prog w r b0 68 v) (h : DataW.Trod enc Try.prog w base spare held 68 v d p) :
    ∃ X Y : Int, v = .agg #[.int .i64 X, .int .i64 Y] := by
  have hc2 : Try.prog.cellsOf 68 = 2 := by kernel_rfl
  obtain ⟨cs, rfl, hsz⟩ := okWide_array Try.underlying68 hv
  obtain ⟨c0, c1, rfl⟩ := array2 (hsz.trans hc2)
  obtain ⟨fuel, hf⟩ := h
  obtain ⟨xs, m, _, hx, _, hn, hi⟩ := DataW.trod_array Try.underlying68 hf
  have hc : Try.prog.cellsOf 3 = 1 := by kernel_rfl
  match xs, hn with
  | [x0, x1], _ =>
    obtain ⟨t0, e0, -, w0⟩ := DataW.trod_int Try.underlying3 (show DataW.trod enc Try.prog w base spare held m 3 [c0] = some x0 by simpa [hc, Value.cells] using hi 0 (by decide))
    obtain ⟨t1, e1, -, w1⟩ := DataW.trod_int Try.underlying3 (show DataW.trod enc Try.prog w base spare held m 3 [c1] = some x1 by simpa [hc, Value.cells] using hi 1 (by decide))
    simp at e0 e1
    exact ⟨t0, t1, by rw [e0, e1]⟩
end Go.Proofs.Ythnllhfdbnnjhaa
