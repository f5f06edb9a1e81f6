/- How three values in an array, and two truths in one, read as an argument. No condition. -/
import Derived.Test.YtcngoffmkbobhaaGreatDoorF
import Derived.Lib.SmallJoins
namespace Go.Proofs.YtcngoffmkbobhaaGreatDoor
open Go.ChangeShapes Go.WideShapes Go.ChangeAt Go.RowKit Go.Joins

theorem okWide_array {P : Program} {w : World} {r : Reach} {base n : Nat} {t e : TypeId} {v : Value} (ht : P.underlying t = some (.array n e)) (h : Value.okWide P w r base t v) : ∃ cs, v = .agg cs ∧ cs.size = P.cellsOf t := by
  simp only [Value.okWide, ht] at h
  obtain ⟨cs, h1, h2, _⟩ := h
  exact ⟨cs, h1, h2⟩

theorem val_at {H : Type} {enc : TypeId × Value → H} {w : World} {base : Nat} {spare : Nat → Bool} {held : Bool} {fuel : Nat} {c0 c1 c2 : Value} {x : DataW H × List MemPlace} (h : DataW.trod enc Tryz.prog w base spare held fuel 24 [c0, c1, c2] = some x) :
    ∃ (k n : Int) (s : ByteArray), c0 = .int .i64 k ∧ c1 = .int .i64 n ∧ c2 = .string s ∧ x.1 = .agg [.lit (.int .i64 k), .lit (.int .i64 n), .lit (.string s.data.toList)] ∧ (Lit.int .i64 n).wf = true := by
  obtain ⟨y0, y1, y2, m, rfl, _, h0, h1, h2⟩ := Go.Deep.trod_struct3 Tryz.underlying24 h
  have p22 : Tryz.prog.cellsOf 22 = 1 := by kernel_rfl
  have p2 : Tryz.prog.cellsOf 2 = 1 := by kernel_rfl
  have p9 : Tryz.prog.cellsOf 9 = 1 := by kernel_rfl
  obtain ⟨k, e0, rfl, w0⟩ := DataW.trod_int Tryz.underlying22 (show DataW.trod enc Tryz.prog w base spare held m 22 [c0] = some y0 by simpa [p22] using h0)
  obtain ⟨n, e1, rfl, w1⟩ := DataW.trod_int Tryz.underlying2 (show DataW.trod enc Tryz.prog w base spare held m 2 [c1] = some y1 by simpa [p2] using h1)
  obtain ⟨s, e2, rfl, w2⟩ := DataW.trod_string Tryz.underlying9 (show DataW.trod enc Tryz.prog w base spare held m 9 [c2] = some y2 by simpa [p9] using h2)
  simp only [List.cons.injEq, and_true] at e0 e1 e2
  exact ⟨k, n, s, e0, e1, e2, rfl, w1⟩
theorem array9 {α : Type} {cs : Array α} (h : cs.size = 9) : ∃ c0 c1 c2 c3 c4 c5 c6 c7 c8, cs = #[c0, c1, c2, c3, c4, c5, c6, c7, c8] := by
  obtain ⟨l⟩ := cs
  match l, h with
  | [c0, c1, c2, c3, c4, c5, c6, c7, c8], _ => exact ⟨c0, c1, c2, c3, c4, c5, c6, c7, c8, rfl⟩

set_option maxRecDepth 100000 in
theorem open_vals {H : Type} {enc : TypeId × Value → H} {w : World} {base b0 : Nat} {r : Reach} {spare : Nat → Bool} {held : Bool} {v : Value} {d : DataW H} {p : List MemPlace} (hv : Value.okWide Tryz.prog w r b0 61 v) (h : DataW.Trod enc Tryz.prog w base spare held 61 v d p) :
    ∃ (k1 n1 k2 n2 k3 n3 : Int) (s1 s2 s3 : ByteArray), v = .agg #[.int .i64 k1, .int .i64 n1, .string s1, .int .i64 k2, .int .i64 n2, .string s2, .int .i64 k3, .int .i64 n3, .string s3] ∧
      d = .agg [.agg [.lit (.int .i64 k1), .lit (.int .i64 n1), .lit (.string s1.data.toList)], .agg [.lit (.int .i64 k2), .lit (.int .i64 n2), .lit (.string s2.data.toList)], .agg [.lit (.int .i64 k3), .lit (.int .i64 n3), .lit (.string s3.data.toList)]] ∧
      (Lit.int .i64 n1).wf = true ∧ (Lit.int .i64 n2).wf = true := by
  have hc9 : Tryz.prog.cellsOf 61 = 9 := by kernel_rfl
  obtain ⟨cs, rfl, hsz⟩ := okWide_array Tryz.underlying61 hv
  obtain ⟨c0, c1, c2, c3, c4, c5, c6, c7, c8, rfl⟩ := array9 (hsz.trans hc9)
  obtain ⟨fuel, hf⟩ := h
  obtain ⟨xs, m, _, hx, _, hn, hi⟩ := DataW.trod_array Tryz.underlying61 hf
  have hc : Tryz.prog.cellsOf 24 = 3 := by kernel_rfl
  match xs, hn with
  | [x0, x1, x2], _ =>
    obtain ⟨k1, n1, s1, rfl, rfl, rfl, e1, w1⟩ := val_at (by simpa [hc, Value.cells] using hi 0 (by decide))
    obtain ⟨k2, n2, s2, rfl, rfl, rfl, e2, w2⟩ := val_at (by simpa [hc, Value.cells] using hi 1 (by decide))
    obtain ⟨k3, n3, s3, rfl, rfl, rfl, e3, w3⟩ := val_at (by simpa [hc, Value.cells] using hi 2 (by decide))
    simp only [Prod.mk.injEq, List.map_cons, List.map_nil, e1, e2, e3] at hx
    exact ⟨k1, n1, k2, n2, k3, n3, s1, s2, s3, rfl, hx.1, w1, w2⟩
set_option maxRecDepth 100000 in
theorem open_truths {H : Type} {enc : TypeId × Value → H} {w : World} {base b0 : Nat} {r : Reach} {spare : Nat → Bool} {held : Bool} {v : Value} {d : DataW H} {p : List MemPlace} (hv : Value.okWide Tryz.prog w r b0 62 v) (h : DataW.Trod enc Tryz.prog w base spare held 62 v d p) :
    ∃ (t0 t1 : Int), v = .agg #[.int .i64 t0, .int .i64 t1] := by
  have hc2 : Tryz.prog.cellsOf 62 = 2 := by kernel_rfl
  obtain ⟨cs, rfl, hsz⟩ := okWide_array Tryz.underlying62 hv
  obtain ⟨c0, c1, rfl⟩ := array2 (hsz.trans hc2)
  obtain ⟨fuel, hf⟩ := h
  obtain ⟨xs, m, _, hx, _, hn, hi⟩ := DataW.trod_array Tryz.underlying62 hf
  have hc : Tryz.prog.cellsOf 36 = 1 := by kernel_rfl
  match xs, hn with
  | [x0, x1], _ =>
    obtain ⟨t0, e0, _⟩ := DataW.trod_int Tryz.underlying36 (show DataW.trod enc Tryz.prog w base spare held m 36 [c0] = some x0 by simpa [hc, Value.cells] using hi 0 (by decide))
    obtain ⟨t1, e1, _⟩ := DataW.trod_int Tryz.underlying36 (show DataW.trod enc Tryz.prog w base spare held m 36 [c1] = some x1 by simpa [hc, Value.cells] using hi 1 (by decide))
    simp at e0 e1
    exact ⟨t0, t1, by rw [e0, e1]⟩
theorem sizes {H : Type} {k1 n1 k2 n2 k3 n3 : Int} {s1 s2 s3 : ByteArray} {d : DataW H} {gs : List (DataW H)} (h : (DataW.weightsEach Tryz.prog ([61, 62] ++ []) ([.agg [.agg [.lit (.int .i64 k1), .lit (.int .i64 n1), .lit (.string s1.data.toList)], .agg [.lit (.int .i64 k2), .lit (.int .i64 n2), .lit (.string s2.data.toList)], .agg [.lit (.int .i64 k3), .lit (.int .i64 n3), .lit (.string s3.data.toList)]], d] ++ gs)).all (· ≤ reachBytes) = true) :
    s1.size ≤ 140737488355328 ∧ s2.size ≤ 140737488355328 ∧ s3.size ≤ 140737488355328 := by
  simp [DataW.weightsEach, DataW.weights, DataW.weightsAll, Tryz.underlying61, Tryz.underlying24, reachBytes] at h
  exact ⟨by have := of_decide_eq_true h.1; omega, by have := of_decide_eq_true h.2.1; omega, by have := of_decide_eq_true h.2.2.1; omega⟩
end Go.Proofs.YtcngoffmkbobhaaGreatDoor
