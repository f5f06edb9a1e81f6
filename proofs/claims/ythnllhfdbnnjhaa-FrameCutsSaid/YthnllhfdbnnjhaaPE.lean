/- How plans, heads, frames and pairs of numbers read as arguments. No condition. -/
import Derived.Test.YthnllhfdbnnjhaaO36
import Derived.ChangeSame
import Derived.Deep.Strs
namespace Go.Proofs.Ythnllhfdbnnjhaa
open Go.ChangeShapes Go.WideShapes Go.ChangeAt Go.RowKit Go.Joins

theorem okWide_struct {P : Program} {w : World} {r : Reach} {base : Nat} {fs : Array Field} {t : TypeId} {v : Value} (ht : P.underlying t = some (.struct fs)) (h : Value.okWide P w r base t v) : ∃ cs, v = .agg cs ∧ cs.size = P.cellsOf t := by
  simp only [Value.okWide, ht] at h
  obtain ⟨cs, h1, h2, _⟩ := h
  exact ⟨cs, h1, h2⟩
theorem array4 {α : Type} {cs : Array α} (h : cs.size = 4) : ∃ c0 c1 c2 c3, cs = #[c0, c1, c2, c3] := by
  obtain ⟨l⟩ := cs
  match l, h with
  | [c0, c1, c2, c3], _ => exact ⟨c0, c1, c2, c3, rfl⟩
theorem array7 {α : Type} {cs : Array α} (h : cs.size = 7) : ∃ c0 c1 c2 c3 c4 c5 c6, cs = #[c0, c1, c2, c3, c4, c5, c6] := by
  obtain ⟨l⟩ := cs
  match l, h with
  | [c0, c1, c2, c3, c4, c5, c6], _ => exact ⟨c0, c1, c2, c3, c4, c5, c6, rfl⟩
theorem wf_u32 {n : Int} (h : (Lit.int .u32 n).wf = true) : 0 ≤ n ∧ n < 2 ^ 32 := by
  simp [Lit.wf] at h
  have hm : IntKind.u32.min = 0 := rfl
  have hM : IntKind.u32.max = 4294967295 := rfl
  omega
theorem wf_i64 {n : Int} (h : (Lit.int .i64 n).wf = true) : -9223372036854775808 ≤ n ∧ n ≤ 9223372036854775807 := by
  simp [Lit.wf] at h
  have hm : IntKind.i64.min = -9223372036854775808 := rfl
  have hM : IntKind.i64.max = 9223372036854775807 := rfl
  omega
set_option maxRecDepth 100000 in
theorem open_plan {H : Type} {enc : TypeId × Value → H} {w : World} {base b0 : Nat} {r : Reach} {spare : Nat → Bool} {held : Bool} {v : Value} {d : DataW H} {p : List MemPlace} (hv : Value.okWide Try.prog w r b0 23 v) (h : DataW.Trod enc Try.prog w base spare held 23 v d p) :
    ∃ F P : Int, v = .agg #[.int .i64 F, .int .i64 P] := by
  have hc : Try.prog.cellsOf 23 = 2 := by kernel_rfl
  have h3 : Try.prog.cellsOf 3 = 1 := by kernel_rfl
  obtain ⟨cs, rfl, hsz⟩ := okWide_struct Try.underlying23 hv
  obtain ⟨c0, c1, rfl⟩ := array2 (hsz.trans hc)
  obtain ⟨fuel, hf⟩ := h
  obtain ⟨xs, m, _, hx, _, hn, hi⟩ := DataW.trod_struct Try.underlying23 hf
  match xs, hn with
  | [x0, x1], _ =>
    obtain ⟨F, e0, -, _⟩ := DataW.trod_int Try.underlying3 (show DataW.trod enc Try.prog w base spare held m 3 [c0] = some x0 by simpa [h3, Value.cells] using hi 0 _ rfl)
    obtain ⟨P, e1, -, _⟩ := DataW.trod_int Try.underlying3 (show DataW.trod enc Try.prog w base spare held m 3 [c1] = some x1 by simpa [h3, Value.cells] using hi 1 _ rfl)
    simp at e0 e1
    exact ⟨F, P, by rw [e0, e1]⟩
set_option maxRecDepth 100000 in
theorem open_head {H : Type} {enc : TypeId × Value → H} {w : World} {base b0 : Nat} {r : Reach} {spare : Nat → Bool} {held : Bool} {v : Value} {d : DataW H} {p : List MemPlace} (hv : Value.okWide Try.prog w r b0 38 v) (h : DataW.Trod enc Try.prog w base spare held 38 v d p) :
    ∃ (S E : Nat) (n c : Int), v = .agg #[.int .u64 S, .int .u64 E, .int .i64 n, .int .i64 c] ∧ S < 2 ^ 64 ∧ E < 2 ^ 64 ∧ (-9223372036854775808 ≤ n ∧ n ≤ 9223372036854775807) ∧ -9223372036854775808 ≤ c ∧ c ≤ 9223372036854775807 := by
  have hc : Try.prog.cellsOf 38 = 4 := by kernel_rfl
  have h3 : Try.prog.cellsOf 3 = 1 := by kernel_rfl
  have h36 : Try.prog.cellsOf 36 = 1 := by kernel_rfl
  obtain ⟨cs, rfl, hsz⟩ := okWide_struct Try.underlying38 hv
  obtain ⟨c0, c1, c2, c3, rfl⟩ := array4 (hsz.trans hc)
  obtain ⟨fuel, hf⟩ := h
  obtain ⟨xs, m, _, hx, _, hn, hi⟩ := DataW.trod_struct Try.underlying38 hf
  match xs, hn with
  | [x0, x1, x2, x3], _ =>
    obtain ⟨S, e0, -, w0⟩ := DataW.trod_int Try.underlying36 (show DataW.trod enc Try.prog w base spare held m 36 [c0] = some x0 by simpa [h36, Value.cells] using hi 0 _ rfl)
    obtain ⟨E, e1, -, w1⟩ := DataW.trod_int Try.underlying36 (show DataW.trod enc Try.prog w base spare held m 36 [c1] = some x1 by simpa [h36, Value.cells] using hi 1 _ rfl)
    obtain ⟨n, e2, -, w2⟩ := DataW.trod_int Try.underlying3 (show DataW.trod enc Try.prog w base spare held m 3 [c2] = some x2 by simpa [h3, Value.cells] using hi 2 _ rfl)
    obtain ⟨c, e3, -, w3⟩ := DataW.trod_int Try.underlying3 (show DataW.trod enc Try.prog w base spare held m 3 [c3] = some x3 by simpa [h3, Value.cells] using hi 3 _ rfl)
    simp at e0 e1 e2 e3
    obtain ⟨a0, b0⟩ := wf_u64 w0
    obtain ⟨a1, b1⟩ := wf_u64 w1
    exact ⟨S.toNat, E.toNat, n, c, by rw [e0, e1, e2, e3, Int.toNat_of_nonneg a0, Int.toNat_of_nonneg a1], by omega, by omega, wf_i64 w2, wf_i64 w3⟩
set_option maxRecDepth 100000 in
theorem open_frame {H : Type} {enc : TypeId × Value → H} {w : World} {b0 : Nat} {r : Reach} {v : Value} {d : DataW H} {p : List MemPlace} (hv : Value.okWide Try.prog w r b0 51 v) (h : DataW.Trod enc Try.prog w 0 (fun _ => true) true 51 v d p) :
    ∃ (E : Nat) (i g : Int) (cm : Bool) (n : Int) (k : Nat) (q : Option Addr) (len cap : Nat), v = .agg #[.int .u64 E, .int .i64 i, .int .i64 g, .bool cm, .int .i64 n, .int .u32 k, .slice q len cap] ∧ E < 2 ^ 64 ∧ k < 2 ^ 32 ∧
      (-9223372036854775808 ≤ i ∧ i ≤ 9223372036854775807) ∧ (-9223372036854775808 ≤ g ∧ g ≤ 9223372036854775807) ∧ (-9223372036854775808 ≤ n ∧ n ≤ 9223372036854775807) ∧
      len ≤ cap ∧ cap ≤ maxLen ∧ (q = none → cap = 0) ∧ ∃ l : List Nat, l.length = len ∧ (∀ b ∈ l, b < 256) ∧ BytesAt w q l := by
  have hc : Try.prog.cellsOf 51 = 7 := by kernel_rfl
  have h3 : Try.prog.cellsOf 3 = 1 := by kernel_rfl
  have h4 : Try.prog.cellsOf 4 = 1 := by kernel_rfl
  have h36 : Try.prog.cellsOf 36 = 1 := by kernel_rfl
  have h49 : Try.prog.cellsOf 49 = 1 := by kernel_rfl
  have h39 : Try.prog.cellsOf 39 = 1 := by kernel_rfl
  have hv' := hv
  obtain ⟨cs, rfl, hsz⟩ := okWide_struct Try.underlying51 hv
  obtain ⟨c0, c1, c2, c3, c4, c5, c6, rfl⟩ := array7 (hsz.trans hc)
  obtain ⟨fuel, hf⟩ := h
  obtain ⟨xs, m, _, hx, _, hn, hi⟩ := DataW.trod_struct Try.underlying51 hf
  match xs, hn with
  | [x0, x1, x2, x3, x4, x5, x6], _ =>
    obtain ⟨E, e0, -, w0⟩ := DataW.trod_int Try.underlying36 (show DataW.trod enc Try.prog w 0 (fun _ => true) true m 36 [c0] = some x0 by simpa [h36, Value.cells] using hi 0 _ rfl)
    obtain ⟨i, e1, -, w1⟩ := DataW.trod_int Try.underlying3 (show DataW.trod enc Try.prog w 0 (fun _ => true) true m 3 [c1] = some x1 by simpa [h3, Value.cells] using hi 1 _ rfl)
    obtain ⟨g, e2, -, w2⟩ := DataW.trod_int Try.underlying3 (show DataW.trod enc Try.prog w 0 (fun _ => true) true m 3 [c2] = some x2 by simpa [h3, Value.cells] using hi 2 _ rfl)
    obtain ⟨cm, e3, -⟩ := DataW.trod_bool Try.underlying4 (show DataW.trod enc Try.prog w 0 (fun _ => true) true m 4 [c3] = some x3 by simpa [h4, Value.cells] using hi 3 _ rfl)
    obtain ⟨n, e4, -, w4⟩ := DataW.trod_int Try.underlying3 (show DataW.trod enc Try.prog w 0 (fun _ => true) true m 3 [c4] = some x4 by simpa [h3, Value.cells] using hi 4 _ rfl)
    obtain ⟨k, e5, -, w5⟩ := DataW.trod_int Try.underlying49 (show DataW.trod enc Try.prog w 0 (fun _ => true) true m 49 [c5] = some x5 by simpa [h49, Value.cells] using hi 5 _ rfl)
    have h6 : DataW.trod enc Try.prog w 0 (fun _ => true) true m 39 [c6] = some x6 := by simpa [h39, Value.cells] using hi 6 _ rfl
    simp at e0 e1 e2 e3 e4 e5
    obtain ⟨a0, b0⟩ := wf_u64 w0
    obtain ⟨a5, b5⟩ := wf_u32 w5
    obtain ⟨q, len, cap, rfl⟩ : ∃ q len cap, c6 = .slice q len cap := by
      rcases Deep.open_slice Try.underlying39 h6 with ⟨hcs, -⟩ | ⟨a, len', cap', m, n, D, Pl, hcs, -⟩
      · exact ⟨_, _, _, by simpa using hcs⟩
      · exact ⟨_, _, _, by simpa using hcs⟩
    have hT : DataW.Trod enc Try.prog w 0 (fun _ => true) true 39 (.slice q len cap) x6.1 x6.2 := ⟨m, h6⟩
    obtain ⟨o1, o2, l, o3, o4, o5⟩ := open_bytes hT
    have o6 := open_none hT
    refine ⟨E.toNat, i, g, cm, n, k.toNat, q, len, cap, by rw [e0, e1, e2, e3, e4, e5, Int.toNat_of_nonneg a0, Int.toNat_of_nonneg a5], by omega, by omega, wf_i64 w1, wf_i64 w2, wf_i64 w4, o1, o2, ?_, l, o3, o4, o5⟩
    exact o6
end Go.Proofs.Ythnllhfdbnnjhaa
