import Derived.Test.YthnllhfdbnnjhaaO4
import Derived.Deep.AppendLies
namespace Go.Proofs.Ythnllhfdbnnjhaa
open Go.RowKit Go.Shelf

theorem info5 : (Try.prog.info? 5).map (fun i => (i.zero, i.size, i.bytes)) = some (some (.int .u8 0), 1, 1) := by kernel_rfl
theorem info_parts {P : Program} {t : TypeId} {z : Value} {n k : Nat} (h : (P.info? t).map (fun i => (i.zero, i.size, i.bytes)) = some (some z, n, k)) :
    ∃ j, P.info? t = some j ∧ j.zero = some z ∧ j.size = n ∧ j.bytes = k := by
  cases hi : P.info? t with
  | none => rw [hi] at h; cases h
  | some j =>
    rw [hi] at h
    simp only [Option.map_some, Option.some.injEq, Prod.mk.injEq] at h
    exact ⟨j, rfl, h.1, h.2.1, h.2.2⟩
/-- Bytes in a slice of the call's own. -/
def RowB (w0 : World) (l : List Nat) (t : Value) (wr : World) : Prop := wr.ownsRow w0.heap.size 5 1 t l.length (l.map fun (v : Nat) => Value.int .u8 (v : Int)) ∧ Below w0.heap.size w0 wr
theorem rowB_next {w wr w2 : World} {l : List Nat} {x : Nat} {y : Int} {t t' : Value} {n : Nat} (hn : l.length = n) (hy : y = (x : Int))
    (hown2 : w2.ownsRow w.heap.size 5 1 t' (n + 1) (l.map (fun (v : Nat) => Value.int .u8 (v : Int)) ++ [Value.int .u8 y]))
    (hb : Below w.heap.size w wr) (o : Obj) (hg : (wr.alloc o).grownBy w2 t.ownBlock) (hr : ∀ j, t.ownBlock = some j → w.heap.size ≤ j) : RowB w (l ++ [x]) t' w2 := by
  refine ⟨?_, (hb.alloc hb.size o).grown hg (by have := hb.size; simp; omega) hr⟩
  subst hy hn
  simpa using hown2
/-- How far the bytes are told. -/
structure Told (N : Nat) (j a : Nat) (l : List Nat) : Prop where
  j9 : j ≤ 9
  b : a < 2 ^ (64 - 7 * j)
  e : numE N = l ++ numF (9 - j) a
  n : l.length = j
theorem told_lt {N j a : Nat} {l : List Nat} (h : Told N j a l) : a < 18446744073709551616 := by
  have h1 := h.b
  have h2 : 2 ^ (64 - 7 * j) ≤ 2 ^ 64 := Nat.pow_le_pow_right (by decide) (by omega)
  omega
theorem numF_more (f n : Nat) : numF (f + 1) n = if n < 128 then [n] else (n % 128 + 128) :: numF f (n / 128) := rfl
theorem told_next {N j a : Nat} {l : List Nat} (h : Told N j a l) (ha : 128 ≤ a) : Told N (j + 1) (a / 128) (l ++ [a % 128 + 128]) := by
  obtain ⟨h9, h1, h2, h3⟩ := h
  have hj : j < 9 := by
    rcases Nat.lt_or_ge j 9 with h | h
    · exact h
    · obtain rfl : j = 9 := by omega
      simp at h1
      omega
  have e : 2 ^ (64 - 7 * j) = 128 * 2 ^ (64 - 7 * (j + 1)) := by
    rw [show 64 - 7 * j = 7 + (64 - 7 * (j + 1)) by omega, Nat.pow_add]
  refine ⟨hj, by rw [e] at h1; omega, ?_, by simp [h3]⟩
  rw [h2, show 9 - j = (9 - (j + 1)) + 1 by omega]
  rw [numF_more, if_neg (by omega), List.append_assoc]
  rfl
theorem told_end {N j a : Nat} {l : List Nat} (h : Told N j a l) (ha : a < 128) : numE N = l ++ [a] := by rw [h.e, numF_small _ _ ha]
end Go.Proofs.Ythnllhfdbnnjhaa

