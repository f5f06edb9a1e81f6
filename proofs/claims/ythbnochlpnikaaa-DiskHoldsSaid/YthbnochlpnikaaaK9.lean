/- A write as a value, a row of one. -/
import Derived.Test.YthbnochlpnikaaaK8
import Derived.Great.BuildSlice
import Derived.Great.CaseRows
namespace Go.Proofs.Ythbnochlpnikaaa
open Go.RowKit Go.Shelf

def wV (k : Int) (c : ByteArray) : Array Value := (.int .i64 k :: bL c).toArray
theorem wV_size {k : Int} {c : ByteArray} (hc : c.size = 64) : (wV k c).size = 65 := by
  simp only [wV, List.size_toArray, List.length_cons, bL_length, hc]
theorem wV_one (k : Int) (c : ByteArray) : (wV k c).all (·.oneCell') = true := by
  rw [Array.all_eq_true_iff_forall_mem]
  intro u hu
  simp only [wV, List.mem_toArray, List.mem_cons] at hu
  rcases hu with rfl | hu
  · rfl
  · exact bL_one c u hu
def zW : Array Value := (List.replicate 64 (Value.int .u8 0)).toArray
def z78 : Array Value := (.int .i64 0 :: List.replicate 64 (Value.int .u8 0)).toArray
theorem built78 (l : List (Nat × Value)) : Try.prog.built 78 l = Instr.fill (fun x => (#[(0, 1), (1, 64)] : Array (Nat × Nat))[x]?) z78 l := by kernel_rfl
theorem foldl_arr (off : Nat) (v cs : Array Value) : (v.zipIdx.foldl (fun cs (x : Value × Nat) => cs.setIfInBounds (off + x.2) x.1) cs).size = cs.size ∧ ∀ k, (v.zipIdx.foldl (fun cs (x : Value × Nat) => cs.setIfInBounds (off + x.2) x.1) cs)[k]? = if off ≤ k ∧ k < off + v.size ∧ k < cs.size then v[k - off]? else cs[k]? := by
  have := Great.foldl_set off v.toList 0 cs
  rw [← Array.foldl_toList, Array.toList_zipIdx]
  simpa using this
theorem built_write {k : Int} {c : ByteArray} (hc : c.size = 64) : Try.prog.built 78 [(0, .int .i64 k), (1, .agg (bV c))] = some (wV k c) := by
  rw [built78]
  have h1 : (Value.int .i64 k).cells = #[.int .i64 k] := rfl
  have h2 : (Value.agg (bV c)).cells = bV c := rfl
  have hs : (bV c).size = 64 := by rw [bV_size, hc]
  have hz : z78.size = 65 := by simp [z78]
  simp only [Instr.fill, h1, h2, hs]
  have e1 : (#[(0, 1), (1, 64)] : Array (Nat × Nat))[0]? = some (0, 1) := rfl
  have e2 : (#[(0, 1), (1, 64)] : Array (Nat × Nat))[1]? = some (1, 64) := rfl
  simp only [e1, e2]
  obtain ⟨g1, g2⟩ := foldl_arr 0 #[.int .i64 k] z78
  obtain ⟨g3, g4⟩ := foldl_arr 1 (bV c) ((#[Value.int .i64 k] : Array Value).zipIdx.foldl (fun cs (x : Value × Nat) => cs.setIfInBounds (0 + x.2) x.1) z78)
  rw [if_neg (by simp [hz]), if_neg (by simp [hz])]
  congr 1
  apply Array.ext_getElem?
  intro i
  rw [g4 i, g2 i, g1]
  simp only [hs, hz]
  have hl : (bL c).length = 64 := by rw [bL_length, hc]
  by_cases h0 : i = 0
  · subst h0
    simp [wV]
  · obtain ⟨j, rfl⟩ : ∃ j, i = j + 1 := ⟨i - 1, by omega⟩
    by_cases hi : j < 64
    · rw [if_pos (by omega)]
      simp [wV, bV]
    · rw [if_neg (by omega), if_neg (by simp)]
      have e3 : (wV k c)[j + 1]? = none := by
        rw [Array.getElem?_eq_none_iff, wV_size hc]
        omega
      rw [e3, Array.getElem?_eq_none_iff, hz]
      omega
theorem fold_write {k : Int} {c : ByteArray} (hc : c.size = 64) : Array.foldl (fun cs (x : Value × Nat) => cs.setIfInBounds (1 + x.snd) x.fst) (Try.zeroCells78.setIfInBounds 0 (Value.int .i64 k)) (bV c).zipIdx 0 64 = wV k c := by
  have h := built_write (k := k) hc
  rw [built78] at h
  have h1 : (Value.int .i64 k).cells = #[.int .i64 k] := rfl
  have h2 : (Value.agg (bV c)).cells = bV c := rfl
  have hs : (bV c).size = 64 := by rw [bV_size, hc]
  have hz : z78.size = 65 := by simp [z78]
  have e0 : Try.zeroCells78 = z78 := by kernel_rfl
  simp only [Instr.fill, h1, h2, hs] at h
  have e1 : (#[(0, 1), (1, 64)] : Array (Nat × Nat))[0]? = some (0, 1) := rfl
  have e2 : (#[(0, 1), (1, 64)] : Array (Nat × Nat))[1]? = some (1, 64) := rfl
  simp only [e1, e2] at h
  rw [if_neg (by simp [hz]), if_neg (by simp [hz])] at h
  injection h with h
  rw [← h, e0]
  congr 1
  rw [Array.size_zipIdx]
  exact hs.symm
theorem fold_row {v : Array Value} (n : Nat) (hv : v.size = n) (L : Array Value) (hL : L.size = n) : Array.foldl (fun cs (x : Value × Nat) => cs.setIfInBounds x.snd x.fst) L v.zipIdx 0 n = v := by
  obtain ⟨g1, g2⟩ := foldl_arr 0 v L
  simp only [Nat.zero_add] at g1 g2
  have e : Array.foldl (fun cs (x : Value × Nat) => cs.setIfInBounds x.snd x.fst) L v.zipIdx 0 n = Array.foldl (fun cs (x : Value × Nat) => cs.setIfInBounds x.snd x.fst) L v.zipIdx := by
    congr 1
    rw [Array.size_zipIdx, hv]
  rw [e]
  apply Array.ext_getElem?
  intro i
  rw [g2 i]
  by_cases hi : i < n
  · rw [if_pos (by omega), Nat.sub_zero]
  · rw [if_neg (by omega), Array.getElem?_eq_none (by omega), Array.getElem?_eq_none (by omega)]
theorem run_build_write {k : Int} {c : ByteArray} (hc : c.size = 64) (w : World) : (Instr.build 78 #[(0, .int .i64 k), (1, .agg (bV c))]).run Try.prog w = .ok (.agg (wV k c)) w :=
  run_build w 78 _ _ (built_write hc)
theorem info78 : (Try.prog.info? 78).map (fun i => (i.zero, i.size, i.bytes)) = some (some (.agg z78), 65, 72) := by kernel_rfl
theorem run_row_write {k : Int} {c : ByteArray} (hc : c.size = 64) (w : World) : (Instr.buildSlice 61 1 #[(0, .agg (wV k c))]).run Try.prog w = .ok (.slice (some ⟨w.heap.size, 0, none⟩) 1 1) (w.alloc (.cells (wV k c) 78)) := by
  obtain ⟨j, hj, hz, hs, -⟩ := info_parts info78
  refine run_buildSlice w 61 78 1 _ (wV k c) j (.agg z78) Try.underlying61 hj hz (by rw [hs]; omega) (by rw [hs]; omega) ?_
  rw [hs]
  have := Great.fill_whole (s := 65) (by omega) [Value.agg (wV k c)] ((Array.range (1 * 65)).map ((Value.agg z78).cells[· % (Value.agg z78).cells.size]!)) (fun v hv => by
    simp at hv
    subst hv
    exact wV_size hc) (by simp)
  simpa [Value.cells] using this
end Go.Proofs.Ythbnochlpnikaaa
