/- Small laws for this proof: one new map of whole-number keys that is filled and asked at once. -/
import Derived.WalkKit
import Derived.Maps.Own
namespace Go
open Go.RowKit Go.Maps

theorem push_set {α : Type} (l : Array α) (a b : α) : (l.push a).setIfInBounds l.size b = l.push b := by
  apply Array.ext_getElem?
  intro i
  rw [Array.getElem?_setIfInBounds, Array.getElem?_push, Array.getElem?_push]
  by_cases h : l.size = i
  · subst h; simp
  · rw [if_neg h, if_neg (fun e => h e.symm), if_neg (fun e => h e.symm)]

theorem run_find_new {P : Program} {k : TypeId} (hk : P.underlying k = some (.int .i64)) (w : World) (es : List MapEntry) (n : Int) (r : Option (Nat × Value)) (hf : Instr.findNow (.int .i64) (.int .i64 n) es 0 = some r) :
    (Instr.findKey k (.int .i64 n) es).run P w = .ok r w := by
  simp [Instr.findKey, run_underlying hk, hf, Result.andThen]

theorem run_ins_new {P : Program} {t k e : TypeId} (ht : P.underlying t = some (.map k e)) (hk : P.underlying k = some (.int .i64)) (w : World) (es : Array MapEntry) (c : Nat) (n : Int) (v : Value)
    (hw : (Lit.int .i64 n).wf = true) (hf : Instr.findNow (.int .i64) (.int .i64 n) es.toList 0 = some none) :
    (Instr.mapUpdate t (.map (some w.heap.size)) (.int .i64 n) v).run P (w.alloc (.map es c)) = .ok () (w.alloc (.map (es.push { key := .int .i64 n, val := v, born := c }) (c + 1))) := by
  have h1 : (w.alloc (.map es c)).heap[w.heap.size]? = some (.map es c) := heap_alloc_new w _
  have h2 := run_find_new hk (w.alloc (.map es c)) es.toList n none hf
  have h3 := (int_keyed hk).check (w.alloc (.map es c)) false (keyOf_int_mk hk hw)
  simp [Instr.mapUpdate, run_underlying ht, MapKept.run_getObj_map h1, MapKept.run_setObj_map _ h1, h2, h3, Result.andThen]
  show ({ w with heap := (w.heap.push _).setIfInBounds w.heap.size _ } : World) = { w with heap := w.heap.push _ }
  rw [push_set]

theorem run_look_new {P : Program} {t k e : TypeId} (ht : P.underlying t = some (.map k e)) (hk : P.underlying k = some (.int .i64)) (w : World) (es : Array MapEntry) (c : Nat) (n : Int) (i : Nat) (v : Value)
    (hw : (Lit.int .i64 n).wf = true) (hf : Instr.findNow (.int .i64) (.int .i64 n) es.toList 0 = some (some (i, v))) :
    (Instr.lookup t (.map (some w.heap.size)) (.int .i64 n) false).run P (w.alloc (.map es c)) = .ok v (w.alloc (.map es c)) := by
  have h1 : (w.alloc (.map es c)).heap[w.heap.size]? = some (.map es c) := heap_alloc_new w _
  have h2 := run_find_new hk (w.alloc (.map es c)) es.toList n _ hf
  have h3 := (int_keyed hk).check (w.alloc (.map es c)) (es.isEmpty) (keyOf_int_mk hk hw)
  simp [Instr.lookup, run_underlying ht, MapKept.run_getObj_map h1, h2, h3, Result.andThen]
end Go
