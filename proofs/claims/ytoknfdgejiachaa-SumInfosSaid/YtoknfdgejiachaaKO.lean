import Derived.Test.YtoknfdgejiachaaKM
import Derived.Deep.CutRange
import Derived.MapKept
namespace Go.Proofs.Ytoknfdgejiachaa
open Go.RowKit Go.Shelf Go.MapKept

theorem alloc_set (w : World) (o o' : Obj) : ({ w.alloc o with heap := (w.alloc o).heap.setIfInBounds w.heap.size o' } : World) = w.alloc o' := by
  simp only [World.alloc]
  congr 1
  apply Array.ext_getElem?
  intro i
  rw [Array.getElem?_setIfInBounds]
  by_cases h : w.heap.size = i
  · subst h; simp
  · have h' : ¬ i = w.heap.size := fun e => h e.symm
    simp [h, h', Array.getElem?_push]
/-- A new key into the map that was made last. -/
theorem put_new (w : World) {t k e : TypeId} {d : TypeDesc} (ht : Try.prog.underlying t = some (.map k e)) (hd : Try.prog.underlying k = some d) (es : Array MapEntry) (c : Nat) (key v : Value) (hk : IsKey d key) (hf : Instr.findNow d key es.toList 0 = some none) :
    (Instr.mapUpdate t (.map (some w.heap.size)) key v).run Try.prog (w.alloc (.map es c)) = .ok () (w.alloc (.map (es.push { key := key, val := v, born := c }) (c + 1))) := by
  have hb : (w.alloc (.map es c)).heap[w.heap.size]? = some (.map es c) := heap_alloc_last w _
  simp [Instr.mapUpdate, run_underlying ht, MapKept.run_getObj_map hb, run_checkKey hd hk, run_findKey hd hf, run_setObj_map _ hb, Result.andThen]
  exact alloc_set w _ _
/-- A key that is there. -/
theorem look_at (w : World) {t k e : TypeId} {d : TypeDesc} (ht : Try.prog.underlying t = some (.map k e)) (hd : Try.prog.underlying k = some d) (es : Array MapEntry) (c : Nat) (key v : Value) (i : Nat) (hk : IsKey d key) (hf : Instr.findNow d key es.toList 0 = some (some (i, v))) :
    (Instr.lookup t (.map (some w.heap.size)) key false).run Try.prog (w.alloc (.map es c)) = .ok v (w.alloc (.map es c)) := by
  have hb : (w.alloc (.map es c)).heap[w.heap.size]? = some (.map es c) := heap_alloc_last w _
  simp [Instr.lookup, run_underlying ht, MapKept.run_getObj_map hb, run_checkKey hd hk, run_findKey hd hf, Result.andThen]
def ordE1 (A : Nat) : Array MapEntry := #[{ key := .int .i64 7, val := .func (.func 74) #[] #[.pointer (some ⟨A, 0, none⟩)], born := 0 }]
def ordE2 (A : Nat) : Array MapEntry := #[{ key := .int .i64 7, val := .func (.func 74) #[] #[.pointer (some ⟨A, 0, none⟩)], born := 0 }, { key := .int .i64 8, val := .func (.func 75) #[] #[.pointer (some ⟨A, 0, none⟩)], born := 1 }]
def ordE3 (A : Nat) : Array MapEntry := #[{ key := .int .i64 7, val := .func (.func 74) #[] #[.pointer (some ⟨A, 0, none⟩)], born := 0 }, { key := .int .i64 8, val := .func (.func 75) #[] #[.pointer (some ⟨A, 0, none⟩)], born := 1 }, { key := .int .i64 9, val := .func (.func 76) #[] #[.pointer (some ⟨A, 0, none⟩)], born := 2 }]
def ordE4 (A : Nat) : Array MapEntry := #[{ key := .int .i64 7, val := .func (.func 74) #[] #[.pointer (some ⟨A, 0, none⟩)], born := 0 }, { key := .int .i64 8, val := .func (.func 75) #[] #[.pointer (some ⟨A, 0, none⟩)], born := 1 }, { key := .int .i64 9, val := .func (.func 76) #[] #[.pointer (some ⟨A, 0, none⟩)], born := 2 }, { key := .int .i64 10, val := .func (.func 77) #[] #[.pointer (some ⟨A, 0, none⟩)], born := 3 }]
def ordE5 (A : Nat) : Array MapEntry := #[{ key := .int .i64 7, val := .func (.func 74) #[] #[.pointer (some ⟨A, 0, none⟩)], born := 0 }, { key := .int .i64 8, val := .func (.func 75) #[] #[.pointer (some ⟨A, 0, none⟩)], born := 1 }, { key := .int .i64 9, val := .func (.func 76) #[] #[.pointer (some ⟨A, 0, none⟩)], born := 2 }, { key := .int .i64 10, val := .func (.func 77) #[] #[.pointer (some ⟨A, 0, none⟩)], born := 3 }, { key := .int .i64 11, val := .func (.func 78) #[] #[.pointer (some ⟨A, 0, none⟩)], born := 4 }]
def ordE6 (A : Nat) : Array MapEntry := #[{ key := .int .i64 7, val := .func (.func 74) #[] #[.pointer (some ⟨A, 0, none⟩)], born := 0 }, { key := .int .i64 8, val := .func (.func 75) #[] #[.pointer (some ⟨A, 0, none⟩)], born := 1 }, { key := .int .i64 9, val := .func (.func 76) #[] #[.pointer (some ⟨A, 0, none⟩)], born := 2 }, { key := .int .i64 10, val := .func (.func 77) #[] #[.pointer (some ⟨A, 0, none⟩)], born := 3 }, { key := .int .i64 11, val := .func (.func 78) #[] #[.pointer (some ⟨A, 0, none⟩)], born := 4 }, { key := .int .i64 12, val := .func (.func 79) #[] #[.pointer (some ⟨A, 0, none⟩)], born := 5 }]
theorem ordE_put1 (A : Nat) (w : World) : (Instr.mapUpdate 97 (.map (some w.heap.size)) (.int .i64 7) (.func (.func 74) #[] #[.pointer (some ⟨A, 0, none⟩)])).run Try.prog (w.alloc (.map #[] 0)) = .ok () (w.alloc (.map (ordE1 A) 1)) :=
  put_new w (d := .int .i64) Try.underlying97 Try.underlying30 #[] 0 _ _ rfl (by kernel_rfl)
theorem ordE_put2 (A : Nat) (w : World) : (Instr.mapUpdate 97 (.map (some w.heap.size)) (.int .i64 8) (.func (.func 75) #[] #[.pointer (some ⟨A, 0, none⟩)])).run Try.prog (w.alloc (.map (ordE1 A) 1)) = .ok () (w.alloc (.map (ordE2 A) 2)) :=
  put_new w (d := .int .i64) Try.underlying97 Try.underlying30 (ordE1 A) 1 _ _ rfl (by kernel_rfl)
theorem ordE_put3 (A : Nat) (w : World) : (Instr.mapUpdate 97 (.map (some w.heap.size)) (.int .i64 9) (.func (.func 76) #[] #[.pointer (some ⟨A, 0, none⟩)])).run Try.prog (w.alloc (.map (ordE2 A) 2)) = .ok () (w.alloc (.map (ordE3 A) 3)) :=
  put_new w (d := .int .i64) Try.underlying97 Try.underlying30 (ordE2 A) 2 _ _ rfl (by kernel_rfl)
theorem ordE_put4 (A : Nat) (w : World) : (Instr.mapUpdate 97 (.map (some w.heap.size)) (.int .i64 10) (.func (.func 77) #[] #[.pointer (some ⟨A, 0, none⟩)])).run Try.prog (w.alloc (.map (ordE3 A) 3)) = .ok () (w.alloc (.map (ordE4 A) 4)) :=
  put_new w (d := .int .i64) Try.underlying97 Try.underlying30 (ordE3 A) 3 _ _ rfl (by kernel_rfl)
theorem ordE_put5 (A : Nat) (w : World) : (Instr.mapUpdate 97 (.map (some w.heap.size)) (.int .i64 11) (.func (.func 78) #[] #[.pointer (some ⟨A, 0, none⟩)])).run Try.prog (w.alloc (.map (ordE4 A) 4)) = .ok () (w.alloc (.map (ordE5 A) 5)) :=
  put_new w (d := .int .i64) Try.underlying97 Try.underlying30 (ordE4 A) 4 _ _ rfl (by kernel_rfl)
theorem ordE_put6 (A : Nat) (w : World) : (Instr.mapUpdate 97 (.map (some w.heap.size)) (.int .i64 12) (.func (.func 79) #[] #[.pointer (some ⟨A, 0, none⟩)])).run Try.prog (w.alloc (.map (ordE5 A) 5)) = .ok () (w.alloc (.map (ordE6 A) 6)) :=
  put_new w (d := .int .i64) Try.underlying97 Try.underlying30 (ordE5 A) 5 _ _ rfl (by kernel_rfl)
theorem ordE_get7 (A : Nat) (w : World) : (Instr.lookup 97 (.map (some w.heap.size)) (.int .i64 7) false).run Try.prog (w.alloc (.map (ordE6 A) 6)) = .ok (.func (.func 74) #[] #[.pointer (some ⟨A, 0, none⟩)]) (w.alloc (.map (ordE6 A) 6)) :=
  look_at w (d := .int .i64) Try.underlying97 Try.underlying30 _ _ _ _ 0 rfl (by kernel_rfl)
theorem ordE_get8 (A : Nat) (w : World) : (Instr.lookup 97 (.map (some w.heap.size)) (.int .i64 8) false).run Try.prog (w.alloc (.map (ordE6 A) 6)) = .ok (.func (.func 75) #[] #[.pointer (some ⟨A, 0, none⟩)]) (w.alloc (.map (ordE6 A) 6)) :=
  look_at w (d := .int .i64) Try.underlying97 Try.underlying30 _ _ _ _ 1 rfl (by kernel_rfl)
theorem ordE_get9 (A : Nat) (w : World) : (Instr.lookup 97 (.map (some w.heap.size)) (.int .i64 9) false).run Try.prog (w.alloc (.map (ordE6 A) 6)) = .ok (.func (.func 76) #[] #[.pointer (some ⟨A, 0, none⟩)]) (w.alloc (.map (ordE6 A) 6)) :=
  look_at w (d := .int .i64) Try.underlying97 Try.underlying30 _ _ _ _ 2 rfl (by kernel_rfl)
theorem ordE_get10 (A : Nat) (w : World) : (Instr.lookup 97 (.map (some w.heap.size)) (.int .i64 10) false).run Try.prog (w.alloc (.map (ordE6 A) 6)) = .ok (.func (.func 77) #[] #[.pointer (some ⟨A, 0, none⟩)]) (w.alloc (.map (ordE6 A) 6)) :=
  look_at w (d := .int .i64) Try.underlying97 Try.underlying30 _ _ _ _ 3 rfl (by kernel_rfl)
theorem ordE_get11 (A : Nat) (w : World) : (Instr.lookup 97 (.map (some w.heap.size)) (.int .i64 11) false).run Try.prog (w.alloc (.map (ordE6 A) 6)) = .ok (.func (.func 78) #[] #[.pointer (some ⟨A, 0, none⟩)]) (w.alloc (.map (ordE6 A) 6)) :=
  look_at w (d := .int .i64) Try.underlying97 Try.underlying30 _ _ _ _ 4 rfl (by kernel_rfl)
theorem ordE_get12 (A : Nat) (w : World) : (Instr.lookup 97 (.map (some w.heap.size)) (.int .i64 12) false).run Try.prog (w.alloc (.map (ordE6 A) 6)) = .ok (.func (.func 79) #[] #[.pointer (some ⟨A, 0, none⟩)]) (w.alloc (.map (ordE6 A) 6)) :=
  look_at w (d := .int .i64) Try.underlying97 Try.underlying30 _ _ _ _ 5 rfl (by kernel_rfl)
def numE1 (A B : Nat) : Array MapEntry := #[{ key := .int .i64 1, val := .func (.func 60) #[] #[.pointer (some ⟨A, 0, none⟩), .pointer (some ⟨B, 0, none⟩)], born := 0 }]
def numE2 (A B : Nat) : Array MapEntry := #[{ key := .int .i64 1, val := .func (.func 60) #[] #[.pointer (some ⟨A, 0, none⟩), .pointer (some ⟨B, 0, none⟩)], born := 0 }, { key := .int .i64 2, val := .func (.func 62) #[] #[.pointer (some ⟨A, 0, none⟩), .pointer (some ⟨B, 0, none⟩)], born := 1 }]
def numE3 (A B : Nat) : Array MapEntry := #[{ key := .int .i64 1, val := .func (.func 60) #[] #[.pointer (some ⟨A, 0, none⟩), .pointer (some ⟨B, 0, none⟩)], born := 0 }, { key := .int .i64 2, val := .func (.func 62) #[] #[.pointer (some ⟨A, 0, none⟩), .pointer (some ⟨B, 0, none⟩)], born := 1 }, { key := .int .i64 3, val := .func (.func 64) #[] #[.pointer (some ⟨A, 0, none⟩), .pointer (some ⟨B, 0, none⟩)], born := 2 }]
def numE4 (A B : Nat) : Array MapEntry := #[{ key := .int .i64 1, val := .func (.func 60) #[] #[.pointer (some ⟨A, 0, none⟩), .pointer (some ⟨B, 0, none⟩)], born := 0 }, { key := .int .i64 2, val := .func (.func 62) #[] #[.pointer (some ⟨A, 0, none⟩), .pointer (some ⟨B, 0, none⟩)], born := 1 }, { key := .int .i64 3, val := .func (.func 64) #[] #[.pointer (some ⟨A, 0, none⟩), .pointer (some ⟨B, 0, none⟩)], born := 2 }, { key := .int .i64 4, val := .func (.func 66) #[] #[.pointer (some ⟨A, 0, none⟩), .pointer (some ⟨B, 0, none⟩)], born := 3 }]
def numE5 (A B : Nat) : Array MapEntry := #[{ key := .int .i64 1, val := .func (.func 60) #[] #[.pointer (some ⟨A, 0, none⟩), .pointer (some ⟨B, 0, none⟩)], born := 0 }, { key := .int .i64 2, val := .func (.func 62) #[] #[.pointer (some ⟨A, 0, none⟩), .pointer (some ⟨B, 0, none⟩)], born := 1 }, { key := .int .i64 3, val := .func (.func 64) #[] #[.pointer (some ⟨A, 0, none⟩), .pointer (some ⟨B, 0, none⟩)], born := 2 }, { key := .int .i64 4, val := .func (.func 66) #[] #[.pointer (some ⟨A, 0, none⟩), .pointer (some ⟨B, 0, none⟩)], born := 3 }, { key := .int .i64 5, val := .func (.func 68) #[] #[.pointer (some ⟨A, 0, none⟩), .pointer (some ⟨B, 0, none⟩)], born := 4 }]
def numE6 (A B : Nat) : Array MapEntry := #[{ key := .int .i64 1, val := .func (.func 60) #[] #[.pointer (some ⟨A, 0, none⟩), .pointer (some ⟨B, 0, none⟩)], born := 0 }, { key := .int .i64 2, val := .func (.func 62) #[] #[.pointer (some ⟨A, 0, none⟩), .pointer (some ⟨B, 0, none⟩)], born := 1 }, { key := .int .i64 3, val := .func (.func 64) #[] #[.pointer (some ⟨A, 0, none⟩), .pointer (some ⟨B, 0, none⟩)], born := 2 }, { key := .int .i64 4, val := .func (.func 66) #[] #[.pointer (some ⟨A, 0, none⟩), .pointer (some ⟨B, 0, none⟩)], born := 3 }, { key := .int .i64 5, val := .func (.func 68) #[] #[.pointer (some ⟨A, 0, none⟩), .pointer (some ⟨B, 0, none⟩)], born := 4 }, { key := .int .i64 15, val := .func (.func 70) #[] #[.pointer (some ⟨A, 0, none⟩)], born := 5 }]
def numE7 (A B : Nat) : Array MapEntry := #[{ key := .int .i64 1, val := .func (.func 60) #[] #[.pointer (some ⟨A, 0, none⟩), .pointer (some ⟨B, 0, none⟩)], born := 0 }, { key := .int .i64 2, val := .func (.func 62) #[] #[.pointer (some ⟨A, 0, none⟩), .pointer (some ⟨B, 0, none⟩)], born := 1 }, { key := .int .i64 3, val := .func (.func 64) #[] #[.pointer (some ⟨A, 0, none⟩), .pointer (some ⟨B, 0, none⟩)], born := 2 }, { key := .int .i64 4, val := .func (.func 66) #[] #[.pointer (some ⟨A, 0, none⟩), .pointer (some ⟨B, 0, none⟩)], born := 3 }, { key := .int .i64 5, val := .func (.func 68) #[] #[.pointer (some ⟨A, 0, none⟩), .pointer (some ⟨B, 0, none⟩)], born := 4 }, { key := .int .i64 15, val := .func (.func 70) #[] #[.pointer (some ⟨A, 0, none⟩)], born := 5 }, { key := .int .i64 20, val := .func (.func 71) #[] #[.pointer (some ⟨A, 0, none⟩)], born := 6 }]
theorem numE_put1 (A B : Nat) (w : World) : (Instr.mapUpdate 96 (.map (some w.heap.size)) (.int .i64 1) (.func (.func 60) #[] #[.pointer (some ⟨A, 0, none⟩), .pointer (some ⟨B, 0, none⟩)])).run Try.prog (w.alloc (.map #[] 0)) = .ok () (w.alloc (.map (numE1 A B) 1)) :=
  put_new w (d := .int .i64) Try.underlying96 Try.underlying30 #[] 0 _ _ rfl (by kernel_rfl)
theorem numE_put2 (A B : Nat) (w : World) : (Instr.mapUpdate 96 (.map (some w.heap.size)) (.int .i64 2) (.func (.func 62) #[] #[.pointer (some ⟨A, 0, none⟩), .pointer (some ⟨B, 0, none⟩)])).run Try.prog (w.alloc (.map (numE1 A B) 1)) = .ok () (w.alloc (.map (numE2 A B) 2)) :=
  put_new w (d := .int .i64) Try.underlying96 Try.underlying30 (numE1 A B) 1 _ _ rfl (by kernel_rfl)
theorem numE_put3 (A B : Nat) (w : World) : (Instr.mapUpdate 96 (.map (some w.heap.size)) (.int .i64 3) (.func (.func 64) #[] #[.pointer (some ⟨A, 0, none⟩), .pointer (some ⟨B, 0, none⟩)])).run Try.prog (w.alloc (.map (numE2 A B) 2)) = .ok () (w.alloc (.map (numE3 A B) 3)) :=
  put_new w (d := .int .i64) Try.underlying96 Try.underlying30 (numE2 A B) 2 _ _ rfl (by kernel_rfl)
theorem numE_put4 (A B : Nat) (w : World) : (Instr.mapUpdate 96 (.map (some w.heap.size)) (.int .i64 4) (.func (.func 66) #[] #[.pointer (some ⟨A, 0, none⟩), .pointer (some ⟨B, 0, none⟩)])).run Try.prog (w.alloc (.map (numE3 A B) 3)) = .ok () (w.alloc (.map (numE4 A B) 4)) :=
  put_new w (d := .int .i64) Try.underlying96 Try.underlying30 (numE3 A B) 3 _ _ rfl (by kernel_rfl)
theorem numE_put5 (A B : Nat) (w : World) : (Instr.mapUpdate 96 (.map (some w.heap.size)) (.int .i64 5) (.func (.func 68) #[] #[.pointer (some ⟨A, 0, none⟩), .pointer (some ⟨B, 0, none⟩)])).run Try.prog (w.alloc (.map (numE4 A B) 4)) = .ok () (w.alloc (.map (numE5 A B) 5)) :=
  put_new w (d := .int .i64) Try.underlying96 Try.underlying30 (numE4 A B) 4 _ _ rfl (by kernel_rfl)
theorem numE_put6 (A B : Nat) (w : World) : (Instr.mapUpdate 96 (.map (some w.heap.size)) (.int .i64 15) (.func (.func 70) #[] #[.pointer (some ⟨A, 0, none⟩)])).run Try.prog (w.alloc (.map (numE5 A B) 5)) = .ok () (w.alloc (.map (numE6 A B) 6)) :=
  put_new w (d := .int .i64) Try.underlying96 Try.underlying30 (numE5 A B) 5 _ _ rfl (by kernel_rfl)
theorem numE_put7 (A B : Nat) (w : World) : (Instr.mapUpdate 96 (.map (some w.heap.size)) (.int .i64 20) (.func (.func 71) #[] #[.pointer (some ⟨A, 0, none⟩)])).run Try.prog (w.alloc (.map (numE6 A B) 6)) = .ok () (w.alloc (.map (numE7 A B) 7)) :=
  put_new w (d := .int .i64) Try.underlying96 Try.underlying30 (numE6 A B) 6 _ _ rfl (by kernel_rfl)
theorem numE_get1 (A B : Nat) (w : World) : (Instr.lookup 96 (.map (some w.heap.size)) (.int .i64 1) false).run Try.prog (w.alloc (.map (numE7 A B) 7)) = .ok (.func (.func 60) #[] #[.pointer (some ⟨A, 0, none⟩), .pointer (some ⟨B, 0, none⟩)]) (w.alloc (.map (numE7 A B) 7)) :=
  look_at w (d := .int .i64) Try.underlying96 Try.underlying30 _ _ _ _ 0 rfl (by kernel_rfl)
theorem numE_get2 (A B : Nat) (w : World) : (Instr.lookup 96 (.map (some w.heap.size)) (.int .i64 2) false).run Try.prog (w.alloc (.map (numE7 A B) 7)) = .ok (.func (.func 62) #[] #[.pointer (some ⟨A, 0, none⟩), .pointer (some ⟨B, 0, none⟩)]) (w.alloc (.map (numE7 A B) 7)) :=
  look_at w (d := .int .i64) Try.underlying96 Try.underlying30 _ _ _ _ 1 rfl (by kernel_rfl)
theorem numE_get3 (A B : Nat) (w : World) : (Instr.lookup 96 (.map (some w.heap.size)) (.int .i64 3) false).run Try.prog (w.alloc (.map (numE7 A B) 7)) = .ok (.func (.func 64) #[] #[.pointer (some ⟨A, 0, none⟩), .pointer (some ⟨B, 0, none⟩)]) (w.alloc (.map (numE7 A B) 7)) :=
  look_at w (d := .int .i64) Try.underlying96 Try.underlying30 _ _ _ _ 2 rfl (by kernel_rfl)
theorem numE_get4 (A B : Nat) (w : World) : (Instr.lookup 96 (.map (some w.heap.size)) (.int .i64 4) false).run Try.prog (w.alloc (.map (numE7 A B) 7)) = .ok (.func (.func 66) #[] #[.pointer (some ⟨A, 0, none⟩), .pointer (some ⟨B, 0, none⟩)]) (w.alloc (.map (numE7 A B) 7)) :=
  look_at w (d := .int .i64) Try.underlying96 Try.underlying30 _ _ _ _ 3 rfl (by kernel_rfl)
theorem numE_get5 (A B : Nat) (w : World) : (Instr.lookup 96 (.map (some w.heap.size)) (.int .i64 5) false).run Try.prog (w.alloc (.map (numE7 A B) 7)) = .ok (.func (.func 68) #[] #[.pointer (some ⟨A, 0, none⟩), .pointer (some ⟨B, 0, none⟩)]) (w.alloc (.map (numE7 A B) 7)) :=
  look_at w (d := .int .i64) Try.underlying96 Try.underlying30 _ _ _ _ 4 rfl (by kernel_rfl)
theorem numE_get15 (A B : Nat) (w : World) : (Instr.lookup 96 (.map (some w.heap.size)) (.int .i64 15) false).run Try.prog (w.alloc (.map (numE7 A B) 7)) = .ok (.func (.func 70) #[] #[.pointer (some ⟨A, 0, none⟩)]) (w.alloc (.map (numE7 A B) 7)) :=
  look_at w (d := .int .i64) Try.underlying96 Try.underlying30 _ _ _ _ 5 rfl (by kernel_rfl)
theorem numE_get20 (A B : Nat) (w : World) : (Instr.lookup 96 (.map (some w.heap.size)) (.int .i64 20) false).run Try.prog (w.alloc (.map (numE7 A B) 7)) = .ok (.func (.func 71) #[] #[.pointer (some ⟨A, 0, none⟩)]) (w.alloc (.map (numE7 A B) 7)) :=
  look_at w (d := .int .i64) Try.underlying96 Try.underlying30 _ _ _ _ 6 rfl (by kernel_rfl)
def truE1 (A : Nat) : Array MapEntry := #[{ key := .int .i64 13, val := .func (.func 82) #[] #[.pointer (some ⟨A, 0, none⟩)], born := 0 }]
def truE2 (A : Nat) : Array MapEntry := #[{ key := .int .i64 13, val := .func (.func 82) #[] #[.pointer (some ⟨A, 0, none⟩)], born := 0 }, { key := .int .i64 14, val := .func (.func 84) #[] #[.pointer (some ⟨A, 0, none⟩)], born := 1 }]
def truE3 (A : Nat) : Array MapEntry := #[{ key := .int .i64 13, val := .func (.func 82) #[] #[.pointer (some ⟨A, 0, none⟩)], born := 0 }, { key := .int .i64 14, val := .func (.func 84) #[] #[.pointer (some ⟨A, 0, none⟩)], born := 1 }, { key := .int .i64 16, val := .func (.func 86) #[] #[.pointer (some ⟨A, 0, none⟩)], born := 2 }]
theorem truE_put1 (A : Nat) (w : World) : (Instr.mapUpdate 103 (.map (some w.heap.size)) (.int .i64 13) (.func (.func 82) #[] #[.pointer (some ⟨A, 0, none⟩)])).run Try.prog (w.alloc (.map #[] 0)) = .ok () (w.alloc (.map (truE1 A) 1)) :=
  put_new w (d := .int .i64) Try.underlying103 Try.underlying30 #[] 0 _ _ rfl (by kernel_rfl)
theorem truE_put2 (A : Nat) (w : World) : (Instr.mapUpdate 103 (.map (some w.heap.size)) (.int .i64 14) (.func (.func 84) #[] #[.pointer (some ⟨A, 0, none⟩)])).run Try.prog (w.alloc (.map (truE1 A) 1)) = .ok () (w.alloc (.map (truE2 A) 2)) :=
  put_new w (d := .int .i64) Try.underlying103 Try.underlying30 (truE1 A) 1 _ _ rfl (by kernel_rfl)
theorem truE_put3 (A : Nat) (w : World) : (Instr.mapUpdate 103 (.map (some w.heap.size)) (.int .i64 16) (.func (.func 86) #[] #[.pointer (some ⟨A, 0, none⟩)])).run Try.prog (w.alloc (.map (truE2 A) 2)) = .ok () (w.alloc (.map (truE3 A) 3)) :=
  put_new w (d := .int .i64) Try.underlying103 Try.underlying30 (truE2 A) 2 _ _ rfl (by kernel_rfl)
theorem truE_get13 (A : Nat) (w : World) : (Instr.lookup 103 (.map (some w.heap.size)) (.int .i64 13) false).run Try.prog (w.alloc (.map (truE3 A) 3)) = .ok (.func (.func 82) #[] #[.pointer (some ⟨A, 0, none⟩)]) (w.alloc (.map (truE3 A) 3)) :=
  look_at w (d := .int .i64) Try.underlying103 Try.underlying30 _ _ _ _ 0 rfl (by kernel_rfl)
theorem truE_get14 (A : Nat) (w : World) : (Instr.lookup 103 (.map (some w.heap.size)) (.int .i64 14) false).run Try.prog (w.alloc (.map (truE3 A) 3)) = .ok (.func (.func 84) #[] #[.pointer (some ⟨A, 0, none⟩)]) (w.alloc (.map (truE3 A) 3)) :=
  look_at w (d := .int .i64) Try.underlying103 Try.underlying30 _ _ _ _ 1 rfl (by kernel_rfl)
theorem truE_get16 (A : Nat) (w : World) : (Instr.lookup 103 (.map (some w.heap.size)) (.int .i64 16) false).run Try.prog (w.alloc (.map (truE3 A) 3)) = .ok (.func (.func 86) #[] #[.pointer (some ⟨A, 0, none⟩)]) (w.alloc (.map (truE3 A) 3)) :=
  look_at w (d := .int .i64) Try.underlying103 Try.underlying30 _ _ _ _ 2 rfl (by kernel_rfl)
end Go.Proofs.Ytoknfdgejiachaa
