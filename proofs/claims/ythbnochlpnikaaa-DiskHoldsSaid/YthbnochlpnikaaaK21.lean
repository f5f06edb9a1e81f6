/- Copies of maps and of rows. -/
import Derived.Test.YthbnochlpnikaaaK20
import Derived.Shelf.SlMaps.Clone
import Derived.Laws.Cover3
namespace Go.Proofs.Ythbnochlpnikaaa
open Go.RowKit Go.Shelf

set_option maxRecDepth 100000 in
set_option maxHeartbeats 1000000 in
theorem mclone_run (b : Nat) (es : Array MapEntry) (clock : Nat) (w : World) (hb : w.heap[b]? = some (.map es clock)) :
    Calls Try.prog 52 #[.map (some b)] w fun e w' => e = .returned (.map (some w.heap.size)) ∧ w' = w.alloc (.map es clock) := by
  have hq := fun w => run_eql_map_nil_sl (P := Try.prog) w 57 _ _ (some b) Try.underlying57
  go_enter Try.func52, Try.ntmps52
  go_wp2
  rw [run_callFunc_extern Try.func59 (by kernel_rfl) (by kernel_rfl) (by kernel_rfl) (e := Extern.MapsClone.clone) (by kernel_rfl), run_maps_clone_sl w 57 hb]
  simp only [Result.andThen]
  rw [Oper.upon_value]
  go_wp2
  rw [run_typeAssert_map_sl _ 57 20 _ _ _ Try.underlying57]
  simp only [Result.andThen]
  rw [Oper.upon_value]
  go_wp2
  go_ret
  exact ⟨rfl, rfl⟩
theorem mclone_any {b m : Nat} {f : Nat → ByteArray} {w : World} (h : MapIs w b m f) :
    Calls Try.prog 52 #[.map (some b)] w fun e w' => e = .returned (.map (some w.heap.size)) ∧ MapIs w' w.heap.size m f ∧ Below w.heap.size w w' ∧ w'.heap.size = w.heap.size + 1 := by
  obtain ⟨D, ⟨es, clock, hb, F, hs, hD⟩, hd⟩ := h.own
  refine (mclone_run b es clock w hb).mono ?_
  rintro e w' ⟨rfl, rfl⟩
  exact ⟨rfl, ⟨h.le, h.size, D, ⟨es, clock, heap_alloc_new w _, F, hs, hD⟩, hd⟩, (Below.refl _ _).alloc (Nat.le_refl _) _, by simp⟩
set_option maxRecDepth 100000 in
set_option maxHeartbeats 1000000 in
theorem clone_any {b m : Nat} {f : Nat → ByteArray} {w : World} (h : MapIs w b m f) :
    Calls Try.prog 29 #[.agg #[.map (some b)]] w fun e w' => ∃ b', e = .returned (.agg #[.map (some b')]) ∧ w.heap.size ≤ b' ∧ MapIs w' b' m f ∧ Below w.heap.size w w' := by
  have B2 : Below w.heap.size w ((w.alloc (.cells #[.map (some b)] 59)).alloc (.cells #[.map none] 59)) := ((Below.refl _ _).alloc (Nat.le_refl _) _).alloc (by simp) _
  have C := Lib.hid (mclone_any (h.below B2))
  go_enter Try.func29, Try.ntmps29
  go_wp2_with fail
  refine C.out.mono ?_
  rintro e w2 ⟨rfl, M2, Bx, hs2⟩
  have l1 : w.heap.size + 1 < w2.heap.size := by simp at hs2; omega
  have f1 : w2.frozen? ⟨w.heap.size + 1, 0, none⟩ = false := (Bx.frozen (p := ⟨w.heap.size + 1, 0, none⟩) (by simp)).trans (by go_cell)
  have c1 : w2.cell? ⟨w.heap.size + 1, 0, none⟩ = some (.map none) := (Bx.cell (p := ⟨w.heap.size + 1, 0, none⟩) (by simp)).trans (by go_cell)
  have HM := Lib.hid M2
  have HB := Lib.hid (kbP B2 Bx)
  have e3 : ((w.alloc (.cells #[.map (some b)] 59)).alloc (.cells #[.map none] 59)).heap.size = w.heap.size + 2 := by simp
  rw [e3] at HM
  clear M2 Bx hs2 C B2 e3
  go_wp2_with fail
  refine bodyPost_ret (v := .agg #[.map (some (w.heap.size + 2))]) ?_ rfl ⟨_, rfl, by omega, HM.out.of_block (heap_setCell_other w2 _ _ _ (by simp)), HB.out.setCell (by simp) _⟩
  simp [results, Try.results29, go_sem, c1]
/-- A row of writes, copied. -/
theorem nil_slice (w : World) (a : Option Addr) (n c : Nat) : (binOp .eql 61 (.slice a n c) (.slice none 0 0)).run Try.prog w = .ok (.bool a.isNone) w := by
  simp only [binOp]
  rw [Sem.run_bind, run_equal_slice_nil w 61 78 a n c Try.underlying61]
  rfl
theorem row_empty (w : World) : (w.alloc (.cells #[] 78)).ownsRow w.heap.size 78 65 (.slice (some ⟨w.heap.size, 0, none⟩) 0 0) 0 [] :=
  ⟨rfl, .inr ⟨w.heap.size, 0, #[], rfl, Nat.le_refl _, heap_alloc_new _ _, Nat.le_refl _, by unfold maxLen; omega, rfl, rfl⟩⟩
set_option maxRecDepth 100000 in
set_option maxHeartbeats 1000000 in
theorem sclone_any {w : World} {v : Value} {l : List (Nat × ByteArray)} (h : w.ownsRow 0 78 65 v l.length (wcs l)) (hl : l.length ≤ 100000) :
    Calls Try.prog 30 #[v] w fun e w' => ∃ u, e = .returned u ∧ w'.ownsRow w.heap.size 78 65 u l.length (wcs l) ∧ Below w.heap.size w w' := by
  have qn := nil_slice
  rcases h.2 with ⟨rfl, h0⟩ | ⟨g, cap, cur, rfl, -, hg, hn, hcm, hcs, htake⟩
  · have : l = [] := List.eq_nil_of_length_eq_zero h0
    subst this
    go_enter Try.func30, Try.ntmps30
    go_wp2
    go_ret
    exact ⟨_, rfl, ⟨rfl, .inl ⟨rfl, rfl⟩⟩, Below.refl _ _⟩
  · have B1 : Below w.heap.size w (w.alloc (.cells #[] 78)) := (Below.refl _ _).alloc (Nat.le_refl _) _
    have hr : (w.alloc (.cells #[] 78)).ownsRow 0 78 65 (.slice (some ⟨g, 0, none⟩) l.length cap) l.length (wcs l) := ownsRow_kept h (fun j hj => Below.heap_alloc w _ j (h.lt j hj).2)
    have hnews := Lib.hid (fun j u hu => hr.cells (g := g) rfl j u hu)
    have hlen := Lib.hid h.1
    have RE := Lib.hid (row_empty w)
    obtain ⟨i, hi, hz0, hz1, hz2⟩ := info_parts info78
    have hz : (Value.agg z78).cells.size = 65 := by simp [Value.cells, z78]
    clear hr h hg hcs htake
    go_enter Try.func30, Try.ntmps30
    go_wp2_with (first
      | (at_builtin; (try go_frame); refine wpList_append_own _ rfl _ _ 61 rfl w.heap.size 78 i (.agg z78) 65 72 Try.underlying61 hi hz0 hz1 hz2 hz (by omega) _ _ _ rfl RE.out ⟨g, 0, none⟩ l.length cap (wcs l) rfl hlen.out hnews.out (wcs_one l) (by unfold maxLen; omega) (by omega) (by simp) ?_; intro v' w2 hr2 hg2 _)
      | fail)
    go_ret
    refine ⟨_, rfl, ?_, B1.grown hg2 (by simp) (fun j hj => by cases hj; exact Nat.le_refl _)⟩
    simpa using hr2
end Go.Proofs.Ythbnochlpnikaaa
