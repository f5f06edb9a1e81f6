import Derived.Test.YthnllhfdbnnjhaaO15
namespace Go.Proofs.Ythnllhfdbnnjhaa
open Go.RowKit Go.Shelf

/-- A reader that begins. -/
theorem rest_new (T : Nat → Prop) (w : World) (p : Option Addr) (cap : Nat) (l : List Nat) (t : TypeId) (hcap : l.length ≤ cap) (hc : BytesAt w p l) (hT : ∀ B off, p = some ⟨B, off, none⟩ → B < w.heap.size → T B) (hP : ¬ T w.heap.size) :
    RestP T (w.alloc (.cells #[.slice p l.length cap] t)) w.heap.size p cap l := by
  refine ⟨by go_cell, hcap, by simp, hP, fun i hi => ?_⟩
  obtain ⟨B, off, rfl, c⟩ := hc i hi
  have := lt_of_cell_some c
  simp only at this
  exact ⟨B, off, rfl, hT _ _ rfl this, (World.cell?_alloc_old _ _ _ (Nat.ne_of_lt this)).trans c⟩
end Go.Proofs.Ythnllhfdbnnjhaa
