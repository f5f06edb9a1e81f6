import Derived.Test.YthnllhfdbnnjhaaO31
namespace Go.Proofs.Ythnllhfdbnnjhaa
open Go.RowKit Go.Shelf

theorem bytesAt_from {w : World} {p : Option Addr} {l : List Nat} (h : BytesAt w p l) (k : Nat) : BytesAt w (p.map fun x => x.add k) (l.drop k) := by
  intro i hi
  rw [List.length_drop] at hi
  obtain ⟨B, off, rfl, c⟩ := h (k + i) (by omega)
  refine ⟨B, off + k, congrArg some (addr_plain B off k), ?_⟩
  rw [Nat.add_assoc, c]
  simp [List.getD_eq_getElem?_getD, List.getElem?_drop]
theorem clone_any (l : List Nat) (p : Option Addr) (cap : Nat) (w : World) (hl : l.length ≤ 100000) (hc : BytesAt w p l) :
    Calls Try.prog 47 #[.slice p l.length cap] w fun r w' => ∃ t, r = .returned t ∧ RowB w l t w' := by
  cases p with
  | none =>
    have hl0 : l = [] := by
      cases l with
      | nil => rfl
      | cons b t => obtain ⟨B, off, e, -⟩ := hc 0 (by simp); cases e
    subst hl0
    refine (Any.bytes_Clone_nil Try.clone_lays 0 cap w).mono ?_
    rintro e w' ⟨rfl, rfl⟩
    exact ⟨_, rfl, World.ownsRow_nil _ _ _ _, Below.refl _ _⟩
  | some a =>
    refine (Any.bytes_Clone_at Try.clone_lays a l.length cap (l.map fun (v : Nat) => (v : Int)) w (by simp) (by omega) (fun i hi => by
      obtain ⟨B, off, e, c⟩ := hc i hi
      injection e with e
      subst e
      rw [addr_plain, c]
      simp [List.getD_eq_getElem?_getD, hi])).mono ?_
    rintro e w' ⟨v', rfl, ho, -, hb⟩
    refine ⟨v', rfl, ?_, hb⟩
    simp only [List.map_map, Function.comp_def] at ho
    exact ho
/-- What Numbers hands over: an iterator over bytes of its own. -/
structure NumsAt (w0 : World) (l : List Nat) (bb : Nat) (q : Option Addr) (c : Nat) (w : World) : Prop where
  cell : w.cell? ⟨bb, 0, none⟩ = some (.slice q l.length c)
  bytes : BytesAt w q l
  cap : l.length ≤ c
  max : c ≤ 9223372036854775807
  new : w0.heap.size ≤ bb
  lt : bb < w.heap.size
  own : ∀ k off, q = some ⟨k, off, none⟩ → w0.heap.size ≤ k ∧ (0 < l.length → k < w.heap.size)
  below : Below w0.heap.size w0 w
end Go.Proofs.Ythnllhfdbnnjhaa
