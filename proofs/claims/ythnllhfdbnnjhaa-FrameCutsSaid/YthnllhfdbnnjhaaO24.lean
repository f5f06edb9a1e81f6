import Derived.Test.YthnllhfdbnnjhaaO23
namespace Go.Proofs.Ythnllhfdbnnjhaa
open Go.RowKit Go.Shelf

/-- Bytes of a call's own, as bytes in a slice. -/
theorem RowB.at' {w w' : World} {l : List Nat} {t : Value} (h : RowB w l t w') :
    ∃ p cap, t = .slice p l.length cap ∧ l.length ≤ cap ∧ cap ≤ maxLen ∧ BytesAt w' p l ∧ ∀ a, p = some a → w.heap.size ≤ a.block := by
  obtain ⟨⟨h0, h1⟩, hB⟩ := h
  rcases h1 with ⟨rfl, hn⟩ | ⟨g, cap, cur, rfl, hg, hh, hc, hm, hs, hx⟩
  · have : l = [] := List.eq_nil_of_length_eq_zero hn
    subst this
    exact ⟨none, 0, rfl, Nat.le_refl _, by unfold maxLen; omega, fun i hi => absurd hi (Nat.not_lt_zero i), fun a e => by cases e⟩
  · refine ⟨_, cap, rfl, hc, hm, fun i hi => ⟨g, 0, rfl, ?_⟩, fun a e => by injection e with e; subst e; exact hg⟩
    have hw : w'.ownsRow w.heap.size 5 1 (.slice (some ⟨g, 0, none⟩) l.length cap) l.length (l.map fun (v : Nat) => Value.int .u8 (v : Int)) := ⟨h0, .inr ⟨g, cap, cur, rfl, hg, hh, hc, hm, hs, hx⟩⟩
    have := hw.cellAt i (by omega)
    rw [Nat.zero_add, this]
    simp [List.getD_eq_getElem?_getD, hi]
theorem RowB.str {w w' : World} {l : List Nat} {t : Value} {n : Nat} {s : ByteArray} (h : RowB w l t w') (hn : l.length = n) (hs : strOf l = s) (hb : ∀ b ∈ l, b < 256) :
    ∃ p cap, t = .slice p n cap ∧ BytesAt w' p l ∧ (convert 39 9 (.slice p n cap)).run Try.prog w' = .ok (.string s) w' ∧ Below w.heap.size w w' := by
  obtain ⟨p, cap, e, -, -, hba, -⟩ := h.at'
  subst hn hs
  exact ⟨p, cap, e, hba, conv_at w' p cap l hb hba, h.2⟩
/-- Bytes in a new block. -/
theorem bytesAt_new (w : World) (l : List Nat) (t : TypeId) : BytesAt (w.alloc (.cells (l.map fun (v : Nat) => Value.int .u8 (v : Int)).toArray t)) (some ⟨w.heap.size, 0, none⟩) l := by
  intro i hi
  refine ⟨_, _, rfl, ?_⟩
  rw [World.cell?_alloc_new]
  simp [List.getD_eq_getElem?_getD, hi]
theorem four_a (w : World) : Calls Try.prog 52 #[.int .u32 258] w fun r w' => ∃ t, r = .returned t ∧ RowB w [0, 0, 1, 2] t w' := by
  have e : fixE 4 258 = [0, 0, 1, 2] := by simp [fixE]
  have := four_any 258 w (by omega)
  rw [e] at this
  simpa using this
end Go.Proofs.Ythnllhfdbnnjhaa
