import Derived.Test.YtgadmbgnkccooaaO23
namespace Go.Proofs.Ytgadmbgnkccooaa
open Go.RowKit Go.Shelf

/-- Bytes of a call's own, as bytes in a slice. -/
theorem RowB.at' {w w' : World} {l : List Nat} {t : Value} (h : RowB w l t w') :
    ∃ p cap, t = .slice p l.length cap ∧ l.length ≤ cap ∧ cap ≤ maxLen ∧ BytesAt w' p l ∧ ∀ a, p = some a → w.heap.size ≤ a.block := by
  obtain ⟨⟨h0, h1⟩, hB⟩ := h
  rcases h1 with ⟨rfl, hn⟩ | ⟨g, cap, cur, rfl, hg, hh, hc, hm, hs, hx⟩
  · have : l = [] := List.eq_nil_of_length_eq_zero hn
    subst this
    exact ⟨none, 0, rfl, Nat.le_refl _, by unfold maxLen; omega, fun i hi => absurd hi (Nat.not_lt_zero i), fun a e => by cases e⟩
  · refine ⟨_, cap, rfl, hc, hm, fun i hi => ⟨g, 0, rfl, ?_⟩, fun a e => by injection e with e; subst e; exact hg⟩
    have hw : w'.ownsRow w.heap.size 5 1 (.slice (some ⟨g, 0, none⟩) l.length cap) l.length (l.map fun (v : Nat) => Value.int .u8 (v : Int)) := ⟨h0, .inr ⟨g, cap, cur, rfl, hg, hh, hc, hm, hs, hx⟩⟩
    have := hw.cellAt i (by omega)
    rw [Nat.zero_add, this]
    simp [List.getD_eq_getElem?_getD, hi]
theorem RowB.str {w w' : World} {l : List Nat} {t : Value} {n : Nat} {s : ByteArray} (h : RowB w l t w') (hn : l.length = n) (hs : strOf l = s) (hb : ∀ b ∈ l, b < 256) :
    ∃ p cap, t = .slice p n cap ∧ BytesAt w' p l ∧ (convert 23 9 (.slice p n cap)).run Try.prog w' = .ok (.string s) w' ∧ Below w.heap.size w w' := by
  obtain ⟨p, cap, e, -, -, hba, -⟩ := h.at'
  subst hn hs
  exact ⟨p, cap, e, hba, conv_at w' p cap l hb hba, h.2⟩
/-- Bytes in a new block. -/
theorem bytesAt_new (w : World) (l : List Nat) (t : TypeId) : BytesAt (w.alloc (.cells (l.map fun (v : Nat) => Value.int .u8 (v : Int)).toArray t)) (some ⟨w.heap.size, 0, none⟩) l := by
  intro i hi
  refine ⟨_, _, rfl, ?_⟩
  rw [World.cell?_alloc_new]
  simp [List.getD_eq_getElem?_getD, hi]
theorem read_a (w : World) (p : Option Addr) (h : BytesAt w p [128, 0]) : Calls Try.prog 9 #[.slice p 2 2] w fun r w' => r = .returned (.tuple #[.int .u64 0, .int .i64 0, .int .i64 130]) ∧ Below w.heap.size w w' := by
  have e : readE [128, 0] = (0, 0, 130) := by simp [readE, readAt]
  have := readNumber_any [128, 0] p 2 w (by simp) (by simp) (by omega) (by decide) (Lib.hid h)
  rw [e] at this
  simpa using this
theorem read_b (w : World) (p : Option Addr) (h : BytesAt w p [172, 2, 7]) : Calls Try.prog 9 #[.slice p 3 3] w fun r w' => r = .returned (.tuple #[.int .u64 300, .int .i64 2, .int .i64 0]) ∧ Below w.heap.size w w' := by
  have e : readE [172, 2, 7] = (300, 2, 0) := by simp [readE, readAt]
  have := readNumber_any [172, 2, 7] p 3 w (by simp) (by simp) (by omega) (by decide) (Lib.hid h)
  rw [e] at this
  simpa using this
theorem num_a (w : World) : Calls Try.prog 8 #[.int .u64 300] w fun r w' => ∃ t, r = .returned t ∧ RowB w [172, 2] t w' := by
  have e : numE 300 = [172, 2] := by simp [numE, numF]
  have := number_any 300 w (by omega)
  rw [e] at this
  simpa using this
theorem four_a (w : World) : Calls Try.prog 16 #[.int .u32 258] w fun r w' => ∃ t, r = .returned t ∧ RowB w [0, 0, 1, 2] t w' := by
  have e : fixE 4 258 = [0, 0, 1, 2] := by simp [fixE]
  have := four_any 258 w (by omega)
  rw [e] at this
  simpa using this
theorem string_a (w : World) : Calls Try.prog 20 #[.string ⟨#[97, 98]⟩] w fun r w' => ∃ t, r = .returned t ∧ RowB w [2, 97, 98] t w' := by
  have e : strE (bytesL ⟨#[97, 98]⟩) = [2, 97, 98] := by simp [strE, bytesL, numE, numF]
  have := string_any ⟨#[97, 98]⟩ (by decide) w
  rw [e] at this
  simpa using this
end Go.Proofs.Ytgadmbgnkccooaa
