import Derived.Test.YthnllhfdbnnjhaaO14
namespace Go.Proofs.Ythnllhfdbnnjhaa
open Go.RowKit Go.Shelf

/-- A string made of bytes that are there. -/
theorem conv_at (w : World) (p : Option Addr) (cap : Nat) (l : List Nat) (hb : ∀ b ∈ l, b < 256) (hc : BytesAt w p l) :
    (convert 39 9 (.slice p l.length cap)).run Try.prog w = .ok (.string (strOf l)) w := by
  cases l with
  | nil =>
    cases p with
    | none =>
      show (convert 39 9 (.slice none 0 cap)).run Try.prog w = _
      rw [run_convert_bytes_string w 39 9 5 none 0 cap Try.underlying39 Try.underlying5 Try.underlying9]
      rfl
    | some a =>
      have := run_convert_bytes_back (P := Try.prog) w 39 9 5 a cap [] Try.underlying39 Try.underlying5 Try.underlying9 (fun j hj => absurd hj (Nat.not_lt_zero j))
      simpa [strOf] using this
  | cons b l =>
    obtain ⟨B, off, rfl, -⟩ := hc 0 (by simp)
    refine conv_bytes w B off cap _ (b :: l) rfl hb fun j hj => ?_
    obtain ⟨B', off', e, c⟩ := hc j hj
    injection e with e
    injection e with e1 e2
    subst e1 e2
    exact c
end Go.Proofs.Ythnllhfdbnnjhaa
