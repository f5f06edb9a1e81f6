import Derived.Test.YthnllhfdbnnjhaaO8
namespace Go.Proofs.Ythnllhfdbnnjhaa
open Go.RowKit Go.Shelf

def strOf (l : List Nat) : ByteArray := ⟨(l.map UInt8.ofNat).toArray⟩
theorem addr_plain (B off j : Nat) : (⟨B, off, none⟩ : Addr).add j = ⟨B, off + j, none⟩ := by
  by_cases h : j = 0 <;> simp [Addr.add, h]
theorem conv_bytes (w : World) (B off cap n : Nat) (l : List Nat) (hn : l.length = n) (hb : ∀ b ∈ l, b < 256) (hc : ∀ j, j < l.length → w.cell? ⟨B, off + j, none⟩ = some (.int .u8 (l.getD j 0 : Nat))) :
    (convert 39 9 (.slice (some ⟨B, off, none⟩) n cap)).run Try.prog w = .ok (.string (strOf l)) w := by
  subst hn
  have := run_convert_bytes_back (P := Try.prog) w 39 9 5 ⟨B, off, none⟩ cap (l.map UInt8.ofNat) Try.underlying39 Try.underlying5 Try.underlying9 (fun j hj => by
    have hj' : j < l.length := by simpa using hj
    have h := hc j hj'
    have hlt : l[j] < 256 := hb _ (List.getElem_mem hj')
    rw [List.getD_eq_getElem?_getD, List.getElem?_eq_getElem hj'] at h
    rw [addr_plain, h]
    simp
    omega)
  simpa [strOf] using this
end Go.Proofs.Ythnllhfdbnnjhaa

