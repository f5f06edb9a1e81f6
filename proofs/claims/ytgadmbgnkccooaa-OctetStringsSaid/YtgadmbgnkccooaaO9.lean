import Derived.Test.YtgadmbgnkccooaaO8
namespace Go.Proofs.Ytgadmbgnkccooaa
open Go.RowKit Go.Shelf

def strOf (l : List Nat) : ByteArray := ⟨(l.map UInt8.ofNat).toArray⟩
theorem addr_plain (B off j : Nat) : (⟨B, off, none⟩ : Addr).add j = ⟨B, off + j, none⟩ := by
  by_cases h : j = 0 <;> simp [Addr.add, h]
theorem conv_bytes (w : World) (B off cap n : Nat) (l : List Nat) (hn : l.length = n) (hb : ∀ b ∈ l, b < 256) (hc : ∀ j, j < l.length → w.cell? ⟨B, off + j, none⟩ = some (.int .u8 (l.getD j 0 : Nat))) :
    (convert 23 9 (.slice (some ⟨B, off, none⟩) n cap)).run Try.prog w = .ok (.string (strOf l)) w := by
  subst hn
  have := run_convert_bytes_back (P := Try.prog) w 23 9 5 ⟨B, off, none⟩ cap (l.map UInt8.ofNat) Try.underlying23 Try.underlying5 Try.underlying9 (fun j hj => by
    have hj' : j < l.length := by simpa using hj
    have h := hc j hj'
    have hlt : l[j] < 256 := hb _ (List.getElem_mem hj')
    rw [List.getD_eq_getElem?_getD, List.getElem?_eq_getElem hj'] at h
    rw [addr_plain, h]
    simp
    omega)
  simpa [strOf] using this
set_option maxRecDepth 100000 in
set_option maxHeartbeats 1000000 in
theorem refReadString_any (l : List Nat) (p : Option Addr) (cap : Nat) (w : World) (hl : l.length ≤ 100000) (hcap : l.length ≤ cap) (hb : ∀ b ∈ l, b < 256) (hc : Hid (BytesAt w p l)) :
    Calls Try.prog 22 #[.slice p l.length cap] w fun r w' => r = .returned (.tuple #[.string (strOf (readStrE l).1), .int .i64 (readStrE l).2.1, .int .i64 (readStrE l).2.2]) ∧ w = w' := by
  have C := refReadNumber_any l p cap w hl hb hc
  have hR := readE_range l hb
  have hS : readStrE l = if (readE l).2.2 ≠ 0 ∨ l.length - (readE l).2.1 < (readE l).1 then ([], 0, 130) else ((l.drop (readE l).2.1).take (readE l).1, (readE l).2.1 + (readE l).1, 0) := rfl
  obtain ⟨⟨n, k, e⟩, hr⟩ : ∃ R, readE l = R := ⟨_, rfl⟩
  rw [hr] at C hR hS
  simp only at C hR hS
  have HC := Lib.hid C
  have HB := Lib.hid hb
  clear C hb
  by_cases he : e = 0
  · subst he
    obtain ⟨h1, h2, h3, h4⟩ : n < 2 ^ 64 ∧ 0 < k ∧ k ≤ l.length ∧ k ≤ 10 := by
      rcases hR with h | h
      · exact h.2
      · simp at h
    by_cases hn : l.length - k < n
    · rw [if_pos (.inr hn)] at hS
      rw [hS]
      clear hS hR
      go_enter Try.func22, Try.ntmps22
      go_wp2_with (go_at_call 10; refine HC.out.mono ?_; rintro e w' ⟨rfl, rfl⟩)
      go_ret3
      exact ⟨rfl, rfl⟩
    · rw [if_neg (by simp; omega)] at hS
      rw [hS]
      clear hS hR
      obtain ⟨B, off, rfl, -⟩ := hc.out 0 (by omega)
      by_cases hck : cap = k
      · have hn0 : n = 0 := by omega
        subst hck hn0
        have hcv := conv_bytes w B off 0 0 [] rfl (fun b hb => by cases hb) (fun j hj => absurd hj (Nat.not_lt_zero j))
        have es : strOf [] = ⟨#[]⟩ := rfl
        go_enter Try.func22, Try.ntmps22
        go_wp2_with (go_at_call 10; refine HC.out.mono ?_; rintro e w' ⟨rfl, rfl⟩)
        all_goals go_ret3
        all_goals exact ⟨by simp [es], rfl⟩
      have hcv := conv_bytes w B (off + k) (cap - k) n ((l.drop k).take n) (by simp; omega) (fun b hb => HB.out b (List.mem_of_mem_drop (List.mem_of_mem_take hb))) (fun j hj => by
        have hj' : j < n ∧ k + j < l.length := by simp at hj; omega
        obtain ⟨B', off', e, c⟩ := hc.out (k + j) hj'.2
        injection e with e
        injection e with e1 e2
        subst e1 e2
        rw [Nat.add_assoc, c]
        simp [List.getD_eq_getElem?_getD, List.getElem?_take, List.getElem?_drop, hj'.1])
      go_enter Try.func22, Try.ntmps22
      go_wp2_with (go_at_call 10; refine HC.out.mono ?_; rintro e w' ⟨rfl, rfl⟩)
      all_goals go_ret3
      all_goals first | exact ⟨rfl, rfl⟩ | exact ⟨by simp, rfl⟩
  · have e2 : e = 130 := by
      rcases hR with h | h
      · exact absurd h.1 he
      · simp at h; exact h.2.2
    subst e2
    rw [if_pos (.inl he)] at hS
    rw [hS]
    clear hS hR
    go_enter Try.func22, Try.ntmps22
    go_wp2_with (go_at_call 10; refine HC.out.mono ?_; rintro e w' ⟨rfl, rfl⟩)
    go_ret3
    exact ⟨rfl, rfl⟩
end Go.Proofs.Ytgadmbgnkccooaa

