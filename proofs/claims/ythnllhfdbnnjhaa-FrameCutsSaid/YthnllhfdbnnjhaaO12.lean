import Derived.Test.YthnllhfdbnnjhaaO11
namespace Go.Proofs.Ythnllhfdbnnjhaa
open Go.RowKit Go.Shelf

theorem lt_of_cell_some {w : World} {p : Addr} {v : Value} (h : w.cell? p = some v) : p.block < w.heap.size := by
  rcases Nat.lt_or_ge p.block w.heap.size with h1 | h1
  · exact h1
  · simp [World.cell?, Array.getElem?_eq_none h1] at h
theorem rowB_of_is {w w' : World} {n : Nat} {f : Nat → Value} {l : List Nat} (h : w'.rowIs w.heap.size 5 n f) (hn : l.length = n) (hm : n ≤ maxLen) (hf : ∀ i, i < n → f i = .int .u8 (l.getD i 0 : Nat)) (hb : Below w.heap.size w w') :
    RowB w l (.slice (some ⟨w.heap.size, 0, none⟩) n n) w' := by
  obtain ⟨c, hc, hs, hv⟩ := h
  subst hn
  refine ⟨⟨by simp, .inr ⟨w.heap.size, l.length, c, rfl, Nat.le_refl _, hc, Nat.le_refl _, hm, by simpa using hs, ?_⟩⟩, hb⟩
  apply List.ext_getElem
  · simp [hs]
  · intro i h1 h2
    simp at h1 h2
    have h3 := hv i (by omega)
    rw [hf i (by omega)] at h3
    have h4 : i < c.size := by omega
    rw [Array.getElem?_eq_getElem h4] at h3
    injection h3 with h3
    simp [h3, List.getD_eq_getElem?_getD, h2]
theorem and127 : ∀ x : Fin 256, bits .and .u8 (x.val : Int) 127 = (x.val % 128 : Nat) := by decide +kernel
theorem or128 : ∀ x : Fin 128, bits .or .u8 (x.val : Int) 128 = (x.val + 128 : Nat) := by decide +kernel
theorem dig0 (N i : Nat) : bits .and .u8 ((N : Int) / 2 ^ (7 * i) % 256) 127 = ((N / 128 ^ i % 128 : Nat) : Int) := by
  have e : ((N : Int) / 2 ^ (7 * i) % 256) = ((N / 128 ^ i % 256 : Nat) : Int) := by
    rw [show (128 : Nat) = 2 ^ 7 from rfl, ← Nat.pow_mul, Int.natCast_emod, Int.natCast_ediv, Int.natCast_pow]
    rfl
  rw [e, and127 ⟨N / 128 ^ i % 256, by omega⟩]
  simp only
  congr 1
  omega
theorem dig1 (N i : Nat) : bits .or .u8 (bits .and .u8 ((N : Int) / 2 ^ (7 * i) % 256) 127) 128 = ((N / 128 ^ i % 128 + 128 : Nat) : Int) := by
  rw [dig0]
  exact or128 ⟨N / 128 ^ i % 128, by omega⟩
/-- Bytes of a call's own, seen from an older world. -/
theorem RowB.grow {w w1 w' : World} {l : List Nat} {t : Value} (h : RowB w1 l t w') (b : Below w.heap.size w w1) : RowB w l t w' := by
  obtain ⟨⟨h0, h1⟩, h2⟩ := h
  refine ⟨⟨h0, ?_⟩, b.trans (h2.mono b.size)⟩
  rcases h1 with h1 | ⟨g, cap, cur, e, hg, r⟩
  · exact .inl h1
  · exact .inr ⟨g, cap, cur, e, Nat.le_trans b.size hg, r⟩
/-- Bytes that are shifted out: the k-th of m, the highest first. -/
theorem fixE_digit (m : Nat) : ∀ n i, i < m → (fixE m n).getD i 0 = n / 256 ^ (m - 1 - i) % 256 := by
  induction m with
  | zero => intro n i hi; omega
  | succ m ih =>
    intro n i hi
    have hl := fixE_length m (n / 256)
    show (fixE m (n / 256) ++ [n % 256]).getD i 0 = _
    by_cases h : i < m
    · have := ih (n / 256) i h
      rw [List.getD_eq_getElem?_getD] at this ⊢
      rw [List.getElem?_append_left (by omega), this, Nat.div_div_eq_div_mul]
      congr 2
      rw [show m + 1 - 1 - i = (m - 1 - i) + 1 by omega, Nat.pow_succ, Nat.mul_comm]
    · obtain rfl : i = m := by omega
      rw [List.getD_eq_getElem?_getD, List.getElem?_append_right (by omega), hl]
      simp
set_option maxRecDepth 100000 in
set_option maxHeartbeats 400000 in
theorem fourC_any (N i : Nat) (hi : i < 4) (p : Nat) (w : World) (hN : N < 4294967296)
    (hp : w.cell? ⟨p, 0, none⟩ = some (.int .u32 N)) :
    Calls Try.prog 71 #[.int .i64 i, .pointer (some ⟨p, 0, none⟩)] w fun r w' => r = .returned (.int .u8 ((fixE 4 N).getD i 0 : Nat)) ∧ w = w' := by
  rw [fixE_digit 4 N i hi]
  go_enter Try.func71, Try.ntmps71
  go_wp2
  go_ret
  refine ⟨congrArg (fun z => Ending.returned (Value.int .u8 z)) ?_, rfl⟩
  rw [show (256 : Nat) = 2 ^ 8 from rfl, ← Nat.pow_mul, show 8 * (3 - i) = 24 - 8 * i by omega, Int.natCast_emod, Int.natCast_ediv, Int.natCast_pow]
  rfl
set_option maxRecDepth 100000 in
set_option maxHeartbeats 400000 in
theorem eightC_any (N i : Nat) (hi : i < 8) (p : Nat) (w : World) (hN : N < 2 ^ 64)
    (hp : w.cell? ⟨p, 0, none⟩ = some (.int .u64 N)) :
    Calls Try.prog 78 #[.int .i64 i, .pointer (some ⟨p, 0, none⟩)] w fun r w' => r = .returned (.int .u8 ((fixE 8 N).getD i 0 : Nat)) ∧ w = w' := by
  rw [fixE_digit 8 N i hi]
  go_enter Try.func78, Try.ntmps78
  go_wp2
  go_ret
  refine ⟨congrArg (fun z => Ending.returned (Value.int .u8 z)) ?_, rfl⟩
  rw [show (256 : Nat) = 2 ^ 8 from rfl, ← Nat.pow_mul, show 8 * (7 - i) = 56 - 8 * i by omega, Int.natCast_emod, Int.natCast_ediv, Int.natCast_pow]
  rfl
theorem four_any (N : Nat) (w : World) (hN : N < 4294967296) :
    Calls Try.prog 52 #[.int .u32 N] w fun r w' => ∃ t, r = .returned t ∧ RowB w (fixE 4 N) t w' := by
  have hmf : ∀ (fn : Fn) (first cap : Array Value) (w : World), (Instr.makeFunc fn first cap).run Try.prog w = .ok (.func fn first cap) w := fun _ _ _ _ => rfl
  have E : Hid (∀ (w : World) (p : Nat), w.cell? ⟨p, 0, none⟩ = some (.int .u32 N) → Calls Try.prog 70 #[.int .i64 4, .func (.func 71) #[] #[.pointer (some ⟨p, 0, none⟩)]] w fun r w' => r = .returned (.slice (some ⟨w.heap.size, 0, none⟩) 4 4) ∧ w'.rowIs w.heap.size 5 4 (fun i => .int .u8 ((fixE 4 N).getD i 0 : Nat)) ∧ Below w.heap.size w w') := Lib.hid fun w p hp =>
    each1_any 4 (by omega) 71 _ (fun i => (fixE 4 N).getD i 0) w (enters_of Try.func71 (by kernel_rfl) rfl) (Lib.hid fun i hi wr hb => fourC_any N i hi p wr hN ((hb.cell (lt_of_cell_some hp)).trans hp))
  go_enter Try.func52, Try.ntmps52
  go_wp2_with (go_at_call 70; refine (E.out _ _ (by go_cell)).mono ?_; rintro e w' ⟨rfl, hr, hb⟩)
  go_ret
  have R := rowB_of_is hr (fixE_length 4 N) (by unfold maxLen; omega) (fun i _ => rfl) hb
  have R2 := R.grow ((Below.refl _ _).alloc (Nat.le_refl _) _)
  simp only [World.size_alloc] at R2
  exact ⟨_, rfl, R2⟩
theorem eight_any (N : Nat) (w : World) (hN : N < 2 ^ 64) :
    Calls Try.prog 65 #[.int .u64 N] w fun r w' => ∃ t, r = .returned t ∧ RowB w (fixE 8 N) t w' := by
  have hmf : ∀ (fn : Fn) (first cap : Array Value) (w : World), (Instr.makeFunc fn first cap).run Try.prog w = .ok (.func fn first cap) w := fun _ _ _ _ => rfl
  have E : Hid (∀ (w : World) (p : Nat), w.cell? ⟨p, 0, none⟩ = some (.int .u64 N) → Calls Try.prog 70 #[.int .i64 8, .func (.func 78) #[] #[.pointer (some ⟨p, 0, none⟩)]] w fun r w' => r = .returned (.slice (some ⟨w.heap.size, 0, none⟩) 8 8) ∧ w'.rowIs w.heap.size 5 8 (fun i => .int .u8 ((fixE 8 N).getD i 0 : Nat)) ∧ Below w.heap.size w w') := Lib.hid fun w p hp =>
    each1_any 8 (by omega) 78 _ (fun i => (fixE 8 N).getD i 0) w (enters_of Try.func78 (by kernel_rfl) rfl) (Lib.hid fun i hi wr hb => eightC_any N i hi p wr hN ((hb.cell (lt_of_cell_some hp)).trans hp))
  go_enter Try.func65, Try.ntmps65
  go_wp2_with (go_at_call 70; refine (E.out _ _ (by go_cell)).mono ?_; rintro e w' ⟨rfl, hr, hb⟩)
  go_ret
  have R := rowB_of_is hr (fixE_length 8 N) (by unfold maxLen; omega) (fun i _ => rfl) hb
  have R2 := R.grow ((Below.refl _ _).alloc (Nat.le_refl _) _)
  simp only [World.size_alloc] at R2
  exact ⟨_, rfl, R2⟩
end Go.Proofs.Ythnllhfdbnnjhaa
