/- DiskHolds: two disks that crash one behind the other. -/
import Derived.Test.YthbnochlpnikaaaQ18
namespace Go.Proofs.Ythbnochlpnikaaa
open Go.RowKit Go.Shelf

theorem ownsRow_bools {w : World} {b n : Nat} {v : Value} (h : w.ownsRow b 4 1 v n (List.replicate n (.bool true))) :
    ∃ p cap, v = .slice p n cap ∧ n ≤ cap ∧ cap ≤ 9223372036854775807 ∧ (p = none → cap = 0) ∧ BoolsAt w p (List.replicate n true) ∧ ∀ B off, p = some ⟨B, off, none⟩ → v.ownBlock = some B := by
  rcases h.2 with ⟨rfl, rfl⟩ | ⟨g, cap, cur, rfl, hg, hh, h2, h3, h4, h5⟩
  · exact ⟨none, 0, rfl, Nat.le_refl _, by omega, fun _ => rfl, fun i x hi => by simp at hi, (fun B off e => by cases e)⟩
  · refine ⟨some ⟨g, 0, none⟩, cap, rfl, h2, by unfold maxLen at h3; omega, (fun e => by cases e), fun i x hi => ⟨g, 0, rfl, ?_⟩, (fun B off e => by injection e with e; injection e with e1 e2; subst e1; rfl)⟩
    have hil : i < n := by
      have := (List.getElem?_eq_some_iff.1 hi).1
      simpa using this
    have hx : x = true := by
      rw [List.getElem?_replicate, if_pos hil] at hi
      injection hi with hi
      exact hi.symm
    have hc : cur.toList[i]? = some (Value.bool true) := by
      have : (List.replicate n (Value.bool true))[i]? = some (.bool true) := by rw [List.getElem?_replicate, if_pos hil]
      rw [← h5, List.getElem?_take, if_pos (by omega)] at this
      exact this
    subst hx
    simp only [World.cell?, hh, Nat.zero_add]
    simpa using hc
section
variable {Rep : DiskRep}
/-- What stands behind the first crash. -/
structure Once (Rep : DiskRep) (w0 : World) (N gw gn gk : Nat) (A0 A1 : List (Nat × Nat)) (keep : List Bool) (va d c : Value) (s s1 : DS) (m m2 : Nat) (F1 F' : Nat → Prop) (w : World) : Prop where
  rd : Rep w d s1 F1
  rc : Rep w c s F'
  f1 : ∀ k, F1 k → ¬ F' k
  f2 : ∀ k, F' k → m ≤ k
  below : Below w0.heap.size w0 w
  size : m ≤ w.heap.size ∧ w0.heap.size ≤ m
  was : w.rowIs gw 5 N (fun j => .int .u8 (valN A0 j)) ∧ gw < m
  now : w.rowIs gn 5 N (fun j => .int .u8 (valN (A0 ++ A1) j)) ∧ gn < m
  kept : w.rowIs gk 4 N (fun j => .bool (keptB A1 keep j m2)) ∧ gk < m
  all : w.ownsRow (gk + 1) 4 1 va m2 (List.replicate m2 (.bool true)) ∧ ∀ j, va.ownBlock = some j → j < m
theorem once_made (S : DiskOk Rep) {w0 wr wc wd : World} {N gw gn gk m2 : Nat} {A0 A1 : List (Nat × Nat)} {keep : List Bool} {va d c : Value} {s s1 : DS} {F F' : Nat → Prop} (hR : Rep wr d s F) (hF : ∀ k, F k → w0.heap.size ≤ k ∧ ¬ (k = gw ∨ k = gn ∨ k = gk ∨ va.ownBlock = some k)) (hbel : Below w0.heap.size w0 wr)
    (hwas : wr.rowIs gw 5 N (fun j => .int .u8 (valN A0 j))) (hnow : wr.rowIs gn 5 N (fun j => .int .u8 (valN (A0 ++ A1) j))) (hkept : wr.rowIs gk 4 N (fun j => .bool (keptB A1 keep j m2)))
    (hall : wr.ownsRow (gk + 1) 4 1 va m2 (List.replicate m2 (.bool true))) (hR2 : Rep wc c s F') (hF2 : ∀ k, F' k → wr.heap.size ≤ k) (hbc : Below wr.heap.size wr wc) (hg : Goes Rep d s1 F wc wd) :
    ∃ F1, Once Rep w0 N gw gn gk A0 A1 keep va d c s s1 wr.heap.size m2 F1 F' wd := by
  obtain ⟨F1, hR1, h1, h2⟩ := hg
  have low := S.low _ _ _ _ hR
  have low2 := S.low _ _ _ _ hR2
  have keep1 : ∀ k, k < wr.heap.size → ¬ F k → wd.heap[k]? = wr.heap[k]? := fun k hk hf => (h2.block k (Nat.lt_of_lt_of_le hk hbc.size) hf).trans (hbc.block k hk)
  have n1 : ¬ F gw := fun f => (hF _ f).2 (.inl rfl)
  have n2 : ¬ F gn := fun f => (hF _ f).2 (.inr (.inl rfl))
  have n3 : ¬ F gk := fun f => (hF _ f).2 (.inr (.inr (.inl rfl)))
  refine ⟨F1, hR1, S.keep _ _ _ _ _ hR2 h2.size (fun k hk => h2.block k (low2 k hk) (fun f => by have := low k f; have := hF2 k hk; omega)), fun k hk hk2 => ?_, hF2, h2.below (below_any hbel hbc) (fun k hk => (hF k hk).1), ⟨Nat.le_trans hbc.size h2.size, hbel.size⟩,
    ⟨hwas.of_block (keep1 gw hwas.lt n1), hwas.lt⟩, ⟨hnow.of_block (keep1 gn hnow.lt n2), hnow.lt⟩, ⟨hkept.of_block (keep1 gk hkept.lt n3), hkept.lt⟩, ⟨ownsRow_kept hall (fun j hj => keep1 j (hall.lt j hj).2 (fun f => (hF _ f).2 (.inr (.inr (.inr hj))))), fun j hj => (hall.lt j hj).2⟩⟩
  rcases h1 k hk with h | h
  · have := low k h
    have := hF2 k hk2
    omega
  · have := low2 k hk2
    omega
/-- What stands behind both. -/
structure Twice (Rep : DiskRep) (w0 : World) (N gw gn gk : Nat) (A0 A1 : List (Nat × Nat)) (keep : List Bool) (d c : Value) (s1 s2 : DS) (m2 : Nat) (w : World) : Prop where
  rd : ∃ F, Rep w d s1 F
  rc : ∃ F, Rep w c s2 F
  below : Below w0.heap.size w0 w
  was : w.rowIs gw 5 N (fun j => .int .u8 (valN A0 j))
  now : w.rowIs gn 5 N (fun j => .int .u8 (valN (A0 ++ A1) j))
  kept : w.rowIs gk 4 N (fun j => .bool (keptB A1 keep j m2))
theorem Once.next (S : DiskOk Rep) {w0 wd we : World} {N gw gn gk m m2 : Nat} {A0 A1 : List (Nat × Nat)} {keep : List Bool} {va d c : Value} {s s1 s2 : DS} {F1 F' : Nat → Prop} (h : Once Rep w0 N gw gn gk A0 A1 keep va d c s s1 m m2 F1 F' wd) (hg : Goes Rep c s2 F' wd we) :
    Twice Rep w0 N gw gn gk A0 A1 keep d c s1 s2 m2 we := by
  obtain ⟨F2, hR2, h1, h2⟩ := hg
  have kp : ∀ k, k < m → we.heap[k]? = wd.heap[k]? := fun k hk => h2.block k (Nat.lt_of_lt_of_le hk h.size.1) (fun f => by have := h.f2 k f; omega)
  exact ⟨⟨F1, S.keep _ _ _ _ _ h.rd h2.size (fun k hk => h2.block k (S.low _ _ _ _ h.rd k hk) (h.f1 k hk))⟩, ⟨F2, hR2⟩, h2.below h.below (fun k hk => Nat.le_trans h.size.2 (h.f2 k hk)), h.was.1.of_block (kp gw h.was.2), h.now.1.of_block (kp gn h.now.2), h.kept.1.of_block (kp gk h.kept.2)⟩
theorem Twice.keep (S : DiskOk Rep) {w0 w w' : World} {N gw gn gk m2 : Nat} {A0 A1 : List (Nat × Nat)} {keep : List Bool} {d c : Value} {s1 s2 : DS} (h : Twice Rep w0 N gw gn gk A0 A1 keep d c s1 s2 m2 w) (b : Below w.heap.size w w') : Twice Rep w0 N gw gn gk A0 A1 keep d c s1 s2 m2 w' := by
  obtain ⟨⟨F, hR⟩, ⟨F2, hR2⟩, hb, r1, r2, r3⟩ := h
  exact ⟨⟨F, S.keep _ _ _ _ _ hR b.size (fun k hk => b.block k (S.low _ _ _ _ hR k hk))⟩, ⟨F2, S.keep _ _ _ _ _ hR2 b.size (fun k hk => b.block k (S.low _ _ _ _ hR2 k hk))⟩, below_any hb b, r1.of_block (b.block _ r1.lt), r2.of_block (b.block _ r2.lt), r3.of_block (b.block _ r3.lt)⟩
end
end Go.Proofs.Ythbnochlpnikaaa
