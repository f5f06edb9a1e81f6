import Derived.Test.YthnllhfdbnnjhaaO24
namespace Go.Proofs.Ythnllhfdbnnjhaa
open Go.RowKit Go.Shelf

theorem sum_one (l : List Nat) (p : Option Addr) (cap : Nat) (w : World) (hl : l.length ≤ 100000) (hb : ∀ b ∈ l, b < 256) (hc : BytesAt w p l) :
    Calls Try.prog 53 #[.slice (some ⟨w.heap.size, 0, none⟩) 1 1] (w.alloc (.cells #[.slice p l.length cap] 39)) fun r w' => r = .returned (.int .u32 (~~~ sumN l).toNat) ∧ Below (w.heap.size + 1) (w.alloc (.cells #[.slice p l.length cap] 39)) w' := by
  have h := sum_any [(p, l, cap)] (some ⟨w.heap.size, 0, none⟩) 1 (w.alloc (.cells #[.slice p l.length cap] 39)) (by simp) (Lib.hid ⟨fun i x hx => by
    cases i with
    | zero =>
      simp only [List.getElem?_cons_zero, Option.some.injEq] at hx
      subst hx
      exact ⟨_, _, rfl, by go_cell, bytesAt_kept hc fun a v c => World.cell?_alloc_old _ _ _ (by have := lt_of_cell_some c; omega)⟩
    | succ i => simp at hx, fun x hx => by
      simp only [List.mem_singleton] at hx
      subst hx
      exact ⟨hb, hl⟩⟩)
  rw [show flatL [(p, l, cap)] = l by simp [flatL], World.size_alloc] at h
  exact h
theorem sum_two (l m : List Nat) (p q : Option Addr) (c d : Nat) (w : World) (hl : l.length ≤ 100000) (hm : m.length ≤ 100000) (hb : ∀ b ∈ l, b < 256) (hd : ∀ b ∈ m, b < 256) (hc : BytesAt w p l) (hq : BytesAt w q m) :
    Calls Try.prog 53 #[.slice (some ⟨w.heap.size, 0, none⟩) 2 2] (w.alloc (.cells #[.slice p l.length c, .slice q m.length d] 39)) fun r w' => r = .returned (.int .u32 (~~~ sumN (l ++ m)).toNat) ∧ Below (w.heap.size + 1) (w.alloc (.cells #[.slice p l.length c, .slice q m.length d] 39)) w' := by
  have h := sum_any [(p, l, c), (q, m, d)] (some ⟨w.heap.size, 0, none⟩) 2 (w.alloc (.cells #[.slice p l.length c, .slice q m.length d] 39)) (by simp) (Lib.hid ⟨fun i x hx => by
    match i with
    | 0 =>
      simp only [List.getElem?_cons_zero, Option.some.injEq] at hx
      subst hx
      exact ⟨_, _, rfl, by go_cell, bytesAt_kept hc fun a v c => World.cell?_alloc_old _ _ _ (by have := lt_of_cell_some c; omega)⟩
    | 1 =>
      simp only [List.getElem?_cons_succ, List.getElem?_cons_zero, Option.some.injEq] at hx
      subst hx
      exact ⟨_, _, rfl, by go_cell, bytesAt_kept hq fun a v c => World.cell?_alloc_old _ _ _ (by have := lt_of_cell_some c; omega)⟩
    | i + 2 => simp at hx, fun x hx => by
      simp only [List.mem_cons, List.not_mem_nil, or_false] at hx
      rcases hx with rfl | rfl
      · exact ⟨hb, hl⟩
      · exact ⟨hd, hm⟩⟩)
  rw [show flatL [(p, l, c), (q, m, d)] = l ++ m by simp [flatL], World.size_alloc] at h
  exact h
theorem sum_nil (w : World) : Calls Try.prog 53 #[.slice none 0 0] w fun r w' => r = .returned (.int .u32 0) ∧ Below w.heap.size w w' := by
  have h := sum_any [] none 0 w (by simp) (Lib.hid ⟨fun i x hx => by simp at hx, fun x hx => by cases hx⟩)
  exact h
theorem sum_digits : ((~~~ sumN [49, 50, 51, 52, 53, 54, 55, 56, 57]).toNat : Int) = 3421780262 := by decide +kernel
theorem sum_a (w : World) (p : Option Addr) (hc : BytesAt w p [49, 50, 51, 52, 53, 54, 55, 56, 57]) :
    Calls Try.prog 53 #[.slice (some ⟨w.heap.size, 0, none⟩) 1 1] (w.alloc (.cells #[.slice p 9 9] 39)) fun r w' => r = .returned (.int .u32 3421780262) ∧ Below (w.heap.size + 1) (w.alloc (.cells #[.slice p 9 9] 39)) w' := by
  have h := sum_one _ p 9 w (by simp) (by decide) hc
  rw [sum_digits] at h
  exact h
end Go.Proofs.Ythnllhfdbnnjhaa
