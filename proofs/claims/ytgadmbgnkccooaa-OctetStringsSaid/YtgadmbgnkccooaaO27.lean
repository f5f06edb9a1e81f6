import Derived.Test.YtgadmbgnkccooaaO26
import Derived.BigQuiet
namespace Go.Proofs.Ytgadmbgnkccooaa
open Go.RowKit Go.Shelf

theorem strOf_inj {l m : List Nat} (hl : ∀ b ∈ l, b < 256) (hm : ∀ b ∈ m, b < 256) (h : strOf l = strOf m) : l = m := by
  unfold strOf at h
  injection h with h
  have h2 := congrArg Array.toList h
  simp only at h2
  have inj : ∀ (x y : List Nat), (∀ b ∈ x, b < 256) → (∀ b ∈ y, b < 256) → x.map UInt8.ofNat = y.map UInt8.ofNat → x = y := by
    intro x
    induction x with
    | nil => intro y _ _ e; cases y with
      | nil => rfl
      | cons b t => simp at e
    | cons a x ih =>
      intro y hx hy e
      cases y with
      | nil => simp at e
      | cons b y =>
        simp only [List.map_cons, List.cons.injEq] at e
        have h1 := congrArg UInt8.toNat e.1
        have ha := hx a (by simp)
        have hb := hy b (by simp)
        simp only [UInt8.toNat_ofNat'] at h1
        rw [Nat.mod_eq_of_lt ha, Nat.mod_eq_of_lt hb] at h1
        rw [h1, ih y (fun b hb => hx b (by simp [hb])) (fun b hb => hy b (by simp [hb])) e.2]
  exact inj l m hl hm (by simpa using h2)
theorem bytesAt_take {w : World} {p : Option Addr} {l : List Nat} (h : BytesAt w p l) (n : Nat) : BytesAt w p (l.take n) := by
  intro i hi
  rw [List.length_take] at hi
  obtain ⟨B, off, e, c⟩ := h i (by omega)
  exact ⟨B, off, e, by rw [c]; simp [List.getD_eq_getElem?_getD, List.getElem?_take, show i < n by omega]⟩
theorem numF_byte (f : Nat) : ∀ n, ∀ b ∈ numF f n, n < 128 ^ (f + 1) → b < 256 := by
  induction f with
  | zero => intro n b hb h; simp [numF] at hb; simp at h; omega
  | succ f ih =>
    intro n b hb h
    unfold numF at hb
    by_cases hn : n < 128
    · rw [if_pos hn] at hb; simp at hb; omega
    · rw [if_neg hn] at hb
      simp only [List.mem_cons] at hb
      rcases hb with rfl | hb
      · omega
      · exact ih _ b hb (by rw [Nat.pow_succ] at h; omega)
theorem numE_byte {n : Nat} (h : n < 2 ^ 64) : ∀ b ∈ numE n, b < 256 := fun b hb => numF_byte 9 n b hb (by
  have : (128 : Nat) ^ (9 + 1) = 2 ^ 70 := by decide
  rw [this]
  omega)
theorem sumN_eq (l : List Nat) : ~~~ sumN l = sumE (l.map (BitVec.ofNat 8)) := by
  unfold sumN sumE
  rw [List.foldl_map]
/-- A bit of a byte turned over: another sum. -/
theorem sum_flip (l : List Nat) (i v : Nat) (hi : i < l.length) (hb : l.getD i 0 < 256) (hv : v < 256) (hne : v ≠ l.getD i 0) : (~~~ sumN l).toNat ≠ (~~~ sumN (l.set i v)).toNat := by
  intro h
  have h1 := BitVec.eq_of_toNat_eq h
  rw [sumN_eq, sumN_eq] at h1
  have e1 : l = l.take i ++ l.getD i 0 :: l.drop (i + 1) := by
    rw [List.getD_eq_getElem?_getD, List.getElem?_eq_getElem hi]
    simp
  have e2 : l.set i v = l.take i ++ v :: l.drop (i + 1) := by rw [List.set_eq_take_append_cons_drop, if_pos hi]
  rw [e2] at h1
  conv at h1 => lhs; rw [e1]
  simp only [List.map_append, List.map_cons] at h1
  refine sum_unlike _ _ _ _ ?_ h1
  intro e
  have e3 := congrArg BitVec.toNat e
  simp only [BitVec.toNat_ofNat] at e3
  omega
theorem xor_bit : ∀ (b : Fin 256) (r : Fin 8), bits .xor .u8 (b.val : Int) ((2 : Int) ^ r.val % 256) = ((b.val ^^^ 2 ^ r.val : Nat) : Int) ∧ b.val ^^^ 2 ^ r.val < 256 ∧ b.val ^^^ 2 ^ r.val ≠ b.val := by decide +kernel
theorem bytesAt_set {w : World} {g : Nat} {l : List Nat} (h : BytesAt w (some ⟨g, 0, none⟩) l) (i v : Nat) (hi : i < l.length) : BytesAt (w.setCell ⟨g, i, none⟩ (.int .u8 v)) (some ⟨g, 0, none⟩) (l.set i v) := by
  intro j hj
  rw [List.length_set] at hj
  refine ⟨g, 0, rfl, ?_⟩
  obtain ⟨B, off, e, c⟩ := h j hj
  injection e with e
  injection e with e1 e2
  subst e1 e2
  by_cases hij : i = j
  · subst hij
    rw [Nat.zero_add] at c ⊢
    rw [World.cell?_setCell_same _ _ _ c]
    simp [List.getD_eq_getElem?_getD, List.getElem?_set, hi]
  · rw [World.cell?_setCell_other _ _ _ _ (by simp <;> omega), c]
    simp [List.getD_eq_getElem?_getD, List.getElem?_set, hij]
end Go.Proofs.Ytgadmbgnkccooaa
