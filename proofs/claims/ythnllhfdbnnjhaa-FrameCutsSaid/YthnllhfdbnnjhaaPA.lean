/- Package frame: EncodeHead. -/
import Derived.Test.YthnllhfdbnnjhaaP9
namespace Go.Proofs.Ythnllhfdbnnjhaa
open Go.RowKit Go.Shelf

/-- Bytes that a call tells, in memory of its own. -/
structure Tell (w0 : World) (l : List Nat) (t : Value) (w : World) : Prop where
  at' : ∃ p cap, t = .slice p l.length cap ∧ l.length ≤ cap ∧ cap ≤ maxLen ∧ BytesAt w p l ∧ (p = none → cap = 0) ∧ ∀ a, p = some a → w0.heap.size ≤ a.block
  below : Below w0.heap.size w0 w
theorem Tell.of {w0 w : World} {l : List Nat} {t : Value} (h : RowB w0 l t w) : Tell w0 l t w := by
  obtain ⟨p, cap, e, h1, h2, h3, h4⟩ := h.at'
  obtain ⟨p', cap', e', -, -, -, h5⟩ := h.at2
  subst e
  injection e' with e1 _ e3
  subst e1 e3
  exact ⟨⟨p, cap, rfl, h1, h2, h3, h5, h4⟩, h.2⟩
theorem Tell.grow {w w1 w' : World} {l : List Nat} {t : Value} (h : Tell w1 l t w') (b : Below w.heap.size w w1) : Tell w l t w' := by
  obtain ⟨⟨p, cap, e, h1, h2, h3, h4, h5⟩, h6⟩ := h
  exact ⟨⟨p, cap, e, h1, h2, h3, h4, fun a ha => Nat.le_trans b.size (h5 a ha)⟩, kbT b h6⟩
theorem Tell.later {w w1 w2 : World} {l : List Nat} {t : Value} (h : Tell w l t w1) (hb : Below w1.heap.size w1 w2) : Tell w l t w2 := by
  obtain ⟨⟨p, cap, e, h1, h2, h3, h4, h5⟩, h6⟩ := h
  exact ⟨⟨p, cap, e, h1, h2, bytesAt_below h3 hb, h4, h5⟩, kbT h6 hb⟩
theorem Tell.nil (w : World) : Tell w [] (.slice none 0 0) w := ⟨⟨none, 0, rfl, Nat.le_refl _, by unfold maxLen; omega, fun i hi => absurd hi (Nat.not_lt_zero i), fun _ => rfl, fun a h => by cases h⟩, Below.refl _ _⟩
/-- A sector of the call's own, as bytes. -/
theorem tell_sec {l : List Nat} {n : Nat} (hn : l.length = n) (hn2 : n ≤ 100000) (w : World) (t : TypeId) : Tell w l (.slice (some ⟨w.heap.size, 0, none⟩) n n) (w.alloc (.cells (secA l) t)) := by
  subst hn
  refine ⟨⟨_, _, rfl, Nat.le_refl _, (by unfold maxLen; omega), fun i hi => ⟨w.heap.size, 0, rfl, ?_⟩, (fun h => nomatch h), fun a h => (by injection h with h; subst h; exact Nat.le_refl _)⟩, (Below.refl _ _).alloc (Nat.le_refl _) _⟩
  have := heap_alloc_last w (.cells (secA l) t)
  unfold World.cell?
  simp only [Nat.zero_add]
  rw [this]
  simp [secA, u8s, List.getD_eq_getElem?_getD, hi]
def encHead (S E : Nat) (n c : Int) : List Nat := if headOk n c then headL S E n.toNat c.toNat else []
def encX (n c : Int) : Int := if headOk n c then 0 else 2
theorem head_bounds {n c : Int} (h : headOk n c = true) : 0 ≤ n ∧ n ≤ 2000 ∧ 0 ≤ c ∧ c ≤ 2000 := by
  simp only [headOk, Bool.and_eq_true, decide_eq_true_eq] at h
  omega
theorem bytes_sec (w : World) (l : List Nat) (t : TypeId) : BytesAt (w.alloc (.cells (secA l) t)) (some ⟨w.heap.size, 0, none⟩) l := fun i hi => by
  refine ⟨w.heap.size, 0, rfl, ?_⟩
  have := heap_alloc_last w (.cells (secA l) t)
  unfold World.cell?
  simp only [Nat.zero_add]
  rw [this]
  simp [secA, u8s, List.getD_eq_getElem?_getD, hi]
set_option maxRecDepth 100000 in
set_option maxHeartbeats 1000000 in
theorem encodeHead_ok (S E n c : Nat) (hS : S < 2 ^ 64) (hE : E < 2 ^ 64) (hh : headOk n c = true) (w : World) :
    Calls Try.prog 19 #[.agg #[.int .u64 S, .int .u64 E, .int .i64 n, .int .i64 c]] w fun r w' => ∃ g, r = .returned (.tuple #[.slice (some ⟨g, 0, none⟩) 64 64, .int .i64 0]) ∧ BytesAt w' (some ⟨g, 0, none⟩) (headL S E n c) ∧ w.heap.size ≤ g ∧ Below w.heap.size w w' := by
  have CC := Lib.hid (checkHead_any S E n c)
  rw [if_pos hh] at CC
  obtain ⟨h1, h2, h3, h4⟩ := head_bounds hh
  have CH := Lib.hid (headSector_any S E n c hS hE (by omega) (by omega))
  have HLL := Lib.hid (headL_length S E n c)
  generalize headL S E n c = ll at *
  clear hh
  go_enter Try.func19, Try.ntmps19
  go_wp2_with (first
    | (go_at_call 38; refine (CC.out _).mono ?_; rintro e wa ⟨rfl, hb1⟩; have B1 := Lib.hid (kbA hb1); have c0 : wa.cell? ⟨w.heap.size, 0, none⟩ = some (.int .u64 S) := (hb1.cell (by simp)).trans (by go_cell); have c1 : wa.cell? ⟨w.heap.size, 1, none⟩ = some (.int .u64 E) := (hb1.cell (by simp)).trans (by go_cell); have c2 : wa.cell? ⟨w.heap.size, 2, none⟩ = some (.int .i64 n) := (hb1.cell (by simp)).trans (by go_cell); have c3 : wa.cell? ⟨w.heap.size, 3, none⟩ = some (.int .i64 c) := (hb1.cell (by simp)).trans (by go_cell); clear hb1)
    | (go_at_call 39; refine (CH.out _).mono ?_; rintro e wb ⟨rfl, hb2⟩; have B2 := Lib.hid (kbT B1.out hb2); clear hb2)
    | (refine wpList_store_row rfl 84 _ _ rfl wb.heap.size (secA ll) rfl rfl 84 _ (heap_alloc_last wb _) (by rw [secA_size, HLL.out]; kernel_rfl) (by rw [secA_size, HLL.out]; rfl) (secA_one _) ?_; rw [World.setRow_alloc_new]))
  go_ret2
  exact ⟨_, rfl, bytes_sec wb ll 84, B2.out.size, B2.out.alloc B2.out.size _⟩
set_option maxRecDepth 100000 in
set_option maxHeartbeats 1000000 in
theorem encodeHead_no (S E : Nat) (n c : Int) (hh : headOk n c = false) (w : World) :
    Calls Try.prog 19 #[.agg #[.int .u64 S, .int .u64 E, .int .i64 n, .int .i64 c]] w fun r w' => r = .returned (.tuple #[.slice none 0 0, .int .i64 2]) ∧ Below w.heap.size w w' := by
  have CC := Lib.hid (checkHead_any S E n c)
  rw [if_neg (by simp [hh])] at CC
  go_enter Try.func19, Try.ntmps19
  go_wp2_with (go_at_call 38; refine (CC.out _).mono ?_; rintro e wa ⟨rfl, hb1⟩; have B1 := Lib.hid (kbA hb1); clear hb1)
  go_ret2
  exact ⟨rfl, B1.out⟩
theorem encodeHead_any (S E : Nat) (n c : Int) (hS : S < 2 ^ 64) (hE : E < 2 ^ 64) (w : World) :
    Calls Try.prog 19 #[.agg #[.int .u64 S, .int .u64 E, .int .i64 n, .int .i64 c]] w fun r w' => ∃ t, r = .returned (.tuple #[t, .int .i64 (encX n c)]) ∧ Tell w (encHead S E n c) t w' := by
  unfold encHead encX
  cases hh : headOk n c with
  | true =>
    obtain ⟨h1, h2, h3, h4⟩ := head_bounds hh
    obtain ⟨n, rfl⟩ : ∃ k : Nat, n = k := ⟨n.toNat, by omega⟩
    obtain ⟨c, rfl⟩ : ∃ k : Nat, c = k := ⟨c.toNat, by omega⟩
    simp only [if_true, Int.toNat_natCast]
    refine (encodeHead_ok S E n c hS hE hh w).mono ?_
    rintro e w' ⟨g, rfl, h5, h6, h7⟩
    refine ⟨_, rfl, ⟨some ⟨g, 0, none⟩, 64, by rw [headL_length], by rw [headL_length]; exact Nat.le_refl _, by unfold maxLen; omega, h5, (fun h => nomatch h), fun a h => by injection h with h; subst h; exact h6⟩, h7⟩
  | false =>
    refine (encodeHead_no S E n c hh w).mono ?_
    rintro e w' ⟨rfl, hb⟩
    exact ⟨_, rfl, (Tell.nil w').grow hb⟩
/-- What stands in a head's bytes. -/
theorem headL_take (S E n c : Nat) : (headL S E n c).take 24 = headB S E n c := by
  have := headB_length S E n c
  simp only [headL, headC, padL, List.append_assoc]
  rw [List.take_append_of_le_length (by omega), List.take_of_length_le (by omega)]
theorem headL_sum (S E n c : Nat) : ((headL S E n c).drop 24).take 4 = fixE 4 (~~~ sumN (headB S E n c)).toNat := by
  have := headB_length S E n c
  have h4 := fixE_length 4 (~~~ sumN (headB S E n c)).toNat
  simp only [headL, headC, padL, List.append_assoc]
  rw [List.drop_append_of_le_length (by omega), List.drop_of_length_le (by omega), List.nil_append, List.take_append_of_le_length (by omega), List.take_of_length_le (by omega)]
theorem head12 : (headL 1 2 0 0).getD 7 0 = 1 ∧ (headL 1 2 0 0).getD 15 0 = 2 := by decide +kernel
end Go.Proofs.Ythnllhfdbnnjhaa
