import Derived.Test.YtgadmbgnkccooaaO15
namespace Go.Proofs.Ytgadmbgnkccooaa
open Go.RowKit Go.Shelf

/-- A reader that begins. -/
theorem rest_new (T : Nat → Prop) (w : World) (p : Option Addr) (cap : Nat) (l : List Nat) (t : TypeId) (hcap : l.length ≤ cap) (hc : BytesAt w p l) (hT : ∀ B off, p = some ⟨B, off, none⟩ → B < w.heap.size → T B) (hP : ¬ T w.heap.size) :
    RestP T (w.alloc (.cells #[.slice p l.length cap] t)) w.heap.size p cap l := by
  refine ⟨by go_cell, hcap, by simp, hP, fun i hi => ?_⟩
  obtain ⟨B, off, rfl, c⟩ := hc i hi
  have := lt_of_cell_some c
  simp only at this
  exact ⟨B, off, rfl, hT _ _ rfl this, (World.cell?_alloc_old _ _ _ (Nat.ne_of_lt this)).trans c⟩
set_option maxHeartbeats 1000000 in
theorem readString_any (l : List Nat) (p : Option Addr) (cap : Nat) (w : World) (hl : l.length ≤ 100000) (hcap : l.length ≤ cap) (hc0 : cap ≤ 9223372036854775807) (hb : ∀ b ∈ l, b < 256) (hc : Hid (BytesAt w p l)) :
    Calls Try.prog 21 #[.slice p l.length cap] w fun r w' => r = .returned (.tuple #[.string (strOf (readStrE l).1), .int .i64 (readStrE l).2.1, .int .i64 (readStrE l).2.2]) ∧ Below w.heap.size w w' := by
  have C := text_rest l p cap w.heap.size _ hl hc0 hb (Lib.hid (rest_new (· < w.heap.size) w p cap l 68 hcap hc.out (fun _ _ _ h => h) (Nat.lt_irrefl _)))
  have hRng := readE_range l hb
  have hS : readStrE l = if (readE l).2.2 ≠ 0 ∨ l.length - (readE l).2.1 < (readE l).1 then ([], 0, 130) else ((l.drop (readE l).2.1).take (readE l).1, (readE l).2.1 + (readE l).1, 0) := rfl
  have hT : ((readStrE l).2.2 = 0 ∧ (readStrE l).2.1 ≤ l.length) ∨ readStrE l = ([], 0, 130) := by
    rw [hS]
    split
    · exact .inr rfl
    · exact .inl ⟨rfl, by rcases hRng with h | h <;> simp_all <;> omega⟩
  clear hS hRng
  obtain ⟨⟨s, k, e⟩, hr⟩ : ∃ R, readStrE l = R := ⟨_, rfl⟩
  rw [hr] at C hT ⊢
  simp only at C hT
  have HC := Lib.hid C
  clear C hr
  by_cases he : e = 0
  · subst he
    have hk : k ≤ l.length := by
      rcases hT with h | h
      · exact h.2
      · simp at h
    go_enter Try.func21, Try.ntmps21
    go_wp2_with fail
    refine HC.out.mono ?_
    rintro e w1 ⟨rfl, ho, hR⟩
    obtain ⟨p', c', hcc, hR⟩ := hR trivial
    have hcell := hR.cell
    rw [List.length_drop] at hcell
    have HO := Lib.hid ho
    clear ho hR
    go_wp2
    go_region
    all_goals go_wp2
    all_goals go_ret3
    all_goals exact ⟨by rw [show ((l.length : Int) - ((l.length - k : Nat) : Int)) = k by omega]; rfl, (HO.out.under (Nat.le_refl _) ((Below.refl _ _).alloc (Nat.le_refl _) _)).drew⟩
  · have e2 : e = 130 ∧ s = [] ∧ k = 0 := by
      rcases hT with h | h
      · exact absurd h.1 he
      · simp at h; exact ⟨h.2.2, h.1, h.2.1⟩
    obtain ⟨rfl, rfl, rfl⟩ := e2
    go_enter Try.func21, Try.ntmps21
    go_wp2_with fail
    refine HC.out.mono ?_
    rintro e w1 ⟨rfl, ho, -⟩
    have HO := Lib.hid ho
    clear ho
    go_wp2
    all_goals go_ret3
    all_goals exact ⟨rfl, HO.out.under (Nat.le_refl _) ((Below.refl _ _).alloc (Nat.le_refl _) _)⟩
set_option maxRecDepth 100000 in
set_option maxHeartbeats 1000000 in
theorem string_any (s : ByteArray) (hs : s.size ≤ 100000) (w : World) :
    Calls Try.prog 20 #[.string s] w fun r w' => ∃ t, r = .returned t ∧ RowB w (strE (bytesL s)) t w' := by
  obtain ⟨j0, hj, hz0, hz1, hz2⟩ := info_parts info5
  have C : Hid (Calls Try.prog 8 #[.int .u64 s.size] w fun r w' => ∃ t, r = .returned t ∧ RowB w (numE s.size) t w') := Lib.hid (number_any s.size w (by omega))
  have hn : (numE s.size).length ≤ 10 := numF_len 9 _
  go_enter Try.func20, Try.ntmps20
  go_wp2_with fail
  refine C.out.mono ?_
  rintro e w1 ⟨t, rfl, hown, hB⟩
  have hbs := hB.size
  go_wp2_with (at_builtin; refine Lib.wpList_append_own_string _ rfl _ _ 23 9 rfl w.heap.size 5 j0 Try.underlying23 Try.underlying9 hj hz0 hz1 hz2 _ _ _ rfl hown s rfl (by unfold maxLen; omega) (by omega) (by omega) ?_)
  intro t' w2 hown2 hgrow2 _
  rw [strCells_bytes] at hown2
  have DN : Hid (RowB w (strE (bytesL s)) t' w2) := Lib.hid ⟨by
    unfold strE
    rw [List.length_append, bytesL_len, List.map_append]
    exact hown2, hB.grown hgrow2 hbs (fun j hj => (hown.lt j hj).1)⟩
  go_wp2
  go_ret
  exact ⟨_, rfl, DN.out⟩
end Go.Proofs.Ytgadmbgnkccooaa
