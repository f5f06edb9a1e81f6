import Derived.Test.YtoknfdgejiachaaU1
import Derived.Test.YtoknfdgejiachaaL2
namespace Go.Proofs.Ytoknfdgejiachaa
open Go.RowKit Go.Shelf

abbrev CellsOf (w : World) (p : Option Addr) (l : List V3) : Prop := ∀ i, i < l.length → ∃ B off, p = some ⟨B, off, none⟩ ∧ w.cell? ⟨B, off + i * 3, none⟩ = some (.int .i64 (l.getD i nul).1) ∧ w.cell? ⟨B, off + i * 3 + 1, none⟩ = some (.int .i64 (l.getD i nul).2.1) ∧ w.cell? ⟨B, off + i * 3 + 2, none⟩ = some (.string (l.getD i nul).2.2)
theorem cells_below {w w' : World} {p : Option Addr} {l : List V3} (h : CellsOf w p l) (hb : Below w.heap.size w w') : CellsOf w' p l := fun i hi => by
  obtain ⟨B, off, e, c0, c1, c2⟩ := h i hi
  have l0 : B < w.heap.size := lt_of_cell_some c0
  exact ⟨B, off, e, (hb.cell l0).trans c0, (hb.cell l0).trans c1, (hb.cell l0).trans c2⟩
theorem cells_alloc {w : World} {p : Option Addr} {l : List V3} (h : CellsOf w p l) (o : Obj) : CellsOf (w.alloc o) p l := cells_below h ((Below.refl _ _).alloc (Nat.le_refl _) _)
/-- The first k texts have at most 1100 bytes. -/
def ShortTo (l : List V3) (k : Nat) : Prop := ∀ i, i < k → (l.getD i nul).2.2.size ≤ 1100
theorem short_next {l : List V3} {k : Nat} {x : V3} (h : ShortTo l k) (hx : x = l.getD k nul) (hc : x.2.2.size ≤ 1100) : ShortTo l (k + 1) := by
  intro i hi
  by_cases e : i = k
  · subst e; rw [← hx]; exact hc
  · exact h i (by omega)
theorem fits_of {l : List V3} (h : ShortTo l l.length) (hi : ∀ x ∈ l, In64 x.2.1) : Fits l := fun x hx => by
  refine ⟨?_, hi x hx⟩
  obtain ⟨i, hi, rfl⟩ := List.getElem_of_mem hx
  have := h i hi
  rw [List.getD_eq_getElem?_getD, List.getElem?_eq_getElem hi] at this
  exact Nat.le_trans this (by decide)

set_option maxRecDepth 100000 in
set_option maxHeartbeats 1000000 in
theorem does_long {Bs : World → Prop} (S : SumOk Bs) (o : Int) (p : Option Addr) (n cap : Nat) (w : World) (hw : Bs w) (hn : 4 < n) (hm : n ≤ 9223372036854775807) :
    Calls Try.prog 4 #[.int .i64 o, .slice p n cap] w fun r w' => r = .returned (.bool true) ∧ Below w.heap.size w w' := by
  go_enter Try.func4, Try.ntmps4
  go_wp2_with (go_at_call 7; refine (works_of S _ hw).mono ?_; rintro e w' ⟨rfl, hb⟩)
  go_ret
  exact ⟨rfl, hb⟩

set_option maxRecDepth 100000 in
set_option maxHeartbeats 4000000 in
theorem does_few {Bs : World → Prop} (S : SumOk Bs) (o : Int) (l : List V3) (p : Option Addr) (cap : Nat) (w : World) (hw : Bs w) (hl : l.length ≤ 4) (hz : ∀ x ∈ l, x.2.2.size ≤ 9223372036854775807) (hi : ∀ x ∈ l, In64 x.2.1)
    (hc : Hid (CellsOf w p l)) :
    Calls Try.prog 4 #[.int .i64 o, .slice p l.length cap] w fun r w' => r = .returned (.bool true) ∧ Below w.heap.size w w' := by
  have HZ := Lib.hid hz
  have HI := Lib.hid hi
  have HW := Lib.hid hw
  have HB : Hid (∀ w', Below w.heap.size w w' → Bs w') := Lib.hid fun w' hb => S.below hw hb
  clear hz hi hw
  go_enter Try.func4, Try.ntmps4
  go_wp2
  go_loop [5] (fun i => ∃ k : Nat, k ≤ l.length ∧ i = .int .i64 k ∧ ShortTo l k) (fun i => l.length - (intOf i).toNat)
  case atStart => exact ⟨0, Nat.zero_le _, rfl, fun i hi => absurd hi (Nat.not_lt_zero i)⟩
  case round =>
    obtain ⟨k, hk, rfl, hst⟩ := hrel
    have HT := Lib.hid hst
    clear hst
    by_cases hlt : k < l.length
    · obtain ⟨B, off, rfl, c0, c1, c2⟩ := hc.out k hlt
      have hmem : l.getD k nul ∈ l := getD_mem hlt
      have hzx := HZ.out _ hmem
      obtain ⟨x, hx⟩ : ∃ x, x = l.getD k nul := ⟨_, rfl⟩
      rw [← hx] at c0 c1 c2 hzx
      have HX := Lib.hid hx
      clear hx hmem c0 c1
      obtain ⟨xk, xn, xs⟩ := x
      simp only at c2 hzx
      by_cases hs : xs.size ≤ 1100
      · have HN := Lib.hid (short_next (x := (xk, xn, xs)) HT.out HX.out hs)
        go_wp2
        go_round
        case rel => exact ⟨k + 1, by omega, by go_num, HN.out⟩
        case measure => simp [intOf]; omega
      · go_wp2_with (go_at_call 7; refine (works_of S _ HW.out).mono ?_; rintro e w' ⟨rfl, hb⟩)
        go_ret
        exact ⟨rfl, hb⟩
    · obtain rfl : k = l.length := by omega
      have HF := Lib.hid (fits_of HT.out HI.out)
      obtain ⟨⟨⟨rk, rn, rs⟩, re⟩, hd⟩ : ∃ d, doE o l = d := ⟨_, rfl⟩
      have C1 : Calls Try.prog 14 #[.int .i64 o, .slice p l.length cap] w fun r w' => r = .returned (.tuple #[val (rk, rn, rs), .int .i64 re]) ∧ Below w.heap.size w w' := by
        have := S.does o l _ w HW.out ⟨p, cap, rfl, by omega, hc.out⟩ HF.out hl
        rw [hd] at this
        exact this
      have C2 : Hid (∀ w1, CellsOf w1 p l → Calls Try.prog 15 #[.int .i64 o, .slice p l.length cap] w1 fun r w' => r = .returned (.tuple #[val (rk, rn, rs), .int .i64 re]) ∧ Below w1.heap.size w1 w') := Lib.hid fun w1 h => by
        have := refDo_any o l _ w1 ⟨p, cap, rfl, by omega, h⟩ HF.out
        rw [hd] at this
        exact this
      have C1 := Lib.hid C1
      clear hd hlt hk HT
      have ee : (re == re) = true := by simp
      have eq := eql_same rk rn rs
      have hL : Boxes w [] := fun x hx => by cases hx
      have hB : Below w.heap.size w w := Below.refl _ _
      go_wp2_with fail
      refine C1.out.mono ?_
      rintro e w1 ⟨rfl, b⟩
      replace hL := (hL.below b).push (rk, rn, rs)
      replace hB := (hB.trans (b.mono hB.size)).alloc b.size (vObj rk rn rs)
      have hcc := Lib.hid (cells_alloc (cells_below hc.out b) (vObj rk rn rs))
      clear b
      go_wp2_with fail
      refine (C2.out _ hcc.out).mono ?_
      rintro e w2 ⟨rfl, b⟩
      replace hL := (hL.below b).push (rk, rn, rs)
      replace hB := (hB.trans (b.mono hB.size)).alloc (hB.trans (b.mono hB.size)).size (vObj rk rn rs)
      clear b
      obtain ⟨p0, p1, p2⟩ := hL (w1.heap.size, (rk, rn, rs)) (by simp)
      obtain ⟨q0, q1, q2⟩ := hL (w2.heap.size, (rk, rn, rs)) (by simp)
      simp only at p0 p1 p2 q0 q1 q2
      go_wp2_with (first | (go_at_call 13; refine (num_any _ _).mono ?_; rintro e w' ⟨rfl, rfl⟩) | (go_at_call 7; refine (works_of S _ (HB.out _ hB)).mono ?_; rintro e w' ⟨rfl, hb⟩))
      go_ret
      exact ⟨rfl, hB.trans (hb.mono hB.size)⟩
end Go.Proofs.Ytoknfdgejiachaa

