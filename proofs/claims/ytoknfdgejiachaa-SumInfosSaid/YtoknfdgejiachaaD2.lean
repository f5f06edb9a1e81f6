import Derived.Test.YtoknfdgejiachaaD1
import Derived.Deep.AppendLies
namespace Go.Proofs.Ytoknfdgejiachaa
open Go.RowKit Go.Shelf

theorem info25 : (Try.prog.info? 25).map (fun i => (i.zero, i.size, i.bytes)) = some (some (.int .i64 0), 1, 8) := by kernel_rfl
theorem eql_no (k n : Int) (s : ByteArray) (h : ¬ ((k, n, s) : V3) = nul) (w : World) : (binOp .eql 45 (.agg #[.int .i64 k, .int .i64 n, .string s]) (.agg #[.int .i64 0, .int .i64 0, .string ⟨#[]⟩])).run Try.prog w = .ok (.bool false) w := by
  have h' : ¬ (k = 0 ∧ n = 0 ∧ s.data.toList = []) := fun ⟨a, b, c⟩ => h (by
    subst a b
    have : s = ⟨#[]⟩ := by
      have : s.data = #[] := by simpa using c
      cases s; simp_all
    rw [this])
  have h2 : s.toList = s.data.toList := toL s
  go_simp
  all_goals (try simp [h2]); (try omega)
  all_goals (first | (simp_all; done) | (intros; simp_all; done) | skip)
set_option maxRecDepth 100000 in
set_option maxHeartbeats 1000000 in
theorem holds_long {Bs : World → Prop} (S : SumOk Bs) (o : Int) (p : Option Addr) (n cap : Nat) (w : World) (hw : Bs w) (hn : 4 < n) (hm : n ≤ 9223372036854775807) :
    Calls Try.prog 5 #[.int .i64 o, .slice p n cap] w fun r w' => r = .returned (.bool true) ∧ Below w.heap.size w w' := by
  go_enter Try.func5, Try.ntmps5
  go_wp2_with (go_at_call 7; refine (works_of S _ hw).mono ?_; rintro e w' ⟨rfl, hb⟩)
  go_ret
  exact ⟨rfl, hb⟩

/-- The kinds of the first k values, in a slice of the call's own. -/
def Row (w : World) (l : List V3) (k : Nat) (t : Value) (wr : World) : Prop := wr.ownsRow w.heap.size 25 1 t k (List.take k (l.map fun v => Value.int .i64 v.1)) ∧ Below w.heap.size w wr
theorem row_next {w wr w2 : World} {l : List V3} {k : Nat} {xk xn : Int} {xs : ByteArray} {t t' : Value} (hlt : k < l.length) (HX : Hid ((xk, xn, xs) = l.getD k nul))
    (hown2 : w2.ownsRow w.heap.size 25 1 t' (k + 1) (List.take k (l.map (fun v => Value.int .i64 v.1)) ++ [Value.int .i64 xk]))
    (hb : Below w.heap.size w wr) (o : Obj) (hg : (wr.alloc o).grownBy w2 t.ownBlock) (hr : ∀ j, t.ownBlock = some j → w.heap.size ≤ j) : Row w l (k + 1) t' w2 := by
  refine ⟨?_, (hb.alloc hb.size o).grown hg (by have := hb.size; simp; omega) hr⟩
  have e : (l.map fun v => Value.int .i64 v.1).take (k + 1) = List.take k (l.map (fun v => Value.int .i64 v.1)) ++ [Value.int .i64 xk] := by
    rw [List.take_succ_eq_append_getElem (by simpa using hlt)]
    have : l[k] = (xk, xn, xs) := by rw [HX.out]; simp [List.getD_eq_getElem?_getD, hlt]
    simp [this]
  rw [e]
  exact hown2
theorem row_ints {w wr : World} {l : List V3} {t : Value} (hl : l.length ≤ 100000) (h : Row w l l.length t wr) : Ints wr t (l.map (·.1)) := by
  obtain ⟨h, -⟩ := h
  rw [List.take_of_length_le (by simp)] at h
  rcases Joins.ownsRow_forms h with ⟨rfl, h0⟩ | ⟨g, cap, rfl⟩
  · refine ⟨none, 0, ?_, by simpa using hl, ?_⟩
    · simp [h0]
    · intro i hi; simp [h0] at hi
  · refine ⟨_, cap, by simp, by simpa using hl, fun i hi => ⟨g, 0, rfl, ?_⟩⟩
    rw [Nat.zero_add, h.cellAt i (by simpa using hi)]
    simp at hi
    simp [List.getD_eq_getElem?_getD, hi]
theorem ints_below {w w' : World} {v : Value} {l : List Int} (h : Ints w v l) (hb : Below w.heap.size w w') : Ints w' v l := by
  obtain ⟨p, cap, e, hl, hc⟩ := h
  refine ⟨p, cap, e, hl, fun i hi => ?_⟩
  obtain ⟨B, off, e, c⟩ := hc i hi
  have l0 : B < w.heap.size := lt_of_cell_some c
  exact ⟨B, off, e, (hb.cell l0).trans c⟩

set_option maxRecDepth 100000 in
set_option maxHeartbeats 4000000 in
theorem holds_few {Bs : World → Prop} (S : SumOk Bs) (o : Int) (l : List V3) (p : Option Addr) (cap : Nat) (w : World) (hw : Bs w) (hl : l.length ≤ 4) (hz : ∀ x ∈ l, x.2.2.size ≤ 9223372036854775807) (hi : ∀ x ∈ l, In64 x.2.1)
    (hc : Hid (CellsOf w p l)) :
    Calls Try.prog 5 #[.int .i64 o, .slice p l.length cap] w fun r w' => r = .returned (.bool true) ∧ Below w.heap.size w w' := by
  have HZ := Lib.hid hz
  have HI := Lib.hid hi
  have HW := Lib.hid hw
  have HB : Hid (∀ w', Below w.heap.size w w' → Bs w') := Lib.hid fun w' hb => S.below hw hb
  clear hz hi hw
  obtain ⟨j0, hj, hz0, hz1, hz2⟩ := info_parts info25
  go_enter Try.func5, Try.ntmps5
  go_wp2
  go_loopw [5, 6, 7] (fun t sm i wr => ∃ k : Nat, k ≤ l.length ∧ i = .int .i64 k ∧ ∃ b, sm = .bool b ∧ ShortTo l k ∧ Row w l k t wr) (fun _ _ i _ => l.length - (intOf i).toNat)
  case atStart => exact ⟨0, Nat.zero_le _, rfl, true, rfl, fun i hi => absurd hi (Nat.not_lt_zero i), World.ownsRow_nil _ _ _ _, Below.refl _ _⟩
  case round =>
    obtain ⟨k, hk, rfl, b, rfl, hst, hrow⟩ := hrel
    have HT := Lib.hid hst
    have HR := Lib.hid hrow
    have hB := hrow.2
    have hown := hrow.1
    clear hst hrow
    by_cases hlt : k < l.length
    · obtain ⟨B, off, rfl, d0, d1, d2⟩ := hc.out k hlt
      have hB0 : B < w.heap.size := lt_of_cell_some d0
      have c0 := (hB.cell (p := ⟨B, off + k * 3, none⟩) hB0).trans d0
      have c2 := (hB.cell (p := ⟨B, off + k * 3 + 2, none⟩) hB0).trans d2
      clear d0 d1 d2
      have hmem : l.getD k nul ∈ l := getD_mem hlt
      have hzx := HZ.out _ hmem
      obtain ⟨x, hx⟩ : ∃ x, x = l.getD k nul := ⟨_, rfl⟩
      rw [← hx] at c0 c2 hzx
      have HX := Lib.hid hx
      clear hx hmem
      obtain ⟨xk, xn, xs⟩ := x
      simp only at c0 c2 hzx
      by_cases hs : xs.size ≤ 1100
      · have HN := Lib.hid (short_next (x := (xk, xn, xs)) HT.out HX.out hs)
        have hBr : B < wr.heap.size := lt_of_cell_some c0
        have hbs := hB.size
        go_wp2_with (at_builtin; refine wpList_append_own _ rfl _ _ 22 rfl w.heap.size 25 j0 (.int .i64 0) 1 8 Try.underlying22 hj hz0 hz1 hz2 rfl (by decide) _ _ _ rfl (hown.alloc _) ⟨wr.heap.size, 0, none⟩ 1 1 [.int .i64 xk] rfl rfl ?c1 ?c2 ?c3 ?c4 ?c5 ?_)
        case c1 => exact World.news_of_block (heap_alloc_new wr _)
        case c2 => simp [Value.oneCell']
        case c3 => unfold maxLen; omega
        case c4 => omega
        case c5 => simp; omega
        intro t' w2 hown2 hgrow2 _
        have s0 : w2.cell? ⟨B, off + k * 3, none⟩ = some (.int .i64 xk) := by
          refine hgrow2.cell (v := .int .i64 xk) ?_ (fun e => ?_)
          · go_cell
          · have := (hown.lt _ e.symm).1; simp only at this; omega
        have DN := Lib.hid (row_next hlt HX hown2 hB _ hgrow2 (fun j hj => (hown.lt j hj).1))
        cases b
        · go_wp2
          refine ⟨⟨k + 1, by omega, by go_num, false, rfl, HN.out, DN.out⟩, by simp [intOf]; omega⟩
        · go_wp2
          refine ⟨⟨k + 1, by omega, by go_num, (xk != 0), rfl, HN.out, DN.out⟩, by simp [intOf]; omega⟩
      · go_wp2_with (go_at_call 7; refine (works_of S _ (HB.out _ hB)).mono ?_; rintro e w' ⟨rfl, hb⟩)
        go_ret
        exact ⟨rfl, hB.trans (hb.mono hB.size)⟩
    · obtain rfl : k = l.length := by omega
      have HF := Lib.hid (fits_of HT.out HI.out)
      have HN := Lib.hid (row_ints (by omega) HR.out)
      have HH := sum_holds o l
      obtain ⟨⟨⟨rk, rn, rs⟩, re⟩, hd⟩ : ∃ d, doE o l = d := ⟨_, rfl⟩
      obtain ⟨⟨tt, te⟩, hm⟩ : ∃ d, makesE o (l.map (·.1)) = d := ⟨_, rfl⟩
      rw [hd, hm] at HH
      simp only at HH
      have C1 : Calls Try.prog 14 #[.int .i64 o, .slice p l.length cap] wr fun r w' => r = .returned (.tuple #[val (rk, rn, rs), .int .i64 re]) ∧ Below wr.heap.size wr w' := by
        have := S.does o l _ wr (HB.out _ hB) ⟨p, cap, rfl, by omega, cells_below hc.out hB⟩ HF.out hl
        rw [hd] at this
        exact this
      have C2 : Hid (∀ w1, Below wr.heap.size wr w1 → Calls Try.prog 9 #[.int .i64 o, u5] w1 fun r w' => r = .returned (.tuple #[.int .i64 tt, .int .i64 te]) ∧ Below w1.heap.size w1 w') := Lib.hid fun w1 h => by
        have := S.makes o (l.map (·.1)) u5 w1 (HB.out _ (hB.trans (h.mono hB.size))) (ints_below HN.out h) (by simpa using hl)
        rw [hm] at this
        exact this
      have C1 := Lib.hid C1
      have HHH := Lib.hid HH
      clear hd hm hlt hk HT HR hown HN HH
      have hL : Boxes wr [] := fun x hx => by cases hx
      go_wp2_with fail
      refine C1.out.mono ?_
      rintro e w1 ⟨rfl, b1⟩
      replace hL := (hL.below b1).push (rk, rn, rs)
      have hB1 := b1.alloc b1.size (vObj rk rn rs)
      go_wp2_with fail
      refine (C2.out _ hB1).mono ?_
      rintro e w2 ⟨rfl, b2⟩
      replace hL := hL.below b2
      have hB2 := hB1.trans (b2.mono hB1.size)
      have hB3 : Below w.heap.size w w2 := hB.trans (hB2.mono hB.size)
      clear b1 b2 hB1 C1 C2
      obtain ⟨p0, p1, p2⟩ := hL (w1.heap.size, (rk, rn, rs)) (by simp)
      simp only at p0 p1 p2
      obtain ⟨g1, g2⟩ := HHH.out
      have WK : Hid (∀ w', Below w2.heap.size w2 w' → Bs w') := Lib.hid fun w' hb => HB.out _ (hB3.trans (hb.mono hB3.size))
      clear HHH
      by_cases he : re = 0
      · obtain ⟨rfl, g⟩ := g1 he
        subst he
        clear g1 g2
        by_cases hv : ((rk, rn, rs) : V3) = nul
        · simp only [Prod.mk.injEq] at hv
          obtain ⟨rfl, rfl, rfl⟩ := hv
          clear g
          have eq := eql_same 0 0 ⟨#[]⟩
          go_wp2_with (first | (go_at_call 13; refine (num_any _ _).mono ?_; rintro e w' ⟨rfl, rfl⟩) | (go_at_call 7; refine (works_of S _ (WK.out _ (Below.refl _ _))).mono ?_; rintro e w' ⟨rfl, hb⟩))
          go_ret
          exact ⟨rfl, hB3.trans (hb.mono hB3.size)⟩
        · obtain rfl : rk = tt := by rcases g with g | g; exact absurd g hv; exact g
          clear g
          have eq := eql_no rk rn rs hv
          have kk : (rk == rk) = true := by simp
          clear hv
          go_wp2_with (first | (go_at_call 13; refine (num_any _ _).mono ?_; rintro e w' ⟨rfl, rfl⟩) | (go_at_call 7; refine (works_of S _ (WK.out _ (Below.refl _ _))).mono ?_; rintro e w' ⟨rfl, hb⟩))
          go_ret
          exact ⟨rfl, hB3.trans (hb.mono hB3.size)⟩
      · obtain ⟨h1, h2⟩ := g2 he
        have z0 : (re == 0) = false := by simpa using he
        clear g1 g2 he
        by_cases a1 : te = 120
        · subst a1
          have y1 : ((120 : Int) != 120) = false := rfl
          rcases h1 with h1 | h1 | h1
          · exact absurd rfl h1
          · subst h1
            clear h2
            go_wp2_with (first | (go_at_call 13; refine (num_any _ _).mono ?_; rintro e w' ⟨rfl, rfl⟩) | (go_at_call 7; refine (works_of S _ (WK.out _ (Below.refl _ _))).mono ?_; rintro e w' ⟨rfl, hb⟩))
            go_ret
            exact ⟨rfl, hB3.trans (hb.mono hB3.size)⟩
          · subst h1
            clear h2
            go_wp2_with (first | (go_at_call 13; refine (num_any _ _).mono ?_; rintro e w' ⟨rfl, rfl⟩) | (go_at_call 7; refine (works_of S _ (WK.out _ (Below.refl _ _))).mono ?_; rintro e w' ⟨rfl, hb⟩))
            go_ret
            exact ⟨rfl, hB3.trans (hb.mono hB3.size)⟩
        · have y1 : (te != 120) = true := by simpa using a1
          have y2 : (te == 120) = false := by simpa using a1
          have y3 : (re != 120) = true := by
            rcases h2 with h2 | h2
            · simpa using h2
            · exact absurd h2 a1
          clear h1 h2 a1
          go_wp2_with (first | (go_at_call 13; refine (num_any _ _).mono ?_; rintro e w' ⟨rfl, rfl⟩) | (go_at_call 7; refine (works_of S _ (WK.out _ (Below.refl _ _))).mono ?_; rintro e w' ⟨rfl, hb⟩))
          go_ret
          exact ⟨rfl, hB3.trans (hb.mono hB3.size)⟩
end Go.Proofs.Ytoknfdgejiachaa

