/- FrameBytes: for every input the call returns true and leaves its arguments as they were. Condition: none besides the form's own. -/
import Derived.Test.YthnllhfdbnnjhaaMB4
import Derived.ProofKit
import Derived.OpenShut
import Derived.Deep.DeepHandedRow
import Derived.Deep.DeepWitnessRowRef
import Derived.Deep.Slices
import Derived.Lib.SmallJoins
import Derived.ChangeSame
import Derived.Deep.Strs
namespace Go.Proofs.Ythnllhfdbnnjhaa
open Go.RowKit Go.Shelf

set_option maxRecDepth 100000 in
set_option maxHeartbeats 4000000 in
theorem bytes_few (E : Nat) (i g : Int) (cm : Bool) (n : Int) (k : Nat) (q : Option Addr) (cp : Nat) (bs : List Nat) (l : List Nat) (a0 : Option Addr) (cap : Nat) (w : World) (hE : E < 2 ^ 64) (hk : k < 2 ^ 32) (hbb : ∀ b ∈ bs, b < 256) (hby : BytesAt w q bs) (hqn : q = none → cp = 0) (hln : bs.length ≤ 600)
    (hll : l.length ≤ 700) (hcap : l.length ≤ cap) (hc0 : cap ≤ 9223372036854775807) (hlb : ∀ b ∈ l, b < 256) (hc : BytesAt w a0 l) :
    Calls Try.prog 5 #[frameV E i g cm n k q bs.length cp, .slice a0 l.length cap] w fun r w' => r = .returned (.bool true) ∧ Below w.heap.size w w' := by
  obtain ⟨E2, i2, g2, cm2, n2, k2, bs2, x2, hbb2, D25, D26⟩ := decs l hlb
  obtain ⟨L, ex, sv, hLb, hLl, C23, C24, C28, C29, hex⟩ := encs E i g cm n k bs hE hk hbb
  have DX : ∃ (E3 : Nat) (i3 g3 : Int) (cm3 : Bool) (n3 : Int) (k3 : Nat) (bs3 : List Nat) (x3 : Int), (∀ p cap w, L.length ≤ cap → cap ≤ 9223372036854775807 → BytesAt w p L → Calls Try.prog 25 #[.slice p L.length cap] w fun r w' => ∃ v, r = .returned (.tuple #[v, .int .i64 x3]) ∧ TellF E3 i3 g3 cm3 n3 k3 bs3 w v w') ∧ (ex = 2 ∨ ex = 0 ∧ x3 = 0 ∧ E3 = E ∧ i3 = i ∧ g3 = g ∧ cm3 = cm ∧ n3 = n ∧ k3 = k ∧ bs3 = bs) := by
    rcases hex with h | ⟨h, hD⟩
    · obtain ⟨E3, i3, g3, cm3, n3, k3, bs3, x3, -, h3, -⟩ := decs L hLb
      exact ⟨E3, i3, g3, cm3, n3, k3, bs3, x3, h3, .inl h⟩
    · exact ⟨E, i, g, cm, n, k, bs, 0, hD, .inr ⟨h, rfl, rfl, rfl, rfl, rfl, rfl, rfl, rfl⟩⟩
  obtain ⟨E3, i3, g3, cm3, n3, k3, bs3, x3, D3, hX⟩ := DX
  clear hex
  simp only [frameV] at C23 C24 C28 C29
  have HBB := Lib.hid hbb
  have HBB2 := Lib.hid hbb2
  have HLB := Lib.hid hLb
  have HCC := Lib.hid (And.intro hcap hc0)
  have HHX := Lib.hid hX
  have HC23 := Lib.hid C23
  have HC24 := Lib.hid C24
  have HC28 := Lib.hid C28
  have HC29 := Lib.hid C29
  have HD25 := Lib.hid D25
  have HD26 := Lib.hid D26
  have HD3 := Lib.hid D3
  have NM := Lib.hid num_any
  have WKS := Lib.hid works_any
  have hi1 : ¬ (600 : Int) < (bs.length : Int) := by omega
  have hi2 : ¬ (700 : Int) < (l.length : Int) := by omega
  have hd1 : decide ((600 : Int) < (bs.length : Int)) = false := decide_eq_false hi1
  have hd2 : decide ((700 : Int) < (l.length : Int)) = false := decide_eq_false hi2
  clear hbb hbb2 hLb hX C23 C24 C28 C29 D25 D26 D3 hlb hcap hc0 hE hk
  unfold frameV
  go_enter Try.func5, Try.ntmps5
  go_upto_region 1 with fail
  obtain ⟨w1, hw1⟩ : ∃ w1, w.alloc (.cells #[.int .u64 E, .int .i64 i, .int .i64 g, .bool cm, .int .i64 n, .int .u32 k, .slice q bs.length cp] 51) = w1 := ⟨_, rfl⟩
  have HB1 : Hid (Below w.heap.size w w1) := Lib.hid (by subst hw1; exact (Below.refl _ _).alloc (Nat.le_refl _) _)
  have hx1 : w1.heap[w.heap.size]? = some (.cells #[.int .u64 E, .int .i64 i, .int .i64 g, .bool cm, .int .i64 n, .int .u32 k, .slice q bs.length cp] 51 (0, 0)) := by subst hw1; exact heap_alloc_last w _
  have HQ1 := Lib.hid (bytesAt_below hby HB1.out)
  have HL1 := Lib.hid (bytesAt_below hc HB1.out)
  have HQN := Lib.hid hqn
  have HS1 : Hid (w.heap.size < w1.heap.size) := Lib.hid (by subst hw1; simp)
  rw [hw1]
  clear hw1 hby hc hqn
  have c0 := row_cell (i := 0) hx1 rfl
  have c1 := row_cell (i := 1) hx1 rfl
  have c2 := row_cell (i := 2) hx1 rfl
  have c3 := row_cell (i := 3) hx1 rfl
  have c4 := row_cell (i := 4) hx1 rfl
  have c5 := row_cell (i := 5) hx1 rfl
  have c6 := row_cell (i := 6) hx1 rfl
  go_upto_region 4 with (go_at_call 23; (with_reducible refine (HC23.out _ _ _ HQ1.out HQN.out).mono ?_); rintro e w2 ⟨v2, rfl, p1, e1, rfl, hy2, hl2, hm2, hb2⟩; have HT2 := Lib.hid (And.intro hy2 (And.intro hl2 (And.intro hm2 hb2))); clear hy2 hl2 hm2 hb2)
  clear c0 c1 c2 c3 c4 c5 c6
  have hx2 := (HT2.out.2.2.2.block _ HS1.out).trans hx1
  have HB2 := Lib.hid (kbT HB1.out (HT2.out.2.2.2))
  have HS2 : Hid (w.heap.size < w2.heap.size) := Lib.hid (Nat.lt_of_lt_of_le HS1.out HT2.out.2.2.2.size)
  have HQ2 := Lib.hid (bytesAt_below HQ1.out HT2.out.2.2.2)
  have HL2 := Lib.hid (bytesAt_below HL1.out HT2.out.2.2.2)
  have c0 := row_cell (i := 0) hx2 rfl
  have c1 := row_cell (i := 1) hx2 rfl
  have c2 := row_cell (i := 2) hx2 rfl
  have c3 := row_cell (i := 3) hx2 rfl
  have c4 := row_cell (i := 4) hx2 rfl
  have c5 := row_cell (i := 5) hx2 rfl
  have c6 := row_cell (i := 6) hx2 rfl
  go_upto_region 5 with (go_at_call 24; (with_reducible refine (HC24.out _ _ _ HQ2.out HQN.out).mono ?_); rintro e w3 ⟨v3, rfl, p2, e2, rfl, hy3, hl3, hm3, hb3⟩; have HT3 := Lib.hid (And.intro hy3 (And.intro hl3 (And.intro hm3 hb3))); clear hy3 hl3 hm3 hb3)
  clear c0 c1 c2 c3 c4 c5 c6
  have hx3 := (HT3.out.2.2.2.block _ HS2.out).trans hx2
  have HB3 := Lib.hid (kbT HB2.out (HT3.out.2.2.2))
  have HS3 : Hid (w.heap.size < w3.heap.size) := Lib.hid (Nat.lt_of_lt_of_le HS2.out HT3.out.2.2.2.size)
  have HQ3 := Lib.hid (bytesAt_below HQ2.out HT3.out.2.2.2)
  have HL3 := Lib.hid (bytesAt_below HL2.out HT3.out.2.2.2)
  have HU3 := Lib.hid (bytesAt_below HT2.out.1 HT3.out.2.2.2)
  have c0 := row_cell (i := 0) hx3 rfl
  have c1 := row_cell (i := 1) hx3 rfl
  have c2 := row_cell (i := 2) hx3 rfl
  have c3 := row_cell (i := 3) hx3 rfl
  have c4 := row_cell (i := 4) hx3 rfl
  have c5 := row_cell (i := 5) hx3 rfl
  have c6 := row_cell (i := 6) hx3 rfl
  go_upto_region 6 with (go_at_call 25; (with_reducible refine (HD25.out _ _ _ HCC.out.1 HCC.out.2 HL3.out).mono ?_); rintro e w4 ⟨v4, rfl, q4, d4, rfl, hy4, hb4⟩; have HT4 := Lib.hid (And.intro hy4 hb4); unfold frameV; clear hy4 hb4)
  clear c0 c1 c2 c3 c4 c5 c6
  obtain ⟨w5, hw5⟩ : ∃ wz, w4.alloc (.cells #[.int .u64 E2, .int .i64 i2, .int .i64 g2, .bool cm2, .int .i64 n2, .int .u32 k2, .slice q4 bs2.length d4] 51) = wz := ⟨_, rfl⟩
  have bw5 : Below w4.heap.size w4 w5 := by rw [← hw5]; exact (Below.refl _ _).alloc (Nat.le_refl _) _
  have rw5 : w5.heap[w4.heap.size]? = some (.cells #[.int .u64 E2, .int .i64 i2, .int .i64 g2, .bool cm2, .int .i64 n2, .int .u32 k2, .slice q4 bs2.length d4] 51 (0, 0)) := by rw [← hw5]; exact heap_alloc_last w4 _
  have sw5 : w4.heap.size < w5.heap.size := by rw [← hw5]; simp
  rw [hw5]
  clear hw5
  have b45 := Lib.hid (kbT HT4.out.2 bw5)
  have hx5 := (b45.out.block _ HS3.out).trans hx3
  have HB5 := Lib.hid (kbT HB3.out b45.out)
  have HS5 : Hid (w.heap.size < w5.heap.size) := Lib.hid (Nat.lt_of_lt_of_le HS3.out b45.out.size)
  have HQ5 := Lib.hid (bytesAt_below HQ3.out b45.out)
  have HL5 := Lib.hid (bytesAt_below HL3.out b45.out)
  have HU5 := Lib.hid (bytesAt_below HU3.out b45.out)
  have HV5 := Lib.hid (bytesAt_below HT3.out.1 b45.out)
  have HY5 := Lib.hid (bytesAt_below HT4.out.1 bw5)
  have HRY := Lib.hid rw5
  have HSY := Lib.hid sw5
  clear bw5 rw5 sw5
  go_upto_region 7 with (go_at_call 26; (with_reducible refine (HD26.out _ _ _ HCC.out.1 HCC.out.2 HL5.out).mono ?_); rintro e w6 ⟨v6, rfl, q6, d6, rfl, hy6, hb6⟩; have HT6 := Lib.hid (And.intro hy6 hb6); unfold frameV; clear hy6 hb6)
  obtain ⟨w7, hw7⟩ : ∃ wz, w6.alloc (.cells #[.int .u64 E2, .int .i64 i2, .int .i64 g2, .bool cm2, .int .i64 n2, .int .u32 k2, .slice q6 bs2.length d6] 51) = wz := ⟨_, rfl⟩
  have bw7 : Below w6.heap.size w6 w7 := by rw [← hw7]; exact (Below.refl _ _).alloc (Nat.le_refl _) _
  have rw7 : w7.heap[w6.heap.size]? = some (.cells #[.int .u64 E2, .int .i64 i2, .int .i64 g2, .bool cm2, .int .i64 n2, .int .u32 k2, .slice q6 bs2.length d6] 51 (0, 0)) := by rw [← hw7]; exact heap_alloc_last w6 _
  have sw7 : w6.heap.size < w7.heap.size := by rw [← hw7]; simp
  rw [hw7]
  clear hw7
  have b57 := Lib.hid (kbT HT6.out.2 bw7)
  have hx7 := (b57.out.block _ HS5.out).trans hx5
  have ry7 := (b57.out.block _ HSY.out).trans HRY.out
  have HB7 := Lib.hid (kbT HB5.out b57.out)
  have HS7 : Hid (w.heap.size < w7.heap.size) := Lib.hid (Nat.lt_of_lt_of_le HS5.out b57.out.size)
  have HQ7 := Lib.hid (bytesAt_below HQ5.out b57.out)
  have HU7 := Lib.hid (bytesAt_below HU5.out b57.out)
  have HV7 := Lib.hid (bytesAt_below HV5.out b57.out)
  have HY7 := Lib.hid (bytesAt_below HY5.out b57.out)
  have HZ7 := Lib.hid (bytesAt_below HT6.out.1 bw7)
  have HX7 := Lib.hid hx7
  have y0 := row_cell (i := 0) ry7 rfl
  have y1 := row_cell (i := 1) ry7 rfl
  have y2 := row_cell (i := 2) ry7 rfl
  have y3 := row_cell (i := 3) ry7 rfl
  have y4 := row_cell (i := 4) ry7 rfl
  have y5 := row_cell (i := 5) ry7 rfl
  have y6 := row_cell (i := 6) ry7 rfl
  have z0 := row_cell (i := 0) rw7 rfl
  have z1 := row_cell (i := 1) rw7 rfl
  have z2 := row_cell (i := 2) rw7 rfl
  have z3 := row_cell (i := 3) rw7 rfl
  have z4 := row_cell (i := 4) rw7 rfl
  have z5 := row_cell (i := 5) rw7 rfl
  have z6 := row_cell (i := 6) rw7 rfl
  clear sw7 bw7 hx7 hx5 hx3 hx2 hx1 ry7 rw7
  have hv1 := conv_at w7 p1 e1 L HLB.out HU7.out
  have hv2 := conv_at w7 p2 e2 L HLB.out HV7.out
  have HF27 := Lib.hid (refSame_true E2 i2 g2 cm2 n2 k2 bs2 HBB2.out q4 q6 d4 d6 w7 HY7.out HZ7.out)
  simp only [frameV] at HF27
  obtain ⟨sL, hsL⟩ : ∃ sL, strOf L = sL := ⟨_, rfl⟩
  rw [hsL] at hv1 hv2
  clear hsL
  have hse : (sL.toList == sL.toList) = true := by simp
  have hee : (ex != ex) = false := by simp
  have hee2 : (ex == ex) = true := by simp
  have hxx : (x2 != x2) = false := by simp
  have hsv : (sv == sv) = true := by simp
  have HLL : Hid (∃ pL eL, pL = p1 ∧ eL = e1) := Lib.hid ⟨_, _, rfl, rfl⟩
  go_upto_region 9 with (first
    | (go_at_call 13; (with_reducible refine (NM.out _ _).mono ?_); rintro e wn ⟨rfl, rfl⟩)
    | (go_at_call 27; (with_reducible refine HF27.out.mono ?_); rintro e w8 ⟨rfl, hb8⟩; have HT8 := Lib.hid hb8; clear hb8))
  clear y0 y1 y2 y3 y4 y5 y6
  clear z0 z1 z2 z3 z4 z5 z6 hv1 hv2
  have hx8 := (HT8.out.block _ HS7.out).trans HX7.out
  have HB8 := Lib.hid (kbT HB7.out HT8.out)
  have HS8 : Hid (w.heap.size < w8.heap.size) := Lib.hid (Nat.lt_of_lt_of_le HS7.out HT8.out.size)
  have HQ8 := Lib.hid (bytesAt_below HQ7.out HT8.out)
  have HU8 := Lib.hid (bytesAt_below HU7.out HT8.out)
  go_upto_region 10 with (go_at_call 25; (with_reducible refine (HD3.out _ _ _ HT2.out.2.1 (Nat.le_trans HT2.out.2.2.1 (by unfold maxLen; omega)) HU8.out).mono ?_); rintro e w9 ⟨v9, rfl, q9, d9, rfl, hy9, hb9⟩; have HT9 := Lib.hid (And.intro hy9 hb9); unfold frameV; clear hy9 hb9)
  obtain ⟨w10, hw10⟩ : ∃ wz, w9.alloc (.cells #[.int .u64 E3, .int .i64 i3, .int .i64 g3, .bool cm3, .int .i64 n3, .int .u32 k3, .slice q9 bs3.length d9] 51) = wz := ⟨_, rfl⟩
  have bw10 : Below w9.heap.size w9 w10 := by rw [← hw10]; exact (Below.refl _ _).alloc (Nat.le_refl _) _
  have rw10 : w10.heap[w9.heap.size]? = some (.cells #[.int .u64 E3, .int .i64 i3, .int .i64 g3, .bool cm3, .int .i64 n3, .int .u32 k3, .slice q9 bs3.length d9] 51 (0, 0)) := by rw [← hw10]; exact heap_alloc_last w9 _
  have sw10 : w9.heap.size < w10.heap.size := by rw [← hw10]; simp
  rw [hw10]
  clear hw10
  have b8a := Lib.hid (kbT HT9.out.2 bw10)
  have hxa := (b8a.out.block _ HS8.out).trans hx8
  have HBa := Lib.hid (kbT HB8.out b8a.out)
  have HSa : Hid (w.heap.size < w10.heap.size) := Lib.hid (Nat.lt_of_lt_of_le HS8.out b8a.out.size)
  have HQa := Lib.hid (bytesAt_below HQ8.out b8a.out)
  have HWa := Lib.hid (bytesAt_below HT9.out.1 bw10)
  have HRW := Lib.hid rw10
  have HSW := Lib.hid sw10
  clear bw10 rw10 sw10 hx8
  have c0 := row_cell (i := 0) hxa rfl
  have c1 := row_cell (i := 1) hxa rfl
  have c2 := row_cell (i := 2) hxa rfl
  have c3 := row_cell (i := 3) hxa rfl
  have c4 := row_cell (i := 4) hxa rfl
  have c5 := row_cell (i := 5) hxa rfl
  have c6 := row_cell (i := 6) hxa rfl
  go_upto_region 11 with (go_at_call 28; (with_reducible refine (HC28.out _ _ _ HQa.out HQN.out).mono ?_); rintro e w11 ⟨rfl, hb11⟩; have HT11 := Lib.hid hb11; clear hb11)
  clear c0 c1 c2 c3 c4 c5 c6
  have hxb := (HT11.out.block _ HSa.out).trans hxa
  have HBb := Lib.hid (kbT HBa.out HT11.out)
  have HSb : Hid (w.heap.size < w11.heap.size) := Lib.hid (Nat.lt_of_lt_of_le HSa.out HT11.out.size)
  have HQb := Lib.hid (bytesAt_below HQa.out HT11.out)
  have HWb := Lib.hid (bytesAt_below HWa.out HT11.out)
  have c0 := row_cell (i := 0) hxb rfl
  have c1 := row_cell (i := 1) hxb rfl
  have c2 := row_cell (i := 2) hxb rfl
  have c3 := row_cell (i := 3) hxb rfl
  have c4 := row_cell (i := 4) hxb rfl
  have c5 := row_cell (i := 5) hxb rfl
  have c6 := row_cell (i := 6) hxb rfl
  go_upto_region 12 with (go_at_call 29; (with_reducible refine (HC29.out _ _ _ HQb.out HQN.out).mono ?_); rintro e w12 ⟨rfl, hb12⟩; have HT12 := Lib.hid hb12; clear hb12)
  clear c0 c1 c2 c3 c4 c5 c6
  have hxc := (HT12.out.block _ HSb.out).trans hxb
  have HBc := Lib.hid (kbT HBb.out HT12.out)
  have HQc := Lib.hid (bytesAt_below HQb.out HT12.out)
  have HWc := Lib.hid (bytesAt_below HWb.out HT12.out)
  have hrc := ((kbT HT11.out HT12.out).block _ HSW.out).trans HRW.out
  have c0 := row_cell (i := 0) hxc rfl
  have c1 := row_cell (i := 1) hxc rfl
  have c2 := row_cell (i := 2) hxc rfl
  have c3 := row_cell (i := 3) hxc rfl
  have c4 := row_cell (i := 4) hxc rfl
  have c5 := row_cell (i := 5) hxc rfl
  have c6 := row_cell (i := 6) hxc rfl
  have y0 := row_cell (i := 0) hrc rfl
  have y1 := row_cell (i := 1) hrc rfl
  have y2 := row_cell (i := 2) hrc rfl
  have y3 := row_cell (i := 3) hrc rfl
  have y4 := row_cell (i := 4) hrc rfl
  have y5 := row_cell (i := 5) hrc rfl
  have y6 := row_cell (i := 6) hrc rfl
  clear hxa hxb hxc hrc
  rcases HHX.out with rfl | ⟨rfl, rfl, rfl, rfl, rfl, rfl, rfl, rfl, rfl⟩
  · go_wp2_with (first
    | (go_at_call 13; (with_reducible refine (NM.out _ _).mono ?_); rintro e wn ⟨rfl, rfl⟩)
    | (go_at_call 15; (with_reducible refine (WKS.out _).mono ?_); rintro e w13 ⟨rfl, hb13⟩; have HT13 := Lib.hid hb13; clear hb13))
    have HBd := Lib.hid (kbT HBc.out HT13.out)
    go_ret
    exact ⟨rfl, HBd.out⟩
  · have HF := Lib.hid (refSame_true E3 i3 g3 cm3 n3 k3 bs3 HBB.out q9 q d9 cp w12 HWc.out HQc.out)
    simp only [frameV] at HF
    go_wp2_with (first
    | (go_at_call 27; (with_reducible refine HF.out.mono ?_); rintro e w13 ⟨rfl, hb13⟩; have HT13 := Lib.hid hb13; clear hb13)
    | (go_at_call 13; (with_reducible refine (NM.out _ _).mono ?_); rintro e wn ⟨rfl, rfl⟩)
    | (go_at_call 15; (with_reducible refine (WKS.out _).mono ?_); rintro e w14 ⟨rfl, hb14⟩; have HT14 := Lib.hid hb14; clear hb14))
    have HBd := Lib.hid (kbT (kbT HBc.out HT13.out) HT14.out)
    go_ret
    exact ⟨rfl, HBd.out⟩
set_option maxRecDepth 100000 in
set_option maxHeartbeats 1000000 in
theorem bytes_long (E : Nat) (i g : Int) (cm : Bool) (n : Int) (k : Nat) (q : Option Addr) (cp ln L : Nat) (a0 : Option Addr) (cap : Nat) (w : World) (h : 600 < ln ∨ 700 < L) (h1 : ln ≤ 9223372036854775807) (h2 : L ≤ 9223372036854775807) :
    Calls Try.prog 5 #[frameV E i g cm n k q ln cp, .slice a0 L cap] w fun r w' => r = .returned (.bool true) ∧ Below w.heap.size w w' := by
  have WKS := Lib.hid works_any
  unfold frameV
  by_cases h3 : 600 < ln
  · have hd1 : decide ((600 : Int) < (ln : Int)) = true := decide_eq_true (by omega)
    have hi1 : (600 : Int) < (ln : Int) := by omega
    clear h
    go_enter Try.func5, Try.ntmps5
    go_wp2_with (go_at_call 15; (with_reducible refine (WKS.out _).mono ?_); rintro e w13 ⟨rfl, hb13⟩; have HT13 := Lib.hid hb13; clear hb13)
    have HBd := Lib.hid (kbT ((Below.refl _ _).alloc (Nat.le_refl _) _) HT13.out)
    go_ret
    exact ⟨rfl, HBd.out⟩
  · have h4 : 700 < L := by omega
    have hi1 : ¬ (600 : Int) < (ln : Int) := by omega
    have hi2 : (700 : Int) < (L : Int) := by omega
    have hd1 : decide ((600 : Int) < (ln : Int)) = false := decide_eq_false (by omega)
    have hd2 : decide ((700 : Int) < (L : Int)) = true := decide_eq_true (by omega)
    clear h
    go_enter Try.func5, Try.ntmps5
    go_wp2_with (go_at_call 15; (with_reducible refine (WKS.out _).mono ?_); rintro e w13 ⟨rfl, hb13⟩; have HT13 := Lib.hid hb13; clear hb13)
    have HBd := Lib.hid (kbT ((Below.refl _ _).alloc (Nat.le_refl _) _) HT13.out)
    go_ret
    exact ⟨rfl, HBd.out⟩
theorem bytesF_any (E : Nat) (i g : Int) (cm : Bool) (n : Int) (k : Nat) (q : Option Addr) (cp : Nat) (bs : List Nat) (l : List Nat) (a0 : Option Addr) (cap : Nat) (w : World) (hE : E < 2 ^ 64) (hk : k < 2 ^ 32) (hbb : ∀ b ∈ bs, b < 256) (hby : BytesAt w q bs) (hqn : q = none → cp = 0) (hbc : bs.length ≤ 9223372036854775807)
    (hcap : l.length ≤ cap) (hc0 : cap ≤ 9223372036854775807) (hlb : ∀ b ∈ l, b < 256) (hc : BytesAt w a0 l) :
    Calls Try.prog 5 #[frameV E i g cm n k q bs.length cp, .slice a0 l.length cap] w fun r w' => r = .returned (.bool true) ∧ Below w.heap.size w w' := by
  by_cases h : 600 < bs.length ∨ 700 < l.length
  · exact bytes_long E i g cm n k q cp bs.length l.length a0 cap w h hbc (by omega)
  · exact bytes_few E i g cm n k q cp bs l a0 cap w hE hk hbb hby hqn (by omega) (by omega) hcap hc0 hlb hc
end Go.Proofs.Ythnllhfdbnnjhaa
namespace Go.Proofs.Ythnllhfdbnnjhaa
open Go.ChangeShapes Go.WideShapes Go.ChangeAt Go.RowKit

theorem own : ownKnob Try.prog.godebug = none := by kernel_rfl

/-- Arguments of whatever shape read behind the call as before, where below the call's own blocks nothing has turned. -/
theorem trodAll_stays {H : Type} {enc : TypeId × Value → H} {P : Program} (hl : laidOutB P = true) {W W' : World} (hb : Below W.heap.size W W') :
    ∀ (ts : List TypeId), (∀ t ∈ ts, P.readableRec t = true ∧ t < P.types.size) → ∀ (vs : List Value) (ds : List (DataW H)) (ps : List MemPlace), DataW.TrodAll enc P W 0 (fun _ => true) true ts vs ds ps → (∀ x ∈ ps, x.block < W.heap.size) →
      DataW.TrodAll enc P W' 0 (fun b => decide (b < W.heap.size)) true ts vs ds ps
  | [], _, vs, ds, ps, h, _ => by
    obtain ⟨rfl, rfl, rfl⟩ := trodAll_nil h
    exact trodAll_mk0
  | t :: ts, ht, vs, ds, ps, h, hp => by
    obtain ⟨v, vs', d, ds', p, q, rfl, rfl, rfl, h0, h1⟩ := trodAll_cons h
    obtain ⟨r1, r2⟩ := ht t (by simp)
    exact trodAll_cons_mk (Below.trod hl r1 r2 h0 hb (fun x hx => hp x (by simp [hx]))) (trodAll_stays hl hb ts (fun u hu => ht u (by simp [hu])) vs' ds' q h1 (fun x hx => hp x (by simp [hx])))

/-- A law that answers true and leaves what was there as it was meets its row. -/
theorem law_true {H : Type} {enc : TypeId × Value → H} {f : Func} {s : ChangeSpec} {W W' : World} {args : Array Value} {ds gs : List (DataW H)} {before : List MemPlace}
    (hW : DataW.Whole enc Try.prog f.params.toList s.vars false W args.toList ds gs before) (hv : s.vars = []) (hfn : (s.fn H (ds ++ gs)).results = [.lit (.bool true)] ∧ (s.fn H (ds ++ gs)).args = ds ∧ (s.fn H (ds ++ gs)).vars = [])
    (hr : f.resultTypes = #[4]) (hread : (f.params.toList.all fun t => Try.prog.readableRec t && decide (t < Try.prog.types.size)) = true) (hb : Below W.heap.size W W') :
    s.post enc Try.prog f false true false false W args (.bool true) W' := by
  have hW' := hW
  obtain ⟨p, q, hA, hV, hpq, _, _⟩ := hW
  have hlt : ∀ x ∈ before, x.block < W.heap.size := fun x hx => hW'.lt x hx
  refine ⟨ds, gs, before, [], p, [], hW', ?_, ?_, ?_, hb.frame _, fun h => by cases h⟩
  · rw [hfn.1, hr]
    exact trodAll_mk1 (shut_bool Try.underlying4 _)
  · rw [hfn.2.1]
    exact trodAll_stays (by kernel_rfl) hb _ (fun t ht => by simpa using List.all_eq_true.1 hread t ht) _ _ _ hA (fun x hx => hlt x (by rw [hpq]; simp [hx]))
  · rw [hfn.2.2, hv]
    rfl
noncomputable def laidWorld (os : Os) : World := World.holding Try.prog os ⟨#[], #[], []⟩
theorem laid_met (os : Os) (args : Array Value) : laidMet Try.prog ([] : List (String × DataW Unit)) ((laidWorld os).forCall (fun _ _ => 0) ⟨#[], args, []⟩).memory :=
  laidMet_of_run' 8 (by kernel_rfl) (by kernel_rfl)
open Go.Joins

theorem okWide_array {P : Program} {w : World} {r : Reach} {base n : Nat} {t e : TypeId} {v : Value} (ht : P.underlying t = some (.array n e)) (h : Value.okWide P w r base t v) : ∃ cs, v = .agg cs ∧ cs.size = P.cellsOf t := by
  simp only [Value.okWide, ht] at h
  obtain ⟨cs, h1, h2, _⟩ := h
  exact ⟨cs, h1, h2⟩
theorem wf_u64 {n : Int} (h : (Lit.int .u64 n).wf = true) : 0 ≤ n ∧ n < 2 ^ 64 := by
  simp [Lit.wf] at h
  have hm : IntKind.u64.min = 0 := rfl
  have hM : IntKind.u64.max = 18446744073709551615 := rfl
  omega
theorem wf_u8 {n : Int} (h : (Lit.int .u8 n).wf = true) : 0 ≤ n ∧ n < 256 := by
  simp [Lit.wf] at h
  have hm : IntKind.u8.min = 0 := rfl
  have hM : IntKind.u8.max = 255 := rfl
  omega
set_option maxRecDepth 100000 in
theorem open_bytes {H : Type} {enc : TypeId × Value → H} {w : World} {a0 : Option Addr} {len cap : Nat} {d : DataW H} {p : List MemPlace}
    (h : DataW.Trod enc Try.prog w 0 (fun _ => true) true 39 (.slice a0 len cap) d p) : len ≤ cap ∧ cap ≤ maxLen ∧ ∃ l : List Nat, l.length = len ∧ (∀ b ∈ l, b < 256) ∧ BytesAt w a0 l := by
  obtain ⟨fuel, hf⟩ := h
  rcases open_ints Try.underlying39 Try.underlying5 (by kernel_rfl) hf with ⟨hcs, -⟩ | ⟨a, len', cap', zs, hcs, -, hl, hm, hzl, -, hcell, hwf⟩
  · simp only [Value.cells, List.cons.injEq, Value.slice.injEq, and_true] at hcs
    obtain ⟨rfl, rfl, rfl⟩ := hcs
    exact ⟨Nat.zero_le _, Nat.zero_le _, [], rfl, fun b hb => (by cases hb), fun i hi => absurd hi (Nat.not_lt_zero i)⟩
  · simp only [Value.cells, List.cons.injEq, Value.slice.injEq, and_true] at hcs
    obtain ⟨rfl, rfl, rfl⟩ := hcs
    have hz : zs.length = cap := by simpa using hzl
    refine ⟨hl, hm, (zs.take len).map Int.toNat, by simp; omega, fun b hb => ?_, fun i hi => ?_⟩
    · obtain ⟨z, hzm, rfl⟩ := List.mem_map.1 hb
      have := wf_u8 (hwf z (List.mem_of_mem_take hzm))
      omega
    have hil : i < len := by have := hi; simp at this; omega
    obtain ⟨b, off, spot⟩ := a
    have c := hcell i (by omega)
    have hspot : spot = none := by
      have h0 := hcell 0 (by omega)
      simpa [Addr.add] using World.cell?_spot h0
    subst hspot
    rw [addr_plain] at c
    have hzi : i < zs.length := by omega
    have hw := wf_u8 (hwf (zs.getD i 0) (by rw [List.getD_eq_getElem?_getD, List.getElem?_eq_getElem hzi]; exact List.getElem_mem hzi))
    refine ⟨b, off, rfl, ?_⟩
    rw [c]
    have e : ((zs.take len).map Int.toNat).getD i 0 = (zs.getD i 0).toNat := by
      simp [List.getD_eq_getElem?_getD, List.getElem?_take, hil, hzi]
    rw [e, Int.toNat_of_nonneg hw.1]
end Go.Proofs.Ythnllhfdbnnjhaa
namespace Go.Proofs.Ythnllhfdbnnjhaa
open Go.ChangeShapes Go.WideShapes Go.ChangeAt Go.RowKit Go.Joins

set_option maxRecDepth 100000 in
theorem open_none {H : Type} {enc : TypeId × Value → H} {w : World} {a0 : Option Addr} {len cap : Nat} {d : DataW H} {p : List MemPlace}
    (h : DataW.Trod enc Try.prog w 0 (fun _ => true) true 39 (.slice a0 len cap) d p) : a0 = none → cap = 0 := by
  obtain ⟨fuel, hf⟩ := h
  rcases open_ints Try.underlying39 Try.underlying5 (by kernel_rfl) hf with ⟨hcs, -⟩ | ⟨a, len', cap', zs, hcs, -⟩
  · simp only [Value.cells, List.cons.injEq, Value.slice.injEq, and_true] at hcs
    exact fun _ => hcs.2.2
  · simp only [Value.cells, List.cons.injEq, Value.slice.injEq, and_true] at hcs
    intro h
    rw [h] at hcs
    cases hcs.1
end Go.Proofs.Ythnllhfdbnnjhaa
namespace Go.Proofs.Ythnllhfdbnnjhaa
open Go.ChangeShapes Go.WideShapes Go.ChangeAt Go.RowKit Go.Joins

theorem okWide_struct {P : Program} {w : World} {r : Reach} {base : Nat} {fs : Array Field} {t : TypeId} {v : Value} (ht : P.underlying t = some (.struct fs)) (h : Value.okWide P w r base t v) : ∃ cs, v = .agg cs ∧ cs.size = P.cellsOf t := by
  simp only [Value.okWide, ht] at h
  obtain ⟨cs, h1, h2, _⟩ := h
  exact ⟨cs, h1, h2⟩
theorem array4 {α : Type} {cs : Array α} (h : cs.size = 4) : ∃ c0 c1 c2 c3, cs = #[c0, c1, c2, c3] := by
  obtain ⟨l⟩ := cs
  match l, h with
  | [c0, c1, c2, c3], _ => exact ⟨c0, c1, c2, c3, rfl⟩
theorem array7 {α : Type} {cs : Array α} (h : cs.size = 7) : ∃ c0 c1 c2 c3 c4 c5 c6, cs = #[c0, c1, c2, c3, c4, c5, c6] := by
  obtain ⟨l⟩ := cs
  match l, h with
  | [c0, c1, c2, c3, c4, c5, c6], _ => exact ⟨c0, c1, c2, c3, c4, c5, c6, rfl⟩
theorem wf_u32 {n : Int} (h : (Lit.int .u32 n).wf = true) : 0 ≤ n ∧ n < 2 ^ 32 := by
  simp [Lit.wf] at h
  have hm : IntKind.u32.min = 0 := rfl
  have hM : IntKind.u32.max = 4294967295 := rfl
  omega
theorem wf_i64 {n : Int} (h : (Lit.int .i64 n).wf = true) : -9223372036854775808 ≤ n ∧ n ≤ 9223372036854775807 := by
  simp [Lit.wf] at h
  have hm : IntKind.i64.min = -9223372036854775808 := rfl
  have hM : IntKind.i64.max = 9223372036854775807 := rfl
  omega
set_option maxRecDepth 100000 in
theorem open_plan {H : Type} {enc : TypeId × Value → H} {w : World} {base b0 : Nat} {r : Reach} {spare : Nat → Bool} {held : Bool} {v : Value} {d : DataW H} {p : List MemPlace} (hv : Value.okWide Try.prog w r b0 23 v) (h : DataW.Trod enc Try.prog w base spare held 23 v d p) :
    ∃ F P : Int, v = .agg #[.int .i64 F, .int .i64 P] := by
  have hc : Try.prog.cellsOf 23 = 2 := by kernel_rfl
  have h3 : Try.prog.cellsOf 3 = 1 := by kernel_rfl
  obtain ⟨cs, rfl, hsz⟩ := okWide_struct Try.underlying23 hv
  obtain ⟨c0, c1, rfl⟩ := array2 (hsz.trans hc)
  obtain ⟨fuel, hf⟩ := h
  obtain ⟨xs, m, _, hx, _, hn, hi⟩ := DataW.trod_struct Try.underlying23 hf
  match xs, hn with
  | [x0, x1], _ =>
    obtain ⟨F, e0, -, _⟩ := DataW.trod_int Try.underlying3 (show DataW.trod enc Try.prog w base spare held m 3 [c0] = some x0 by simpa [h3, Value.cells] using hi 0 _ rfl)
    obtain ⟨P, e1, -, _⟩ := DataW.trod_int Try.underlying3 (show DataW.trod enc Try.prog w base spare held m 3 [c1] = some x1 by simpa [h3, Value.cells] using hi 1 _ rfl)
    simp at e0 e1
    exact ⟨F, P, by rw [e0, e1]⟩
set_option maxRecDepth 100000 in
theorem open_head {H : Type} {enc : TypeId × Value → H} {w : World} {base b0 : Nat} {r : Reach} {spare : Nat → Bool} {held : Bool} {v : Value} {d : DataW H} {p : List MemPlace} (hv : Value.okWide Try.prog w r b0 38 v) (h : DataW.Trod enc Try.prog w base spare held 38 v d p) :
    ∃ (S E : Nat) (n c : Int), v = .agg #[.int .u64 S, .int .u64 E, .int .i64 n, .int .i64 c] ∧ S < 2 ^ 64 ∧ E < 2 ^ 64 ∧ (-9223372036854775808 ≤ n ∧ n ≤ 9223372036854775807) ∧ -9223372036854775808 ≤ c ∧ c ≤ 9223372036854775807 := by
  have hc : Try.prog.cellsOf 38 = 4 := by kernel_rfl
  have h3 : Try.prog.cellsOf 3 = 1 := by kernel_rfl
  have h36 : Try.prog.cellsOf 36 = 1 := by kernel_rfl
  obtain ⟨cs, rfl, hsz⟩ := okWide_struct Try.underlying38 hv
  obtain ⟨c0, c1, c2, c3, rfl⟩ := array4 (hsz.trans hc)
  obtain ⟨fuel, hf⟩ := h
  obtain ⟨xs, m, _, hx, _, hn, hi⟩ := DataW.trod_struct Try.underlying38 hf
  match xs, hn with
  | [x0, x1, x2, x3], _ =>
    obtain ⟨S, e0, -, w0⟩ := DataW.trod_int Try.underlying36 (show DataW.trod enc Try.prog w base spare held m 36 [c0] = some x0 by simpa [h36, Value.cells] using hi 0 _ rfl)
    obtain ⟨E, e1, -, w1⟩ := DataW.trod_int Try.underlying36 (show DataW.trod enc Try.prog w base spare held m 36 [c1] = some x1 by simpa [h36, Value.cells] using hi 1 _ rfl)
    obtain ⟨n, e2, -, w2⟩ := DataW.trod_int Try.underlying3 (show DataW.trod enc Try.prog w base spare held m 3 [c2] = some x2 by simpa [h3, Value.cells] using hi 2 _ rfl)
    obtain ⟨c, e3, -, w3⟩ := DataW.trod_int Try.underlying3 (show DataW.trod enc Try.prog w base spare held m 3 [c3] = some x3 by simpa [h3, Value.cells] using hi 3 _ rfl)
    simp at e0 e1 e2 e3
    obtain ⟨a0, b0⟩ := wf_u64 w0
    obtain ⟨a1, b1⟩ := wf_u64 w1
    exact ⟨S.toNat, E.toNat, n, c, by rw [e0, e1, e2, e3, Int.toNat_of_nonneg a0, Int.toNat_of_nonneg a1], by omega, by omega, wf_i64 w2, wf_i64 w3⟩
set_option maxRecDepth 100000 in
theorem open_frame {H : Type} {enc : TypeId × Value → H} {w : World} {b0 : Nat} {r : Reach} {v : Value} {d : DataW H} {p : List MemPlace} (hv : Value.okWide Try.prog w r b0 51 v) (h : DataW.Trod enc Try.prog w 0 (fun _ => true) true 51 v d p) :
    ∃ (E : Nat) (i g : Int) (cm : Bool) (n : Int) (k : Nat) (q : Option Addr) (len cap : Nat), v = .agg #[.int .u64 E, .int .i64 i, .int .i64 g, .bool cm, .int .i64 n, .int .u32 k, .slice q len cap] ∧ E < 2 ^ 64 ∧ k < 2 ^ 32 ∧
      (-9223372036854775808 ≤ i ∧ i ≤ 9223372036854775807) ∧ (-9223372036854775808 ≤ g ∧ g ≤ 9223372036854775807) ∧ (-9223372036854775808 ≤ n ∧ n ≤ 9223372036854775807) ∧
      len ≤ cap ∧ cap ≤ maxLen ∧ (q = none → cap = 0) ∧ ∃ l : List Nat, l.length = len ∧ (∀ b ∈ l, b < 256) ∧ BytesAt w q l := by
  have hc : Try.prog.cellsOf 51 = 7 := by kernel_rfl
  have h3 : Try.prog.cellsOf 3 = 1 := by kernel_rfl
  have h4 : Try.prog.cellsOf 4 = 1 := by kernel_rfl
  have h36 : Try.prog.cellsOf 36 = 1 := by kernel_rfl
  have h49 : Try.prog.cellsOf 49 = 1 := by kernel_rfl
  have h39 : Try.prog.cellsOf 39 = 1 := by kernel_rfl
  have hv' := hv
  obtain ⟨cs, rfl, hsz⟩ := okWide_struct Try.underlying51 hv
  obtain ⟨c0, c1, c2, c3, c4, c5, c6, rfl⟩ := array7 (hsz.trans hc)
  obtain ⟨fuel, hf⟩ := h
  obtain ⟨xs, m, _, hx, _, hn, hi⟩ := DataW.trod_struct Try.underlying51 hf
  match xs, hn with
  | [x0, x1, x2, x3, x4, x5, x6], _ =>
    obtain ⟨E, e0, -, w0⟩ := DataW.trod_int Try.underlying36 (show DataW.trod enc Try.prog w 0 (fun _ => true) true m 36 [c0] = some x0 by simpa [h36, Value.cells] using hi 0 _ rfl)
    obtain ⟨i, e1, -, w1⟩ := DataW.trod_int Try.underlying3 (show DataW.trod enc Try.prog w 0 (fun _ => true) true m 3 [c1] = some x1 by simpa [h3, Value.cells] using hi 1 _ rfl)
    obtain ⟨g, e2, -, w2⟩ := DataW.trod_int Try.underlying3 (show DataW.trod enc Try.prog w 0 (fun _ => true) true m 3 [c2] = some x2 by simpa [h3, Value.cells] using hi 2 _ rfl)
    obtain ⟨cm, e3, -⟩ := DataW.trod_bool Try.underlying4 (show DataW.trod enc Try.prog w 0 (fun _ => true) true m 4 [c3] = some x3 by simpa [h4, Value.cells] using hi 3 _ rfl)
    obtain ⟨n, e4, -, w4⟩ := DataW.trod_int Try.underlying3 (show DataW.trod enc Try.prog w 0 (fun _ => true) true m 3 [c4] = some x4 by simpa [h3, Value.cells] using hi 4 _ rfl)
    obtain ⟨k, e5, -, w5⟩ := DataW.trod_int Try.underlying49 (show DataW.trod enc Try.prog w 0 (fun _ => true) true m 49 [c5] = some x5 by simpa [h49, Value.cells] using hi 5 _ rfl)
    have h6 : DataW.trod enc Try.prog w 0 (fun _ => true) true m 39 [c6] = some x6 := by simpa [h39, Value.cells] using hi 6 _ rfl
    simp at e0 e1 e2 e3 e4 e5
    obtain ⟨a0, b0⟩ := wf_u64 w0
    obtain ⟨a5, b5⟩ := wf_u32 w5
    obtain ⟨q, len, cap, rfl⟩ : ∃ q len cap, c6 = .slice q len cap := by
      rcases Deep.open_slice Try.underlying39 h6 with ⟨hcs, -⟩ | ⟨a, len', cap', m, n, D, Pl, hcs, -⟩
      · exact ⟨_, _, _, by simpa using hcs⟩
      · exact ⟨_, _, _, by simpa using hcs⟩
    have hT : DataW.Trod enc Try.prog w 0 (fun _ => true) true 39 (.slice q len cap) x6.1 x6.2 := ⟨m, h6⟩
    obtain ⟨o1, o2, l, o3, o4, o5⟩ := open_bytes hT
    have o6 := open_none hT
    refine ⟨E.toNat, i, g, cm, n, k.toNat, q, len, cap, by rw [e0, e1, e2, e3, e4, e5, Int.toNat_of_nonneg a0, Int.toNat_of_nonneg a5], by omega, by omega, wf_i64 w1, wf_i64 w2, wf_i64 w4, o1, o2, ?_, l, o3, o4, o5⟩
    exact o6
end Go.Proofs.Ythnllhfdbnnjhaa
namespace Go.Proofs.Ythnllhfdbnnjhaa.FrameBytes
open Go.ChangeShapes Go.WideShapes Go.ChangeAt Go.RowKit Go.Joins
open Go.ChangeMaps (open_string shut_string)

set_option maxRecDepth 100000 in
theorem contract (H : Type) (enc : TypeId × Value → H) (W : World) (base : Nat) (args : Array Value) (ds gs : List (DataW H)) (before : List MemPlace)
    (hval : ∀ (j : Nat) t v, Try.f5.params[j]? = some t → args[j]? = some v → Value.okWide Try.prog W .any base t v)
    (hW : DataW.Whole enc Try.prog Try.f5.params.toList Rows.frameBytesSpec.vars false W args.toList ds gs before) :
    Calls Try.prog 5 args W fun e W' => ∃ v, e = .returned v ∧ Rows.frameBytesSpec.post enc Try.prog Try.f5 false true false false W args v W' := by
  have hW' := hW
  obtain ⟨p, q, hA0, hV, rfl, hfz, hnd⟩ := hW
  have hA : DataW.TrodAll enc Try.prog W 0 (fun _ => true) true Try.f5.params.toList args.toList ds p := hA0
  rw [Try.params5] at hA hval
  obtain ⟨v0, vs0, d0, ds0, p0, q0, hargs, rfl, rfl, h0, r0⟩ := trodAll_cons hA
  obtain ⟨v1, vs1, d1, ds1, p1, q1, rfl, rfl, rfl, h1, r1⟩ := trodAll_cons r0
  obtain ⟨rfl, rfl, rfl⟩ := trodAll_nil r1
  obtain rfl : args = #[v0, v1] := by cases args; simp_all
  obtain ⟨rfl, rfl⟩ := trodVars_none hV
  obtain ⟨E, i, g, cm, n, k, qq, ln, cp, rfl, a1, a2, -, -, -, hlc, hcm, hqn, bs, hbl, hbb, hby⟩ := open_frame (hval 0 51 v0 rfl rfl) h0
  obtain ⟨a0, len, cap, rfl⟩ := okWide_slice Try.underlying39 (hval 1 39 v1 rfl rfl)
  obtain ⟨hc, hm, l, rfl, hb, hba⟩ := open_bytes h1
  subst hbl
  have fin := bytesF_any E i g cm n k qq cp bs l a0 cap W a1 a2 hbb hby hqn (by unfold maxLen at hcm; omega) hc (by unfold maxLen at hm; omega) hb hba
  refine fin.mono fun e W' ⟨he, hb⟩ => ⟨_, he, law_true hW' rfl ⟨rfl, rfl, rfl⟩ (by kernel_rfl) (by kernel_rfl) hb⟩

theorem reads (os : Os) {H : Type} (enc : TypeId × Value → H) : ∃ places, DataW.whole enc Try.prog ((laidWorld os).forCall (fun _ _ => 0) ⟨#[], #[.agg #[.int .u64 0, .int .i64 0, .int .i64 0, .bool false, .int .i64 0, .int .u32 0, .slice none 0 0], .slice none 0 0], []⟩).memory Try.f5.params.toList Rows.frameBytesSpec.vars false (#[.agg #[.int .u64 0, .int .i64 0, .int .i64 0, .bool false, .int .i64 0, .int .u32 0, .slice none 0 0], .slice none 0 0] : Array Value).toList 9 = some ([.agg [.lit (.int .u64 0), .lit (.int .i64 0), .lit (.int .i64 0), .lit (.bool false), .lit (.int .i64 0), .lit (.int .u32 0), .nil], .nil], [], places) :=
  ⟨[], by kernel_rfl⟩

set_option maxRecDepth 100000 in
theorem lifted (os : Os) (started : os.Started) (H : Type) (enc : TypeId × Value → H) (F : Stop.Interp) :
    ReturnsInHanded {} Try.checked os 5 .any ((OpenSpec.ofChange Rows.frameBytesSpec).preRow enc Try.prog Try.f5 Rows.frameBytesRow.domain false Rows.frameBytesRow.laid) (((OpenSpec.ofChange Rows.frameBytesSpec).at F).post enc Try.prog Try.f5 false true false false) := by
  obtain ⟨places, hx⟩ := reads os enc
  refine returnsInHanded_of_row (C := Try.checked) (s := OpenSpec.ofChange Rows.frameBytesSpec) own started (by kernel_rfl) Try.func5
    (witness_row_at (enc := enc) (C := Try.checked) false (laidWorld os) #[.agg #[.int .u64 0, .int .i64 0, .int .i64 0, .bool false, .int .i64 0, .int .u32 0, .slice none 0 0], .slice none 0 0] rfl (by kernel_rfl) (by kernel_rfl) (by kernel_rfl)
      (OpenSpec.preRow_of_cond 9 hx (by kernel_rfl) (fun k hk => by cases hk) (by kernel_rfl) (laid_met os _))) ?_
  intro W base args ds gs before hval hW _ _ _ hL hsh _
  exact contract H enc W base args ds gs before hval hW

theorem said : Rows.FrameBytesSaid :=
  OpenClaim.holds_of_cond 5 Try.f5 rfl rfl rfl rfl rfl rfl rfl ⟨rfl, rfl, rfl, rfl, rfl⟩ rfl rfl rfl rfl rfl (by kernel_rfl) Try.func5 (by kernel_rfl)
    (of_decide_eq_true (by kernel_rfl)) (by unfold Func.isWrapper; first | (rw [if_pos (by decide +kernel)]; kernel_rfl) | (rw [if_neg (by decide +kernel)]; exact ⟨rfl, rfl⟩))
    (fun os started H enc _ F => by rw [OpenClaim.pre_eq_preRow]; exact lifted os started H enc F)
end Go.Proofs.Ythnllhfdbnnjhaa.FrameBytes
namespace Go.Proofs.Ythnllhfdbnnjhaa
theorem frameBytes_holds : Rows.FrameBytesSaid := FrameBytes.said
end Go.Proofs.Ythnllhfdbnnjhaa
