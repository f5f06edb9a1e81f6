/- Package frame: going over the sectors of bytes. -/
import Derived.Test.YthnllhfdbnnjhaaR1
namespace Go.Proofs.Ythnllhfdbnnjhaa
open Go.RowKit Go.Shelf
attribute [local go_sem] Oper.semAt_some

theorem sectorsOf_any (p : Option Addr) (n c : Nat) (w : World) :
    Calls Try.prog 49 #[.slice p n c] w fun r w' => r = .returned (.func (.func 63) #[] #[.pointer (some ⟨w.heap.size, 0, none⟩)]) ∧ w' = w.alloc (.cells #[.slice p n c] 39) := by
  have hmf : ∀ (fn : Fn) (first cap : Array Value) (w : World), (Instr.makeFunc fn first cap).run Try.prog w = .ok (.func fn first cap) w := fun _ _ _ _ => rfl
  go_enter Try.func49, Try.ntmps49
  go_wp2
  go_ret
  exact ⟨rfl, rfl⟩
/-- How many sectors bytes have. -/
def secN (n : Nat) : Nat := (n + 63) / 64
/-- The k-th sector of bytes: where it lies, its bytes. -/
def secP (p : Option Addr) (k : Nat) : Option Addr := p.map fun x => x.add (64 * k)
def secL (l : List Nat) (k : Nat) : List Nat := (l.drop (64 * k)).take 64
theorem secL_length (l : List Nat) (k : Nat) : (secL l k).length = min 64 (l.length - 64 * k) := by unfold secL; rw [List.length_take, List.length_drop]
abbrev encS (p : Option Addr) (l : List Nat) (k : Nat) : Array Value := #[.int .i64 (k : Int), .slice (secP p k) (secL l k).length (secL l k).length]
def TS (p : Option Addr) (l : List Nat) (k : Nat) (A : World) : Prop := BytesAt A (secP p k) (secL l k)
/-- The block that the bytes lie in. -/
def inB (p : Option Addr) (n : Nat) (k : Nat) : Prop := 0 < n ∧ ∃ off, p = some ⟨k, off, none⟩
theorem bytesAt_in {w : World} {p : Option Addr} {l : List Nat} (h : BytesAt w p l) : ∀ i, i < l.length → ∃ B off, p = some ⟨B, off, none⟩ ∧ inB p l.length B ∧ w.cell? ⟨B, off + i, none⟩ = some (.int .u8 (l.getD i 0 : Nat)) := fun i hi => by
  obtain ⟨B, off, e, c⟩ := h i hi
  exact ⟨B, off, e, ⟨by omega, off, e⟩, c⟩
theorem inB_lt {w : World} {p : Option Addr} {l : List Nat} (h : BytesAt w p l) {k : Nat} (hk : inB p l.length k) : k < w.heap.size := by
  obtain ⟨h0, off, e⟩ := hk
  obtain ⟨B, off', e', c⟩ := h 0 h0
  rw [e] at e'
  injection e' with e'
  injection e' with e1 e2
  subst e1
  exact lt_of_cell_some c
theorem rest_kpB {M : Nat → Prop} {T : Nat → Prop} {B P : Nat} {w w' : World} {p : Option Addr} {c : Nat} {v : List Nat} (R : RestP T w P p c v) (hk : KpB M B w w') (hP : B ≤ P) (hT : ∀ k, T k → M k) : RestP T w' P p c v :=
  ⟨hk.cell (.inl hP) R.cell, R.cap, (World.frozen?_of_block (a := ⟨P, 0, none⟩) (hk.2 P (lt_of_cell_some R.cell) (.inl hP))).trans R.fz, R.ne, fun i hi => by
    obtain ⟨B', off, e, ht, hc⟩ := R.bytes i hi
    exact ⟨B', off, e, ht, hk.cell (.inr (hT _ ht)) hc⟩⟩
theorem secN_lt {n k : Nat} : k < secN n ↔ 64 * k < n := by unfold secN; omega
theorem secP_next {w : World} {p : Option Addr} {l : List Nat} (hb : BytesAt w p l) (h0 : 0 < l.length) (k : Nat) : secP p (k + 1) = (secP p k).map fun x => x.add 64 := by
  obtain ⟨B, off, rfl, -⟩ := hb 0 h0
  simp only [secP, Option.map_some, addr_plain]
  rw [show off + 64 * (k + 1) = off + 64 * k + 64 by omega]
theorem take_sec {l : List Nat} {k m : Nat} (hm : m = (secL l k).length) : (l.drop (64 * k)).take m = secL l k := by
  rw [hm, secL_length]
  unfold secL
  rw [← List.length_drop]
  rcases Nat.le_total 64 (l.drop (64 * k)).length with h | h
  · rw [Nat.min_eq_left h]
  · rw [Nat.min_eq_right h, List.take_of_length_le (Nat.le_refl _), List.take_of_length_le h]
theorem drop_sec {l : List Nat} {k m : Nat} (hm : m = (secL l k).length) : (l.drop (64 * k)).drop m = l.drop (64 * (k + 1)) := by
  rw [hm, secL_length, List.drop_drop]
  rcases Nat.le_total 64 (l.length - 64 * k) with h | h
  · rw [Nat.min_eq_left h]
    congr 1
  · rw [Nat.min_eq_right h, List.drop_eq_nil_of_le (by omega), List.drop_eq_nil_of_le (by omega)]
theorem ftake_sec {T : Nat → Prop} (l : List Nat) (k m : Nat) (hm : m = (secL l k).length) (P : Nat) (p : Option Addr) (c : Nat) (w : World) (hv : c ≤ 9223372036854775807) (R : RestP T w P p c (l.drop (64 * k))) :
    Calls Try.prog 61 #[.pointer (some ⟨P, 0, none⟩), .int .i64 64] w fun r w' => r = .returned (.slice p m m) ∧ w' = w.setCell ⟨P, 0, none⟩ (.slice (restAt p c m) ((l.drop (64 * k)).length - m) (c - m)) := by
  rw [hm, secL_length, ← List.length_drop]
  rcases Nat.le_total 64 (l.drop (64 * k)).length with h | h
  · rw [Nat.min_eq_left h]
    exact ftake_rest 64 P p c _ w h hv R
  · rw [Nat.min_eq_right h, Nat.sub_self]
    exact ftake_all 64 P p c _ w h hv R
set_option maxRecDepth 100000 in
set_option maxHeartbeats 4000000 in
theorem sectors_low (n : Nat) (hn : 2 ≤ n) (l : List Nat) (p : Option Addr) (c Bx : Nat) (w : World) (hl : l.length ≤ 100000) (hcap : l.length ≤ c) (hc0 : c ≤ 9223372036854775807) (hb : BytesAt w p l) (hx : w.cell? ⟨Bx, 0, none⟩ = some (.slice p l.length c)) :
    SeqLow Fence.wide n Try.prog 63 #[.pointer (some ⟨Bx, 0, none⟩)] (encS p l) (fun k => k = Bx ∨ inB p l.length k) (TS p l) (fun xs => xs = List.range (secN l.length)) (fun pre => pre <+: List.range (secN l.length)) (secN l.length) w := fun ly J Jx W hW hJ hJx hY h0 => by
  have hcW := (hW.cell (p := ⟨Bx, 0, none⟩) (lt_of_cell_some hx)).trans hx
  have hbW := bytesAt_below hb hW
  have hsn : secN l.length ≤ 100000 := by unfold secN; omega
  have HJ := Lib.hid hJ
  have HY := Lib.hid hY
  have H0 := Lib.hid h0
  have HB := Lib.hid hbW
  clear hJ hJx hY h0 hW hb hx hbW
  refine callsIn_of_wp Try.func63 rfl trivial ?_ rfl
  simp only [Try.ntmps63, List.size_toArray, List.length_cons, List.length_nil, Nat.reduceAdd, Nat.reduceSub, Array.replicate_succ, Array.replicate_zero, List.push_toArray, List.append_toArray, List.nil_append, List.cons_append]
  gi_wp2_with fail
  have R0 : Hid (RestP (inB p l.length) (W.alloc (.cells #[.slice p l.length c] 109)) W.heap.size p c (l.drop (64 * 0))) := Lib.hid ⟨by rw [Nat.mul_zero, List.drop_zero]; go_cell, by rw [Nat.mul_zero, List.drop_zero]; exact hcap, by go_simp, fun h => Nat.lt_irrefl _ (inB_lt HB.out h), fun i hi => by
    rw [Nat.mul_zero, List.drop_zero] at hi ⊢
    exact bytesAt_in (bytesAt_below HB.out ((Below.refl _ _).alloc (Nat.le_refl _) _)) i hi⟩
  have J0 : Hid (J [] (W.alloc (.cells #[.slice p l.length c] 109))) := Lib.hid (HJ.out _ _ _ H0.out (Nat.le_refl _) ((Below.refl _ _).alloc (Nat.le_refl _) _))
  clear H0 hcW
  gi_loopw [4] (fun i wr => ∃ (k : Nat) (q : Option Addr) (d : Nat), k ≤ secN l.length ∧ i = .int .i64 k ∧ Hid (J (List.range k) wr) ∧ Hid (RestP (inB p l.length) wr W.heap.size q d (l.drop (64 * k))) ∧ Hid (k < secN l.length → q = secP p k) ∧ d ≤ c ∧ Hid (W.heap.size ≤ wr.heap.size)) (fun i _ => (secN l.length - intOf i).toNat)
  case atStart => exact ⟨0, p, c, Nat.zero_le _, rfl, J0, R0, Lib.hid (fun _ => by unfold secP; cases p <;> simp [Addr.add]), Nat.le_refl _, Lib.hid (by simp)⟩
  case round =>
    obtain ⟨k, q, d, hk, rfl, HJk, HRk, HQk, hd, HSk⟩ := hrel
    have HD := Lib.hid hd
    by_cases hlt : k < secN l.length
    · have hq := HQk.out hlt
      have h64 := secN_lt.1 hlt
      obtain ⟨m, hm⟩ : ∃ m, m = (secL l k).length := ⟨_, rfl⟩
      have CT := Lib.hid (ftake_sec l k m hm W.heap.size q d wr (by omega) HRk.out)
      have hcell := HRk.out.cell
      have hfz := HRk.out.fz
      have hml : m ≤ (l.drop (64 * k)).length := by rw [hm, secL_length, List.length_drop]; omega
      have HN := Lib.hid (HRk.out.next hml)
      have HT := Lib.hid (HRk.out.taken m (Only.step .refl (.slice (restAt q d m) ((l.drop (64 * k)).length - m) (d - m))))
      rw [take_sec hm] at HT
      rw [drop_sec hm] at HN
      obtain ⟨w1, hw1⟩ : ∃ w1, wr.setCell ⟨W.heap.size, 0, none⟩ (.slice (restAt q d m) ((l.drop (64 * k)).length - m) (d - m)) = w1 := ⟨_, rfl⟩
      rw [hw1] at CT HN HT
      have HB1 : Hid (Below W.heap.size wr w1) := Lib.hid (by subst hw1; exact (Below.refl W.heap.size wr).setCell (p := ⟨W.heap.size, 0, none⟩) (Nat.le_refl _) _)
      have hs1 : W.heap.size ≤ w1.heap.size := Nat.le_trans HSk.out HB1.out.size
      have hyY := HY.out (List.range k) k w1 (HJ.out _ _ _ HJk.out HSk.out HB1.out) hs1 (by rw [List.length_range]; exact hlt) (by rw [← List.range_succ]; exact List.prefix_iff_eq_take.2 (by rw [List.length_range, List.take_range, Nat.min_eq_left (by omega)])) (by unfold TS; rw [← hq]; exact HT.out)
      rw [← List.range_succ] at hyY
      have HP : Hid (k + 1 < secN l.length → restAt q d m = secP p (k + 1)) := Lib.hid fun h => by
        have h2 := secN_lt.1 h
        have h3 : m = 64 := by rw [hm, secL_length]; omega
        have h4 := HRk.out.cap
        rw [List.length_drop] at h4
        unfold restAt
        rw [if_neg (by omega), hq, h3, ← secP_next HB.out (by omega)]
      have hvl : (0 : Int) < ((l.drop (64 * k)).length : Nat) := by rw [List.length_drop]; omega
      have HM := Lib.hid hm
      unfold encS at hyY
      rw [← hq, ← hm] at hyY
      obtain ⟨fn, tmps, assign, body, hy, hYR⟩ := hyY
      generalize (l.drop (64 * k)).length = vl at *
      clear hw1 hm hml h64 hq HJk HRk HQk hd
      gi_wp2_with (refine ⟨trivial, fun _ => by omega, (callsIn_wide.2 CT.out).mono ?_⟩; rintro e w' ⟨rfl, rfl⟩)
      refine ⟨fun _ => by omega, hYR.mono ?_⟩
      rintro e W3 (⟨rfl, hJ3, hK3⟩ | ⟨rfl, hJx3, hK3⟩)
      · have HJ3 := Lib.hid hJ3
        have HR3 := Lib.hid (rest_kpB HN.out hK3 (Nat.le_refl _) (fun _ h => .inr h))
        have HS3 : Hid (W.heap.size ≤ W3.heap.size) := Lib.hid (Nat.le_trans hs1 hK3.1)
        clear hJ3 hK3 hYR hcell hfz hy CT HT HN
        gi_wp2
        go_roundw
        case rel => exact ⟨k + 1, _, _, by omega, by go_num, HJ3, HR3, HP, Nat.le_trans (Nat.sub_le _ _) HD.out, HS3⟩
        case measure => simp [intOf]; omega
      · have HS3 : Hid (W.heap.size ≤ W3.heap.size) := Lib.hid (Nat.le_trans hs1 hK3.1)
        clear hYR
        gi_wp2
        refine bodyPost_ret (results_none rfl _ _ _) rfl ?_
        exact ⟨⟨_, rfl⟩, HS3.out, .inr ⟨_, List.prefix_iff_eq_take.2 (by rw [List.length_range, List.take_range, Nat.min_eq_left (by omega)]), hJx3⟩⟩
    · obtain rfl : k = secN l.length := by omega
      have hcell := HRk.out.cell
      have hvl : (l.drop (64 * secN l.length)).length = 0 := by rw [List.length_drop]; have := mt secN_lt.2 (Nat.lt_irrefl (secN l.length)); omega
      rw [hvl] at hcell
      gi_wp2
      refine bodyPost_end (results_none rfl _ _ _) rfl ?_
      exact ⟨⟨_, rfl⟩, HSk.out, .inl ⟨_, rfl, HJk.out⟩⟩
end Go.Proofs.Ythnllhfdbnnjhaa
