/- Package frame: a reader of bytes. -/
import Derived.Test.YthnllhfdbnnjhaaPB
namespace Go.Proofs.Ythnllhfdbnnjhaa
open Go.RowKit Go.Shelf

/-- All blocks but one are as they were. -/
structure But (P : Nat) (w w' : World) : Prop where
  size : w.heap.size ≤ w'.heap.size
  block : ∀ k, k < w.heap.size → k ≠ P → w'.heap[k]? = w.heap[k]?
  os : w'.os = w.os
  tape : w'.tape = w.tape
  output : w'.output = w.output
theorem But.refl (P : Nat) (w : World) : But P w w := ⟨Nat.le_refl _, fun _ _ _ => rfl, rfl, rfl, rfl⟩
theorem But.trans {P : Nat} {a b c : World} (h : But P a b) (k : But P b c) : But P a c :=
  ⟨Nat.le_trans h.size k.size, fun i hi hn => (k.block i (Nat.lt_of_lt_of_le hi h.size) hn).trans (h.block i hi hn), k.os.trans h.os, k.tape.trans h.tape, k.output.trans h.output⟩
theorem But.of {P : Nat} {w w' : World} (h : Below w.heap.size w w') : But P w w' := ⟨h.size, fun k hk _ => h.block k hk, h.os, h.tape, h.output⟩
theorem But.set (P : Nat) (w : World) (v : Value) : But P w (w.setCell ⟨P, 0, none⟩ v) := by
  have h : Below P w (w.setCell ⟨P, 0, none⟩ v) := (Below.refl P w).setCell (Nat.le_refl P) v
  refine ⟨by simp [World.setCell], fun k hk hn => ?_, h.os, h.tape, h.output⟩
  simp only [World.setCell, Array.getElem?_modify]
  rw [if_neg (fun e => hn e.symm)]
theorem But.below {P : Nat} {w0 w w' : World} (h : But P w w') (hb : Below w0.heap.size w0 w) (hP : w0.heap.size ≤ P) : Below w0.heap.size w0 w' :=
  ⟨h.os.trans hb.os, h.tape.trans hb.tape, h.output.trans hb.output, Nat.le_trans hb.size h.size, fun k hk => (h.block k (Nat.lt_of_lt_of_le hk hb.size) (by omega)).trans (hb.block k hk)⟩
theorem But.cell {P : Nat} {w w' : World} (h : But P w w') {a : Addr} {v : Value} (hc : w.cell? a = some v) (hn : a.block ≠ P) : w'.cell? a = some v := by
  have := h.block a.block (lt_of_cell_some hc) hn
  unfold World.cell? at hc ⊢
  rw [this]
  exact hc
theorem RestP.but {T : Nat → Prop} {w w' : World} {P : Nat} {p : Option Addr} {c : Nat} {v : List Nat} (R : RestP T w P p c v) (hb : Below w.heap.size w w') : RestP T w' P p c v := by
  have hP := lt_of_cell_some R.cell
  refine ⟨(hb.cell hP).trans R.cell, R.cap, (hb.frozen hP).trans R.fz, R.ne, fun i hi => ?_⟩
  obtain ⟨B, off, e, hT, hc⟩ := R.bytes i hi
  exact ⟨B, off, e, hT, (hb.cell (lt_of_cell_some hc)).trans hc⟩
theorem min_cast (m L : Nat) (h : m ≤ L) : min (m : Int) (L : Int) = (m : Int) := by omega
set_option maxRecDepth 100000 in
set_option maxHeartbeats 400000 in
theorem ftake_rest {T : Nat → Prop} (m : Nat) (P : Nat) (p : Option Addr) (c : Nat) (v : List Nat) (w : World) (h : m ≤ v.length) (hv : c ≤ 9223372036854775807) (R : RestP T w P p c v) :
    Calls Try.prog 61 #[.pointer (some ⟨P, 0, none⟩), .int .i64 m] w fun r w' => r = .returned (.slice p m m) ∧ w' = w.setCell ⟨P, 0, none⟩ (.slice (restAt p c m) (v.length - m) (c - m)) := by
  have hc := R.cell
  have hcap := R.cap
  have hfz := R.fz
  generalize v.length = L at h hc hcap
  unfold restAt
  go_enter Try.func61, Try.ntmps61
  go_upto_region 2 with fail
  rw [min_cast m L h]
  go_wp2
  all_goals go_ret
  all_goals exact ⟨rfl, rfl⟩
/-- Fewer bytes are left than are asked for: all of them are taken. -/
theorem ftake_all {T : Nat → Prop} (n : Nat) (P : Nat) (p : Option Addr) (c : Nat) (v : List Nat) (w : World) (h : v.length ≤ n) (hv : c ≤ 9223372036854775807) (R : RestP T w P p c v) :
    Calls Try.prog 61 #[.pointer (some ⟨P, 0, none⟩), .int .i64 n] w fun r w' => r = .returned (.slice p v.length v.length) ∧ w' = w.setCell ⟨P, 0, none⟩ (.slice (restAt p c v.length) 0 (c - v.length)) := by
  have hc := R.cell
  have hcap := R.cap
  have hfz := R.fz
  generalize v.length = L at h hc hcap ⊢
  have hm : min (n : Int) (L : Int) = (L : Int) := by omega
  unfold restAt
  go_enter Try.func61, Try.ntmps61
  go_upto_region 2 with fail
  go_wp2
  all_goals go_ret
  all_goals exact ⟨rfl, rfl⟩
set_option maxRecDepth 100000 in
set_option maxHeartbeats 1000000 in
theorem num8_any (P : Nat) (p : Option Addr) (c : Nat) (v : List Nat) (w0 w : World) (h : 8 ≤ v.length) (hv : c ≤ 9223372036854775807) (hb : ∀ b ∈ v, b < 256) (hP : w0.heap.size ≤ P) (R : RestP (· < w0.heap.size) w P p c v) :
    Calls Try.prog 55 #[.pointer (some ⟨P, 0, none⟩), .int .i64 8, .func (.func 56) #[] #[]] w fun r w' => r = .returned (.int .u64 (foldN (v.take 8) : Nat)) ∧ But P w w' ∧ ∃ p' c', c' ≤ c ∧ RestP (· < w0.heap.size) w' P p' c' (v.drop 8) := by
  have hl : (v.take 8).length = 8 := by rw [List.length_take]; omega
  have CT := Lib.hid (ftake_rest 8 P p c v w h hv R)
  have R1 := R.next h
  have hby := R.taken 8 (Only.step .refl (.slice (restAt p c 8) (v.length - 8) (c - 8)))
  obtain ⟨w1, hw1⟩ : ∃ w1, w.setCell ⟨P, 0, none⟩ (.slice (restAt p c 8) (v.length - 8) (c - 8)) = w1 := ⟨_, rfl⟩
  rw [hw1] at CT R1 hby
  have HB1 : Hid (But P w w1) := Lib.hid (by subst hw1; exact But.set P w _)
  have CR := readEight_any (v.take 8) p 8 w1 (by omega) (by omega) (by omega) (fun b hb' => hb b (List.mem_of_mem_take hb')) (Lib.hid hby)
  have e : (readFixE 8 (v.take 8)).1 = foldN (v.take 8) := by
    unfold readFixE
    rw [if_neg (by omega)]
    simp only [foldN, List.take_take, Nat.min_self]
  have hlt : foldN (v.take 8) < 256 ^ 8 := by
    have := foldN_lt (l := v.take 8) (fun b hb' => hb b (List.mem_of_mem_take hb')) 8 (by omega)
    rwa [List.take_take, Nat.min_self] at this
  rw [e, hl] at CR
  have CR := Lib.hid CR
  have HR1 := Lib.hid R1
  generalize foldN (v.take 8) = x at *
  simp only [Nat.reducePow] at hlt
  clear hw1 e hl hby R1 R hb h
  go_enter Try.func55, Try.ntmps55
  go_wp2_with (first
    | (go_at_call 61; refine CT.out.mono ?_; rintro e w' ⟨rfl, rfl⟩)
    | (go_at_call 56; refine CR.out.mono ?_; rintro e w2 ⟨rfl, hb2⟩; have HB2 := Lib.hid (HB1.out.trans (But.of hb2)); have HR2 := Lib.hid (HR1.out.but hb2); clear hb2))
  go_ret
  exact ⟨rfl, HB2.out, _, _, Nat.sub_le _ _, HR2.out⟩
set_option maxRecDepth 100000 in
set_option maxHeartbeats 1000000 in
theorem num4_any (P : Nat) (p : Option Addr) (c : Nat) (v : List Nat) (w0 w : World) (h : 4 ≤ v.length) (hv : c ≤ 9223372036854775807) (hb : ∀ b ∈ v, b < 256) (hP : w0.heap.size ≤ P) (R : RestP (· < w0.heap.size) w P p c v) :
    Calls Try.prog 57 #[.pointer (some ⟨P, 0, none⟩), .int .i64 4, .func (.func 58) #[] #[]] w fun r w' => r = .returned (.int .i64 (foldN (v.take 4) : Nat)) ∧ But P w w' ∧ ∃ p' c', c' ≤ c ∧ RestP (· < w0.heap.size) w' P p' c' (v.drop 4) := by
  have hl : (v.take 4).length = 4 := by rw [List.length_take]; omega
  have CT := Lib.hid (ftake_rest 4 P p c v w h hv R)
  have R1 := R.next h
  have hby := R.taken 4 (Only.step .refl (.slice (restAt p c 4) (v.length - 4) (c - 4)))
  obtain ⟨w1, hw1⟩ : ∃ w1, w.setCell ⟨P, 0, none⟩ (.slice (restAt p c 4) (v.length - 4) (c - 4)) = w1 := ⟨_, rfl⟩
  rw [hw1] at CT R1 hby
  have HB1 : Hid (But P w w1) := Lib.hid (by subst hw1; exact But.set P w _)
  have CR := readFour_any (v.take 4) p 4 w1 (by omega) (by omega) (by omega) (fun b hb' => hb b (List.mem_of_mem_take hb')) (Lib.hid hby)
  have e : (readFixE 4 (v.take 4)).1 = foldN (v.take 4) := by
    unfold readFixE
    rw [if_neg (by omega)]
    simp only [foldN, List.take_take, Nat.min_self]
  have hlt : foldN (v.take 4) < 256 ^ 4 := by
    have := foldN_lt (l := v.take 4) (fun b hb' => hb b (List.mem_of_mem_take hb')) 4 (by omega)
    rwa [List.take_take, Nat.min_self] at this
  rw [e, hl] at CR
  have CR := Lib.hid CR
  have HR1 := Lib.hid R1
  generalize foldN (v.take 4) = x at *
  simp only [Nat.reducePow] at hlt
  clear hw1 e hl hby R1 R hb h
  go_enter Try.func57, Try.ntmps57
  go_wp2_with (first
    | (go_at_call 61; refine CT.out.mono ?_; rintro e w' ⟨rfl, rfl⟩)
    | (go_at_call 58; refine CR.out.mono ?_; rintro e w2 ⟨rfl, hb2⟩; have HB2 := Lib.hid (HB1.out.trans (But.of hb2)); have HR2 := Lib.hid (HR1.out.but hb2); clear hb2))
  go_ret
  exact ⟨rfl, HB2.out, _, _, Nat.sub_le _ _, HR2.out⟩
set_option maxRecDepth 100000 in
set_option maxHeartbeats 1000000 in
theorem num4u_any (P : Nat) (p : Option Addr) (c : Nat) (v : List Nat) (w0 w : World) (h : 4 ≤ v.length) (hv : c ≤ 9223372036854775807) (hb : ∀ b ∈ v, b < 256) (hP : w0.heap.size ≤ P) (R : RestP (· < w0.heap.size) w P p c v) :
    Calls Try.prog 62 #[.pointer (some ⟨P, 0, none⟩), .int .i64 4, .func (.func 58) #[] #[]] w fun r w' => r = .returned (.int .u32 (foldN (v.take 4) : Nat)) ∧ But P w w' ∧ ∃ p' c', c' ≤ c ∧ RestP (· < w0.heap.size) w' P p' c' (v.drop 4) := by
  have hl : (v.take 4).length = 4 := by rw [List.length_take]; omega
  have CT := Lib.hid (ftake_rest 4 P p c v w h hv R)
  have R1 := R.next h
  have hby := R.taken 4 (Only.step .refl (.slice (restAt p c 4) (v.length - 4) (c - 4)))
  obtain ⟨w1, hw1⟩ : ∃ w1, w.setCell ⟨P, 0, none⟩ (.slice (restAt p c 4) (v.length - 4) (c - 4)) = w1 := ⟨_, rfl⟩
  rw [hw1] at CT R1 hby
  have HB1 : Hid (But P w w1) := Lib.hid (by subst hw1; exact But.set P w _)
  have CR := readFour_any (v.take 4) p 4 w1 (by omega) (by omega) (by omega) (fun b hb' => hb b (List.mem_of_mem_take hb')) (Lib.hid hby)
  have e : (readFixE 4 (v.take 4)).1 = foldN (v.take 4) := by
    unfold readFixE
    rw [if_neg (by omega)]
    simp only [foldN, List.take_take, Nat.min_self]
  have hlt : foldN (v.take 4) < 256 ^ 4 := by
    have := foldN_lt (l := v.take 4) (fun b hb' => hb b (List.mem_of_mem_take hb')) 4 (by omega)
    rwa [List.take_take, Nat.min_self] at this
  rw [e, hl] at CR
  have CR := Lib.hid CR
  have HR1 := Lib.hid R1
  generalize foldN (v.take 4) = x at *
  simp only [Nat.reducePow] at hlt
  clear hw1 e hl hby R1 R hb h
  go_enter Try.func62, Try.ntmps62
  go_wp2_with (first
    | (go_at_call 61; refine CT.out.mono ?_; rintro e w' ⟨rfl, rfl⟩)
    | (go_at_call 58; refine CR.out.mono ?_; rintro e w2 ⟨rfl, hb2⟩; have HB2 := Lib.hid (HB1.out.trans (But.of hb2)); have HR2 := Lib.hid (HR1.out.but hb2); clear hb2))
  go_ret
  exact ⟨rfl, HB2.out, _, _, Nat.sub_le _ _, HR2.out⟩
end Go.Proofs.Ythnllhfdbnnjhaa
