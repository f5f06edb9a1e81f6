import Derived.Test.YthnllhfdbnnjhaaO12
import Derived.ScopeJumps
import Derived.WalkMore
namespace Go.Proofs.Ythnllhfdbnnjhaa
open Go.RowKit Go.Shelf

/-- A scope out of which the run jumps forward to one label. -/
theorem wp_scope_fwd {P : Program} {a : Act} {w : World} {Q : Exit → Act → World → Prop} {c rest : Code} (l : Nat) (hf : findLabel c l = some rest)
    (first : ∀ J : Act → World → Prop, Hid (∀ a w, rest.wp P (Exit.noGoto Q) a w → J a w) → c.wp P (Exit.jump l J Q) a w) : (Code.scope c).wp P Q a w :=
  wp_scope_jumps l (fun a w => rest.wp P (Exit.noGoto Q) a w) (fun _ _ => 0) hf (first _ (Lib.hid fun _ _ h => h))
    (fun a w h => Code.wp_mono (fun e a w hq => by
      cases e with
      | goto l' => exact absurd hq (by simp [Exit.noGoto])
      | normal => exact hq
      | exit i => exact hq
      | ret => exact hq
      | panic c => exact hq
      | outgrown => exact hq) h)
/-- Bytes that are not read yet: in the variable at P. -/
structure RestP (T : Nat → Prop) (w : World) (P : Nat) (p : Option Addr) (c : Nat) (v : List Nat) : Prop where
  cell : w.cell? ⟨P, 0, none⟩ = some (.slice p v.length c)
  cap : v.length ≤ c
  fz : w.frozen? ⟨P, 0, none⟩ = false
  ne : ¬ T P
  bytes : ∀ i, i < v.length → ∃ B off, p = some ⟨B, off, none⟩ ∧ T B ∧ w.cell? ⟨B, off + i, none⟩ = some (.int .u8 (v.getD i 0 : Nat))
/-- Nothing was changed but the variable at P. -/
inductive Only (P : Nat) (w : World) : World → Prop
  | refl : Only P w w
  | step {w' : World} (h : Only P w w') (s : Value) : Only P w (w'.setCell ⟨P, 0, none⟩ s)
theorem Only.trans {P : Nat} {w w1 w2 : World} (h : Only P w w1) (h2 : Only P w1 w2) : Only P w w2 := by
  induction h2 with
  | refl => exact h
  | step _ s ih => exact .step ih s
theorem Only.under {P B : Nat} {w0 w w' : World} (h : Only P w w') (hP : B ≤ P) (b : Below B w0 w) : Below B w0 w' := by
  induction h with
  | refl => exact b
  | step _ s ih => exact ih.setCell hP s
theorem Only.cell {P : Nat} {w w' : World} (h : Only P w w') {p : Addr} (hp : p.block ≠ P) : w'.cell? p = w.cell? p := by
  induction h with
  | refl => rfl
  | step _ s ih => exact (World.cell?_setCell_other _ _ _ _ (fun e => hp (by subst e; rfl))).trans ih
theorem Only.frozen {P : Nat} {w w' : World} (h : Only P w w') {p : Addr} : w'.frozen? p = w.frozen? p := by
  induction h with
  | refl => rfl
  | step _ s ih => exact (World.frozen?_setCell _ _ _ _).trans ih
theorem Only.size {P : Nat} {w w' : World} (h : Only P w w') : w'.heap.size = w.heap.size := by
  induction h with
  | refl => rfl
  | step _ s ih => simpa [World.setCell] using ih
/-- Where the rest begins, behind so many bytes. -/
def restAt (p : Option Addr) (c m : Nat) : Option Addr := if c = m then p else p.map fun x => x.add m
theorem RestP.next {T : Nat → Prop} {w : World} {P : Nat} {p : Option Addr} {c : Nat} {v : List Nat} (R : RestP T w P p c v) {m : Nat} (hm : m ≤ v.length) :
    RestP T (w.setCell ⟨P, 0, none⟩ (.slice (restAt p c m) (v.length - m) (c - m))) P (restAt p c m) (c - m) (v.drop m) := by
  have hcap := R.cap
  refine ⟨?_, ?_, ?_, R.ne, ?_⟩
  · rw [World.cell?_setCell_same _ _ _ R.cell, List.length_drop]
  · rw [List.length_drop]; omega
  · exact (World.frozen?_setCell _ _ _ _).trans R.fz
  · intro i hi
    rw [List.length_drop] at hi
    obtain ⟨B, off, rfl, hne, hc⟩ := R.bytes (m + i) (by omega)
    refine ⟨B, off + m, ?_, hne, ?_⟩
    · unfold restAt
      rw [if_neg (by omega)]
      exact congrArg some (addr_plain B off m)
    · rw [World.cell?_setCell_other _ _ _ _ (fun e => R.ne (by have h := congrArg Addr.block e; simp only at h; rw [h]; exact hne)), Nat.add_assoc, hc]
      simp [List.getD_eq_getElem?_getD, List.getElem?_drop]
/-- What was taken. -/
theorem RestP.taken {T : Nat → Prop} {w w' : World} {P : Nat} {p : Option Addr} {c : Nat} {v : List Nat} (R : RestP T w P p c v) (m : Nat) (ho : Only P w w') : BytesAt w' p (v.take m) := by
  intro i hi
  rw [List.length_take] at hi
  obtain ⟨B, off, rfl, hne, hc⟩ := R.bytes i (by omega)
  refine ⟨B, off, rfl, ?_⟩
  rw [ho.cell (fun e => R.ne (e ▸ hne)), hc]
  simp [List.getD_eq_getElem?_getD, List.getElem?_take, show i < m by omega]
/-- More bytes are asked for than there are. -/
theorem take_more {T : Nat → Prop} (n : Nat) (P : Nat) (p : Option Addr) (c : Nat) (v : List Nat) (w : World) (h : v.length < n) (hv : v.length < 2 ^ 63) (R : RestP T w P p c v) :
    Calls Try.prog 81 #[.pointer (some ⟨P, 0, none⟩), .int .u64 n] w fun r w' => r = .returned (.tuple #[.slice none 0 0, .bool false]) ∧ w = w' := by
  have hc := R.cell
  generalize v.length = L at h hv hc
  go_enter Try.func81, Try.ntmps81
  go_wp2
  go_ret2
  exact ⟨rfl, rfl⟩
set_option maxHeartbeats 400000 in
theorem take_rest {T : Nat → Prop} (m : Nat) (P : Nat) (p : Option Addr) (c : Nat) (v : List Nat) (w : World) (h : m ≤ v.length) (hv : c ≤ 9223372036854775807) (R : RestP T w P p c v) :
    Calls Try.prog 81 #[.pointer (some ⟨P, 0, none⟩), .int .u64 m] w fun r w' => r = .returned (.tuple #[.slice p m m, .bool true]) ∧ w' = w.setCell ⟨P, 0, none⟩ (.slice (restAt p c m) (v.length - m) (c - m)) := by
  have hc := R.cell
  have hcap := R.cap
  have hfz := R.fz
  generalize v.length = L at h hc hcap
  unfold restAt
  go_enter Try.func81, Try.ntmps81
  go_wp2
  all_goals go_ret2
  all_goals exact ⟨rfl, rfl⟩
/-- One byte is taken. -/
theorem take_one {T : Nat → Prop} (P : Nat) (p : Option Addr) (c : Nat) (v : List Nat) (w : World) (h : 0 < v.length) (hv : c ≤ 9223372036854775807) (R : RestP T w P p c v) :
    ∃ B off, p = some ⟨B, off, none⟩ ∧ ∃ s c', RestP T (w.setCell ⟨P, 0, none⟩ s) P (restAt p c 1) c' (v.drop 1) ∧ (w.setCell ⟨P, 0, none⟩ s).cell? ⟨B, off, none⟩ = some (.int .u8 (v.getD 0 0 : Nat)) ∧ c' ≤ c ∧
    Calls Try.prog 81 #[.pointer (some ⟨P, 0, none⟩), .int .u64 1] w fun r w' => r = .returned (.tuple #[.slice (some ⟨B, off, none⟩) 1 1, .bool true]) ∧ w' = w.setCell ⟨P, 0, none⟩ s := by
  obtain ⟨B, off, rfl, hne, hc⟩ := R.bytes 0 h
  exact ⟨B, off, rfl, _, _, R.next h, (World.cell?_setCell_other _ _ _ _ (fun e => R.ne (by have h := congrArg Addr.block e; simp only at h; rw [h]; exact hne))).trans hc, by omega, take_rest 1 P _ c v w h hv R⟩
/-- The variable bits of two numbers that are laid on each other without touching. -/
theorem or_apart (k a q : Nat) (b : Nat) (hb : b < 128) (hk : k ≤ 9) (hq : q = b * 128 ^ k) (ha : a < 128 ^ k) (h64 : a + q < 2 ^ 64) : bits .or .u64 (a : Int) (q : Int) = ((a + q : Nat) : Int) := by
  subst hq
  have h1 : (128 : Nat) ^ k = 2 ^ (7 * k) := by rw [show (128 : Nat) = 2 ^ 7 from rfl, ← Nat.pow_mul]
  have e : a ||| b * 128 ^ k = a + b * 128 ^ k := by
    rw [h1] at ha ⊢
    rw [Nat.mul_comm b, Nat.or_comm, Nat.add_comm, Nat.two_pow_add_eq_or_of_lt ha]
  have ha' : a < 2 ^ 64 := by omega
  have hq' : b * 128 ^ k < 2 ^ 64 := by omega
  rw [← e] at h64 ⊢
  generalize b * 128 ^ k = q at *
  show IntKind.u64.wrap ((BitVec.ofInt 64 a ||| BitVec.ofInt 64 q).toNat : Int) = _
  rw [show BitVec.ofInt 64 (a : Int) = BitVec.ofNat 64 a by simp, show BitVec.ofInt 64 (q : Int) = BitVec.ofNat 64 q by simp]
  rw [BitVec.toNat_or, BitVec.toNat_ofNat, BitVec.toNat_ofNat, Nat.mod_eq_of_lt ha', Nat.mod_eq_of_lt hq']
  simp only [IntKind.wrap, IntKind.signed, IntKind.bits, Bool.false_and, Bool.false_eq_true, if_false]
  omega
end Go.Proofs.Ythnllhfdbnnjhaa
