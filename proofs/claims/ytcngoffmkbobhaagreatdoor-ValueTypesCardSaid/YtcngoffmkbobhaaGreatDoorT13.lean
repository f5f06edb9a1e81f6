import Derived.Test.YtcngoffmkbobhaaGreatDoorT12
import Derived.Recover
namespace Go.Proofs.YtcngoffmkbobhaaGreatDoor
open Go.RowKit

theorem lt_of_cell_some {w : World} {p : Addr} {v : Value} (h : w.cell? p = some v) : p.block < w.heap.size := by
  rcases Nat.lt_or_ge p.block w.heap.size with h1 | h1
  · exact h1
  · simp [World.cell?, Array.getElem?_eq_none h1] at h

set_option maxRecDepth 100000 in
set_option maxHeartbeats 400000 in
theorem catch_idle (p : Addr) (w : World) :
    CallsD Tryz.prog 53 #[.pointer (some p)] .returning w fun e u' w' => e = .returned (.tuple #[]) ∧ u' = .returning ∧ w' = w := by
  refine callsD_of_wpS Tryz.func53 rfl fun c₀ cs hu => ?_
  apply wpS_seq
  apply wpS_region
  simp [wpOpsS, go_sem, recoverD, hu, Tryz.ntmps53, Exit.thenS]
  refine wpS_of_wp ?_
  change Code.wp Tryz.prog _ _ { tmps := #[.pointer (some p), .nilIface, undef, undef, .nilIface, undef, undef, undef, undef, undef, undef, undef, undef, undef, undef, undef, undef], defers := [] } w
  go_wp2
  cases c₀
  simp_all [bodyPostS, results, Tryz.results53]
set_option maxRecDepth 100000 in
set_option maxHeartbeats 400000 in
theorem catch_panicking (p : Addr) (x no : Int) (older : List PanicEntry) (w : World) (hc : w.cell? p = some (.int .i64 x)) (hz : w.frozen? p = false) :
    CallsD Tryz.prog 53 #[.pointer (some p)] (.panicking ({ v := .iface 79 (.agg #[.int .i64 no]), recovered := false } :: older)) w fun e u' w' =>
      e = .returned (.tuple #[]) ∧ u' = .panicking ({ v := .iface 79 (.agg #[.int .i64 no]), recovered := true } :: older) ∧ w' = (w.alloc (.cells #[.int .i64 no] 79)).setCell p (.int .i64 no) := by
  have hta : ∀ w, (Instr.typeAssert (.iface 79 (.agg #[.int .i64 no])) 20 79 true).run Tryz.prog w = .ok (.tuple #[.agg #[.int .i64 no], .bool true]) w := fun _ => by kernel_rfl
  have hnot : ∀ (x : Bool) (w : World), (Op.unary .not (.bool x)).run Tryz.prog w = .ok (.bool (!x)) w := fun _ _ => rfl
  have hpl := lt_of_cell_some hc
  have hc1 : ∀ o, (w.alloc o).cell? p = some (.int .i64 x) := fun o => cell_later ((Below.refl w.heap.size w).alloc (Nat.le_refl _) o) hc
  have hz1 : ∀ o, (w.alloc o).frozen? p = false := fun o => (World.frozen?_alloc_old w o p (by omega)).trans hz
  refine callsD_of_wpS Tryz.func53 rfl fun c₀ cs hu => ?_
  apply wpS_seq
  apply wpS_region
  simp [wpOpsS, go_sem, recoverD, hu, Tryz.ntmps53, Exit.thenS]
  refine wpS_of_wp ?_
  change Code.wp Tryz.prog _ _ { tmps := #[.pointer (some p), .iface 79 (.agg #[.int .i64 no]), undef, undef, .iface 79 (.agg #[.int .i64 no]), undef, undef, undef, undef, undef, undef, undef, undef, undef, undef, undef, undef], defers := [] } w
  go_wp2
  cases c₀
  simp_all [bodyPostS, results, Tryz.results53]

/-- What the reader of a text gives: a value. -/
def ValOk (s : ByteArray) (k n : Int) (t : ByteArray) : Prop := ∀ (b : Nat) (w0 w : World), Base w0 → Below w0.heap.size w0 w → w0.heap.size ≤ b → b < w.heap.size → w.cell? ⟨b, 0, none⟩ = some (.string s) → w.frozen? ⟨b, 0, none⟩ = false →
  Calls Tryz.prog 54 #[.pointer (some ⟨b, 0, none⟩)] w fun r w' => r = .returned (.agg #[.int .i64 k, .int .i64 n, .string t]) ∧ Below w0.heap.size w0 w'
/-- .. or an error. -/
def ValNo (s : ByteArray) (no : Int) : Prop := ∀ (b : Nat) (w0 w : World), Base w0 → Below w0.heap.size w0 w → w0.heap.size ≤ b → b < w.heap.size → w.cell? ⟨b, 0, none⟩ = some (.string s) → w.frozen? ⟨b, 0, none⟩ = false →
  Calls Tryz.prog 54 #[.pointer (some ⟨b, 0, none⟩)] w fun r w' => r = gaveUp no ∧ Below w0.heap.size w0 w'

abbrev errObj : Obj := .cells #[.int .i64 0] 27
abbrev rdObj (s : ByteArray) : Obj := .cells #[.string s] 84
abbrev pw (w : World) : World := (w.alloc resObj).alloc errObj

theorem par_facts {w w3 : World} (hb : Below (pw w).heap.size (pw w) w3) :
    w3.cell? ⟨w.heap.size, 0, none⟩ = some (.int .i64 0) ∧ w3.cell? ⟨w.heap.size, 1, none⟩ = some (.int .i64 0) ∧ w3.cell? ⟨w.heap.size, 2, none⟩ = some (.string ⟨#[]⟩) ∧ w3.frozen? ⟨w.heap.size, 0, none⟩ = false ∧ w3.frozen? ⟨w.heap.size, 1, none⟩ = false ∧ w3.frozen? ⟨w.heap.size, 2, none⟩ = false ∧ w3.cell? ⟨w.heap.size + 1, 0, none⟩ = some (.int .i64 0) ∧ w3.frozen? ⟨w.heap.size + 1, 0, none⟩ = false := by
  refine ⟨(hb.cell (by simp; omega)).trans ?_, (hb.cell (by simp; omega)).trans ?_, (hb.cell (by simp; omega)).trans ?_, (hb.frozen (by simp; omega)).trans ?_, (hb.frozen (by simp; omega)).trans ?_, (hb.frozen (by simp; omega)).trans ?_, (hb.cell (by simp)).trans ?_, (hb.frozen (by simp)).trans ?_⟩ <;> go_cell

set_option maxRecDepth 100000 in
set_option maxHeartbeats 400000 in
theorem parse_ok (s t : ByteArray) (k n : Int) (hv : ValOk s k n t) (w : World) (hw : Base w) :
    Calls Tryz.prog 29 #[.string s] w fun r w' => r = .returned (.tuple #[.agg #[.int .i64 k, .int .i64 n, .string t], .int .i64 0]) ∧ Below w.heap.size w w' := by
  have hmf : ∀ (fn : Fn) (first cap : Array Value) (w : World), (Instr.makeFunc fn first cap).run Tryz.prog w = .ok (.func fn first cap) w := fun _ _ _ _ => rfl
  have HPW : Hid (Base (pw w)) := Lib.hid ((hw.alloc _).alloc _)
  go_enter_defers Tryz.func29, Tryz.ntmps29
  go_wp2_with (go_at_call 54; refine (hv _ (pw w) _ HPW.out ((Below.refl _ _).alloc (Nat.le_refl _) (rdObj s)) (by simp) (by simp) (by go_cell) (by go_cell)).mono ?_; rintro e w3 ⟨rfl, hb⟩; obtain ⟨k0, k1, k2, f0, f1, f2, k3, f3⟩ := par_facts hb)
  have hw3 : Below w.heap.size w w3 := (((Below.refl _ _).alloc (Nat.le_refl _) resObj).alloc (by simp) errObj).trans (hb.mono (by simp; omega))
  have hend : Below w.heap.size w ((((w3.setCell ⟨w.heap.size, 0, none⟩ (.int .i64 k)).setCell ⟨w.heap.size, 1, none⟩ (.int .i64 n)).setCell ⟨w.heap.size, 2, none⟩ (.string t)).setCell ⟨w.heap.size + 1, 0, none⟩ (.int .i64 0)) :=
    (((hw3.setCell (Nat.le_refl _) _).setCell (Nat.le_refl _) _).setCell (Nat.le_refl _) _).setCell (Nat.le_succ _) _
  refine leaves_cons (f := 53) (args := #[.pointer (some ⟨w.heap.size + 1, 0, none⟩)]) (by simp) (by simp [go_sem]) ?_
  refine (catch_idle _ _).mono ?_
  rintro e u' w'' ⟨rfl, rfl, rfl⟩
  simp [Leaves, settle, results, Tryz.results29, go_sem, k0, k1, k2, k3]
  exact hend

set_option maxRecDepth 100000 in
set_option maxHeartbeats 400000 in
theorem parse_no (s : ByteArray) (no : Int) (hv : ValNo s no) (w : World) (hw : Base w) :
    Calls Tryz.prog 29 #[.string s] w fun r w' => r = .returned (.tuple #[.agg #[.int .i64 0, .int .i64 0, .string ⟨#[]⟩], .int .i64 no]) ∧ Below w.heap.size w w' := by
  have hmf : ∀ (fn : Fn) (first cap : Array Value) (w : World), (Instr.makeFunc fn first cap).run Tryz.prog w = .ok (.func fn first cap) w := fun _ _ _ _ => rfl
  have HPW : Hid (Base (pw w)) := Lib.hid ((hw.alloc _).alloc _)
  go_enter_defers Tryz.func29, Tryz.ntmps29
  go_wp2_with (go_at_call 54; refine (hv _ (pw w) _ HPW.out ((Below.refl _ _).alloc (Nat.le_refl _) (rdObj s)) (by simp) (by simp) (by go_cell) (by go_cell)).mono ?_; rintro e w3 ⟨rfl, hb⟩; obtain ⟨k0, k1, k2, f0, f1, f2, k3, f3⟩ := par_facts hb)
  have hw3 : Below w.heap.size w w3 := (((Below.refl _ _).alloc (Nat.le_refl _) resObj).alloc (by simp) errObj).trans (hb.mono (by simp; omega))
  have hsz : w.heap.size + 2 ≤ w3.heap.size := by have := hb.size; simp at this; omega
  refine leaves_cons (f := 53) (args := #[.pointer (some ⟨w.heap.size + 1, 0, none⟩)]) (by simp) (by simp [go_sem]) ?_
  refine (catch_panicking ⟨w.heap.size + 1, 0, none⟩ 0 no [] _ k3 f3).mono ?_
  rintro e u' w'' ⟨rfl, rfl, rfl⟩
  have a0 : ∀ o, (w3.alloc o).cell? ⟨w.heap.size, 0, none⟩ = some (.int .i64 0) := fun o => (World.cell?_alloc_past _ _ _ (by omega)).trans k0
  have a1 : ∀ o, (w3.alloc o).cell? ⟨w.heap.size, 1, none⟩ = some (.int .i64 0) := fun o => (World.cell?_alloc_past _ _ _ (by omega)).trans k1
  have a2 : ∀ o, (w3.alloc o).cell? ⟨w.heap.size, 2, none⟩ = some (.string ⟨#[]⟩) := fun o => (World.cell?_alloc_past _ _ _ (by omega)).trans k2
  have a3 : ∀ o, (w3.alloc o).cell? ⟨w.heap.size + 1, 0, none⟩ = some (.int .i64 0) := fun o => (World.cell?_alloc_past _ _ _ (by omega)).trans k3
  have hend : Below w.heap.size w ((w3.alloc (.cells #[.int .i64 no] 79)).setCell ⟨w.heap.size + 1, 0, none⟩ (.int .i64 no)) := (hw3.alloc hw3.size _).setCell (Nat.le_succ _) _
  simp [Leaves, settle, results, Tryz.results29, go_sem, a0, a1, a2, a3]
  exact hend
end Go.Proofs.YtcngoffmkbobhaaGreatDoor
