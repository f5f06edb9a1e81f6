import Derived.Test.YtcngoffmkbobhaaGreatDoorT4
namespace Go.Proofs.YtcngoffmkbobhaaGreatDoor
open Go.RowKit

set_option maxRecDepth 100000 in
set_option maxHeartbeats 400000 in
theorem literal0_any (n : Int) (s : ByteArray) (w : World) (hw : Base w) (hs : s.size ≤ 1000000) (hc : Hid (checkV 0 n s = 0)) :
    Calls Tryz.prog 27 #[.agg #[.int .i64 0, .int .i64 n, .string s]] w fun r w' => r = .returned (.tuple #[.string ⟨#[110, 117, 108, 108]⟩, .int .i64 0]) ∧ Below w.heap.size w w' := by
  have hmm := @run_makeMap Tryz.prog
  have hmf : ∀ (fn : Fn) (first cap : Array Value) (w : World), (Instr.makeFunc fn first cap).run Tryz.prog w = .ok (.func fn first cap) w := fun _ _ _ _ => rfl
  have i0 := fun w => ins0 w none
  have i1 := ins1
  have i2 := ins2
  have i3 := ins3
  have i4 := ins4
  have l0 := look0
  go_enter Tryz.func27, Tryz.ntmps27
  go_wp2_with (first | (go_at_call 11; refine (check_any _ _ _ _).mono ?_; rintro e w' ⟨rfl, hb⟩; rw [hc.out]; have hz : w.heap.size < w'.heap.size := by { have := hb.size; simp at this; omega }; have hB : Base w' := (hw.alloc _).below hb; have hk0 : ∀ o, (w'.alloc o).cell? ⟨w.heap.size, 0, none⟩ = some (.int .i64 0) := fun o => (World.cell?_alloc_past _ _ _ hz).trans ((hb.cell (by simp)).trans (by go_cell)); have hk1 : ∀ o, (w'.alloc o).cell? ⟨w.heap.size, 1, none⟩ = some (.int .i64 n) := fun o => (World.cell?_alloc_past _ _ _ hz).trans ((hb.cell (by simp)).trans (by go_cell)); have hk2 : ∀ o, (w'.alloc o).cell? ⟨w.heap.size, 2, none⟩ = some (.string s) := fun o => (World.cell?_alloc_past _ _ _ hz).trans ((hb.cell (by simp)).trans (by go_cell))) | (go_at_call 43; refine (lit1_any _).mono ?_; rintro e w2 ⟨rfl, rfl⟩))
  go_ret2
  exact ⟨rfl, ((Below.refl _ _).alloc (Nat.le_refl _) _).trans ((hb.mono (by simp)).trans ((Below.refl _ _).alloc (by omega) _))⟩

set_option maxRecDepth 100000 in
set_option maxHeartbeats 400000 in
theorem literal1_any (n : Int) (s : ByteArray) (w : World) (hw : Base w) (hs : s.size ≤ 1000000) (hc : Hid (checkV 1 n s = 0)) :
    Calls Tryz.prog 27 #[.agg #[.int .i64 1, .int .i64 n, .string s]] w fun r w' => r = .returned (.tuple #[.string ⟨(Lib.formatBool (n == 1)).toArray⟩, .int .i64 0]) ∧ Below w.heap.size w w' := by
  have hmm := @run_makeMap Tryz.prog
  have hmf : ∀ (fn : Fn) (first cap : Array Value) (w : World), (Instr.makeFunc fn first cap).run Tryz.prog w = .ok (.func fn first cap) w := fun _ _ _ _ => rfl
  have i0 := fun w => ins0 w none
  have i1 := ins1
  have i2 := ins2
  have i3 := ins3
  have i4 := ins4
  have l0 := look1
  go_enter Tryz.func27, Tryz.ntmps27
  go_wp2_with (first | (go_at_call 11; refine (check_any _ _ _ _).mono ?_; rintro e w' ⟨rfl, hb⟩; rw [hc.out]; have hz : w.heap.size < w'.heap.size := by { have := hb.size; simp at this; omega }; have hB : Base w' := (hw.alloc _).below hb; have hk0 : ∀ o, (w'.alloc o).cell? ⟨w.heap.size, 0, none⟩ = some (.int .i64 1) := fun o => (World.cell?_alloc_past _ _ _ hz).trans ((hb.cell (by simp)).trans (by go_cell)); have hk1 : ∀ o, (w'.alloc o).cell? ⟨w.heap.size, 1, none⟩ = some (.int .i64 n) := fun o => (World.cell?_alloc_past _ _ _ hz).trans ((hb.cell (by simp)).trans (by go_cell)); have hk2 : ∀ o, (w'.alloc o).cell? ⟨w.heap.size, 2, none⟩ = some (.string s) := fun o => (World.cell?_alloc_past _ _ _ hz).trans ((hb.cell (by simp)).trans (by go_cell))) | (go_at_call 44; refine (lit2_any _ _ _ (hk1 _)).mono ?_; rintro e w2 ⟨rfl, rfl⟩))
  go_ret2
  exact ⟨rfl, ((Below.refl _ _).alloc (Nat.le_refl _) _).trans ((hb.mono (by simp)).trans ((Below.refl _ _).alloc (by omega) _))⟩

set_option maxRecDepth 100000 in
set_option maxHeartbeats 400000 in
theorem literal2_any (n : Int) (s : ByteArray) (w : World) (hw : Base w) (hs : s.size ≤ 1000000) (h0 : -9223372036854775808 ≤ n) (h1 : n ≤ 9223372036854775807) (hc : Hid (checkV 2 n s = 0)) :
    Calls Tryz.prog 27 #[.agg #[.int .i64 2, .int .i64 n, .string s]] w fun r w' => r = .returned (.tuple #[.string ⟨(Lib.itoa n).toArray⟩, .int .i64 0]) ∧ Below w.heap.size w w' := by
  have hmm := @run_makeMap Tryz.prog
  have hmf : ∀ (fn : Fn) (first cap : Array Value) (w : World), (Instr.makeFunc fn first cap).run Tryz.prog w = .ok (.func fn first cap) w := fun _ _ _ _ => rfl
  have i0 := fun w => ins0 w none
  have i1 := ins1
  have i2 := ins2
  have i3 := ins3
  have i4 := ins4
  have l0 := look2
  go_enter Tryz.func27, Tryz.ntmps27
  go_wp2_with (first | (go_at_call 11; refine (check_any _ _ _ _).mono ?_; rintro e w' ⟨rfl, hb⟩; rw [hc.out]; have hz : w.heap.size < w'.heap.size := by { have := hb.size; simp at this; omega }; have hB : Base w' := (hw.alloc _).below hb; have hk0 : ∀ o, (w'.alloc o).cell? ⟨w.heap.size, 0, none⟩ = some (.int .i64 2) := fun o => (World.cell?_alloc_past _ _ _ hz).trans ((hb.cell (by simp)).trans (by go_cell)); have hk1 : ∀ o, (w'.alloc o).cell? ⟨w.heap.size, 1, none⟩ = some (.int .i64 n) := fun o => (World.cell?_alloc_past _ _ _ hz).trans ((hb.cell (by simp)).trans (by go_cell)); have hk2 : ∀ o, (w'.alloc o).cell? ⟨w.heap.size, 2, none⟩ = some (.string s) := fun o => (World.cell?_alloc_past _ _ _ hz).trans ((hb.cell (by simp)).trans (by go_cell))) | (go_at_call 46; refine (lit3_any _ _ _ (hB.alloc _) h0 h1 (hk1 _)).mono ?_; rintro e w2 ⟨rfl, hb2⟩))
  go_ret2
  exact ⟨rfl, (((Below.refl _ _).alloc (Nat.le_refl _) _).trans ((hb.mono (by simp)).trans ((Below.refl _ _).alloc (by omega) _))).trans (hb2.mono (by simp; omega))⟩

set_option maxRecDepth 100000 in
set_option maxHeartbeats 400000 in
theorem literal3_any (n : Int) (s : ByteArray) (w : World) (hw : Base w) (hs : s.size ≤ 1000000) (hl : (Lib.replaceAll s.data.toList [39] [39, 39]).length ≤ 3000000) (hc : Hid (checkV 3 n s = 0)) :
    Calls Tryz.prog 27 #[.agg #[.int .i64 3, .int .i64 n, .string s]] w fun r w' => r = .returned (.tuple #[.string ⟨((39 : UInt8) :: (Lib.replaceAll s.data.toList [39] [39, 39] ++ [39])).toArray⟩, .int .i64 0]) ∧ Below w.heap.size w w' := by
  have hmm := @run_makeMap Tryz.prog
  have hmf : ∀ (fn : Fn) (first cap : Array Value) (w : World), (Instr.makeFunc fn first cap).run Tryz.prog w = .ok (.func fn first cap) w := fun _ _ _ _ => rfl
  have i0 := fun w => ins0 w none
  have i1 := ins1
  have i2 := ins2
  have i3 := ins3
  have i4 := ins4
  have l0 := look3
  go_enter Tryz.func27, Tryz.ntmps27
  go_wp2_with (first | (go_at_call 11; refine (check_any _ _ _ _).mono ?_; rintro e w' ⟨rfl, hb⟩; rw [hc.out]; have hz : w.heap.size < w'.heap.size := by { have := hb.size; simp at this; omega }; have hB : Base w' := (hw.alloc _).below hb; have hk0 : ∀ o, (w'.alloc o).cell? ⟨w.heap.size, 0, none⟩ = some (.int .i64 3) := fun o => (World.cell?_alloc_past _ _ _ hz).trans ((hb.cell (by simp)).trans (by go_cell)); have hk1 : ∀ o, (w'.alloc o).cell? ⟨w.heap.size, 1, none⟩ = some (.int .i64 n) := fun o => (World.cell?_alloc_past _ _ _ hz).trans ((hb.cell (by simp)).trans (by go_cell)); have hk2 : ∀ o, (w'.alloc o).cell? ⟨w.heap.size, 2, none⟩ = some (.string s) := fun o => (World.cell?_alloc_past _ _ _ hz).trans ((hb.cell (by simp)).trans (by go_cell))) | (go_at_call 48; refine (lit4_any _ _ _ (hB.alloc _) hs hl (hk2 _)).mono ?_; rintro e w2 ⟨rfl, hb2⟩))
  go_ret2
  exact ⟨rfl, (((Below.refl _ _).alloc (Nat.le_refl _) _).trans ((hb.mono (by simp)).trans ((Below.refl _ _).alloc (by omega) _))).trans (hb2.mono (by simp; omega))⟩

set_option maxRecDepth 100000 in
set_option maxHeartbeats 400000 in
theorem literal4_any (n : Int) (s : ByteArray) (w : World) (hw : Base w) (hs : s.size ≤ 1000000) (hl : (hexL s.data.toList).length ≤ 3000000) (hc : Hid (checkV 4 n s = 0)) :
    Calls Tryz.prog 27 #[.agg #[.int .i64 4, .int .i64 n, .string s]] w fun r w' => r = .returned (.tuple #[.string ⟨((120 : UInt8) :: 39 :: (hexL s.data.toList ++ [39])).toArray⟩, .int .i64 0]) ∧ Below w.heap.size w w' := by
  have hmm := @run_makeMap Tryz.prog
  have hmf : ∀ (fn : Fn) (first cap : Array Value) (w : World), (Instr.makeFunc fn first cap).run Tryz.prog w = .ok (.func fn first cap) w := fun _ _ _ _ => rfl
  have i0 := fun w => ins0 w none
  have i1 := ins1
  have i2 := ins2
  have i3 := ins3
  have i4 := ins4
  have l0 := look4
  go_enter Tryz.func27, Tryz.ntmps27
  go_wp2_with (first | (go_at_call 11; refine (check_any _ _ _ _).mono ?_; rintro e w' ⟨rfl, hb⟩; rw [hc.out]; have hz : w.heap.size < w'.heap.size := by { have := hb.size; simp at this; omega }; have hB : Base w' := (hw.alloc _).below hb; have hk0 : ∀ o, (w'.alloc o).cell? ⟨w.heap.size, 0, none⟩ = some (.int .i64 4) := fun o => (World.cell?_alloc_past _ _ _ hz).trans ((hb.cell (by simp)).trans (by go_cell)); have hk1 : ∀ o, (w'.alloc o).cell? ⟨w.heap.size, 1, none⟩ = some (.int .i64 n) := fun o => (World.cell?_alloc_past _ _ _ hz).trans ((hb.cell (by simp)).trans (by go_cell)); have hk2 : ∀ o, (w'.alloc o).cell? ⟨w.heap.size, 2, none⟩ = some (.string s) := fun o => (World.cell?_alloc_past _ _ _ hz).trans ((hb.cell (by simp)).trans (by go_cell))) | (go_at_call 50; refine (lit5_any _ _ _ hs hl (hk2 _)).mono ?_; rintro e w2 ⟨rfl, hb2⟩))
  go_ret2
  exact ⟨rfl, (((Below.refl _ _).alloc (Nat.le_refl _) _).trans ((hb.mono (by simp)).trans ((Below.refl _ _).alloc (by omega) _))).trans (hb2.mono (by simp; omega))⟩

end Go.Proofs.YtcngoffmkbobhaaGreatDoor
