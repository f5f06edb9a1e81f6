/- Parts: P8 P9 PA PB PG PH PI PK PR. -/
import Derived.Test.YtdanigigjainjaaGreatHB1
namespace Go.Proofs.YtdanigigjainjaaGreat
open Go.RowKit Go.Shelf Go.MapKept
set_option maxRecDepth 100000
set_option maxHeartbeats 1000000

/-- A truth's byte. -/
def oneL : Bool → List Nat
  | true => [1]
  | false => [0]
theorem oneL_length (b : Bool) : (oneL b).length = 1 := by cases b <;> rfl
theorem oneL_byte (b : Bool) : ∀ x ∈ oneL b, x < 256 := by cases b <;> simp [oneL]
theorem hmf (fn : Fn) (first cap : Array Value) (w : World) : (Instr.makeFunc fn first cap).run Tryz.prog w = .ok (.func fn first cap) w := rfl
set_option maxRecDepth 100000 in
theorem one_any (b : Bool) (w : World) : Calls Tryz.prog 202 #[.bool b] w fun r w' => ∃ t, r = .returned t ∧ RowB w (oneL b) t w' := by
  cases b
  · go_enter Tryz.func202, Tryz.ntmps202
    go_wp2
    go_ret
    exact ⟨_, rfl, ⟨⟨rfl, .inr ⟨w.heap.size, 1, _, rfl, Nat.le_refl _, heap_alloc_last _ _, Nat.le_refl _, by unfold maxLen; omega, rfl, rfl⟩⟩, (Below.refl _ _).alloc (Nat.le_refl _) _⟩⟩
  · go_enter Tryz.func202, Tryz.ntmps202
    go_wp2
    go_ret
    exact ⟨_, rfl, ⟨⟨rfl, .inr ⟨w.heap.size, 1, _, rfl, Nat.le_refl _, heap_alloc_last _ _, Nat.le_refl _, by unfold maxLen; omega, rfl, rfl⟩⟩, (Below.refl _ _).alloc (Nat.le_refl _) _⟩⟩
set_option maxRecDepth 100000 in
theorem clo64 (A N : Nat) (hN : N < 2 ^ 64) (w : World) (hc : w.cell? ⟨A, 0, none⟩ = some (.int .u64 N)) : Calls Tryz.prog 182 #[.pointer (some ⟨A, 0, none⟩)] w fun r w' => ∃ t, r = .returned t ∧ RowB w (fixE 8 N) t w' := by
  have C := Lib.hid (eight_any N w hN)
  go_enter Tryz.func182, Tryz.ntmps182
  go_wp2_with (go_at_call 183; refine C.out.mono ?_; rintro e w' ⟨t, rfl, hr⟩)
  go_ret
  exact ⟨_, rfl, hr⟩
set_option maxRecDepth 100000 in
theorem clo66 (A N : Nat) (hN : N < 2 ^ 64) (w : World) (hc : w.cell? ⟨A, 1, none⟩ = some (.int .u64 N)) : Calls Tryz.prog 184 #[.pointer (some ⟨A, 0, none⟩)] w fun r w' => ∃ t, r = .returned t ∧ RowB w (fixE 8 N) t w' := by
  have C := Lib.hid (eight_any N w hN)
  go_enter Tryz.func184, Tryz.ntmps184
  go_wp2_with (go_at_call 183; refine C.out.mono ?_; rintro e w' ⟨t, rfl, hr⟩)
  go_ret
  exact ⟨_, rfl, hr⟩
set_option maxRecDepth 100000 in
theorem clo67 (A N : Nat) (hN : N < 4294967296) (w : World) (hc : w.cell? ⟨A, 2, none⟩ = some (.int .i64 N)) : Calls Tryz.prog 185 #[.pointer (some ⟨A, 0, none⟩)] w fun r w' => ∃ t, r = .returned t ∧ RowB w (fixE 4 N) t w' := by
  have C := Lib.hid (smallFour_any N hN w)
  go_enter Tryz.func185, Tryz.ntmps185
  go_wp2_with (go_at_call 186; refine C.out.mono ?_; rintro e w' ⟨t, rfl, hr⟩)
  go_ret
  exact ⟨_, rfl, hr⟩
set_option maxRecDepth 100000 in
theorem clo69 (A N : Nat) (hN : N < 4294967296) (w : World) (hc : w.cell? ⟨A, 3, none⟩ = some (.int .i64 N)) : Calls Tryz.prog 187 #[.pointer (some ⟨A, 0, none⟩)] w fun r w' => ∃ t, r = .returned t ∧ RowB w (fixE 4 N) t w' := by
  have C := Lib.hid (smallFour_any N hN w)
  go_enter Tryz.func187, Tryz.ntmps187
  go_wp2_with (go_at_call 186; refine C.out.mono ?_; rintro e w' ⟨t, rfl, hr⟩)
  go_ret
  exact ⟨_, rfl, hr⟩
set_option maxRecDepth 100000 in
theorem clo82 (A N : Nat) (hN : N < 2 ^ 64) (w : World) (hc : w.cell? ⟨A, 0, none⟩ = some (.int .u64 N)) : Calls Tryz.prog 198 #[.pointer (some ⟨A, 0, none⟩)] w fun r w' => ∃ t, r = .returned t ∧ RowB w (fixE 8 N) t w' := by
  have C := Lib.hid (eight_any N w hN)
  go_enter Tryz.func198, Tryz.ntmps198
  go_wp2_with (go_at_call 183; refine C.out.mono ?_; rintro e w' ⟨t, rfl, hr⟩)
  go_ret
  exact ⟨_, rfl, hr⟩
set_option maxRecDepth 100000 in
theorem clo83 (A N : Nat) (hN : N < 4294967296) (w : World) (hc : w.cell? ⟨A, 1, none⟩ = some (.int .i64 N)) : Calls Tryz.prog 199 #[.pointer (some ⟨A, 0, none⟩)] w fun r w' => ∃ t, r = .returned t ∧ RowB w (fixE 4 N) t w' := by
  have C := Lib.hid (smallFour_any N hN w)
  go_enter Tryz.func199, Tryz.ntmps199
  go_wp2_with (go_at_call 186; refine C.out.mono ?_; rintro e w' ⟨t, rfl, hr⟩)
  go_ret
  exact ⟨_, rfl, hr⟩
set_option maxRecDepth 100000 in
theorem clo84 (A N : Nat) (hN : N < 4294967296) (w : World) (hc : w.cell? ⟨A, 2, none⟩ = some (.int .i64 N)) : Calls Tryz.prog 200 #[.pointer (some ⟨A, 0, none⟩)] w fun r w' => ∃ t, r = .returned t ∧ RowB w (fixE 4 N) t w' := by
  have C := Lib.hid (smallFour_any N hN w)
  go_enter Tryz.func200, Tryz.ntmps200
  go_wp2_with (go_at_call 186; refine C.out.mono ?_; rintro e w' ⟨t, rfl, hr⟩)
  go_ret
  exact ⟨_, rfl, hr⟩
set_option maxRecDepth 100000 in
theorem clo85 (A : Nat) (b : Bool) (w : World) (hc : w.cell? ⟨A, 3, none⟩ = some (.bool b)) : Calls Tryz.prog 201 #[.pointer (some ⟨A, 0, none⟩)] w fun r w' => ∃ t, r = .returned t ∧ RowB w (oneL b) t w' := by
  have C := Lib.hid (one_any b w)
  go_enter Tryz.func201, Tryz.ntmps201
  go_wp2_with (go_at_call 202; refine C.out.mono ?_; rintro e w' ⟨t, rfl, hr⟩)
  go_ret
  exact ⟨_, rfl, hr⟩
set_option maxRecDepth 100000 in
theorem clo87 (A N : Nat) (hN : N < 4294967296) (w : World) (hc : w.cell? ⟨A, 4, none⟩ = some (.int .i64 N)) : Calls Tryz.prog 203 #[.pointer (some ⟨A, 0, none⟩)] w fun r w' => ∃ t, r = .returned t ∧ RowB w (fixE 4 N) t w' := by
  have C := Lib.hid (smallFour_any N hN w)
  go_enter Tryz.func203, Tryz.ntmps203
  go_wp2_with (go_at_call 186; refine C.out.mono ?_; rintro e w' ⟨t, rfl, hr⟩)
  go_ret
  exact ⟨_, rfl, hr⟩
set_option maxRecDepth 100000 in
theorem clo88 (A N : Nat) (hN : N < 4294967296) (w : World) (hc : w.cell? ⟨A, 5, none⟩ = some (.int .u32 N)) : Calls Tryz.prog 204 #[.pointer (some ⟨A, 0, none⟩)] w fun r w' => ∃ t, r = .returned t ∧ RowB w (fixE 4 N) t w' := by
  have C := Lib.hid (four_any N w hN)
  go_enter Tryz.func204, Tryz.ntmps204
  go_wp2_with (go_at_call 163; refine C.out.mono ?_; rintro e w' ⟨t, rfl, hr⟩)
  go_ret
  exact ⟨_, rfl, hr⟩
def headE1 (A : Nat) : Array MapEntry := #[{ key := .int .i64 0, val := .func (.func 182) #[] #[.pointer (some ⟨A, 0, none⟩)], born := 0 }]
def headE2 (A : Nat) : Array MapEntry := #[{ key := .int .i64 0, val := .func (.func 182) #[] #[.pointer (some ⟨A, 0, none⟩)], born := 0 }, { key := .int .i64 1, val := .func (.func 184) #[] #[.pointer (some ⟨A, 0, none⟩)], born := 1 }]
def headE3 (A : Nat) : Array MapEntry := #[{ key := .int .i64 0, val := .func (.func 182) #[] #[.pointer (some ⟨A, 0, none⟩)], born := 0 }, { key := .int .i64 1, val := .func (.func 184) #[] #[.pointer (some ⟨A, 0, none⟩)], born := 1 }, { key := .int .i64 5, val := .func (.func 185) #[] #[.pointer (some ⟨A, 0, none⟩)], born := 2 }]
def headE4 (A : Nat) : Array MapEntry := #[{ key := .int .i64 0, val := .func (.func 182) #[] #[.pointer (some ⟨A, 0, none⟩)], born := 0 }, { key := .int .i64 1, val := .func (.func 184) #[] #[.pointer (some ⟨A, 0, none⟩)], born := 1 }, { key := .int .i64 5, val := .func (.func 185) #[] #[.pointer (some ⟨A, 0, none⟩)], born := 2 }, { key := .int .i64 6, val := .func (.func 187) #[] #[.pointer (some ⟨A, 0, none⟩)], born := 3 }]
theorem headE_put1 (A : Nat) (w : World) : (Instr.mapUpdate 216 (.map (some w.heap.size)) (.int .i64 0) (.func (.func 182) #[] #[.pointer (some ⟨A, 0, none⟩)])).run Tryz.prog (w.alloc (.map #[] 0)) = .ok () (w.alloc (.map (headE1 A) 1)) :=
  put_new w (d := .int .i64) Tryz.underlying216 Tryz.underlying219 #[] 0 _ _ rfl (by kernel_rfl)
theorem headE_put2 (A : Nat) (w : World) : (Instr.mapUpdate 216 (.map (some w.heap.size)) (.int .i64 1) (.func (.func 184) #[] #[.pointer (some ⟨A, 0, none⟩)])).run Tryz.prog (w.alloc (.map (headE1 A) 1)) = .ok () (w.alloc (.map (headE2 A) 2)) :=
  put_new w (d := .int .i64) Tryz.underlying216 Tryz.underlying219 (headE1 A) 1 _ _ rfl (by kernel_rfl)
theorem headE_put3 (A : Nat) (w : World) : (Instr.mapUpdate 216 (.map (some w.heap.size)) (.int .i64 5) (.func (.func 185) #[] #[.pointer (some ⟨A, 0, none⟩)])).run Tryz.prog (w.alloc (.map (headE2 A) 2)) = .ok () (w.alloc (.map (headE3 A) 3)) :=
  put_new w (d := .int .i64) Tryz.underlying216 Tryz.underlying219 (headE2 A) 2 _ _ rfl (by kernel_rfl)
theorem headE_put4 (A : Nat) (w : World) : (Instr.mapUpdate 216 (.map (some w.heap.size)) (.int .i64 6) (.func (.func 187) #[] #[.pointer (some ⟨A, 0, none⟩)])).run Tryz.prog (w.alloc (.map (headE3 A) 3)) = .ok () (w.alloc (.map (headE4 A) 4)) :=
  put_new w (d := .int .i64) Tryz.underlying216 Tryz.underlying219 (headE3 A) 3 _ _ rfl (by kernel_rfl)
theorem headE_get0 (A M : Nat) (w : World) (h : w.heap[M]? = some (.map (headE4 A) 4)) : (Instr.lookup 216 (.map (some M)) (.int .i64 0) false).run Tryz.prog w = .ok (.func (.func 182) #[] #[.pointer (some ⟨A, 0, none⟩)]) w :=
  look_in w M (d := .int .i64) Tryz.underlying216 Tryz.underlying219 _ _ _ _ 0 rfl (by kernel_rfl) h
theorem headE_get1 (A M : Nat) (w : World) (h : w.heap[M]? = some (.map (headE4 A) 4)) : (Instr.lookup 216 (.map (some M)) (.int .i64 1) false).run Tryz.prog w = .ok (.func (.func 184) #[] #[.pointer (some ⟨A, 0, none⟩)]) w :=
  look_in w M (d := .int .i64) Tryz.underlying216 Tryz.underlying219 _ _ _ _ 1 rfl (by kernel_rfl) h
theorem headE_get5 (A M : Nat) (w : World) (h : w.heap[M]? = some (.map (headE4 A) 4)) : (Instr.lookup 216 (.map (some M)) (.int .i64 5) false).run Tryz.prog w = .ok (.func (.func 185) #[] #[.pointer (some ⟨A, 0, none⟩)]) w :=
  look_in w M (d := .int .i64) Tryz.underlying216 Tryz.underlying219 _ _ _ _ 2 rfl (by kernel_rfl) h
theorem headE_get6 (A M : Nat) (w : World) (h : w.heap[M]? = some (.map (headE4 A) 4)) : (Instr.lookup 216 (.map (some M)) (.int .i64 6) false).run Tryz.prog w = .ok (.func (.func 187) #[] #[.pointer (some ⟨A, 0, none⟩)]) w :=
  look_in w M (d := .int .i64) Tryz.underlying216 Tryz.underlying219 _ _ _ _ 3 rfl (by kernel_rfl) h
def frameE1 (A : Nat) : Array MapEntry := #[{ key := .int .i64 1, val := .func (.func 198) #[] #[.pointer (some ⟨A, 0, none⟩)], born := 0 }]
def frameE2 (A : Nat) : Array MapEntry := #[{ key := .int .i64 1, val := .func (.func 198) #[] #[.pointer (some ⟨A, 0, none⟩)], born := 0 }, { key := .int .i64 2, val := .func (.func 199) #[] #[.pointer (some ⟨A, 0, none⟩)], born := 1 }]
def frameE3 (A : Nat) : Array MapEntry := #[{ key := .int .i64 1, val := .func (.func 198) #[] #[.pointer (some ⟨A, 0, none⟩)], born := 0 }, { key := .int .i64 2, val := .func (.func 199) #[] #[.pointer (some ⟨A, 0, none⟩)], born := 1 }, { key := .int .i64 3, val := .func (.func 200) #[] #[.pointer (some ⟨A, 0, none⟩)], born := 2 }]
def frameE4 (A : Nat) : Array MapEntry := #[{ key := .int .i64 1, val := .func (.func 198) #[] #[.pointer (some ⟨A, 0, none⟩)], born := 0 }, { key := .int .i64 2, val := .func (.func 199) #[] #[.pointer (some ⟨A, 0, none⟩)], born := 1 }, { key := .int .i64 3, val := .func (.func 200) #[] #[.pointer (some ⟨A, 0, none⟩)], born := 2 }, { key := .int .i64 4, val := .func (.func 201) #[] #[.pointer (some ⟨A, 0, none⟩)], born := 3 }]
def frameE5 (A : Nat) : Array MapEntry := #[{ key := .int .i64 1, val := .func (.func 198) #[] #[.pointer (some ⟨A, 0, none⟩)], born := 0 }, { key := .int .i64 2, val := .func (.func 199) #[] #[.pointer (some ⟨A, 0, none⟩)], born := 1 }, { key := .int .i64 3, val := .func (.func 200) #[] #[.pointer (some ⟨A, 0, none⟩)], born := 2 }, { key := .int .i64 4, val := .func (.func 201) #[] #[.pointer (some ⟨A, 0, none⟩)], born := 3 }, { key := .int .i64 5, val := .func (.func 203) #[] #[.pointer (some ⟨A, 0, none⟩)], born := 4 }]
def frameE6 (A : Nat) : Array MapEntry := #[{ key := .int .i64 1, val := .func (.func 198) #[] #[.pointer (some ⟨A, 0, none⟩)], born := 0 }, { key := .int .i64 2, val := .func (.func 199) #[] #[.pointer (some ⟨A, 0, none⟩)], born := 1 }, { key := .int .i64 3, val := .func (.func 200) #[] #[.pointer (some ⟨A, 0, none⟩)], born := 2 }, { key := .int .i64 4, val := .func (.func 201) #[] #[.pointer (some ⟨A, 0, none⟩)], born := 3 }, { key := .int .i64 5, val := .func (.func 203) #[] #[.pointer (some ⟨A, 0, none⟩)], born := 4 }, { key := .int .i64 7, val := .func (.func 204) #[] #[.pointer (some ⟨A, 0, none⟩)], born := 5 }]
theorem frameE_put1 (A : Nat) (w : World) : (Instr.mapUpdate 216 (.map (some w.heap.size)) (.int .i64 1) (.func (.func 198) #[] #[.pointer (some ⟨A, 0, none⟩)])).run Tryz.prog (w.alloc (.map #[] 0)) = .ok () (w.alloc (.map (frameE1 A) 1)) :=
  put_new w (d := .int .i64) Tryz.underlying216 Tryz.underlying219 #[] 0 _ _ rfl (by kernel_rfl)
theorem frameE_put2 (A : Nat) (w : World) : (Instr.mapUpdate 216 (.map (some w.heap.size)) (.int .i64 2) (.func (.func 199) #[] #[.pointer (some ⟨A, 0, none⟩)])).run Tryz.prog (w.alloc (.map (frameE1 A) 1)) = .ok () (w.alloc (.map (frameE2 A) 2)) :=
  put_new w (d := .int .i64) Tryz.underlying216 Tryz.underlying219 (frameE1 A) 1 _ _ rfl (by kernel_rfl)
theorem frameE_put3 (A : Nat) (w : World) : (Instr.mapUpdate 216 (.map (some w.heap.size)) (.int .i64 3) (.func (.func 200) #[] #[.pointer (some ⟨A, 0, none⟩)])).run Tryz.prog (w.alloc (.map (frameE2 A) 2)) = .ok () (w.alloc (.map (frameE3 A) 3)) :=
  put_new w (d := .int .i64) Tryz.underlying216 Tryz.underlying219 (frameE2 A) 2 _ _ rfl (by kernel_rfl)
theorem frameE_put4 (A : Nat) (w : World) : (Instr.mapUpdate 216 (.map (some w.heap.size)) (.int .i64 4) (.func (.func 201) #[] #[.pointer (some ⟨A, 0, none⟩)])).run Tryz.prog (w.alloc (.map (frameE3 A) 3)) = .ok () (w.alloc (.map (frameE4 A) 4)) :=
  put_new w (d := .int .i64) Tryz.underlying216 Tryz.underlying219 (frameE3 A) 3 _ _ rfl (by kernel_rfl)
theorem frameE_put5 (A : Nat) (w : World) : (Instr.mapUpdate 216 (.map (some w.heap.size)) (.int .i64 5) (.func (.func 203) #[] #[.pointer (some ⟨A, 0, none⟩)])).run Tryz.prog (w.alloc (.map (frameE4 A) 4)) = .ok () (w.alloc (.map (frameE5 A) 5)) :=
  put_new w (d := .int .i64) Tryz.underlying216 Tryz.underlying219 (frameE4 A) 4 _ _ rfl (by kernel_rfl)
theorem frameE_put6 (A : Nat) (w : World) : (Instr.mapUpdate 216 (.map (some w.heap.size)) (.int .i64 7) (.func (.func 204) #[] #[.pointer (some ⟨A, 0, none⟩)])).run Tryz.prog (w.alloc (.map (frameE5 A) 5)) = .ok () (w.alloc (.map (frameE6 A) 6)) :=
  put_new w (d := .int .i64) Tryz.underlying216 Tryz.underlying219 (frameE5 A) 5 _ _ rfl (by kernel_rfl)
theorem frameE_get1 (A M : Nat) (w : World) (h : w.heap[M]? = some (.map (frameE6 A) 6)) : (Instr.lookup 216 (.map (some M)) (.int .i64 1) false).run Tryz.prog w = .ok (.func (.func 198) #[] #[.pointer (some ⟨A, 0, none⟩)]) w :=
  look_in w M (d := .int .i64) Tryz.underlying216 Tryz.underlying219 _ _ _ _ 0 rfl (by kernel_rfl) h
theorem frameE_get2 (A M : Nat) (w : World) (h : w.heap[M]? = some (.map (frameE6 A) 6)) : (Instr.lookup 216 (.map (some M)) (.int .i64 2) false).run Tryz.prog w = .ok (.func (.func 199) #[] #[.pointer (some ⟨A, 0, none⟩)]) w :=
  look_in w M (d := .int .i64) Tryz.underlying216 Tryz.underlying219 _ _ _ _ 1 rfl (by kernel_rfl) h
theorem frameE_get3 (A M : Nat) (w : World) (h : w.heap[M]? = some (.map (frameE6 A) 6)) : (Instr.lookup 216 (.map (some M)) (.int .i64 3) false).run Tryz.prog w = .ok (.func (.func 200) #[] #[.pointer (some ⟨A, 0, none⟩)]) w :=
  look_in w M (d := .int .i64) Tryz.underlying216 Tryz.underlying219 _ _ _ _ 2 rfl (by kernel_rfl) h
theorem frameE_get4 (A M : Nat) (w : World) (h : w.heap[M]? = some (.map (frameE6 A) 6)) : (Instr.lookup 216 (.map (some M)) (.int .i64 4) false).run Tryz.prog w = .ok (.func (.func 201) #[] #[.pointer (some ⟨A, 0, none⟩)]) w :=
  look_in w M (d := .int .i64) Tryz.underlying216 Tryz.underlying219 _ _ _ _ 3 rfl (by kernel_rfl) h
theorem frameE_get5 (A M : Nat) (w : World) (h : w.heap[M]? = some (.map (frameE6 A) 6)) : (Instr.lookup 216 (.map (some M)) (.int .i64 5) false).run Tryz.prog w = .ok (.func (.func 203) #[] #[.pointer (some ⟨A, 0, none⟩)]) w :=
  look_in w M (d := .int .i64) Tryz.underlying216 Tryz.underlying219 _ _ _ _ 4 rfl (by kernel_rfl) h
theorem frameE_get7 (A M : Nat) (w : World) (h : w.heap[M]? = some (.map (frameE6 A) 6)) : (Instr.lookup 216 (.map (some M)) (.int .i64 7) false).run Tryz.prog w = .ok (.func (.func 204) #[] #[.pointer (some ⟨A, 0, none⟩)]) w :=
  look_in w M (d := .int .i64) Tryz.underlying216 Tryz.underlying219 _ _ _ _ 5 rfl (by kernel_rfl) h
def headPs (S : Nat) (E : Nat) (n : Nat) (c : Nat) : List (Nat × Nat × List Nat) := [(0, 182, fixE 8 S), (1, 184, fixE 8 E), (5, 185, fixE 4 n), (6, 187, fixE 4 c)]
theorem headParts_ok (S : Nat) (E : Nat) (n : Nat) (c : Nat) (hS : S < 2 ^ 64) (hE : E < 2 ^ 64) (hn : n < 4294967296) (hc : c < 4294967296) (A M : Nat) (w : World) (cS : w.cell? ⟨A, 0, none⟩ = some (.int .u64 (S : Nat))) (cE : w.cell? ⟨A, 1, none⟩ = some (.int .u64 (E : Nat))) (cn : w.cell? ⟨A, 2, none⟩ = some (.int .i64 (n : Nat))) (cc : w.cell? ⟨A, 3, none⟩ = some (.int .i64 (c : Nat))) (hM : w.heap[M]? = some (.map (headE4 A) 4)) : PartsOk w M A (headPs S E n c) := by
  have hl : M < w.heap.size := (Array.getElem?_eq_some_iff.1 hM).1
  refine ⟨fun x hx wr hb => ?_, fun x hx wr hb => ?_, fun x hx => ?_, fun x hx => ?_⟩
  · simp only [headPs, List.mem_cons, List.not_mem_nil, or_false] at hx
    have hM2 := (hb.block M hl).trans hM
    rcases hx with rfl | rfl | rfl | rfl
    · exact headE_get0 A M wr hM2
    · exact headE_get1 A M wr hM2
    · exact headE_get5 A M wr hM2
    · exact headE_get6 A M wr hM2
  · simp only [headPs, List.mem_cons, List.not_mem_nil, or_false] at hx
    rcases hx with rfl | rfl | rfl | rfl
    · exact clo64 A S hS wr ((hb.cell (lt_of_cell_some cS)).trans cS)
    · exact clo66 A E hE wr ((hb.cell (lt_of_cell_some cE)).trans cE)
    · exact clo67 A n hn wr ((hb.cell (lt_of_cell_some cn)).trans cn)
    · exact clo69 A c hc wr ((hb.cell (lt_of_cell_some cc)).trans cc)
  · simp only [headPs, List.mem_cons, List.not_mem_nil, or_false] at hx
    rcases hx with rfl | rfl | rfl | rfl
    · exact enters_of Tryz.func182 (by kernel_rfl) rfl
    · exact enters_of Tryz.func184 (by kernel_rfl) rfl
    · exact enters_of Tryz.func185 (by kernel_rfl) rfl
    · exact enters_of Tryz.func187 (by kernel_rfl) rfl
  · simp only [headPs, List.mem_cons, List.not_mem_nil, or_false] at hx
    rcases hx with rfl | rfl | rfl | rfl <;> simp [fixE_length, oneL_length]
def framePs (E : Nat) (i : Nat) (p : Nat) (cm : Bool) (n : Nat) (k : Nat) : List (Nat × Nat × List Nat) := [(1, 198, fixE 8 E), (2, 199, fixE 4 i), (3, 200, fixE 4 p), (4, 201, oneL cm), (5, 203, fixE 4 n), (7, 204, fixE 4 k)]
theorem frameParts_ok (E : Nat) (i : Nat) (p : Nat) (cm : Bool) (n : Nat) (k : Nat) (hE : E < 2 ^ 64) (hi : i < 4294967296) (hp : p < 4294967296) (hn : n < 4294967296) (hk : k < 4294967296) (A M : Nat) (w : World) (cE : w.cell? ⟨A, 0, none⟩ = some (.int .u64 (E : Nat))) (ci : w.cell? ⟨A, 1, none⟩ = some (.int .i64 (i : Nat))) (cp : w.cell? ⟨A, 2, none⟩ = some (.int .i64 (p : Nat))) (ccm : w.cell? ⟨A, 3, none⟩ = some (.bool cm)) (cn : w.cell? ⟨A, 4, none⟩ = some (.int .i64 (n : Nat))) (ck : w.cell? ⟨A, 5, none⟩ = some (.int .u32 (k : Nat))) (hM : w.heap[M]? = some (.map (frameE6 A) 6)) : PartsOk w M A (framePs E i p cm n k) := by
  have hl : M < w.heap.size := (Array.getElem?_eq_some_iff.1 hM).1
  refine ⟨fun x hx wr hb => ?_, fun x hx wr hb => ?_, fun x hx => ?_, fun x hx => ?_⟩
  · simp only [framePs, List.mem_cons, List.not_mem_nil, or_false] at hx
    have hM2 := (hb.block M hl).trans hM
    rcases hx with rfl | rfl | rfl | rfl | rfl | rfl
    · exact frameE_get1 A M wr hM2
    · exact frameE_get2 A M wr hM2
    · exact frameE_get3 A M wr hM2
    · exact frameE_get4 A M wr hM2
    · exact frameE_get5 A M wr hM2
    · exact frameE_get7 A M wr hM2
  · simp only [framePs, List.mem_cons, List.not_mem_nil, or_false] at hx
    rcases hx with rfl | rfl | rfl | rfl | rfl | rfl
    · exact clo82 A E hE wr ((hb.cell (lt_of_cell_some cE)).trans cE)
    · exact clo83 A i hi wr ((hb.cell (lt_of_cell_some ci)).trans ci)
    · exact clo84 A p hp wr ((hb.cell (lt_of_cell_some cp)).trans cp)
    · exact clo85 A cm wr ((hb.cell (lt_of_cell_some ccm)).trans ccm)
    · exact clo87 A n hn wr ((hb.cell (lt_of_cell_some cn)).trans cn)
    · exact clo88 A k hk wr ((hb.cell (lt_of_cell_some ck)).trans ck)
  · simp only [framePs, List.mem_cons, List.not_mem_nil, or_false] at hx
    rcases hx with rfl | rfl | rfl | rfl | rfl | rfl
    · exact enters_of Tryz.func198 (by kernel_rfl) rfl
    · exact enters_of Tryz.func199 (by kernel_rfl) rfl
    · exact enters_of Tryz.func200 (by kernel_rfl) rfl
    · exact enters_of Tryz.func201 (by kernel_rfl) rfl
    · exact enters_of Tryz.func203 (by kernel_rfl) rfl
    · exact enters_of Tryz.func204 (by kernel_rfl) rfl
  · simp only [framePs, List.mem_cons, List.not_mem_nil, or_false] at hx
    rcases hx with rfl | rfl | rfl | rfl | rfl | rfl <;> simp [fixE_length, oneL_length]
set_option maxRecDepth 100000 in
set_option maxHeartbeats 3000000 in
theorem headParts_any (S E n c : Nat) (w : World) : Calls Tryz.prog 161 #[.agg #[.int .u64 (S : Nat), .int .u64 (E : Nat), .int .i64 (n : Nat), .int .i64 (c : Nat)]] w fun r w' => r = .returned (.map (some (w.heap.size + 1))) ∧ w' = (w.alloc (.cells #[.int .u64 (S : Nat), .int .u64 (E : Nat), .int .i64 (n : Nat), .int .i64 (c : Nat)] 127)).alloc (.map (headE4 w.heap.size) 4) := by
  have hmk := hmf
  have hmm := @run_makeMap Tryz.prog
  have p1 := headE_put1 w.heap.size (w.alloc (.cells #[.int .u64 (S : Nat), .int .u64 (E : Nat), .int .i64 (n : Nat), .int .i64 (c : Nat)] 127))
  have p2 := headE_put2 w.heap.size (w.alloc (.cells #[.int .u64 (S : Nat), .int .u64 (E : Nat), .int .i64 (n : Nat), .int .i64 (c : Nat)] 127))
  have p3 := headE_put3 w.heap.size (w.alloc (.cells #[.int .u64 (S : Nat), .int .u64 (E : Nat), .int .i64 (n : Nat), .int .i64 (c : Nat)] 127))
  have p4 := headE_put4 w.heap.size (w.alloc (.cells #[.int .u64 (S : Nat), .int .u64 (E : Nat), .int .i64 (n : Nat), .int .i64 (c : Nat)] 127))
  rw [World.size_alloc] at p1 p2 p3 p4
  go_enter Tryz.func161, Tryz.ntmps161
  go_wp2
  go_ret
  exact ⟨rfl, rfl⟩
set_option maxRecDepth 100000 in
set_option maxHeartbeats 3000000 in
theorem frameParts_any (E i p : Nat) (cm : Bool) (n k : Nat) (q : Option Addr) (ln cp : Nat) (w : World) : Calls Tryz.prog 191 #[.agg #[.int .u64 (E : Nat), .int .i64 (i : Nat), .int .i64 (p : Nat), .bool cm, .int .i64 (n : Nat), .int .u32 (k : Nat), .slice q ln cp]] w fun r w' => r = .returned (.map (some (w.heap.size + 1))) ∧ w' = (w.alloc (.cells #[.int .u64 (E : Nat), .int .i64 (i : Nat), .int .i64 (p : Nat), .bool cm, .int .i64 (n : Nat), .int .u32 (k : Nat), .slice q ln cp] 156)).alloc (.map (frameE6 w.heap.size) 6) := by
  have hmk := hmf
  have hmm := @run_makeMap Tryz.prog
  have p1 := frameE_put1 w.heap.size (w.alloc (.cells #[.int .u64 (E : Nat), .int .i64 (i : Nat), .int .i64 (p : Nat), .bool cm, .int .i64 (n : Nat), .int .u32 (k : Nat), .slice q ln cp] 156))
  have p2 := frameE_put2 w.heap.size (w.alloc (.cells #[.int .u64 (E : Nat), .int .i64 (i : Nat), .int .i64 (p : Nat), .bool cm, .int .i64 (n : Nat), .int .u32 (k : Nat), .slice q ln cp] 156))
  have p3 := frameE_put3 w.heap.size (w.alloc (.cells #[.int .u64 (E : Nat), .int .i64 (i : Nat), .int .i64 (p : Nat), .bool cm, .int .i64 (n : Nat), .int .u32 (k : Nat), .slice q ln cp] 156))
  have p4 := frameE_put4 w.heap.size (w.alloc (.cells #[.int .u64 (E : Nat), .int .i64 (i : Nat), .int .i64 (p : Nat), .bool cm, .int .i64 (n : Nat), .int .u32 (k : Nat), .slice q ln cp] 156))
  have p5 := frameE_put5 w.heap.size (w.alloc (.cells #[.int .u64 (E : Nat), .int .i64 (i : Nat), .int .i64 (p : Nat), .bool cm, .int .i64 (n : Nat), .int .u32 (k : Nat), .slice q ln cp] 156))
  have p6 := frameE_put6 w.heap.size (w.alloc (.cells #[.int .u64 (E : Nat), .int .i64 (i : Nat), .int .i64 (p : Nat), .bool cm, .int .i64 (n : Nat), .int .u32 (k : Nat), .slice q ln cp] 156))
  rw [World.size_alloc] at p1 p2 p3 p4 p5 p6
  go_enter Tryz.func191, Tryz.ntmps191
  go_wp2
  go_ret
  exact ⟨rfl, rfl⟩
end Go.Proofs.YtdanigigjainjaaGreat
namespace Go.Proofs.YtdanigigjainjaaGreat
open Go.RowKit Go.Shelf
set_option maxRecDepth 100000
set_option maxHeartbeats 1000000

theorem fixE_byte (k : Nat) : ∀ n, ∀ b ∈ fixE k n, b < 256 := by
  induction k with
  | zero => intro n b hb; cases hb
  | succ k ih =>
    intro n b hb
    simp only [fixE, List.mem_append, List.mem_singleton] at hb
    rcases hb with h | h
    · exact ih _ b h
    · omega
def headOk (n c : Int) : Bool := decide (0 ≤ n) && decide (n ≤ 2000) && decide (0 ≤ c) && decide (c ≤ 2000)
theorem refuse_head (n c : Int) : refuseE 2 [(n, 0, 2000), (c, 0, 2000)] = if headOk n c then 0 else 2 := by
  unfold refuseE headOk spanOk
  simp only [List.all_cons, List.all_nil, Bool.and_true, Bool.and_assoc]
set_option maxRecDepth 100000 in
theorem checkHead_any (S E n c : Int) (w : World) : Calls Tryz.prog 135 #[.agg #[.int .u64 S, .int .u64 E, .int .i64 n, .int .i64 c]] w fun r w' => r = .returned (.int .i64 (if headOk n c then 0 else 2)) ∧ Below w.heap.size w w' := by
  have C := Lib.hid fun (q : Nat) (w : World) h => refusal_any 2 [(n, 0, 2000), (c, 0, 2000)] q 2 w (by simp) h
  rw [refuse_head] at C
  generalize (if headOk n c then (0 : Int) else 2) = R at *
  go_enter Tryz.func135, Tryz.ntmps135
  go_wp2_with (go_at_call 115; refine (C.out _ _ (Lib.hid (spans_two (by go_cell) (by go_cell) (by go_cell) (by go_cell) (by go_cell) (by go_cell)))).mono ?_; rintro e w' ⟨rfl, hb⟩)
  go_ret
  exact ⟨rfl, (((Below.refl _ _).alloc (Nat.le_refl _) _).alloc (by simp) _).trans (hb.mono (by simp; omega))⟩
/-- A head's first bytes: what its sum is made of. -/
def headB (S E n c : Nat) : List Nat := partsL (headPs S E n c)
/-- One of a head's two copies. -/
def headC (S E n c : Nat) : List Nat := headB S E n c ++ fixE 4 (~~~ sumN (headB S E n c)).toNat
/-- A head's bytes. -/
def headL (S E n c : Nat) : List Nat := padL (headC S E n c ++ headC S E n c)
theorem headB_length (S E n c : Nat) : (headB S E n c).length = 24 := by simp [headB, partsL, headPs, fixE_length]
theorem headC_length (S E n c : Nat) : (headC S E n c).length = 28 := by simp [headC, headB_length, fixE_length]
theorem headL_length (S E n c : Nat) : (headL S E n c).length = 64 := padL_length (by simp [headC_length])
theorem headB_byte (S E n c : Nat) : ∀ b ∈ headB S E n c, b < 256 := by
  intro b hb
  simp only [headB, partsL, headPs, List.map_cons, List.map_nil, List.flatten_cons, List.flatten_nil, List.append_nil, List.mem_append] at hb
  rcases hb with h | h | h | h <;> exact fixE_byte _ _ b h
theorem headC_byte (S E n c : Nat) : ∀ b ∈ headC S E n c, b < 256 := by
  intro b hb
  rcases List.mem_append.1 hb with h | h
  · exact headB_byte S E n c b h
  · exact fixE_byte _ _ b h
theorem padL_byte {l : List Nat} (h : ∀ b ∈ l, b < 256) : ∀ b ∈ padL l, b < 256 := by
  intro b hb
  rcases List.mem_append.1 hb with h1 | h1
  · exact h b h1
  · rw [List.mem_replicate] at h1; omega
theorem headL_byte (S E n c : Nat) : ∀ b ∈ headL S E n c, b < 256 := padL_byte fun b hb => by
  rcases List.mem_append.1 hb with h | h <;> exact headC_byte S E n c b h
theorem lists_two {l m : List Nat} {p q : Option Addr} {c d : Nat} {w : World} (hl : l.length ≤ 100000) (hm : m.length ≤ 100000) (hb : ∀ b ∈ l, b < 256) (hd : ∀ b ∈ m, b < 256) {B : Nat}
    (c0 : w.cell? ⟨B, 0, none⟩ = some (.slice p l.length c)) (c1 : w.cell? ⟨B, 1, none⟩ = some (.slice q m.length d)) (hc : BytesAt w p l) (hq : BytesAt w q m) : ListsAt w (some ⟨B, 0, none⟩) [(p, l, c), (q, m, d)] :=
  ⟨fun i x hx => by
    match i with
    | 0 =>
      simp only [List.getElem?_cons_zero, Option.some.injEq] at hx
      subst hx
      exact ⟨_, _, rfl, c0, hc⟩
    | 1 =>
      simp only [List.getElem?_cons_succ, List.getElem?_cons_zero, Option.some.injEq] at hx
      subst hx
      exact ⟨_, _, rfl, c1, hq⟩
    | i + 2 => simp at hx, fun x hx => by
      simp only [List.mem_cons, List.not_mem_nil, or_false] at hx
      rcases hx with rfl | rfl
      · exact ⟨hb, hl⟩
      · exact ⟨hd, hm⟩⟩
theorem names4 {w : World} {q : Nat} {a b c d : Nat × Nat × List Nat} (h0 : w.cell? ⟨q, 0, none⟩ = some (.int .i64 (a.1 : Int))) (h1 : w.cell? ⟨q, 1, none⟩ = some (.int .i64 (b.1 : Int))) (h2 : w.cell? ⟨q, 2, none⟩ = some (.int .i64 (c.1 : Int))) (h3 : w.cell? ⟨q, 3, none⟩ = some (.int .i64 (d.1 : Int))) : NamesAt w q [a, b, c, d] := by
  intro k x hx
  match k with
  | 0 => injection hx with hx; subst hx; exact h0
  | 1 => injection hx with hx; subst hx; exact h1
  | 2 => injection hx with hx; subst hx; exact h2
  | 3 => injection hx with hx; subst hx; exact h3
  | k + 4 => simp at hx
theorem sumNot_lt (x : BitVec 32) : (~~~ x).toNat < 4294967296 := (~~~ x).isLt
theorem filled_two (l m : List Nat) (p q : Option Addr) (c d : Nat) (w : World) (hs : l.length + m.length ≤ 64) (hb : ∀ b ∈ l, b < 256) (hd : ∀ b ∈ m, b < 256) (hc : BytesAt w p l) (hq : BytesAt w q m) (n1 : p = none → c = 0) (n2 : q = none → d = 0) :
    Calls Tryz.prog 165 #[.slice (some ⟨w.heap.size, 0, none⟩) 2 2] (w.alloc (.cells #[.slice p l.length c, .slice q m.length d] 49)) fun r w' => r = .returned (.agg (secA (padL (l ++ m)))) ∧ Below w.heap.size w w' := by
  have e : flatL [(p, l, c), (q, m, d)] = l ++ m := by simp [flatL]
  have hB : Below w.heap.size w (w.alloc (.cells #[.slice p l.length c, .slice q m.length d] 49)) := (Below.refl _ _).alloc (Nat.le_refl _) _
  have h := filled_any [(p, l, c), (q, m, d)] (some ⟨w.heap.size, 0, none⟩) 2 (w.alloc (.cells #[.slice p l.length c, .slice q m.length d] 49)) (by simp)
    (Lib.hid (lists_two (by omega) (by omega) hb hd (by go_cell) (by go_cell) (bytesAt_below hc hB) (bytesAt_below hq hB)))
    (Lib.hid fun x hx => by
      simp only [List.mem_cons, List.not_mem_nil, or_false] at hx
      rcases hx with rfl | rfl
      · exact n1
      · exact n2) (by rw [e, List.length_append]; exact hs)
  rw [e] at h
  refine h.mono ?_
  rintro r w' ⟨rfl, hb'⟩
  exact ⟨rfl, hB.trans (hb'.mono hB.size)⟩
theorem PartsOk.below {w w' : World} {M A : Nat} {ps : List (Nat × Nat × List Nat)} (h : PartsOk w M A ps) (hb : Below w.heap.size w w') : PartsOk w' M A ps :=
  ⟨fun x hx wr h2 => h.look x hx wr (kbT hb h2), fun x hx wr h2 => h.call x hx wr (kbT hb h2), h.en, h.few⟩
theorem headParts_made (S E n c : Nat) (hS : S < 2 ^ 64) (hE : E < 2 ^ 64) (hn : n < 4294967296) (hc : c < 4294967296) (w : World) :
    Calls Tryz.prog 161 #[.agg #[.int .u64 S, .int .u64 E, .int .i64 n, .int .i64 c]] w fun r w' => r = .returned (.map (some (w.heap.size + 1))) ∧ Below w.heap.size w w' ∧ PartsOk w' (w.heap.size + 1) w.heap.size (headPs S E n c) := by
  refine (headParts_any S E n c w).mono ?_
  rintro e w' ⟨rfl, rfl⟩
  refine ⟨rfl, ((Below.refl _ _).alloc (Nat.le_refl _) _).alloc (by simp) _, headParts_ok S E n c hS hE hn hc _ _ _ (by go_cell) (by go_cell) (by go_cell) (by go_cell) ?_⟩
  have := heap_alloc_last (w.alloc (.cells #[.int .u64 S, .int .u64 E, .int .i64 n, .int .i64 c] 127)) (.map (headE4 w.heap.size) 4)
  rw [World.size_alloc] at this
  exact this
theorem kbO {w w1 : World} {o : Obj} (h : Below (w.heap.size + 1) (w.alloc o) w1) : Below w.heap.size w w1 := ((Below.refl _ _).alloc (Nat.le_refl _) o).trans (h.mono (by simp))
set_option maxRecDepth 100000 in
set_option maxHeartbeats 2000000 in
theorem headSector_any (S E n c : Nat) (hS : S < 2 ^ 64) (hE : E < 2 ^ 64) (hn : n < 4294967296) (hc : c < 4294967296) (w : World) :
    Calls Tryz.prog 136 #[.agg #[.int .u64 S, .int .u64 E, .int .i64 n, .int .i64 c]] w fun r w' => r = .returned (.agg (secA (headL S E n c))) ∧ Below w.heap.size w w' := by
  have CP := Lib.hid (headParts_made S E n c hS hE hn hc)
  have hlen := headB_length S E n c
  have hlen2 := headC_length S E n c
  have hby := headB_byte S E n c
  have hby2 := headC_byte S E n c
  have LA := Lib.hid fun M A q cap w => laid_any (headPs S E n c) M A q cap w (by simp [headPs])
  have HLN : Hid ((headPs S E n c).length = 4) := Lib.hid rfl
  have HPS : Hid (∀ (w : World) (q : Nat), w.cell? ⟨q, 0, none⟩ = some (.int .i64 0) → w.cell? ⟨q, 1, none⟩ = some (.int .i64 1) → w.cell? ⟨q, 2, none⟩ = some (.int .i64 5) → w.cell? ⟨q, 3, none⟩ = some (.int .i64 6) → NamesAt w q (headPs S E n c)) := Lib.hid fun w q h0 h1 h2 h3 => names4 h0 h1 h2 h3
  have HL : Hid (headL S E n c = padL (headC S E n c ++ headC S E n c)) := Lib.hid rfl
  have HC : Hid (headC S E n c = headB S E n c ++ fixE 4 (~~~ sumN (headB S E n c)).toNat) := Lib.hid rfl
  have HLL : Hid ((headL S E n c).length = 64) := Lib.hid (headL_length S E n c)
  change Hid (∀ M A q cap w, _ → _ → Calls Tryz.prog 162 #[.map (some M), .slice (some ⟨q, 0, none⟩) 4 cap] w fun r w' => ∃ t, r = .returned t ∧ RowB w (headB S E n c) t w') at LA
  generalize headB S E n c = lb at *
  generalize headC S E n c = lc at *
  generalize headL S E n c = ll at *
  have C4 := Lib.hid fun w => four_any (~~~ sumN lb).toNat w (sumNot_lt _)
  have HLF : Hid ((fixE 4 (~~~ sumN lb).toNat).length = 4) := Lib.hid (fixE_length _ _)
  have CS := Lib.hid fun p cp w => sum_one lb p cp w (by omega) hby
  generalize fixE 4 (~~~ sumN lb).toNat = lf at *
  generalize (~~~ sumN lb).toNat = sb at *
  have HBY := Lib.hid hby
  have HBY2 := Lib.hid hby2
  have HLEN := Lib.hid hlen
  have HLEN2 := Lib.hid hlen2
  clear hby hby2 hlen hlen2
  go_enter Tryz.func136, Tryz.ntmps136
  go_upto_region 1 with fail
  change Code.wp Tryz.prog _ _ _ ((w.alloc (.cells #[.int .u64 S, .int .u64 E, .int .i64 n, .int .i64 c] 127)).alloc (.cells zs64 187))
  obtain ⟨w0, hw0⟩ : ∃ w0, (w.alloc (.cells #[.int .u64 S, .int .u64 E, .int .i64 n, .int .i64 c] 127)).alloc (.cells zs64 187) = w0 := ⟨_, rfl⟩
  have B0 : Hid (Below w.heap.size w w0) := Lib.hid (by subst hw0; exact ((Below.refl _ _).alloc (Nat.le_refl _) _).alloc (by simp) _)
  have G0 : Hid (w0.heap[w.heap.size + 1]? = some (.cells zs64 187 (0, 0))) := Lib.hid (by subst hw0; have := heap_alloc_last (w.alloc (.cells #[.int .u64 S, .int .u64 E, .int .i64 n, .int .i64 c] 127)) (.cells zs64 187); rw [World.size_alloc] at this; exact this)
  have HS0 : Hid (w.heap.size + 1 < w0.heap.size) := Lib.hid (by subst hw0; simp)
  have c0 : w0.cell? ⟨w.heap.size, 0, none⟩ = some (.int .u64 S) := by subst hw0; go_cell
  have c1 : w0.cell? ⟨w.heap.size, 1, none⟩ = some (.int .u64 E) := by subst hw0; go_cell
  have c2 : w0.cell? ⟨w.heap.size, 2, none⟩ = some (.int .i64 n) := by subst hw0; go_cell
  have c3 : w0.cell? ⟨w.heap.size, 3, none⟩ = some (.int .i64 c) := by subst hw0; go_cell
  rw [hw0]
  clear hw0
  go_wp2_with (first
    | (go_at_call 161; refine (CP.out _).mono ?_; rintro e wa ⟨rfl, hb1, hpo⟩; have B1 := Lib.hid hb1; have HPO := Lib.hid hpo; clear hb1 hpo)
    | (go_at_call 162; refine (LA.out _ _ _ _ _ (Lib.hid (HPO.out.below ((Below.refl _ _).alloc (Nat.le_refl _) _))) (Lib.hid (HPS.out _ _ (by go_cell) (by go_cell) (by go_cell) (by go_cell)))).mono ?_; rintro e wb ⟨t, rfl, hr⟩; obtain ⟨p, cp, rfl, -, -, hby, hnn⟩ := hr.at2; have HR := Lib.hid hr; have HBA := Lib.hid hby; have B2 := Lib.hid (kbT B1.out (kbA hr.2)); clear hr hby hnn)
    | (go_at_call 164; refine (CS.out p cp wb HBA.out).mono ?_; rintro e wd ⟨rfl, hb3⟩; have B3 := Lib.hid (kbO hb3); clear hb3)
    | (go_at_call 163; refine (C4.out _).mono ?_; rintro e we ⟨t2, rfl, hr2⟩; obtain ⟨p2, cp2, rfl, -, -, hby2, hnn2⟩ := hr2.at2; have HB2 := Lib.hid hby2; have HN2 := Lib.hid hnn2; have HR2 := Lib.hid ((HR.out.later B3.out).later hr2.2); have B4 := Lib.hid hr2.2; clear hr2 hby2 hnn2)
    | (at_builtin; refine wpList_append_bytes rfl _ _ rfl rfl HR2.out rfl HN2.out HB2.out (by have := HLEN.out; have := HLF.out; omega) ?_; intro v' wf hr3; rw [← HC.out] at hr3; have B45 := Lib.hid (kbT B1.out (kbA hr3.2)); obtain ⟨p3, cp3, rfl, -, -, hby3, hnn3⟩ := hr3.at2; have HR3 := Lib.hid hr3; have HB3 := Lib.hid hby3; have HN3 := Lib.hid hnn3; clear hr3 hby3 hnn3)
    | (go_at_call 165; refine (filled_two lc lc p3 p3 cp3 cp3 wf (by have := HLEN2.out; omega) HBY2.out HBY2.out HB3.out HB3.out HN3.out HN3.out).mono ?_; rintro e wg ⟨rfl, hb5⟩; rw [← HL.out]; have B6 := Lib.hid (kbT B45.out hb5); have HG5 : Hid (wg.heap[w.heap.size + 1]? = some (.cells zs64 187 (0, 0))) := Lib.hid ((B6.out.block _ HS0.out).trans G0.out); clear hb5)
    | (refine wpList_store_row rfl 187 _ _ rfl (w.heap.size + 1) (secA ll) rfl rfl 187 zs64 HG5.out (by rw [secA_size, HLL.out]; kernel_rfl) (by rw [secA_size, HLL.out]; rfl) (secA_one _) ?_))
  exact bodyPost_ret (results_cell_row rfl _ _ _ _ _ _ _ rfl (setRow_heap _ _ _ _ _ _ HG5.out) Tryz.underlying187 rfl (by rw [secA_size, HLL.out]; kernel_rfl)) rfl ⟨rfl, below_setRow (B0.out.trans (B6.out.mono B0.out.size)) (Nat.le_succ _) _⟩
end Go.Proofs.YtdanigigjainjaaGreat
namespace Go.Proofs.YtdanigigjainjaaGreat
open Go.RowKit Go.Shelf
set_option maxRecDepth 100000
set_option maxHeartbeats 1000000

theorem head_bounds {n c : Int} (h : headOk n c = true) : 0 ≤ n ∧ n ≤ 2000 ∧ 0 ≤ c ∧ c ≤ 2000 := by
  simp only [headOk, Bool.and_eq_true, decide_eq_true_eq] at h
  omega
theorem bytes_sec (w : World) (l : List Nat) (t : TypeId) : BytesAt (w.alloc (.cells (secA l) t)) (some ⟨w.heap.size, 0, none⟩) l := fun i hi => by
  refine ⟨w.heap.size, 0, rfl, ?_⟩
  have := heap_alloc_last w (.cells (secA l) t)
  unfold World.cell?
  simp only [Nat.zero_add]
  rw [this]
  simp [secA, u8s, List.getD_eq_getElem?_getD, hi]
set_option maxRecDepth 100000 in
set_option maxHeartbeats 3000000 in
theorem encodeHead_ok (S E n c : Nat) (hS : S < 2 ^ 64) (hE : E < 2 ^ 64) (hh : headOk n c = true) (w : World) :
    Calls Tryz.prog 128 #[.agg #[.int .u64 S, .int .u64 E, .int .i64 n, .int .i64 c]] w fun r w' => ∃ g, r = .returned (.tuple #[.slice (some ⟨g, 0, none⟩) 64 64, .int .i64 0]) ∧ BytesAt w' (some ⟨g, 0, none⟩) (headL S E n c) ∧ w.heap.size ≤ g ∧ Below w.heap.size w w' := by
  have CC := Lib.hid (checkHead_any S E n c)
  rw [if_pos hh] at CC
  obtain ⟨h1, h2, h3, h4⟩ := head_bounds hh
  have CH := Lib.hid (headSector_any S E n c hS hE (by omega) (by omega))
  have HLL := Lib.hid (headL_length S E n c)
  generalize headL S E n c = ll at *
  clear hh
  go_enter Tryz.func128, Tryz.ntmps128
  go_wp2_with (first
    | (go_at_call 135; refine (CC.out _).mono ?_; rintro e wa ⟨rfl, hb1⟩; have B1 := Lib.hid (kbA hb1); have c0 : wa.cell? ⟨w.heap.size, 0, none⟩ = some (.int .u64 S) := (hb1.cell (by simp)).trans (by go_cell); have c1 : wa.cell? ⟨w.heap.size, 1, none⟩ = some (.int .u64 E) := (hb1.cell (by simp)).trans (by go_cell); have c2 : wa.cell? ⟨w.heap.size, 2, none⟩ = some (.int .i64 n) := (hb1.cell (by simp)).trans (by go_cell); have c3 : wa.cell? ⟨w.heap.size, 3, none⟩ = some (.int .i64 c) := (hb1.cell (by simp)).trans (by go_cell); clear hb1)
    | (go_at_call 136; refine (CH.out _).mono ?_; rintro e wb ⟨rfl, hb2⟩; have B2 := Lib.hid (kbT B1.out hb2); clear hb2)
    | (refine wpList_store_row rfl 187 _ _ rfl wb.heap.size (secA ll) rfl rfl 187 _ (heap_alloc_last wb _) (by rw [secA_size, HLL.out]; kernel_rfl) (by rw [secA_size, HLL.out]; rfl) (secA_one _) ?_; rw [World.setRow_alloc_new]))
  go_ret2
  exact ⟨_, rfl, bytes_sec wb ll 187, B2.out.size, B2.out.alloc B2.out.size _⟩
end Go.Proofs.YtdanigigjainjaaGreat
namespace Go.Proofs.YtdanigigjainjaaGreat
open Go.RowKit Go.Shelf
set_option maxRecDepth 100000
set_option maxHeartbeats 1000000

theorem wrap_u64 (n : Int) (h0 : 0 ≤ n) (h : n < 18446744073709551616) : IntKind.u64.wrap n = n := by
  simp [IntKind.wrap, IntKind.signed, IntKind.bits]; omega
end Go.Proofs.YtdanigigjainjaaGreat
namespace Go.Proofs.YtdanigigjainjaaGreat
open Go.RowKit Go.Shelf
set_option maxRecDepth 100000
set_option maxHeartbeats 1000000

/-- All blocks but one are as they were. -/
structure But (P : Nat) (w w' : World) : Prop where
  size : w.heap.size ≤ w'.heap.size
  block : ∀ k, k < w.heap.size → k ≠ P → w'.heap[k]? = w.heap[k]?
  os : w'.os = w.os
  tape : w'.tape = w.tape
  output : w'.output = w.output
theorem But.trans {P : Nat} {a b c : World} (h : But P a b) (k : But P b c) : But P a c :=
  ⟨Nat.le_trans h.size k.size, fun i hi hn => (k.block i (Nat.lt_of_lt_of_le hi h.size) hn).trans (h.block i hi hn), k.os.trans h.os, k.tape.trans h.tape, k.output.trans h.output⟩
theorem But.of {P : Nat} {w w' : World} (h : Below w.heap.size w w') : But P w w' := ⟨h.size, fun k hk _ => h.block k hk, h.os, h.tape, h.output⟩
theorem But.set (P : Nat) (w : World) (v : Value) : But P w (w.setCell ⟨P, 0, none⟩ v) := by
  have h : Below P w (w.setCell ⟨P, 0, none⟩ v) := (Below.refl P w).setCell (Nat.le_refl P) v
  refine ⟨by simp [World.setCell], fun k hk hn => ?_, h.os, h.tape, h.output⟩
  simp only [World.setCell, Array.getElem?_modify]
  rw [if_neg (fun e => hn e.symm)]
theorem But.below {P : Nat} {w0 w w' : World} (h : But P w w') (hb : Below w0.heap.size w0 w) (hP : w0.heap.size ≤ P) : Below w0.heap.size w0 w' :=
  ⟨h.os.trans hb.os, h.tape.trans hb.tape, h.output.trans hb.output, Nat.le_trans hb.size h.size, fun k hk => (h.block k (Nat.lt_of_lt_of_le hk hb.size) (by omega)).trans (hb.block k hk)⟩
theorem RestP.but {T : Nat → Prop} {w w' : World} {P : Nat} {p : Option Addr} {c : Nat} {v : List Nat} (R : RestP T w P p c v) (hb : Below w.heap.size w w') : RestP T w' P p c v := by
  have hP := lt_of_cell_some R.cell
  refine ⟨(hb.cell hP).trans R.cell, R.cap, (hb.frozen hP).trans R.fz, R.ne, fun i hi => ?_⟩
  obtain ⟨B, off, e, hT, hc⟩ := R.bytes i hi
  exact ⟨B, off, e, hT, (hb.cell (lt_of_cell_some hc)).trans hc⟩
theorem min_cast (m L : Nat) (h : m ≤ L) : min (m : Int) (L : Int) = (m : Int) := by omega
set_option maxRecDepth 100000 in
set_option maxHeartbeats 1500000 in
theorem ftake_rest {T : Nat → Prop} (m : Nat) (P : Nat) (p : Option Addr) (c : Nat) (v : List Nat) (w : World) (h : m ≤ v.length) (hv : c ≤ 9223372036854775807) (R : RestP T w P p c v) :
    Calls Tryz.prog 166 #[.pointer (some ⟨P, 0, none⟩), .int .i64 m] w fun r w' => r = .returned (.slice p m m) ∧ w' = w.setCell ⟨P, 0, none⟩ (.slice (restAt p c m) (v.length - m) (c - m)) := by
  have hc := R.cell
  have hcap := R.cap
  have hfz := R.fz
  generalize v.length = L at h hc hcap
  unfold restAt
  go_enter Tryz.func166, Tryz.ntmps166
  go_upto_region 2 with fail
  rw [min_cast m L h]
  go_wp2
  all_goals go_ret
  all_goals exact ⟨rfl, rfl⟩
/-- Fewer bytes are left than are asked for: all of them are taken. -/
theorem ftake_all {T : Nat → Prop} (n : Nat) (P : Nat) (p : Option Addr) (c : Nat) (v : List Nat) (w : World) (h : v.length ≤ n) (hv : c ≤ 9223372036854775807) (R : RestP T w P p c v) :
    Calls Tryz.prog 166 #[.pointer (some ⟨P, 0, none⟩), .int .i64 n] w fun r w' => r = .returned (.slice p v.length v.length) ∧ w' = w.setCell ⟨P, 0, none⟩ (.slice (restAt p c v.length) 0 (c - v.length)) := by
  have hc := R.cell
  have hcap := R.cap
  have hfz := R.fz
  generalize v.length = L at h hc hcap ⊢
  have hm : min (n : Int) (L : Int) = (L : Int) := by omega
  unfold restAt
  go_enter Tryz.func166, Tryz.ntmps166
  go_upto_region 2 with fail
  go_wp2
  all_goals go_ret
  all_goals exact ⟨rfl, rfl⟩
set_option maxRecDepth 100000 in
set_option maxHeartbeats 3000000 in
theorem num8_any (P : Nat) (p : Option Addr) (c : Nat) (v : List Nat) (w0 w : World) (h : 8 ≤ v.length) (hv : c ≤ 9223372036854775807) (hb : ∀ b ∈ v, b < 256) (hP : w0.heap.size ≤ P) (R : RestP (· < w0.heap.size) w P p c v) :
    Calls Tryz.prog 157 #[.pointer (some ⟨P, 0, none⟩), .int .i64 8, .func (.func 158) #[] #[]] w fun r w' => r = .returned (.int .u64 (foldN (v.take 8) : Nat)) ∧ But P w w' ∧ ∃ p' c', c' ≤ c ∧ RestP (· < w0.heap.size) w' P p' c' (v.drop 8) := by
  have hl : (v.take 8).length = 8 := by rw [List.length_take]; omega
  have CT := Lib.hid (ftake_rest 8 P p c v w h hv R)
  have R1 := R.next h
  have hby := R.taken 8 (Only.step .refl (.slice (restAt p c 8) (v.length - 8) (c - 8)))
  obtain ⟨w1, hw1⟩ : ∃ w1, w.setCell ⟨P, 0, none⟩ (.slice (restAt p c 8) (v.length - 8) (c - 8)) = w1 := ⟨_, rfl⟩
  rw [hw1] at CT R1 hby
  have HB1 : Hid (But P w w1) := Lib.hid (by subst hw1; exact But.set P w _)
  have CR := readEight_any (v.take 8) p 8 w1 (by omega) (by omega) (by omega) (fun b hb' => hb b (List.mem_of_mem_take hb')) (Lib.hid hby)
  have e : (readFixE 8 (v.take 8)).1 = foldN (v.take 8) := by
    unfold readFixE
    rw [if_neg (by omega)]
    simp only [foldN, List.take_take, Nat.min_self]
  have hlt : foldN (v.take 8) < 256 ^ 8 := by
    have := foldN_lt (l := v.take 8) (fun b hb' => hb b (List.mem_of_mem_take hb')) 8 (by omega)
    rwa [List.take_take, Nat.min_self] at this
  rw [e, hl] at CR
  have CR := Lib.hid CR
  have HR1 := Lib.hid R1
  generalize foldN (v.take 8) = x at *
  simp only [Nat.reducePow] at hlt
  clear hw1 e hl hby R1 R hb h
  go_enter Tryz.func157, Tryz.ntmps157
  go_wp2_with (first
    | (go_at_call 166; refine CT.out.mono ?_; rintro e w' ⟨rfl, rfl⟩)
    | (go_at_call 158; refine CR.out.mono ?_; rintro e w2 ⟨rfl, hb2⟩; have HB2 := Lib.hid (HB1.out.trans (But.of hb2)); have HR2 := Lib.hid (HR1.out.but hb2); clear hb2))
  go_ret
  exact ⟨rfl, HB2.out, _, _, Nat.sub_le _ _, HR2.out⟩
set_option maxRecDepth 100000 in
set_option maxHeartbeats 3000000 in
theorem num4_any (P : Nat) (p : Option Addr) (c : Nat) (v : List Nat) (w0 w : World) (h : 4 ≤ v.length) (hv : c ≤ 9223372036854775807) (hb : ∀ b ∈ v, b < 256) (hP : w0.heap.size ≤ P) (R : RestP (· < w0.heap.size) w P p c v) :
    Calls Tryz.prog 159 #[.pointer (some ⟨P, 0, none⟩), .int .i64 4, .func (.func 160) #[] #[]] w fun r w' => r = .returned (.int .i64 (foldN (v.take 4) : Nat)) ∧ But P w w' ∧ ∃ p' c', c' ≤ c ∧ RestP (· < w0.heap.size) w' P p' c' (v.drop 4) := by
  have hl : (v.take 4).length = 4 := by rw [List.length_take]; omega
  have CT := Lib.hid (ftake_rest 4 P p c v w h hv R)
  have R1 := R.next h
  have hby := R.taken 4 (Only.step .refl (.slice (restAt p c 4) (v.length - 4) (c - 4)))
  obtain ⟨w1, hw1⟩ : ∃ w1, w.setCell ⟨P, 0, none⟩ (.slice (restAt p c 4) (v.length - 4) (c - 4)) = w1 := ⟨_, rfl⟩
  rw [hw1] at CT R1 hby
  have HB1 : Hid (But P w w1) := Lib.hid (by subst hw1; exact But.set P w _)
  have CR := readFour_any (v.take 4) p 4 w1 (by omega) (by omega) (by omega) (fun b hb' => hb b (List.mem_of_mem_take hb')) (Lib.hid hby)
  have e : (readFixE 4 (v.take 4)).1 = foldN (v.take 4) := by
    unfold readFixE
    rw [if_neg (by omega)]
    simp only [foldN, List.take_take, Nat.min_self]
  have hlt : foldN (v.take 4) < 256 ^ 4 := by
    have := foldN_lt (l := v.take 4) (fun b hb' => hb b (List.mem_of_mem_take hb')) 4 (by omega)
    rwa [List.take_take, Nat.min_self] at this
  rw [e, hl] at CR
  have CR := Lib.hid CR
  have HR1 := Lib.hid R1
  generalize foldN (v.take 4) = x at *
  simp only [Nat.reducePow] at hlt
  clear hw1 e hl hby R1 R hb h
  go_enter Tryz.func159, Tryz.ntmps159
  go_wp2_with (first
    | (go_at_call 166; refine CT.out.mono ?_; rintro e w' ⟨rfl, rfl⟩)
    | (go_at_call 160; refine CR.out.mono ?_; rintro e w2 ⟨rfl, hb2⟩; have HB2 := Lib.hid (HB1.out.trans (But.of hb2)); have HR2 := Lib.hid (HR1.out.but hb2); clear hb2))
  go_ret
  exact ⟨rfl, HB2.out, _, _, Nat.sub_le _ _, HR2.out⟩
end Go.Proofs.YtdanigigjainjaaGreat
namespace Go.Proofs.YtdanigigjainjaaGreat
open Go.RowKit Go.Shelf
set_option maxRecDepth 100000
set_option maxHeartbeats 1000000

theorem But.row {P : Nat} {w w' : World} (h : But P w w') {k : Nat} {o : Obj} (hk : w.heap[k]? = some o) (hn : k ≠ P) : w'.heap[k]? = some o := (h.block k (Array.getElem?_eq_some_iff.1 hk).1 hn).trans hk
theorem row_cell {w : World} {g i : Nat} {cs : Array Value} {t : TypeId} {v : Value} (h : w.heap[g]? = some (.cells cs t (0, 0))) (hi : cs[i]? = some v) : w.cell? ⟨g, i, none⟩ = some v := by
  unfold World.cell?
  simp only [h]
  exact hi
theorem row_frozen {w : World} {g i : Nat} {cs : Array Value} {t : TypeId} (h : w.heap[g]? = some (.cells cs t (0, 0))) : w.frozen? ⟨g, i, none⟩ = false := by simp [World.frozen?, h]
/-- A reader that begins, behind a block that the call made. -/
theorem rest_start (w : World) (o : Obj) (p : Option Addr) (cap : Nat) (l : List Nat) (t : TypeId) (hcap : l.length ≤ cap) (hne : 0 < l.length) (hc : BytesAt w p l) :
    RestP (· < w.heap.size) ((w.alloc o).alloc (.cells #[.slice p l.length cap] t)) (w.heap.size + 1) p cap l := by
  have hb : Below w.heap.size w (w.alloc o) := (Below.refl _ _).alloc (Nat.le_refl _) _
  have := rest_new (· < w.heap.size) (w.alloc o) p cap l t hcap (bytesAt_below hc hb) (fun B off e _ => by
    obtain ⟨B', off', e', c⟩ := hc 0 hne
    rw [e] at e'
    injection e' with e'
    injection e' with e1 e2
    subst e1
    exact lt_of_cell_some c) (by simp)
  rwa [World.size_alloc] at this
set_option maxRecDepth 100000 in
set_option maxHeartbeats 2000000 in
theorem readHead_any (l : List Nat) (p : Option Addr) (cap : Nat) (w : World) (hl : l.length = 64) (hcap : 64 ≤ cap) (hc0 : cap ≤ 9223372036854775807) (hb : ∀ b ∈ l, b < 256) (hc : BytesAt w p l) :
    Calls Tryz.prog 134 #[.slice p 64 cap] w fun r w' => r = .returned (.agg #[.int .u64 (foldN (l.take 8) : Nat), .int .u64 (foldN ((l.drop 8).take 8) : Nat), .int .i64 (foldN ((l.drop 16).take 4) : Nat), .int .i64 (foldN ((l.drop 20).take 4) : Nat)]) ∧ Below w.heap.size w w' := by
  have HR := rest_start w (.cells #[.int .u64 0, .int .u64 0, .int .i64 0, .int .i64 0] 127) p cap l 210 (by omega) (by omega) hc
  rw [hl] at HR
  have C1 := Lib.hid fun w1 c' p' (hc' : c' ≤ cap) R => num8_any (w.heap.size + 1) p' c' l w w1 (by omega) (by omega) hb (by omega) R
  have C2 := Lib.hid fun w1 c' p' (hc' : c' ≤ cap) R => num8_any (w.heap.size + 1) p' c' (l.drop 8) w w1 (by rw [List.length_drop]; omega) (by omega) (fun b h => hb b (List.mem_of_mem_drop h)) (by omega) R
  have C3 := Lib.hid fun w1 c' p' (hc' : c' ≤ cap) R => num4_any (w.heap.size + 1) p' c' (l.drop 16) w w1 (by rw [List.length_drop]; omega) (by omega) (fun b h => hb b (List.mem_of_mem_drop h)) (by omega) R
  have C4 := Lib.hid fun w1 c' p' (hc' : c' ≤ cap) R => num4_any (w.heap.size + 1) p' c' (l.drop 20) w w1 (by rw [List.length_drop]; omega) (by omega) (fun b h => hb b (List.mem_of_mem_drop h)) (by omega) R
  simp only [List.drop_drop, Nat.reduceAdd] at C2 C3
  have HR := Lib.hid HR
  have HB0 : Hid (Below w.heap.size w ((w.alloc (.cells #[.int .u64 0, .int .u64 0, .int .i64 0, .int .i64 0] 127)).alloc (.cells #[.slice p 64 cap] 210))) := Lib.hid (((Below.refl _ _).alloc (Nat.le_refl _) _).alloc (by simp) _)
  have HG0 : Hid (((w.alloc (.cells #[.int .u64 0, .int .u64 0, .int .i64 0, .int .i64 0] 127)).alloc (.cells #[.slice p 64 cap] 210)).heap[w.heap.size]? = some (.cells #[.int .u64 0, .int .u64 0, .int .i64 0, .int .i64 0] 127 (0, 0))) := Lib.hid ((((Below.refl _ _).alloc (Nat.le_refl _) _).block _ (by simp)).trans (heap_alloc_last w _))
  generalize foldN (l.take 8) = x1 at *
  generalize foldN ((l.drop 8).take 8) = x2 at *
  generalize foldN ((l.drop 16).take 4) = x3 at *
  generalize foldN ((l.drop 20).take 4) = x4 at *
  have hcap0 : cap ≤ cap := Nat.le_refl _
  have HW : Hid (w.heap.size ≠ w.heap.size + 1) := Lib.hid (by omega)
  clear hl hb hc
  go_enter Tryz.func134, Tryz.ntmps134
  go_upto_region 2 with fail
  obtain ⟨w0, hw0⟩ : ∃ w0, (w.alloc (.cells #[.int .u64 0, .int .u64 0, .int .i64 0, .int .i64 0] 127)).alloc (.cells #[.slice p 64 cap] 210) = w0 := ⟨_, rfl⟩
  rw [hw0] at HR HB0 HG0 ⊢
  clear hw0
  go_wp2_with (first
    | (go_at_call 157; (with_reducible refine (C1.out _ _ _ hcap0 HR.out).mono ?_); rintro e wa ⟨rfl, hbt, p1, c1, hc1, hr1⟩; have HR1 := Lib.hid hr1; have HB1 := Lib.hid (hbt.below HB0.out (Nat.le_succ _)); have HG1 := Lib.hid (hbt.row HG0.out HW.out); clear hr1 hbt)
    | (go_at_call 157; (with_reducible refine (C2.out _ _ _ hc1 HR1.out).mono ?_); rintro e wb ⟨rfl, hbt, p2, c2, hc2', hr2⟩; have hc2 := Nat.le_trans hc2' hc1; have HR2 := Lib.hid hr2; have HB2 := Lib.hid (hbt.below HB1.out (Nat.le_succ _)); have HG2 := Lib.hid (hbt.row HG1.out HW.out); clear hr2 hbt)
    | (go_at_call 159; (with_reducible refine (C3.out _ _ _ hc2 HR2.out).mono ?_); rintro e wd ⟨rfl, hbt, p3, c3, hc3', hr3⟩; have hc3 := Nat.le_trans hc3' hc2; have HR3 := Lib.hid hr3; have HB3 := Lib.hid (hbt.below HB2.out (Nat.le_succ _)); have HG3 := Lib.hid (hbt.row HG2.out HW.out); clear hr3 hbt)
    | (go_at_call 159; (with_reducible refine (C4.out _ _ _ hc3 HR3.out).mono ?_); rintro e we ⟨rfl, hbt, p4, c4, hc4', hr4⟩; have HB4 := Lib.hid (hbt.below HB3.out (Nat.le_succ _)); have hg4 := hbt.row HG3.out HW.out; have k0 := row_cell (i := 0) hg4 rfl; have k1 := row_cell (i := 1) hg4 rfl; have k2 := row_cell (i := 2) hg4 rfl; have k3 := row_cell (i := 3) hg4 rfl; have f0 := row_frozen (i := 0) hg4; have f1 := row_frozen (i := 1) hg4; have f2 := row_frozen (i := 2) hg4; have f3 := row_frozen (i := 3) hg4; clear hr4 hbt hg4))
  refine bodyPost_ret (v := .agg #[.int .u64 x1, .int .u64 x2, .int .i64 x3, .int .i64 x4]) ?_ rfl ⟨rfl, (((HB4.out.setCell (Nat.le_refl _) _).setCell (Nat.le_refl _) _).setCell (Nat.le_refl _) _).setCell (Nat.le_refl _) _⟩
  simp [results, Tryz.results134, go_sem, k0, k1, k2, k3]
end Go.Proofs.YtdanigigjainjaaGreat
namespace Go.Proofs.YtdanigigjainjaaGreat
open Go.RowKit Go.Shelf
set_option maxRecDepth 100000
set_option maxHeartbeats 1000000

theorem u8s_bytes {l : List Nat} (hb : ∀ b ∈ l, b < 256) : u8s l = (l.map UInt8.ofNat).map fun (c : UInt8) => Value.int .u8 (c.toNat : Int) := by
  simp only [u8s, List.map_map]
  refine List.map_congr_left fun x hx => ?_
  have := hb x hx
  simp [Nat.mod_eq_of_lt this]
theorem u8s_inj {a b : List Nat} (h : u8s a = u8s b) : a = b := by
  refine List.map_inj_right (f := fun (v : Nat) => Value.int .u8 (v : Int)) ?_ |>.1 h
  intro x y e
  simp only [Value.int.injEq, true_and] at e
  exact_mod_cast e
/-- Sectors are held against each other. -/
theorem eqi_sec {a b : List Nat} (ha : a.length = 64) (hb : b.length = 64) (ha2 : ∀ x ∈ a, x < 256) (hb2 : ∀ x ∈ b, x < 256) (w : World) : (Op.equalIn 10000 187 (.agg (secA a)) (.agg (secA b))).run Tryz.prog w = .ok (decide (a = b)) w := by
  have e := run_equalIn_bytes (P := Tryz.prog) w 9998 187 5 64 Tryz.underlying187 Tryz.underlying5 Tryz.sizeOf5 (a.map UInt8.ofNat) (b.map UInt8.ofNat) (by simpa using ha) (by simpa using hb)
  rw [show (a.map UInt8.ofNat).map Extern.Stop.cell = u8s a from (u8s_bytes ha2).symm, show (b.map UInt8.ofNat).map Extern.Stop.cell = u8s b from (u8s_bytes hb2).symm] at e
  have e2 : (a.map UInt8.ofNat == b.map UInt8.ofNat) = decide (a = b) := by
    by_cases h : a = b
    · subst h; simp
    · rw [decide_eq_false h]
      apply Bool.eq_false_iff.2
      intro e
      apply h
      apply u8s_inj
      rw [u8s_bytes ha2, u8s_bytes hb2, eq_of_beq e]
  rw [e2] at e
  exact e
theorem eqg_sec (a b : List Nat) (x y : Operand) (op : BinOp) (w : World) : (eqGuard op 187 x y (.agg (secA a)) (.agg (secA b))).run Tryz.prog w = .ok () w :=
  GuardAt.agg (P := Tryz.prog) (T := 187) secA (by kernel_rfl) op x y a b w
theorem run_load_sec {w : World} {g off : Nat} {l : List Nat} (hb : l.length = 64) (hc : ∀ i, i < l.length → w.cell? ⟨g, off + i, none⟩ = some (.int .u8 (l.getD i 0 : Nat))) : (loadCellsFrom ⟨g, off, none⟩ 0 64 #[]).run Tryz.prog w = .ok (secA l) w := by
  have := run_loadCells_list (P := Tryz.prog) w ⟨g, off, none⟩ (u8s l) (news_u8 hc)
  rw [u8s_length, hb] at this
  exact this
theorem run_loadVar_at {w : World} {g off n : Nat} {ty : TypeId} {cs : Array Value} (ha : (isAgg ty).run Tryz.prog w = .ok true w) (hs : (sizeOf ty).run Tryz.prog w = .ok n w) (h : (loadCellsFrom ⟨g, off, none⟩ 0 n #[]).run Tryz.prog w = .ok cs w) : (loadVar ty ⟨g, off, none⟩).run Tryz.prog w = .ok (.agg cs) w := by
  simp [loadVar, Sem.run_bind, ha, hs, loadCells, h]
theorem exec_load_sec {o : Oper} {a : Act} {w : World} {x : Operand} (ho : o.op = .load 187 x) {g off : Nat} (hx : a.eval x = .pointer (some ⟨g, off, none⟩)) {l : List Nat} (hb : l.length = 64) (hc : ∀ i, i < l.length → w.cell? ⟨g, off + i, none⟩ = some (.int .u8 (l.getD i 0 : Nat))) :
    (execOp a.eval o).run Tryz.prog w = .ok (.value (.agg (secA l))) w := by
  unfold execOp
  simp only [ho, hx, Instr.loadAt, Instr.sureAddr, Sem.run_bind, Sem.run_pure, Result.andThen_ok, run_loadVar_at (Tryz.isAgg187 w) (Tryz.sizeOf187 w) (run_load_sec hb hc)]
def hS (l : List Nat) : Nat := foldN (l.take 8)
def hE (l : List Nat) : Nat := foldN ((l.drop 8).take 8)
def hN (l : List Nat) : Nat := foldN ((l.drop 16).take 4)
def hC (l : List Nat) : Nat := foldN ((l.drop 20).take 4)
/-- Are these the bytes of a head? -/
def isHead (l : List Nat) : Bool := decide (l.length = 64) && headOk (hN l) (hC l) && decide (headL (hS l) (hE l) (hN l) (hC l) = l)
def headV (S E n c : Int) : Value := .agg #[.int .u64 S, .int .u64 E, .int .i64 n, .int .i64 c]
/-- The head that bytes have, or the zero one. -/
def decV (l : List Nat) : Value := if isHead l then headV (hS l) (hE l) (hN l) (hC l) else headV 0 0 0 0
def decX (l : List Nat) : Int := if isHead l then 0 else 150
theorem foldN_lt' {l : List Nat} {k : Nat} (hb : ∀ b ∈ l, b < 256) : foldN (l.take k) < 256 ^ k := by
  rcases Nat.le_total k l.length with h | h
  · exact foldN_lt hb k h
  · rw [List.take_of_length_le h]
    have := foldN_lt hb l.length (Nat.le_refl _)
    rw [List.take_length] at this
    exact Nat.lt_of_lt_of_le this (Nat.pow_le_pow_right (by decide) h)
set_option maxRecDepth 100000 in
set_option maxHeartbeats 3000000 in
theorem decodeHead_long (l : List Nat) (p : Option Addr) (cap : Nat) (w : World) (hl : l.length ≠ 64) :
    Calls Tryz.prog 118 #[.slice p l.length cap] w fun r w' => r = .returned (.tuple #[headV 0 0 0 0, .int .i64 150]) ∧ Below w.heap.size w w' := by
  generalize l.length = L at *
  have hl2 : (L : Int) ≠ 64 := by omega
  have hl3 : ((L : Int) != 64) = true := by simp [hl2]
  have HL := Lib.hid hl
  clear hl hl2
  go_enter Tryz.func118, Tryz.ntmps118
  go_wp2
  refine wp_scope_fwd 0 rfl fun J HJ => ?_
  go_wp2
  go_step3
  refine ⟨rfl, HJ.out _ _ ?_⟩
  go_wp2
  simp only [Exit.noGoto_ret]
  refine bodyPost_ret (v := .tuple #[headV 0 0 0 0, .int .i64 150]) ?_ rfl ⟨rfl, ?_⟩
  · simp [results, Tryz.results118, go_sem, headV]
  · exact ((Below.refl _ _).alloc (Nat.le_refl _) _).alloc (by simp) _
theorem run_arrayAt (B off cap : Nat) (w : World) : (Instr.arrayAt 187 (.slice (some ⟨B, off, none⟩) 64 cap)).run Tryz.prog w = .ok (.pointer (some ⟨B, off, none⟩)) w := by
  simp [Instr.arrayAt, run_underlying Tryz.underlying187, Result.andThen]
theorem But.set' (P i : Nat) (w : World) (v : Value) : But P w (w.setCell ⟨P, i, none⟩ v) := by
  have h : Below P w (w.setCell ⟨P, i, none⟩ v) := (Below.refl P w).setCell (Nat.le_refl P) v
  refine ⟨by simp [World.setCell], fun k hk hn => ?_, h.os, h.tape, h.output⟩
  simp only [World.setCell, Array.getElem?_modify]
  rw [if_neg (fun e => hn e.symm)]
set_option maxRecDepth 100000 in
set_option maxHeartbeats 4000000 in
theorem decodeHead_no (l : List Nat) (p : Option Addr) (cap : Nat) (w : World) (hl : l.length = 64) (hcap : 64 ≤ cap) (hc0 : cap ≤ 9223372036854775807) (hb : ∀ b ∈ l, b < 256) (hc : BytesAt w p l) (hh : headOk (hN l) (hC l) = false) :
    Calls Tryz.prog 118 #[.slice p 64 cap] w fun r w' => r = .returned (.tuple #[headV 0 0 0 0, .int .i64 150]) ∧ Below w.heap.size w w' := by
  have CR := Lib.hid fun (w' : World) (hb' : Below w.heap.size w w') => readHead_any l p cap w' hl hcap hc0 hb (bytesAt_below hc hb')
  have CC := Lib.hid (checkHead_any (hS l) (hE l) (hN l) (hC l))
  rw [hh] at CC
  simp only [Bool.false_eq_true, if_false] at CC
  clear hh
  change Hid (∀ w', Below w.heap.size w w' → Calls Tryz.prog 134 #[.slice p 64 cap] w' fun r w2 => r = .returned (.agg #[.int .u64 (hS l : Nat), .int .u64 (hE l : Nat), .int .i64 (hN l : Nat), .int .i64 (hC l : Nat)]) ∧ Below w'.heap.size w' w2) at CR
  generalize hS l = x1 at *
  generalize hE l = x2 at *
  generalize hN l = x3 at *
  generalize hC l = x4 at *
  obtain ⟨B, off, rfl, hcs⟩ := bytesAt_lt hc (fun h => by subst h; simp at hl)
  have HCS := Lib.hid hcs
  have HL := Lib.hid hl
  clear hcs hb hc hl
  go_enter Tryz.func118, Tryz.ntmps118
  go_wp2
  refine wp_scope_fwd 0 rfl fun J HJ => ?_
  go_upto_region 3 with fail
  obtain ⟨w0, hw0⟩ : ∃ w0, (w.alloc (.cells #[.int .u64 0, .int .u64 0, .int .i64 0, .int .i64 0] 127)).alloc (.cells #[.int .u64 0, .int .u64 0, .int .i64 0, .int .i64 0] 127) = w0 := ⟨_, rfl⟩
  have HB0 : Hid (Below w.heap.size w w0) := Lib.hid (by subst hw0; exact ((Below.refl _ _).alloc (Nat.le_refl _) _).alloc (by simp) _)
  have HG0 : Hid (w0.heap[w.heap.size]? = some (.cells #[.int .u64 0, .int .u64 0, .int .i64 0, .int .i64 0] 127 (0, 0))) := Lib.hid (by subst hw0; exact (((Below.refl _ _).alloc (Nat.le_refl _) _).block _ (by simp)).trans (heap_alloc_last w _))
  have HG1 : Hid (w0.heap[w.heap.size + 1]? = some (.cells #[.int .u64 0, .int .u64 0, .int .i64 0, .int .i64 0] 127 (0, 0))) := Lib.hid (by subst hw0; have := heap_alloc_last (w.alloc (.cells #[.int .u64 0, .int .u64 0, .int .i64 0, .int .i64 0] 127)) (.cells #[.int .u64 0, .int .u64 0, .int .i64 0, .int .i64 0] 127); rw [World.size_alloc] at this; exact this)
  have HS0 : Hid (w0.heap.size = w.heap.size + 2) := Lib.hid (by subst hw0; simp)
  rw [hw0]
  clear hw0
  go_upto_region 4 with (go_at_call 134; refine (CR.out _ HB0.out).mono ?_; rintro e wa ⟨rfl, hba⟩; have HBA := Lib.hid hba; have hg0 := (hba.block _ (by rw [HS0.out]; omega)).trans HG0.out; have hg1 := (hba.block _ (by rw [HS0.out]; omega)).trans HG1.out; have k0 := row_cell (i := 0) hg1 rfl; have k1 := row_cell (i := 1) hg1 rfl; have k2 := row_cell (i := 2) hg1 rfl; have k3 := row_cell (i := 3) hg1 rfl; have f0 := row_frozen (i := 0) hg1; have f1 := row_frozen (i := 1) hg1; have f2 := row_frozen (i := 2) hg1; have f3 := row_frozen (i := 3) hg1; have HGA := Lib.hid hg0; have HSA := Lib.hid hba.size; clear hg0 hg1 hba)
  obtain ⟨wb, hwb⟩ : ∃ wb, (((wa.setCell ⟨w.heap.size + 1, 0, none⟩ (.int .u64 x1)).setCell ⟨w.heap.size + 1, 1, none⟩ (.int .u64 x2)).setCell ⟨w.heap.size + 1, 2, none⟩ (.int .i64 x3)).setCell ⟨w.heap.size + 1, 3, none⟩ (.int .i64 x4) = wb := ⟨_, rfl⟩
  have m0 : Hid (wb.cell? ⟨w.heap.size + 1, 0, none⟩ = some (.int .u64 x1)) := Lib.hid (by subst hwb; go_cell)
  have m1 : Hid (wb.cell? ⟨w.heap.size + 1, 1, none⟩ = some (.int .u64 x2)) := Lib.hid (by subst hwb; go_cell)
  have m2 : Hid (wb.cell? ⟨w.heap.size + 1, 2, none⟩ = some (.int .i64 x3)) := Lib.hid (by subst hwb; go_cell)
  have m3 : Hid (wb.cell? ⟨w.heap.size + 1, 3, none⟩ = some (.int .i64 x4)) := Lib.hid (by subst hwb; go_cell)
  have HBB : Hid (Below w.heap.size w wb) := Lib.hid (by subst hwb; exact ((((HB0.out.trans (HBA.out.mono (by rw [HS0.out]; omega))).setCell (Nat.le_succ _) _).setCell (Nat.le_succ _) _).setCell (Nat.le_succ _) _).setCell (Nat.le_succ _) _)
  have HGB : Hid (wb.heap[w.heap.size]? = some (.cells #[.int .u64 0, .int .u64 0, .int .i64 0, .int .i64 0] 127 (0, 0))) := Lib.hid (by subst hwb; exact (((((But.set' _ _ _ _).trans (But.set' _ _ _ _)).trans (But.set' _ _ _ _)).trans (But.set' _ _ _ _)).row HGA.out (by omega)))
  have HSB : Hid (w.heap.size + 1 < wb.heap.size) := Lib.hid (lt_of_cell_some m0.out)
  rw [hwb]
  clear hwb k0 k1 k2 k3 f0 f1 f2 f3
  have WK : Hid (∀ w', Below wb.heap.size wb w' → (w'.cell? ⟨w.heap.size + 1, 0, none⟩ = some (.int .u64 x1) ∧ w'.cell? ⟨w.heap.size + 1, 1, none⟩ = some (.int .u64 x2) ∧ w'.cell? ⟨w.heap.size + 1, 2, none⟩ = some (.int .i64 x3) ∧ w'.cell? ⟨w.heap.size + 1, 3, none⟩ = some (.int .i64 x4)) ∧ (∀ i, i < l.length → w'.cell? ⟨B, off + i, none⟩ = some (.int .u8 (l.getD i 0 : Nat))) ∧ w'.heap[w.heap.size]? = some (.cells #[.int .u64 0, .int .u64 0, .int .i64 0, .int .i64 0] 127 (0, 0)) ∧ Below w.heap.size w w') := Lib.hid fun w' h =>
    ⟨⟨(h.cell (lt_of_cell_some m0.out)).trans m0.out, (h.cell (lt_of_cell_some m1.out)).trans m1.out, (h.cell (lt_of_cell_some m2.out)).trans m2.out, (h.cell (lt_of_cell_some m3.out)).trans m3.out⟩, fun i hi => (((kbT HBB.out h)).cell (lt_of_cell_some (HCS.out i hi))).trans (HCS.out i hi), (h.block _ (by have := HSB.out; omega)).trans HGB.out, kbT HBB.out h⟩
  refine wp_region_held_drew (S := fun w' => Below wb.heap.size wb w') (by kernel_rfl) ((Below.refl _ _).drew) (fun H0 => ?_)
  refine wpAnyH_take (i := 0) (oi := { dst := some 10, op := Go.Op.load 127 (Go.Operand.tmp 4), type := 127, pos := "frame.go:57", after := #[], guard := none }) (v := ?_) rfl (by kernel_rfl) (by kernel_rfl) (by kernel_rfl) (fun _ _ _ h => h) (Or.inl ⟨by rfl, ?_⟩) H0 ?_
  rotate_left
  focus (intro w' hSw; (try dsimp only at hSw); obtain ⟨⟨q0, q1, q2, q3⟩, -, -, -⟩ := WK.out _ hSw; go_simp; (try with_reducible rfl))
  simp only [Act.put, List.setIfInBounds_toArray, List.set_cons_zero, List.set_cons_succ]
  refine wpAnyH_ready (rs := [1]) (by kernel_rfl) (by simp) ?_
  refine AllReadyH.cons (o := { dst := some 11, op := Go.Op.call { callee := Go.Callee.value (Go.Operand.func 135), args := #[Go.Operand.tmp 10], argTypes := #[127] }, type := 25, pos := "frame.go:57", after := #[{ on := 0, ground := Go.Ground.data }], guard := none }) rfl (fun K hK => ?_) ?_
  rotate_left
  exact AllReadyH.nil
  go_simp
  (go_at_call 135; (with_reducible refine (CC.out _).mono ?_); rintro e wd ⟨rfl, hd⟩)
  try go_wp2_with fail
  refine hK.out _ _ (kbT H0 hd) (fun Hd => ?_)
  clear hK K
  try simp only [Act.put, List.setIfInBounds_toArray, List.set_cons_zero, List.set_cons_succ]
  refine wpAnyH_take (i := 2) (oi := { dst := some 12, op := Go.Op.binOp Go.BinOp.neq 25 (Go.Operand.tmp 11) (Go.Operand.const (Go.Value.int Go.IntKind.i64 0)) 25, type := 4, pos := "frame.go:57", after := #[{ on := 1, ground := Go.Ground.data }], guard := none }) (v := ?_) rfl (by kernel_rfl) (by kernel_rfl) (by kernel_rfl) (fun _ _ _ h => h) (Or.inl ⟨by rfl, ?_⟩) Hd ?_
  rotate_left
  focus (intro w' hSw; (try dsimp only at hSw); go_simp; (try with_reducible rfl))
  simp only [Act.put, List.setIfInBounds_toArray, List.set_cons_zero, List.set_cons_succ]
  refine wpAnyH_take (i := 3) (oi := { dst := some 13, op := Go.Op.move (Go.Operand.tmp 12), type := 4, pos := "frame.go:57", after := #[{ on := 2, ground := Go.Ground.data }, { on := 1, ground := Go.Ground.chain }], guard := none }) (v := ?_) rfl (by kernel_rfl) (by kernel_rfl) (by kernel_rfl) (fun _ _ _ h => h) (Or.inl ⟨by rfl, ?_⟩) Hd ?_
  rotate_left
  focus (intro w' hSw; (try dsimp only at hSw); go_simp; (try with_reducible rfl))
  simp only [Act.put, List.setIfInBounds_toArray, List.set_cons_zero, List.set_cons_succ]
  refine wpAnyH_take (i := 4) (oi := { dst := some 14, op := Go.Op.load 127 (Go.Operand.tmp 4), type := 127, pos := "frame.go:57", after := #[{ on := 3, ground := Go.Ground.guard }], guard := some (3, false) }) (v := undef) rfl (by kernel_rfl) (by kernel_rfl) (by kernel_rfl) (fun _ _ _ h => h) (Or.inr ⟨by rfl, rfl⟩) Hd ?_
  simp only [Act.put, List.setIfInBounds_toArray, List.set_cons_zero, List.set_cons_succ]
  refine wpAnyH_take (i := 5) (oi := { dst := some 15, op := Go.Op.call { callee := Go.Callee.value (Go.Operand.func 136), args := #[Go.Operand.tmp 14], argTypes := #[127] }, type := 187, pos := "frame.go:57", after := #[{ on := 4, ground := Go.Ground.data }, { on := 3, ground := Go.Ground.chain }, { on := 3, ground := Go.Ground.guard }], guard := some (3, false) }) (v := undef) rfl (by kernel_rfl) (by kernel_rfl) (by kernel_rfl) (fun _ _ _ h => h) (Or.inr ⟨by rfl, rfl⟩) Hd ?_
  simp only [Act.put, List.setIfInBounds_toArray, List.set_cons_zero, List.set_cons_succ]
  refine wpAnyH_take (i := 6) (oi := { dst := some 16, op := Go.Op.move (Go.Operand.tmp 0), type := 49, pos := "frame.go:57", after := #[{ on := 3, ground := Go.Ground.guard }], guard := some (3, false) }) (v := undef) rfl (by kernel_rfl) (by kernel_rfl) (by kernel_rfl) (fun _ _ _ h => h) (Or.inr ⟨by rfl, rfl⟩) Hd ?_
  simp only [Act.put, List.setIfInBounds_toArray, List.set_cons_zero, List.set_cons_succ]
  refine wpAnyH_take (i := 7) (oi := { dst := some 17, op := Go.Op.sliceToArrayPointer 187 (Go.Operand.tmp 16), type := 0, pos := "frame.go:57", after := #[{ on := 6, ground := Go.Ground.data }, { on := 3, ground := Go.Ground.guard }], guard := some (3, false) }) (v := undef) rfl (by kernel_rfl) (by kernel_rfl) (by kernel_rfl) (fun _ _ _ h => h) (Or.inr ⟨by rfl, rfl⟩) Hd ?_
  simp only [Act.put, List.setIfInBounds_toArray, List.set_cons_zero, List.set_cons_succ]
  refine wpAnyH_take (i := 8) (oi := { dst := some 18, op := Go.Op.load 187 (Go.Operand.tmp 17), type := 187, pos := "frame.go:57", after := #[{ on := 7, ground := Go.Ground.data }, { on := 3, ground := Go.Ground.guard }], guard := some (3, false) }) (v := undef) rfl (by kernel_rfl) (by kernel_rfl) (by kernel_rfl) (fun _ _ _ h => h) (Or.inr ⟨by rfl, rfl⟩) Hd ?_
  simp only [Act.put, List.setIfInBounds_toArray, List.set_cons_zero, List.set_cons_succ]
  refine wpAnyH_take (i := 9) (oi := { dst := some 19, op := Go.Op.binOp Go.BinOp.neq 187 (Go.Operand.tmp 15) (Go.Operand.tmp 18) 187, type := 4, pos := "frame.go:57", after := #[{ on := 5, ground := Go.Ground.data }, { on := 8, ground := Go.Ground.data }, { on := 3, ground := Go.Ground.guard }], guard := some (3, false) }) (v := undef) rfl (by kernel_rfl) (by kernel_rfl) (by kernel_rfl) (fun _ _ _ h => h) (Or.inr ⟨by rfl, rfl⟩) Hd ?_
  simp only [Act.put, List.setIfInBounds_toArray, List.set_cons_zero, List.set_cons_succ]
  refine wpAnyH_take (i := 10) (oi := { dst := some 20, op := Go.Op.pick (Go.Operand.tmp 13) (Go.Operand.const (Go.Value.bool true)) (Go.Operand.tmp 19), type := 4, pos := "frame.go:57", after := #[{ on := 3, ground := Go.Ground.data }, { on := 9, ground := Go.Ground.data }], guard := none }) (v := ?_) rfl (by kernel_rfl) (by kernel_rfl) (by kernel_rfl) (fun _ _ _ h => h) (Or.inl ⟨by rfl, ?_⟩) Hd ?_
  rotate_left
  focus (intro w' hSw; (try dsimp only at hSw); go_simp; (try with_reducible rfl))
  simp only [Act.put, List.setIfInBounds_toArray, List.set_cons_zero, List.set_cons_succ]
  refine wpAnyH_done (by kernel_rfl) ?_ _
  have hg2 := (WK.out _ Hd).2.2.1
  have HX := Lib.hid (WK.out _ Hd).2.2.2
  have z0 := row_cell (i := 0) hg2 rfl
  have z1 := row_cell (i := 1) hg2 rfl
  have z2 := row_cell (i := 2) hg2 rfl
  have z3 := row_cell (i := 3) hg2 rfl
  have y0 := row_frozen (i := 0) hg2
  have y1 := row_frozen (i := 1) hg2
  have y2 := row_frozen (i := 2) hg2
  have y3 := row_frozen (i := 3) hg2
  clear hg2
  go_wp2
  go_step3
  refine ⟨rfl, HJ.out _ _ ?_⟩
  go_wp2
  simp only [Exit.noGoto_ret]
  refine bodyPost_ret (v := .tuple #[headV 0 0 0 0, .int .i64 150]) ?_ rfl ⟨rfl, ?_⟩
  · simp [results, Tryz.results118, go_sem, headV, z0, z1, z2, z3]
  · exact (((HX.out.setCell (Nat.le_refl _) _).setCell (Nat.le_refl _) _).setCell (Nat.le_refl _) _).setCell (Nat.le_refl _) _
set_option maxRecDepth 100000 in
set_option maxHeartbeats 4000000 in
theorem decodeHead_other (l : List Nat) (p : Option Addr) (cap : Nat) (w : World) (hl : l.length = 64) (hcap : 64 ≤ cap) (hc0 : cap ≤ 9223372036854775807) (hb : ∀ b ∈ l, b < 256) (hc : BytesAt w p l) (hh : headOk (hN l) (hC l) = true) (hq : headL (hS l) (hE l) (hN l) (hC l) ≠ l) :
    Calls Tryz.prog 118 #[.slice p 64 cap] w fun r w' => r = .returned (.tuple #[headV 0 0 0 0, .int .i64 150]) ∧ Below w.heap.size w w' := by
  have CR := Lib.hid fun (w' : World) (hb' : Below w.heap.size w w') => readHead_any l p cap w' hl hcap hc0 hb (bytesAt_below hc hb')
  have CC := Lib.hid (checkHead_any (hS l) (hE l) (hN l) (hC l))
  rw [hh] at CC
  simp only [if_true] at CC
  have hbb := head_bounds hh
  have CH := Lib.hid (headSector_any (hS l) (hE l) (hN l) (hC l) (foldN_lt' hb) (foldN_lt' (fun b h => hb b (List.mem_of_mem_drop h))) (by omega) (by omega))
  have hle := eqi_sec (headL_length (hS l) (hE l) (hN l) (hC l)) hl (headL_byte (hS l) (hE l) (hN l) (hC l)) hb
  rw [decide_eq_false hq] at hle
  generalize headL (hS l) (hE l) (hN l) (hC l) = ll at *
  have hle2 := fun x y w => eqg_sec ll l x y .neq w
  clear hh hbb hq
  change Hid (∀ w', Below w.heap.size w w' → Calls Tryz.prog 134 #[.slice p 64 cap] w' fun r w2 => r = .returned (.agg #[.int .u64 (hS l : Nat), .int .u64 (hE l : Nat), .int .i64 (hN l : Nat), .int .i64 (hC l : Nat)]) ∧ Below w'.heap.size w' w2) at CR
  generalize hS l = x1 at *
  generalize hE l = x2 at *
  generalize hN l = x3 at *
  generalize hC l = x4 at *
  obtain ⟨B, off, rfl, hcs⟩ := bytesAt_lt hc (fun h => by subst h; simp at hl)
  have HCS := Lib.hid hcs
  have HL := Lib.hid hl
  clear hcs hb hc hl
  go_enter Tryz.func118, Tryz.ntmps118
  go_wp2
  refine wp_scope_fwd 0 rfl fun J HJ => ?_
  go_upto_region 3 with fail
  obtain ⟨w0, hw0⟩ : ∃ w0, (w.alloc (.cells #[.int .u64 0, .int .u64 0, .int .i64 0, .int .i64 0] 127)).alloc (.cells #[.int .u64 0, .int .u64 0, .int .i64 0, .int .i64 0] 127) = w0 := ⟨_, rfl⟩
  have HB0 : Hid (Below w.heap.size w w0) := Lib.hid (by subst hw0; exact ((Below.refl _ _).alloc (Nat.le_refl _) _).alloc (by simp) _)
  have HG0 : Hid (w0.heap[w.heap.size]? = some (.cells #[.int .u64 0, .int .u64 0, .int .i64 0, .int .i64 0] 127 (0, 0))) := Lib.hid (by subst hw0; exact (((Below.refl _ _).alloc (Nat.le_refl _) _).block _ (by simp)).trans (heap_alloc_last w _))
  have HG1 : Hid (w0.heap[w.heap.size + 1]? = some (.cells #[.int .u64 0, .int .u64 0, .int .i64 0, .int .i64 0] 127 (0, 0))) := Lib.hid (by subst hw0; have := heap_alloc_last (w.alloc (.cells #[.int .u64 0, .int .u64 0, .int .i64 0, .int .i64 0] 127)) (.cells #[.int .u64 0, .int .u64 0, .int .i64 0, .int .i64 0] 127); rw [World.size_alloc] at this; exact this)
  have HS0 : Hid (w0.heap.size = w.heap.size + 2) := Lib.hid (by subst hw0; simp)
  rw [hw0]
  clear hw0
  go_upto_region 4 with (go_at_call 134; refine (CR.out _ HB0.out).mono ?_; rintro e wa ⟨rfl, hba⟩; have HBA := Lib.hid hba; have hg0 := (hba.block _ (by rw [HS0.out]; omega)).trans HG0.out; have hg1 := (hba.block _ (by rw [HS0.out]; omega)).trans HG1.out; have k0 := row_cell (i := 0) hg1 rfl; have k1 := row_cell (i := 1) hg1 rfl; have k2 := row_cell (i := 2) hg1 rfl; have k3 := row_cell (i := 3) hg1 rfl; have f0 := row_frozen (i := 0) hg1; have f1 := row_frozen (i := 1) hg1; have f2 := row_frozen (i := 2) hg1; have f3 := row_frozen (i := 3) hg1; have HGA := Lib.hid hg0; have HSA := Lib.hid hba.size; clear hg0 hg1 hba)
  obtain ⟨wb, hwb⟩ : ∃ wb, (((wa.setCell ⟨w.heap.size + 1, 0, none⟩ (.int .u64 x1)).setCell ⟨w.heap.size + 1, 1, none⟩ (.int .u64 x2)).setCell ⟨w.heap.size + 1, 2, none⟩ (.int .i64 x3)).setCell ⟨w.heap.size + 1, 3, none⟩ (.int .i64 x4) = wb := ⟨_, rfl⟩
  have m0 : Hid (wb.cell? ⟨w.heap.size + 1, 0, none⟩ = some (.int .u64 x1)) := Lib.hid (by subst hwb; go_cell)
  have m1 : Hid (wb.cell? ⟨w.heap.size + 1, 1, none⟩ = some (.int .u64 x2)) := Lib.hid (by subst hwb; go_cell)
  have m2 : Hid (wb.cell? ⟨w.heap.size + 1, 2, none⟩ = some (.int .i64 x3)) := Lib.hid (by subst hwb; go_cell)
  have m3 : Hid (wb.cell? ⟨w.heap.size + 1, 3, none⟩ = some (.int .i64 x4)) := Lib.hid (by subst hwb; go_cell)
  have HBB : Hid (Below w.heap.size w wb) := Lib.hid (by subst hwb; exact ((((HB0.out.trans (HBA.out.mono (by rw [HS0.out]; omega))).setCell (Nat.le_succ _) _).setCell (Nat.le_succ _) _).setCell (Nat.le_succ _) _).setCell (Nat.le_succ _) _)
  have HGB : Hid (wb.heap[w.heap.size]? = some (.cells #[.int .u64 0, .int .u64 0, .int .i64 0, .int .i64 0] 127 (0, 0))) := Lib.hid (by subst hwb; exact (((((But.set' _ _ _ _).trans (But.set' _ _ _ _)).trans (But.set' _ _ _ _)).trans (But.set' _ _ _ _)).row HGA.out (by omega)))
  have HSB : Hid (w.heap.size + 1 < wb.heap.size) := Lib.hid (lt_of_cell_some m0.out)
  rw [hwb]
  clear hwb k0 k1 k2 k3 f0 f1 f2 f3
  have WK : Hid (∀ w', Below wb.heap.size wb w' → (w'.cell? ⟨w.heap.size + 1, 0, none⟩ = some (.int .u64 x1) ∧ w'.cell? ⟨w.heap.size + 1, 1, none⟩ = some (.int .u64 x2) ∧ w'.cell? ⟨w.heap.size + 1, 2, none⟩ = some (.int .i64 x3) ∧ w'.cell? ⟨w.heap.size + 1, 3, none⟩ = some (.int .i64 x4)) ∧ (∀ i, i < l.length → w'.cell? ⟨B, off + i, none⟩ = some (.int .u8 (l.getD i 0 : Nat))) ∧ w'.heap[w.heap.size]? = some (.cells #[.int .u64 0, .int .u64 0, .int .i64 0, .int .i64 0] 127 (0, 0)) ∧ Below w.heap.size w w') := Lib.hid fun w' h =>
    ⟨⟨(h.cell (lt_of_cell_some m0.out)).trans m0.out, (h.cell (lt_of_cell_some m1.out)).trans m1.out, (h.cell (lt_of_cell_some m2.out)).trans m2.out, (h.cell (lt_of_cell_some m3.out)).trans m3.out⟩, fun i hi => (((kbT HBB.out h)).cell (lt_of_cell_some (HCS.out i hi))).trans (HCS.out i hi), (h.block _ (by have := HSB.out; omega)).trans HGB.out, kbT HBB.out h⟩
  have hap := run_arrayAt B off cap
  refine wp_region_held_drew (S := fun w' => Below wb.heap.size wb w') (by kernel_rfl) ((Below.refl _ _).drew) (fun H0 => ?_)
  refine wpAnyH_take (i := 0) (oi := { dst := some 10, op := Go.Op.load 127 (Go.Operand.tmp 4), type := 127, pos := "frame.go:57", after := #[], guard := none }) (v := ?_) rfl (by kernel_rfl) (by kernel_rfl) (by kernel_rfl) (fun _ _ _ h => h) (Or.inl ⟨by rfl, ?_⟩) H0 ?_
  rotate_left
  focus (intro w' hSw; (try dsimp only at hSw); obtain ⟨⟨q0, q1, q2, q3⟩, -, -, -⟩ := WK.out _ hSw; go_simp; (try with_reducible rfl))
  simp only [Act.put, List.setIfInBounds_toArray, List.set_cons_zero, List.set_cons_succ]
  refine wpAnyH_ready (rs := [1]) (by kernel_rfl) (by simp) ?_
  refine AllReadyH.cons (o := { dst := some 11, op := Go.Op.call { callee := Go.Callee.value (Go.Operand.func 135), args := #[Go.Operand.tmp 10], argTypes := #[127] }, type := 25, pos := "frame.go:57", after := #[{ on := 0, ground := Go.Ground.data }], guard := none }) rfl (fun K hK => ?_) ?_
  rotate_left
  exact AllReadyH.nil
  go_simp
  (go_at_call 135; (with_reducible refine (CC.out _).mono ?_); rintro e wd ⟨rfl, hd⟩)
  try go_wp2_with fail
  refine hK.out _ _ (kbT H0 hd) (fun Hd => ?_)
  clear hK K
  try simp only [Act.put, List.setIfInBounds_toArray, List.set_cons_zero, List.set_cons_succ]
  refine wpAnyH_take (i := 2) (oi := { dst := some 12, op := Go.Op.binOp Go.BinOp.neq 25 (Go.Operand.tmp 11) (Go.Operand.const (Go.Value.int Go.IntKind.i64 0)) 25, type := 4, pos := "frame.go:57", after := #[{ on := 1, ground := Go.Ground.data }], guard := none }) (v := ?_) rfl (by kernel_rfl) (by kernel_rfl) (by kernel_rfl) (fun _ _ _ h => h) (Or.inl ⟨by rfl, ?_⟩) Hd ?_
  rotate_left
  focus (intro w' hSw; (try dsimp only at hSw); go_simp; (try with_reducible rfl))
  simp only [Act.put, List.setIfInBounds_toArray, List.set_cons_zero, List.set_cons_succ]
  refine wpAnyH_take (i := 3) (oi := { dst := some 13, op := Go.Op.move (Go.Operand.tmp 12), type := 4, pos := "frame.go:57", after := #[{ on := 2, ground := Go.Ground.data }, { on := 1, ground := Go.Ground.chain }], guard := none }) (v := ?_) rfl (by kernel_rfl) (by kernel_rfl) (by kernel_rfl) (fun _ _ _ h => h) (Or.inl ⟨by rfl, ?_⟩) Hd ?_
  rotate_left
  focus (intro w' hSw; (try dsimp only at hSw); go_simp; (try with_reducible rfl))
  simp only [Act.put, List.setIfInBounds_toArray, List.set_cons_zero, List.set_cons_succ]
  refine wpAnyH_take (i := 4) (oi := { dst := some 14, op := Go.Op.load 127 (Go.Operand.tmp 4), type := 127, pos := "frame.go:57", after := #[{ on := 3, ground := Go.Ground.guard }], guard := some (3, false) }) (v := ?_) rfl (by kernel_rfl) (by kernel_rfl) (by kernel_rfl) (fun _ _ _ h => h) (Or.inl ⟨by rfl, ?_⟩) Hd ?_
  rotate_left
  focus (intro w' hSw; (try dsimp only at hSw); obtain ⟨⟨q0, q1, q2, q3⟩, -, -, -⟩ := WK.out _ hSw; go_simp; (try with_reducible rfl))
  simp only [Act.put, List.setIfInBounds_toArray, List.set_cons_zero, List.set_cons_succ]
  refine wpAnyH_take (i := 6) (oi := { dst := some 16, op := Go.Op.move (Go.Operand.tmp 0), type := 49, pos := "frame.go:57", after := #[{ on := 3, ground := Go.Ground.guard }], guard := some (3, false) }) (v := ?_) rfl (by kernel_rfl) (by kernel_rfl) (by kernel_rfl) (fun _ _ _ h => h) (Or.inl ⟨by rfl, ?_⟩) Hd ?_
  rotate_left
  focus (intro w' hSw; (try dsimp only at hSw); go_simp; (try with_reducible rfl))
  simp only [Act.put, List.setIfInBounds_toArray, List.set_cons_zero, List.set_cons_succ]
  refine wpAnyH_take (i := 7) (oi := { dst := some 17, op := Go.Op.sliceToArrayPointer 187 (Go.Operand.tmp 16), type := 0, pos := "frame.go:57", after := #[{ on := 6, ground := Go.Ground.data }, { on := 3, ground := Go.Ground.guard }], guard := some (3, false) }) (v := ?_) rfl (by kernel_rfl) (by kernel_rfl) (by kernel_rfl) (fun _ _ _ h => h) (Or.inl ⟨by rfl, ?_⟩) Hd ?_
  rotate_left
  focus (intro w' hSw; (try dsimp only at hSw); go_simp; (try with_reducible rfl))
  simp only [Act.put, List.setIfInBounds_toArray, List.set_cons_zero, List.set_cons_succ]
  refine wpAnyH_take (i := 8) (oi := { dst := some 18, op := Go.Op.load 187 (Go.Operand.tmp 17), type := 187, pos := "frame.go:57", after := #[{ on := 7, ground := Go.Ground.data }, { on := 3, ground := Go.Ground.guard }], guard := some (3, false) }) (v := .agg (secA l)) rfl (by kernel_rfl) (by kernel_rfl) (by kernel_rfl) (fun _ _ _ h => h) (Or.inl ⟨by rfl, fun w' hSw => exec_load_sec (x := .tmp 17) rfl rfl HL.out (WK.out _ hSw).2.1⟩) Hd ?_
  simp only [Act.put, List.setIfInBounds_toArray, List.set_cons_zero, List.set_cons_succ]
  refine wpAnyH_ready (rs := [5]) (by kernel_rfl) (by simp) ?_
  refine AllReadyH.cons (o := { dst := some 15, op := Go.Op.call { callee := Go.Callee.value (Go.Operand.func 136), args := #[Go.Operand.tmp 14], argTypes := #[127] }, type := 187, pos := "frame.go:57", after := #[{ on := 4, ground := Go.Ground.data }, { on := 3, ground := Go.Ground.chain }, { on := 3, ground := Go.Ground.guard }], guard := some (3, false) }) rfl (fun K hK => ?_) ?_
  rotate_left
  exact AllReadyH.nil
  go_simp
  (go_at_call 136; (with_reducible refine (CH.out _).mono ?_); rintro e we ⟨rfl, he'⟩)
  try go_wp2_with fail
  refine hK.out _ _ (kbT Hd he') (fun He => ?_)
  clear hK K
  try simp only [Act.put, List.setIfInBounds_toArray, List.set_cons_zero, List.set_cons_succ]
  refine wpAnyH_take (i := 9) (oi := { dst := some 19, op := Go.Op.binOp Go.BinOp.neq 187 (Go.Operand.tmp 15) (Go.Operand.tmp 18) 187, type := 4, pos := "frame.go:57", after := #[{ on := 5, ground := Go.Ground.data }, { on := 8, ground := Go.Ground.data }, { on := 3, ground := Go.Ground.guard }], guard := some (3, false) }) (v := ?_) rfl (by kernel_rfl) (by kernel_rfl) (by kernel_rfl) (fun _ _ _ h => h) (Or.inl ⟨by rfl, ?_⟩) He ?_
  rotate_left
  focus (intro w' hSw; (try dsimp only at hSw); go_simp; (try with_reducible rfl))
  simp only [Act.put, List.setIfInBounds_toArray, List.set_cons_zero, List.set_cons_succ]
  refine wpAnyH_take (i := 10) (oi := { dst := some 20, op := Go.Op.pick (Go.Operand.tmp 13) (Go.Operand.const (Go.Value.bool true)) (Go.Operand.tmp 19), type := 4, pos := "frame.go:57", after := #[{ on := 3, ground := Go.Ground.data }, { on := 9, ground := Go.Ground.data }], guard := none }) (v := ?_) rfl (by kernel_rfl) (by kernel_rfl) (by kernel_rfl) (fun _ _ _ h => h) (Or.inl ⟨by rfl, ?_⟩) He ?_
  rotate_left
  focus (intro w' hSw; (try dsimp only at hSw); go_simp; (try with_reducible rfl))
  simp only [Act.put, List.setIfInBounds_toArray, List.set_cons_zero, List.set_cons_succ]
  refine wpAnyH_done (by kernel_rfl) ?_ _
  have hg2 := (WK.out _ He).2.2.1
  have HX := Lib.hid (WK.out _ He).2.2.2
  have z0 := row_cell (i := 0) hg2 rfl
  have z1 := row_cell (i := 1) hg2 rfl
  have z2 := row_cell (i := 2) hg2 rfl
  have z3 := row_cell (i := 3) hg2 rfl
  have y0 := row_frozen (i := 0) hg2
  have y1 := row_frozen (i := 1) hg2
  have y2 := row_frozen (i := 2) hg2
  have y3 := row_frozen (i := 3) hg2
  clear hg2
  go_wp2
  go_step3
  refine ⟨rfl, HJ.out _ _ ?_⟩
  go_wp2
  simp only [Exit.noGoto_ret]
  refine bodyPost_ret (v := .tuple #[headV 0 0 0 0, .int .i64 150]) ?_ rfl ⟨rfl, ?_⟩
  · simp [results, Tryz.results118, go_sem, headV, z0, z1, z2, z3]
  · exact (((HX.out.setCell (Nat.le_refl _) _).setCell (Nat.le_refl _) _).setCell (Nat.le_refl _) _).setCell (Nat.le_refl _) _
set_option maxRecDepth 100000 in
set_option maxHeartbeats 4000000 in
theorem decodeHead_yes (l : List Nat) (p : Option Addr) (cap : Nat) (w : World) (hl : l.length = 64) (hcap : 64 ≤ cap) (hc0 : cap ≤ 9223372036854775807) (hb : ∀ b ∈ l, b < 256) (hc : BytesAt w p l) (hh : headOk (hN l) (hC l) = true) (hq : headL (hS l) (hE l) (hN l) (hC l) = l) :
    Calls Tryz.prog 118 #[.slice p 64 cap] w fun r w' => r = .returned (.tuple #[headV (hS l) (hE l) (hN l) (hC l), .int .i64 0]) ∧ Below w.heap.size w w' := by
  have CR := Lib.hid fun (w' : World) (hb' : Below w.heap.size w w') => readHead_any l p cap w' hl hcap hc0 hb (bytesAt_below hc hb')
  have CC := Lib.hid (checkHead_any (hS l) (hE l) (hN l) (hC l))
  rw [hh] at CC
  simp only [if_true] at CC
  have hbb := head_bounds hh
  have CH := Lib.hid (headSector_any (hS l) (hE l) (hN l) (hC l) (foldN_lt' hb) (foldN_lt' (fun b h => hb b (List.mem_of_mem_drop h))) (by omega) (by omega))
  have hle := eqi_sec (headL_length (hS l) (hE l) (hN l) (hC l)) hl (headL_byte (hS l) (hE l) (hN l) (hC l)) hb
  rw [decide_eq_true hq] at hle
  generalize headL (hS l) (hE l) (hN l) (hC l) = ll at *
  have hle2 := fun x y w => eqg_sec ll l x y .neq w
  clear hh hbb hq
  change Hid (∀ w', Below w.heap.size w w' → Calls Tryz.prog 134 #[.slice p 64 cap] w' fun r w2 => r = .returned (.agg #[.int .u64 (hS l : Nat), .int .u64 (hE l : Nat), .int .i64 (hN l : Nat), .int .i64 (hC l : Nat)]) ∧ Below w'.heap.size w' w2) at CR
  generalize hS l = x1 at *
  generalize hE l = x2 at *
  generalize hN l = x3 at *
  generalize hC l = x4 at *
  obtain ⟨B, off, rfl, hcs⟩ := bytesAt_lt hc (fun h => by subst h; simp at hl)
  have HCS := Lib.hid hcs
  have HL := Lib.hid hl
  clear hcs hb hc hl
  go_enter Tryz.func118, Tryz.ntmps118
  go_wp2
  refine wp_scope_fwd 0 rfl fun J HJ => ?_
  go_upto_region 3 with fail
  obtain ⟨w0, hw0⟩ : ∃ w0, (w.alloc (.cells #[.int .u64 0, .int .u64 0, .int .i64 0, .int .i64 0] 127)).alloc (.cells #[.int .u64 0, .int .u64 0, .int .i64 0, .int .i64 0] 127) = w0 := ⟨_, rfl⟩
  have HB0 : Hid (Below w.heap.size w w0) := Lib.hid (by subst hw0; exact ((Below.refl _ _).alloc (Nat.le_refl _) _).alloc (by simp) _)
  have HG0 : Hid (w0.heap[w.heap.size]? = some (.cells #[.int .u64 0, .int .u64 0, .int .i64 0, .int .i64 0] 127 (0, 0))) := Lib.hid (by subst hw0; exact (((Below.refl _ _).alloc (Nat.le_refl _) _).block _ (by simp)).trans (heap_alloc_last w _))
  have HG1 : Hid (w0.heap[w.heap.size + 1]? = some (.cells #[.int .u64 0, .int .u64 0, .int .i64 0, .int .i64 0] 127 (0, 0))) := Lib.hid (by subst hw0; have := heap_alloc_last (w.alloc (.cells #[.int .u64 0, .int .u64 0, .int .i64 0, .int .i64 0] 127)) (.cells #[.int .u64 0, .int .u64 0, .int .i64 0, .int .i64 0] 127); rw [World.size_alloc] at this; exact this)
  have HS0 : Hid (w0.heap.size = w.heap.size + 2) := Lib.hid (by subst hw0; simp)
  rw [hw0]
  clear hw0
  go_upto_region 4 with (go_at_call 134; refine (CR.out _ HB0.out).mono ?_; rintro e wa ⟨rfl, hba⟩; have HBA := Lib.hid hba; have hg0 := (hba.block _ (by rw [HS0.out]; omega)).trans HG0.out; have hg1 := (hba.block _ (by rw [HS0.out]; omega)).trans HG1.out; have k0 := row_cell (i := 0) hg1 rfl; have k1 := row_cell (i := 1) hg1 rfl; have k2 := row_cell (i := 2) hg1 rfl; have k3 := row_cell (i := 3) hg1 rfl; have f0 := row_frozen (i := 0) hg1; have f1 := row_frozen (i := 1) hg1; have f2 := row_frozen (i := 2) hg1; have f3 := row_frozen (i := 3) hg1; have HGA := Lib.hid hg0; have HSA := Lib.hid hba.size; clear hg0 hg1 hba)
  obtain ⟨wb, hwb⟩ : ∃ wb, (((wa.setCell ⟨w.heap.size + 1, 0, none⟩ (.int .u64 x1)).setCell ⟨w.heap.size + 1, 1, none⟩ (.int .u64 x2)).setCell ⟨w.heap.size + 1, 2, none⟩ (.int .i64 x3)).setCell ⟨w.heap.size + 1, 3, none⟩ (.int .i64 x4) = wb := ⟨_, rfl⟩
  have m0 : Hid (wb.cell? ⟨w.heap.size + 1, 0, none⟩ = some (.int .u64 x1)) := Lib.hid (by subst hwb; go_cell)
  have m1 : Hid (wb.cell? ⟨w.heap.size + 1, 1, none⟩ = some (.int .u64 x2)) := Lib.hid (by subst hwb; go_cell)
  have m2 : Hid (wb.cell? ⟨w.heap.size + 1, 2, none⟩ = some (.int .i64 x3)) := Lib.hid (by subst hwb; go_cell)
  have m3 : Hid (wb.cell? ⟨w.heap.size + 1, 3, none⟩ = some (.int .i64 x4)) := Lib.hid (by subst hwb; go_cell)
  have HBB : Hid (Below w.heap.size w wb) := Lib.hid (by subst hwb; exact ((((HB0.out.trans (HBA.out.mono (by rw [HS0.out]; omega))).setCell (Nat.le_succ _) _).setCell (Nat.le_succ _) _).setCell (Nat.le_succ _) _).setCell (Nat.le_succ _) _)
  have HGB : Hid (wb.heap[w.heap.size]? = some (.cells #[.int .u64 0, .int .u64 0, .int .i64 0, .int .i64 0] 127 (0, 0))) := Lib.hid (by subst hwb; exact (((((But.set' _ _ _ _).trans (But.set' _ _ _ _)).trans (But.set' _ _ _ _)).trans (But.set' _ _ _ _)).row HGA.out (by omega)))
  have HSB : Hid (w.heap.size + 1 < wb.heap.size) := Lib.hid (lt_of_cell_some m0.out)
  rw [hwb]
  clear hwb k0 k1 k2 k3 f0 f1 f2 f3
  have WK : Hid (∀ w', Below wb.heap.size wb w' → (w'.cell? ⟨w.heap.size + 1, 0, none⟩ = some (.int .u64 x1) ∧ w'.cell? ⟨w.heap.size + 1, 1, none⟩ = some (.int .u64 x2) ∧ w'.cell? ⟨w.heap.size + 1, 2, none⟩ = some (.int .i64 x3) ∧ w'.cell? ⟨w.heap.size + 1, 3, none⟩ = some (.int .i64 x4)) ∧ (∀ i, i < l.length → w'.cell? ⟨B, off + i, none⟩ = some (.int .u8 (l.getD i 0 : Nat))) ∧ w'.heap[w.heap.size]? = some (.cells #[.int .u64 0, .int .u64 0, .int .i64 0, .int .i64 0] 127 (0, 0)) ∧ Below w.heap.size w w') := Lib.hid fun w' h =>
    ⟨⟨(h.cell (lt_of_cell_some m0.out)).trans m0.out, (h.cell (lt_of_cell_some m1.out)).trans m1.out, (h.cell (lt_of_cell_some m2.out)).trans m2.out, (h.cell (lt_of_cell_some m3.out)).trans m3.out⟩, fun i hi => (((kbT HBB.out h)).cell (lt_of_cell_some (HCS.out i hi))).trans (HCS.out i hi), (h.block _ (by have := HSB.out; omega)).trans HGB.out, kbT HBB.out h⟩
  have hap := run_arrayAt B off cap
  refine wp_region_held_drew (S := fun w' => Below wb.heap.size wb w') (by kernel_rfl) ((Below.refl _ _).drew) (fun H0 => ?_)
  refine wpAnyH_take (i := 0) (oi := { dst := some 10, op := Go.Op.load 127 (Go.Operand.tmp 4), type := 127, pos := "frame.go:57", after := #[], guard := none }) (v := ?_) rfl (by kernel_rfl) (by kernel_rfl) (by kernel_rfl) (fun _ _ _ h => h) (Or.inl ⟨by rfl, ?_⟩) H0 ?_
  rotate_left
  focus (intro w' hSw; (try dsimp only at hSw); obtain ⟨⟨q0, q1, q2, q3⟩, -, -, -⟩ := WK.out _ hSw; go_simp; (try with_reducible rfl))
  simp only [Act.put, List.setIfInBounds_toArray, List.set_cons_zero, List.set_cons_succ]
  refine wpAnyH_ready (rs := [1]) (by kernel_rfl) (by simp) ?_
  refine AllReadyH.cons (o := { dst := some 11, op := Go.Op.call { callee := Go.Callee.value (Go.Operand.func 135), args := #[Go.Operand.tmp 10], argTypes := #[127] }, type := 25, pos := "frame.go:57", after := #[{ on := 0, ground := Go.Ground.data }], guard := none }) rfl (fun K hK => ?_) ?_
  rotate_left
  exact AllReadyH.nil
  go_simp
  (go_at_call 135; (with_reducible refine (CC.out _).mono ?_); rintro e wd ⟨rfl, hd⟩)
  try go_wp2_with fail
  refine hK.out _ _ (kbT H0 hd) (fun Hd => ?_)
  clear hK K
  try simp only [Act.put, List.setIfInBounds_toArray, List.set_cons_zero, List.set_cons_succ]
  refine wpAnyH_take (i := 2) (oi := { dst := some 12, op := Go.Op.binOp Go.BinOp.neq 25 (Go.Operand.tmp 11) (Go.Operand.const (Go.Value.int Go.IntKind.i64 0)) 25, type := 4, pos := "frame.go:57", after := #[{ on := 1, ground := Go.Ground.data }], guard := none }) (v := ?_) rfl (by kernel_rfl) (by kernel_rfl) (by kernel_rfl) (fun _ _ _ h => h) (Or.inl ⟨by rfl, ?_⟩) Hd ?_
  rotate_left
  focus (intro w' hSw; (try dsimp only at hSw); go_simp; (try with_reducible rfl))
  simp only [Act.put, List.setIfInBounds_toArray, List.set_cons_zero, List.set_cons_succ]
  refine wpAnyH_take (i := 3) (oi := { dst := some 13, op := Go.Op.move (Go.Operand.tmp 12), type := 4, pos := "frame.go:57", after := #[{ on := 2, ground := Go.Ground.data }, { on := 1, ground := Go.Ground.chain }], guard := none }) (v := ?_) rfl (by kernel_rfl) (by kernel_rfl) (by kernel_rfl) (fun _ _ _ h => h) (Or.inl ⟨by rfl, ?_⟩) Hd ?_
  rotate_left
  focus (intro w' hSw; (try dsimp only at hSw); go_simp; (try with_reducible rfl))
  simp only [Act.put, List.setIfInBounds_toArray, List.set_cons_zero, List.set_cons_succ]
  refine wpAnyH_take (i := 4) (oi := { dst := some 14, op := Go.Op.load 127 (Go.Operand.tmp 4), type := 127, pos := "frame.go:57", after := #[{ on := 3, ground := Go.Ground.guard }], guard := some (3, false) }) (v := ?_) rfl (by kernel_rfl) (by kernel_rfl) (by kernel_rfl) (fun _ _ _ h => h) (Or.inl ⟨by rfl, ?_⟩) Hd ?_
  rotate_left
  focus (intro w' hSw; (try dsimp only at hSw); obtain ⟨⟨q0, q1, q2, q3⟩, -, -, -⟩ := WK.out _ hSw; go_simp; (try with_reducible rfl))
  simp only [Act.put, List.setIfInBounds_toArray, List.set_cons_zero, List.set_cons_succ]
  refine wpAnyH_take (i := 6) (oi := { dst := some 16, op := Go.Op.move (Go.Operand.tmp 0), type := 49, pos := "frame.go:57", after := #[{ on := 3, ground := Go.Ground.guard }], guard := some (3, false) }) (v := ?_) rfl (by kernel_rfl) (by kernel_rfl) (by kernel_rfl) (fun _ _ _ h => h) (Or.inl ⟨by rfl, ?_⟩) Hd ?_
  rotate_left
  focus (intro w' hSw; (try dsimp only at hSw); go_simp; (try with_reducible rfl))
  simp only [Act.put, List.setIfInBounds_toArray, List.set_cons_zero, List.set_cons_succ]
  refine wpAnyH_take (i := 7) (oi := { dst := some 17, op := Go.Op.sliceToArrayPointer 187 (Go.Operand.tmp 16), type := 0, pos := "frame.go:57", after := #[{ on := 6, ground := Go.Ground.data }, { on := 3, ground := Go.Ground.guard }], guard := some (3, false) }) (v := ?_) rfl (by kernel_rfl) (by kernel_rfl) (by kernel_rfl) (fun _ _ _ h => h) (Or.inl ⟨by rfl, ?_⟩) Hd ?_
  rotate_left
  focus (intro w' hSw; (try dsimp only at hSw); go_simp; (try with_reducible rfl))
  simp only [Act.put, List.setIfInBounds_toArray, List.set_cons_zero, List.set_cons_succ]
  refine wpAnyH_take (i := 8) (oi := { dst := some 18, op := Go.Op.load 187 (Go.Operand.tmp 17), type := 187, pos := "frame.go:57", after := #[{ on := 7, ground := Go.Ground.data }, { on := 3, ground := Go.Ground.guard }], guard := some (3, false) }) (v := .agg (secA l)) rfl (by kernel_rfl) (by kernel_rfl) (by kernel_rfl) (fun _ _ _ h => h) (Or.inl ⟨by rfl, fun w' hSw => exec_load_sec (x := .tmp 17) rfl rfl HL.out (WK.out _ hSw).2.1⟩) Hd ?_
  simp only [Act.put, List.setIfInBounds_toArray, List.set_cons_zero, List.set_cons_succ]
  refine wpAnyH_ready (rs := [5]) (by kernel_rfl) (by simp) ?_
  refine AllReadyH.cons (o := { dst := some 15, op := Go.Op.call { callee := Go.Callee.value (Go.Operand.func 136), args := #[Go.Operand.tmp 14], argTypes := #[127] }, type := 187, pos := "frame.go:57", after := #[{ on := 4, ground := Go.Ground.data }, { on := 3, ground := Go.Ground.chain }, { on := 3, ground := Go.Ground.guard }], guard := some (3, false) }) rfl (fun K hK => ?_) ?_
  rotate_left
  exact AllReadyH.nil
  go_simp
  (go_at_call 136; (with_reducible refine (CH.out _).mono ?_); rintro e we ⟨rfl, he'⟩)
  try go_wp2_with fail
  refine hK.out _ _ (kbT Hd he') (fun He => ?_)
  clear hK K
  try simp only [Act.put, List.setIfInBounds_toArray, List.set_cons_zero, List.set_cons_succ]
  refine wpAnyH_take (i := 9) (oi := { dst := some 19, op := Go.Op.binOp Go.BinOp.neq 187 (Go.Operand.tmp 15) (Go.Operand.tmp 18) 187, type := 4, pos := "frame.go:57", after := #[{ on := 5, ground := Go.Ground.data }, { on := 8, ground := Go.Ground.data }, { on := 3, ground := Go.Ground.guard }], guard := some (3, false) }) (v := ?_) rfl (by kernel_rfl) (by kernel_rfl) (by kernel_rfl) (fun _ _ _ h => h) (Or.inl ⟨by rfl, ?_⟩) He ?_
  rotate_left
  focus (intro w' hSw; (try dsimp only at hSw); go_simp; (try with_reducible rfl))
  simp only [Act.put, List.setIfInBounds_toArray, List.set_cons_zero, List.set_cons_succ]
  refine wpAnyH_take (i := 10) (oi := { dst := some 20, op := Go.Op.pick (Go.Operand.tmp 13) (Go.Operand.const (Go.Value.bool true)) (Go.Operand.tmp 19), type := 4, pos := "frame.go:57", after := #[{ on := 3, ground := Go.Ground.data }, { on := 9, ground := Go.Ground.data }], guard := none }) (v := ?_) rfl (by kernel_rfl) (by kernel_rfl) (by kernel_rfl) (fun _ _ _ h => h) (Or.inl ⟨by rfl, ?_⟩) He ?_
  rotate_left
  focus (intro w' hSw; (try dsimp only at hSw); go_simp; (try with_reducible rfl))
  simp only [Act.put, List.setIfInBounds_toArray, List.set_cons_zero, List.set_cons_succ]
  refine wpAnyH_done (by kernel_rfl) ?_ _
  have hg2 := (WK.out _ He).2.2.1
  have HX := Lib.hid (WK.out _ He).2.2.2
  have z0 := row_cell (i := 0) hg2 rfl
  have z1 := row_cell (i := 1) hg2 rfl
  have z2 := row_cell (i := 2) hg2 rfl
  have z3 := row_cell (i := 3) hg2 rfl
  have y0 := row_frozen (i := 0) hg2
  have y1 := row_frozen (i := 1) hg2
  have y2 := row_frozen (i := 2) hg2
  have y3 := row_frozen (i := 3) hg2
  clear hg2
  have hk := (WK.out _ He).1
  obtain ⟨q0, q1, q2, q3⟩ := hk
  go_wp2
  simp only [Exit.jump]
  refine bodyPost_ret (v := .tuple #[headV x1 x2 x3 x4, .int .i64 0]) ?_ rfl ⟨rfl, ?_⟩
  · simp [results, Tryz.results118, go_sem, headV, z0, z1, z2, z3]
  · exact (((HX.out.setCell (Nat.le_refl _) _).setCell (Nat.le_refl _) _).setCell (Nat.le_refl _) _).setCell (Nat.le_refl _) _
theorem decodeHead_any (l : List Nat) (p : Option Addr) (cap : Nat) (w : World) (hcap : l.length ≤ cap) (hc0 : cap ≤ 9223372036854775807) (hb : ∀ b ∈ l, b < 256) (hc : BytesAt w p l) :
    Calls Tryz.prog 118 #[.slice p l.length cap] w fun r w' => r = .returned (.tuple #[decV l, .int .i64 (decX l)]) ∧ Below w.heap.size w w' := by
  unfold decV decX isHead
  by_cases hl : l.length = 64
  · cases hh : headOk (hN l) (hC l) with
    | false =>
      simp only [hl, decide_true, Bool.true_and, Bool.false_and, Bool.false_eq_true, if_false]
      exact decodeHead_no l p cap w hl (by omega) hc0 hb hc hh
    | true =>
      by_cases hq : headL (hS l) (hE l) (hN l) (hC l) = l
      · simp only [hl, hq, decide_true, Bool.true_and, if_true]
        exact decodeHead_yes l p cap w hl (by omega) hc0 hb hc hh hq
      · simp only [hl, hq, decide_true, decide_false, Bool.true_and, Bool.false_eq_true, if_false]
        exact decodeHead_other l p cap w hl (by omega) hc0 hb hc hh hq
  · simp only [hl, decide_false, Bool.false_and, Bool.false_eq_true, if_false]
    exact decodeHead_long l p cap w hl
end Go.Proofs.YtdanigigjainjaaGreat
namespace Go.Proofs.YtdanigigjainjaaGreat
open Go.RowKit Go.Shelf
set_option maxRecDepth 100000
set_option maxHeartbeats 1000000

end Go.Proofs.YtdanigigjainjaaGreat
namespace Go.Proofs.YtdanigigjainjaaGreat
open Go.RowKit Go.Shelf
set_option maxRecDepth 100000
set_option maxHeartbeats 1000000

/-- A frame, as a value. -/
def frameV (E i p : Int) (cm : Bool) (n k : Int) (q : Option Addr) (ln cp : Nat) : Value := .agg #[.int .u64 E, .int .i64 i, .int .i64 p, .bool cm, .int .i64 n, .int .u32 k, .slice q ln cp]
def mostOf (cm : Bool) : Int := if cm then 2000 else 0
def frameOk (i p : Int) (cm : Bool) (n : Int) (ln : Nat) : Bool := decide (0 ≤ i) && decide (i ≤ 2000) && decide (0 ≤ p) && decide (p ≤ 2000) && decide (0 ≤ n) && decide (n ≤ mostOf cm) && decide (ln = 512)
theorem frame_bounds {i p n : Int} {cm : Bool} {ln : Nat} (h : frameOk i p cm n ln = true) : 0 ≤ i ∧ i ≤ 2000 ∧ 0 ≤ p ∧ p ≤ 2000 ∧ 0 ≤ n ∧ n ≤ mostOf cm ∧ n ≤ 2000 ∧ ln = 512 := by
  simp only [frameOk, Bool.and_eq_true, decide_eq_true_eq] at h
  have : mostOf cm ≤ 2000 := by unfold mostOf; split <;> omega
  omega
theorem refuse_frame (i p n : Int) (cm : Bool) (ln : Nat) : refuseE 2 [(i, 0, 2000), (p, 0, 2000), (n, 0, mostOf cm), ((ln : Int), 512, 512)] = if frameOk i p cm n ln then 0 else 2 := by
  unfold refuseE frameOk spanOk
  simp only [List.all_cons, List.all_nil, Bool.and_true, ← Bool.and_assoc]
  congr 2
  rw [Bool.and_assoc]
  congr 1
  rw [Bool.eq_iff_iff]
  simp only [Bool.and_eq_true, decide_eq_true_eq]
  omega
theorem spans_four {w : World} {q : Nat} {a b c d e f g h i j k l : Int} (c0 : w.cell? ⟨q, 0, none⟩ = some (.int .i64 a)) (c1 : w.cell? ⟨q, 1, none⟩ = some (.int .i64 b)) (c2 : w.cell? ⟨q, 2, none⟩ = some (.int .i64 c)) (d0 : w.cell? ⟨q, 3, none⟩ = some (.int .i64 d)) (d1 : w.cell? ⟨q, 4, none⟩ = some (.int .i64 e)) (d2 : w.cell? ⟨q, 5, none⟩ = some (.int .i64 f))
    (e0 : w.cell? ⟨q, 6, none⟩ = some (.int .i64 g)) (e1 : w.cell? ⟨q, 7, none⟩ = some (.int .i64 h)) (e2 : w.cell? ⟨q, 8, none⟩ = some (.int .i64 i)) (f0 : w.cell? ⟨q, 9, none⟩ = some (.int .i64 j)) (f1 : w.cell? ⟨q, 10, none⟩ = some (.int .i64 k)) (f2 : w.cell? ⟨q, 11, none⟩ = some (.int .i64 l)) : SpansAt w q [(a, b, c), (d, e, f), (g, h, i), (j, k, l)] := by
  intro m s h
  match m with
  | 0 => injection h with h; subst h; exact ⟨c0, c1, c2⟩
  | 1 => injection h with h; subst h; exact ⟨d0, d1, d2⟩
  | 2 => injection h with h; subst h; exact ⟨e0, e1, e2⟩
  | 3 => injection h with h; subst h; exact ⟨f0, f1, f2⟩
  | m + 4 => cases h
set_option maxRecDepth 100000 in
set_option maxHeartbeats 3000000 in
theorem checkFrame_any (E i p : Int) (cm : Bool) (n k : Int) (q : Option Addr) (ln cp : Nat) (w : World) : Calls Tryz.prog 138 #[frameV E i p cm n k q ln cp] w fun r w' => r = .returned (.int .i64 (if frameOk i p cm n ln then 0 else 2)) ∧ Below w.heap.size w w' := by
  have C := Lib.hid fun (q : Nat) (w : World) h => refusal_any 2 [(i, 0, 2000), (p, 0, 2000), (n, 0, mostOf cm), ((ln : Int), 512, 512)] q 4 w (by simp) h
  rw [refuse_frame] at C
  generalize (if frameOk i p cm n ln then (0 : Int) else 2) = R at *
  unfold frameV
  cases cm
  · change Hid (∀ q w, Hid (SpansAt w q [(i, 0, 2000), (p, 0, 2000), (n, 0, 0), ((ln : Int), 512, 512)]) → _) at C
    go_enter Tryz.func138, Tryz.ntmps138
    go_wp2_with (go_at_call 115; refine (C.out _ _ (Lib.hid (spans_four (by go_cell) (by go_cell) (by go_cell) (by go_cell) (by go_cell) (by go_cell) (by go_cell) (by go_cell) (by go_cell) (by go_cell) (by go_cell) (by go_cell)))).mono ?_; rintro e w' ⟨rfl, hb⟩)
    go_ret
    exact ⟨rfl, (((Below.refl _ _).alloc (Nat.le_refl _) _).alloc (by simp) _).trans (hb.mono (by simp; omega))⟩
  · change Hid (∀ q w, Hid (SpansAt w q [(i, 0, 2000), (p, 0, 2000), (n, 0, 2000), ((ln : Int), 512, 512)]) → _) at C
    go_enter Tryz.func138, Tryz.ntmps138
    go_wp2_with (go_at_call 115; refine (C.out _ _ (Lib.hid (spans_four (by go_cell) (by go_cell) (by go_cell) (by go_cell) (by go_cell) (by go_cell) (by go_cell) (by go_cell) (by go_cell) (by go_cell) (by go_cell) (by go_cell)))).mono ?_; rintro e w' ⟨rfl, hb⟩)
    go_ret
    exact ⟨rfl, (((Below.refl _ _).alloc (Nat.le_refl _) _).alloc (by simp) _).trans (hb.mono (by simp; omega))⟩
theorem frameParts_made (E i p : Nat) (cm : Bool) (n k : Nat) (hE : E < 2 ^ 64) (hi : i < 4294967296) (hp : p < 4294967296) (hn : n < 4294967296) (hk : k < 4294967296) (q : Option Addr) (cap : Nat) (w : World) :
    Calls Tryz.prog 191 #[.agg #[.int .u64 E, .int .i64 i, .int .i64 p, .bool cm, .int .i64 n, .int .u32 k, .slice q 512 cap]] w fun r w' => r = .returned (.map (some (w.heap.size + 1))) ∧ Below w.heap.size w w' ∧ PartsOk w' (w.heap.size + 1) w.heap.size (framePs E i p cm n k) := by
  refine (frameParts_any E i p cm n k q 512 cap w).mono ?_
  rintro e w' ⟨rfl, rfl⟩
  refine ⟨rfl, ((Below.refl _ _).alloc (Nat.le_refl _) _).alloc (by simp) _, frameParts_ok E i p cm n k hE hi hp hn hk _ _ _ (by go_cell) (by go_cell) (by go_cell) (by go_cell) (by go_cell) (by go_cell) ?_⟩
  have := heap_alloc_last (w.alloc (.cells #[.int .u64 E, .int .i64 i, .int .i64 p, .bool cm, .int .i64 n, .int .u32 k, .slice q 512 cap] 156)) (.map (frameE6 w.heap.size) 6)
  rw [World.size_alloc] at this
  exact this
def frameB (E i p : Nat) (cm : Bool) (n k : Nat) : List Nat := partsL (framePs E i p cm n k)
/-- What stands in a frame's first sector, ahead of the noughts. -/
def frameC (E i p : Nat) (cm : Bool) (n k : Nat) (bs : List Nat) : List Nat := frameB E i p cm n k ++ fixE 4 (~~~ sumN (frameB E i p cm n k ++ bs)).toNat
theorem frameB_length (E i p : Nat) (cm : Bool) (n k : Nat) : (frameB E i p cm n k).length = 25 := by simp [frameB, partsL, framePs, fixE_length, oneL_length]
theorem frameC_length (E i p : Nat) (cm : Bool) (n k : Nat) (bs : List Nat) : (frameC E i p cm n k bs).length = 29 := by simp [frameC, frameB_length, fixE_length]
theorem frameB_byte (E i p : Nat) (cm : Bool) (n k : Nat) : ∀ b ∈ frameB E i p cm n k, b < 256 := by
  intro b hb
  simp only [frameB, partsL, framePs, List.map_cons, List.map_nil, List.flatten_cons, List.flatten_nil, List.append_nil, List.mem_append] at hb
  rcases hb with h | h | h | h | h | h
  · exact fixE_byte _ _ b h
  · exact fixE_byte _ _ b h
  · exact fixE_byte _ _ b h
  · exact oneL_byte _ b h
  · exact fixE_byte _ _ b h
  · exact fixE_byte _ _ b h
theorem frameC_byte (E i p : Nat) (cm : Bool) (n k : Nat) (bs : List Nat) : ∀ b ∈ frameC E i p cm n k bs, b < 256 := by
  intro b hb
  rcases List.mem_append.1 hb with h | h
  · exact frameB_byte _ _ _ _ _ _ b h
  · exact fixE_byte _ _ b h
theorem names6 {w : World} {q : Nat} {a b c d e f : Nat × Nat × List Nat} (h0 : w.cell? ⟨q, 0, none⟩ = some (.int .i64 (a.1 : Int))) (h1 : w.cell? ⟨q, 1, none⟩ = some (.int .i64 (b.1 : Int))) (h2 : w.cell? ⟨q, 2, none⟩ = some (.int .i64 (c.1 : Int))) (h3 : w.cell? ⟨q, 3, none⟩ = some (.int .i64 (d.1 : Int))) (h4 : w.cell? ⟨q, 4, none⟩ = some (.int .i64 (e.1 : Int))) (h5 : w.cell? ⟨q, 5, none⟩ = some (.int .i64 (f.1 : Int))) : NamesAt w q [a, b, c, d, e, f] := by
  intro k x hx
  match k with
  | 0 => injection hx with hx; subst hx; exact h0
  | 1 => injection hx with hx; subst hx; exact h1
  | 2 => injection hx with hx; subst hx; exact h2
  | 3 => injection hx with hx; subst hx; exact h3
  | 4 => injection hx with hx; subst hx; exact h4
  | 5 => injection hx with hx; subst hx; exact h5
  | k + 6 => simp at hx
set_option maxRecDepth 100000 in
set_option maxHeartbeats 2000000 in
theorem summed_any (E i p : Nat) (cm : Bool) (n k : Nat) (hE : E < 2 ^ 64) (hi : i < 4294967296) (hp : p < 4294967296) (hn : n < 4294967296) (hk : k < 4294967296) (q : Option Addr) (cap : Nat) (w : World) :
    Calls Tryz.prog 168 #[.agg #[.int .u64 E, .int .i64 i, .int .i64 p, .bool cm, .int .i64 n, .int .u32 k, .slice q 512 cap]] w fun r w' => ∃ t, r = .returned t ∧ RowB w (frameB E i p cm n k) t w' := by
  have CP := Lib.hid (frameParts_made E i p cm n k hE hi hp hn hk q cap)
  have LA := Lib.hid fun M A q cap w => laid_any (framePs E i p cm n k) M A q cap w (by simp [framePs])
  have HPS : Hid (∀ (w : World) (q : Nat), w.cell? ⟨q, 0, none⟩ = some (.int .i64 1) → w.cell? ⟨q, 1, none⟩ = some (.int .i64 2) → w.cell? ⟨q, 2, none⟩ = some (.int .i64 3) → w.cell? ⟨q, 3, none⟩ = some (.int .i64 4) → w.cell? ⟨q, 4, none⟩ = some (.int .i64 5) → w.cell? ⟨q, 5, none⟩ = some (.int .i64 7) → NamesAt w q (framePs E i p cm n k)) := Lib.hid fun w q h0 h1 h2 h3 h4 h5 => names6 h0 h1 h2 h3 h4 h5
  change Hid (∀ M A q cap w, _ → _ → Calls Tryz.prog 162 #[.map (some M), .slice (some ⟨q, 0, none⟩) 6 cap] w fun r w' => ∃ t, r = .returned t ∧ RowB w (frameB E i p cm n k) t w') at LA
  generalize frameB E i p cm n k = lb at *
  go_enter Tryz.func168, Tryz.ntmps168
  go_upto_region 1 with fail
  obtain ⟨w1, hw1⟩ : ∃ w1, w.alloc (.cells #[.int .u64 E, .int .i64 i, .int .i64 p, .bool cm, .int .i64 n, .int .u32 k, .slice q 512 cap] 156) = w1 := ⟨_, rfl⟩
  have HB1 : Hid (Below w.heap.size w w1) := Lib.hid (by subst hw1; exact (Below.refl _ _).alloc (Nat.le_refl _) _)
  have k0 : w1.cell? ⟨w.heap.size, 0, none⟩ = some (.int .u64 E) := by subst hw1; go_cell
  have k1 : w1.cell? ⟨w.heap.size, 1, none⟩ = some (.int .i64 i) := by subst hw1; go_cell
  have k2 : w1.cell? ⟨w.heap.size, 2, none⟩ = some (.int .i64 p) := by subst hw1; go_cell
  have k3 : w1.cell? ⟨w.heap.size, 3, none⟩ = some (.bool cm) := by subst hw1; go_cell
  have k4 : w1.cell? ⟨w.heap.size, 4, none⟩ = some (.int .i64 n) := by subst hw1; go_cell
  have k5 : w1.cell? ⟨w.heap.size, 5, none⟩ = some (.int .u32 k) := by subst hw1; go_cell
  have k6 : w1.cell? ⟨w.heap.size, 6, none⟩ = some (.slice q 512 cap) := by subst hw1; go_cell
  rw [hw1]
  clear hw1
  go_wp2_with (first
    | (go_at_call 191; refine (CP.out _).mono ?_; rintro e wa ⟨rfl, hb1, hpo⟩; have B1 := Lib.hid (kbT HB1.out hb1); have HPO := Lib.hid hpo; clear hb1 hpo)
    | (go_at_call 162; refine (LA.out _ _ _ _ _ (Lib.hid (HPO.out.below ((Below.refl _ _).alloc (Nat.le_refl _) _))) (Lib.hid (HPS.out _ _ (by go_cell) (by go_cell) (by go_cell) (by go_cell) (by go_cell) (by go_cell)))).mono ?_; rintro e wb ⟨t, rfl, hr⟩))
  go_ret
  exact ⟨_, rfl, hr.grow (B1.out.alloc B1.out.size _)⟩
set_option maxRecDepth 100000 in
set_option maxHeartbeats 4000000 in
theorem frameSum_any (E i p : Nat) (cm : Bool) (n k : Nat) (hE : E < 2 ^ 64) (hi : i < 4294967296) (hp : p < 4294967296) (hn : n < 4294967296) (hk : k < 4294967296) (q : Option Addr) (cap : Nat) (bs : List Nat) (hbl : bs.length = 512) (hbb : ∀ b ∈ bs, b < 256) (w : World) (hbs : BytesAt w q bs) :
    Calls Tryz.prog 140 #[.agg #[.int .u64 E, .int .i64 i, .int .i64 p, .bool cm, .int .i64 n, .int .u32 k, .slice q 512 cap]] w fun r w' => r = .returned (.int .u32 (~~~ sumN (frameB E i p cm n k ++ bs)).toNat) ∧ Below w.heap.size w w' := by
  have CS := Lib.hid (summed_any E i p cm n k hE hi hp hn hk q cap)
  have HBS := Lib.hid fun (w' : World) (h : Below w.heap.size w w') => bytesAt_below hbs h
  have hlen := frameB_length E i p cm n k
  have hbyt := frameB_byte E i p cm n k
  generalize frameB E i p cm n k = lb at *
  have CT := Lib.hid fun pp cp (w : World) h1 h2 => sum_two lb bs pp q cp cap w (by omega) (by omega) hbyt hbb h1 h2
  rw [hbl] at CT
  generalize (~~~ sumN (lb ++ bs)).toNat = sb at *
  clear hlen hbyt hbs hbb hE hi hp hn hk
  go_enter Tryz.func140, Tryz.ntmps140
  go_upto_region 1 with fail
  obtain ⟨w1, hw1⟩ : ∃ w1, w.alloc (.cells #[.int .u64 E, .int .i64 i, .int .i64 p, .bool cm, .int .i64 n, .int .u32 k, .slice q 512 cap] 156) = w1 := ⟨_, rfl⟩
  have HB1 : Hid (Below w.heap.size w w1) := Lib.hid (by subst hw1; exact (Below.refl _ _).alloc (Nat.le_refl _) _)
  have HCL : Hid (∀ w', Below w1.heap.size w1 w' → w'.cell? ⟨w.heap.size, 0, none⟩ = some (.int .u64 E) ∧ w'.cell? ⟨w.heap.size, 1, none⟩ = some (.int .i64 i) ∧ w'.cell? ⟨w.heap.size, 2, none⟩ = some (.int .i64 p) ∧ w'.cell? ⟨w.heap.size, 3, none⟩ = some (.bool cm) ∧ w'.cell? ⟨w.heap.size, 4, none⟩ = some (.int .i64 n) ∧ w'.cell? ⟨w.heap.size, 5, none⟩ = some (.int .u32 k) ∧ w'.cell? ⟨w.heap.size, 6, none⟩ = some (.slice q 512 cap)) := Lib.hid fun w' h => by
    have k0 : w1.cell? ⟨w.heap.size, 0, none⟩ = some (.int .u64 E) := by subst hw1; go_cell
    have k1 : w1.cell? ⟨w.heap.size, 1, none⟩ = some (.int .i64 i) := by subst hw1; go_cell
    have k2 : w1.cell? ⟨w.heap.size, 2, none⟩ = some (.int .i64 p) := by subst hw1; go_cell
    have k3 : w1.cell? ⟨w.heap.size, 3, none⟩ = some (.bool cm) := by subst hw1; go_cell
    have k4 : w1.cell? ⟨w.heap.size, 4, none⟩ = some (.int .i64 n) := by subst hw1; go_cell
    have k5 : w1.cell? ⟨w.heap.size, 5, none⟩ = some (.int .u32 k) := by subst hw1; go_cell
    have k6 : w1.cell? ⟨w.heap.size, 6, none⟩ = some (.slice q 512 cap) := by subst hw1; go_cell
    exact ⟨(h.cell (lt_of_cell_some k0)).trans k0, (h.cell (lt_of_cell_some k1)).trans k1, (h.cell (lt_of_cell_some k2)).trans k2, (h.cell (lt_of_cell_some k3)).trans k3, (h.cell (lt_of_cell_some k4)).trans k4, (h.cell (lt_of_cell_some k5)).trans k5, (h.cell (lt_of_cell_some k6)).trans k6⟩
  rw [hw1]
  clear hw1
  refine wp_region_held_drew (S := fun w' => Below w1.heap.size w1 w') (by kernel_rfl) ((Below.refl _ _).drew) (fun H0 => ?_)
  obtain ⟨wd, hwd⟩ : ∃ wd, w1.drew = wd := ⟨_, rfl⟩
  rw [hwd] at H0 ⊢
  clear hwd
  refine wpAnyH_take (i := 0) (oi := { dst := some 3, op := Go.Op.load 156 (Go.Operand.tmp 1), type := 156, pos := "part.go:90", after := #[], guard := none }) (v := ?_) rfl (by kernel_rfl) (by kernel_rfl) (by kernel_rfl) (fun _ _ _ h => h) (Or.inl ⟨by rfl, ?_⟩) H0 ?_
  rotate_left
  focus (intro w' hSw; (try dsimp only at hSw); obtain ⟨k0, k1, k2, k3, k4, k5, k6⟩ := HCL.out _ hSw; go_simp; (try with_reducible rfl))
  simp only [Act.put, List.setIfInBounds_toArray, List.set_cons_zero, List.set_cons_succ]
  refine wpAnyH_take (i := 2) (oi := { dst := some 5, op := Go.Op.fieldAddr 156 (Go.Operand.tmp 1) 6, type := 0, pos := "part.go:90", after := #[], guard := none }) (v := ?_) rfl (by kernel_rfl) (by kernel_rfl) (by kernel_rfl) (fun _ _ _ h => h) (Or.inl ⟨by rfl, ?_⟩) H0 ?_
  rotate_left
  focus (intro w' hSw; (try dsimp only at hSw); go_simp; (try with_reducible rfl))
  simp only [Act.put, List.setIfInBounds_toArray, List.set_cons_zero, List.set_cons_succ]
  refine wpAnyH_take (i := 3) (oi := { dst := some 6, op := Go.Op.load 49 (Go.Operand.tmp 5), type := 49, pos := "part.go:90", after := #[{ on := 2, ground := Go.Ground.data }], guard := none }) (v := ?_) rfl (by kernel_rfl) (by kernel_rfl) (by kernel_rfl) (fun _ _ _ h => h) (Or.inl ⟨by rfl, ?_⟩) H0 ?_
  rotate_left
  focus (intro w' hSw; (try dsimp only at hSw); obtain ⟨k0, k1, k2, k3, k4, k5, k6⟩ := HCL.out _ hSw; go_simp; (try with_reducible rfl))
  simp only [Act.put, List.setIfInBounds_toArray, List.set_cons_zero, List.set_cons_succ]
  refine wpAnyH_ready (rs := [1]) (by kernel_rfl) (by simp) ?_
  refine AllReadyH.cons (o := { dst := some 4, op := Go.Op.call { callee := Go.Callee.value (Go.Operand.func 168), args := #[Go.Operand.tmp 3], argTypes := #[156] }, type := 49, pos := "part.go:90", after := #[{ on := 0, ground := Go.Ground.data }], guard := none }) rfl (fun K hK => ?_) ?_
  rotate_left
  exact AllReadyH.nil
  go_simp
  (go_at_call 168; (with_reducible refine (CS.out _).mono ?_); rintro e wa ⟨t, rfl, hr⟩)
  try go_wp2_with fail
  obtain ⟨pp, cp, rfl, -, -, hby, -⟩ := hr.at2
  refine hK.out _ _ (kbT H0 hr.2) (fun Ha => ?_)
  clear hK K
  try simp only [Act.put, List.setIfInBounds_toArray, List.set_cons_zero, List.set_cons_succ]
  refine wpAnyH_ready (rs := [4]) (by kernel_rfl) (by simp) ?_
  refine AllReadyH.cons (o := { dst := some 7, op := Go.Op.buildSlice 230 2 #[(0, Go.Operand.tmp 4), (1, Go.Operand.tmp 6)], type := 230, pos := "part.go:90", after := #[{ on := 1, ground := Go.Ground.data }, { on := 3, ground := Go.Ground.data }], guard := none }) rfl (fun K hK => ?_) ?_
  rotate_left
  exact AllReadyH.nil
  go_simp
  obtain ⟨wb, hwb⟩ : ∃ wb, wa.alloc (.cells #[.slice pp lb.length cp, .slice q 512 cap] 49) = wb := ⟨_, rfl⟩
  have hbw : Below wa.heap.size wa wb := by subst hwb; exact (Below.refl _ _).alloc (Nat.le_refl _) _
  rw [hwb]
  refine hK.out _ _ (kbT Ha hbw) (fun Hb => ?_)
  clear hK K
  try simp only [Act.put, List.setIfInBounds_toArray, List.set_cons_zero, List.set_cons_succ]
  refine wpAnyH_ready (rs := [5]) (by kernel_rfl) (by simp) ?_
  refine AllReadyH.cons (o := { dst := some 8, op := Go.Op.call { callee := Go.Callee.value (Go.Operand.func 164), args := #[Go.Operand.tmp 7], argTypes := #[230] }, type := 39, pos := "part.go:90", after := #[{ on := 4, ground := Go.Ground.data }, { on := 1, ground := Go.Ground.chain }], guard := none }) rfl (fun K hK => ?_) ?_
  rotate_left
  exact AllReadyH.nil
  go_simp
  have c53 := CT.out pp cp wa hby (HBS.out _ (kbT HB1.out Ha))
  rw [hwb] at c53
  (go_at_call 164; (with_reducible refine c53.mono ?_); rintro e wc ⟨rfl, hc53⟩)
  try go_wp2_with fail
  have hc54 : Below wa.heap.size wa wc := hbw.trans (hc53.mono (Nat.le_succ _))
  refine hK.out _ _ (kbT Ha hc54) (fun Hc => ?_)
  clear hK K
  try simp only [Act.put, List.setIfInBounds_toArray, List.set_cons_zero, List.set_cons_succ]
  refine wpAnyH_take (i := 6) (oi := { dst := some 2, op := Go.Op.assign (Go.Operand.tmp 8), type := 39, pos := "part.go:90", after := #[{ on := 5, ground := Go.Ground.data }, { on := 5, ground := Go.Ground.chain }, { on := 0, ground := Go.Ground.phase }, { on := 1, ground := Go.Ground.phase }, { on := 2, ground := Go.Ground.phase }, { on := 3, ground := Go.Ground.phase }, { on := 4, ground := Go.Ground.phase }, { on := 5, ground := Go.Ground.phase }], guard := none }) (v := ?_) rfl (by kernel_rfl) (by kernel_rfl) (by kernel_rfl) (fun _ _ _ h => h) (Or.inl ⟨by rfl, ?_⟩) Hc ?_
  rotate_left
  focus (intro w' hSw; (try dsimp only at hSw); go_simp; (try with_reducible rfl))
  simp only [Act.put, List.setIfInBounds_toArray, List.set_cons_zero, List.set_cons_succ]
  refine wpAnyH_done (by kernel_rfl) ?_ _
  go_wp2_with fail
  go_ret
  exact ⟨rfl, kbT HB1.out Hc⟩
end Go.Proofs.YtdanigigjainjaaGreat
