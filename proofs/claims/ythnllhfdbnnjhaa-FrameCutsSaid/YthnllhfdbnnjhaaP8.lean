/- Package frame: a head's parts, a frame's parts. -/
import Derived.Test.YthnllhfdbnnjhaaP7
namespace Go.Proofs.Ythnllhfdbnnjhaa
open Go.RowKit Go.Shelf Go.MapKept

/-- A truth's byte. -/
def oneL : Bool → List Nat
  | true => [1]
  | false => [0]
theorem oneL_length (b : Bool) : (oneL b).length = 1 := by cases b <;> rfl
theorem oneL_byte (b : Bool) : ∀ x ∈ oneL b, x < 256 := by cases b <;> simp [oneL]
theorem hmf (fn : Fn) (first cap : Array Value) (w : World) : (Instr.makeFunc fn first cap).run Try.prog w = .ok (.func fn first cap) w := rfl
set_option maxRecDepth 100000 in
theorem one_any (b : Bool) (w : World) : Calls Try.prog 86 #[.bool b] w fun r w' => ∃ t, r = .returned t ∧ RowB w (oneL b) t w' := by
  cases b
  · go_enter Try.func86, Try.ntmps86
    go_wp2
    go_ret
    exact ⟨_, rfl, ⟨⟨rfl, .inr ⟨w.heap.size, 1, _, rfl, Nat.le_refl _, heap_alloc_last _ _, Nat.le_refl _, by unfold maxLen; omega, rfl, rfl⟩⟩, (Below.refl _ _).alloc (Nat.le_refl _) _⟩⟩
  · go_enter Try.func86, Try.ntmps86
    go_wp2
    go_ret
    exact ⟨_, rfl, ⟨⟨rfl, .inr ⟨w.heap.size, 1, _, rfl, Nat.le_refl _, heap_alloc_last _ _, Nat.le_refl _, by unfold maxLen; omega, rfl, rfl⟩⟩, (Below.refl _ _).alloc (Nat.le_refl _) _⟩⟩
set_option maxRecDepth 100000 in
theorem clo64 (A N : Nat) (hN : N < 2 ^ 64) (w : World) (hc : w.cell? ⟨A, 0, none⟩ = some (.int .u64 N)) : Calls Try.prog 64 #[.pointer (some ⟨A, 0, none⟩)] w fun r w' => ∃ t, r = .returned t ∧ RowB w (fixE 8 N) t w' := by
  have C := Lib.hid (eight_any N w hN)
  go_enter Try.func64, Try.ntmps64
  go_wp2_with (go_at_call 65; refine C.out.mono ?_; rintro e w' ⟨t, rfl, hr⟩)
  go_ret
  exact ⟨_, rfl, hr⟩
set_option maxRecDepth 100000 in
theorem clo66 (A N : Nat) (hN : N < 2 ^ 64) (w : World) (hc : w.cell? ⟨A, 1, none⟩ = some (.int .u64 N)) : Calls Try.prog 66 #[.pointer (some ⟨A, 0, none⟩)] w fun r w' => ∃ t, r = .returned t ∧ RowB w (fixE 8 N) t w' := by
  have C := Lib.hid (eight_any N w hN)
  go_enter Try.func66, Try.ntmps66
  go_wp2_with (go_at_call 65; refine C.out.mono ?_; rintro e w' ⟨t, rfl, hr⟩)
  go_ret
  exact ⟨_, rfl, hr⟩
set_option maxRecDepth 100000 in
theorem clo67 (A N : Nat) (hN : N < 4294967296) (w : World) (hc : w.cell? ⟨A, 2, none⟩ = some (.int .i64 N)) : Calls Try.prog 67 #[.pointer (some ⟨A, 0, none⟩)] w fun r w' => ∃ t, r = .returned t ∧ RowB w (fixE 4 N) t w' := by
  have C := Lib.hid (smallFour_any N hN w)
  go_enter Try.func67, Try.ntmps67
  go_wp2_with (go_at_call 68; refine C.out.mono ?_; rintro e w' ⟨t, rfl, hr⟩)
  go_ret
  exact ⟨_, rfl, hr⟩
set_option maxRecDepth 100000 in
theorem clo69 (A N : Nat) (hN : N < 4294967296) (w : World) (hc : w.cell? ⟨A, 3, none⟩ = some (.int .i64 N)) : Calls Try.prog 69 #[.pointer (some ⟨A, 0, none⟩)] w fun r w' => ∃ t, r = .returned t ∧ RowB w (fixE 4 N) t w' := by
  have C := Lib.hid (smallFour_any N hN w)
  go_enter Try.func69, Try.ntmps69
  go_wp2_with (go_at_call 68; refine C.out.mono ?_; rintro e w' ⟨t, rfl, hr⟩)
  go_ret
  exact ⟨_, rfl, hr⟩
set_option maxRecDepth 100000 in
theorem clo82 (A N : Nat) (hN : N < 2 ^ 64) (w : World) (hc : w.cell? ⟨A, 0, none⟩ = some (.int .u64 N)) : Calls Try.prog 82 #[.pointer (some ⟨A, 0, none⟩)] w fun r w' => ∃ t, r = .returned t ∧ RowB w (fixE 8 N) t w' := by
  have C := Lib.hid (eight_any N w hN)
  go_enter Try.func82, Try.ntmps82
  go_wp2_with (go_at_call 65; refine C.out.mono ?_; rintro e w' ⟨t, rfl, hr⟩)
  go_ret
  exact ⟨_, rfl, hr⟩
set_option maxRecDepth 100000 in
theorem clo83 (A N : Nat) (hN : N < 4294967296) (w : World) (hc : w.cell? ⟨A, 1, none⟩ = some (.int .i64 N)) : Calls Try.prog 83 #[.pointer (some ⟨A, 0, none⟩)] w fun r w' => ∃ t, r = .returned t ∧ RowB w (fixE 4 N) t w' := by
  have C := Lib.hid (smallFour_any N hN w)
  go_enter Try.func83, Try.ntmps83
  go_wp2_with (go_at_call 68; refine C.out.mono ?_; rintro e w' ⟨t, rfl, hr⟩)
  go_ret
  exact ⟨_, rfl, hr⟩
set_option maxRecDepth 100000 in
theorem clo84 (A N : Nat) (hN : N < 4294967296) (w : World) (hc : w.cell? ⟨A, 2, none⟩ = some (.int .i64 N)) : Calls Try.prog 84 #[.pointer (some ⟨A, 0, none⟩)] w fun r w' => ∃ t, r = .returned t ∧ RowB w (fixE 4 N) t w' := by
  have C := Lib.hid (smallFour_any N hN w)
  go_enter Try.func84, Try.ntmps84
  go_wp2_with (go_at_call 68; refine C.out.mono ?_; rintro e w' ⟨t, rfl, hr⟩)
  go_ret
  exact ⟨_, rfl, hr⟩
set_option maxRecDepth 100000 in
theorem clo85 (A : Nat) (b : Bool) (w : World) (hc : w.cell? ⟨A, 3, none⟩ = some (.bool b)) : Calls Try.prog 85 #[.pointer (some ⟨A, 0, none⟩)] w fun r w' => ∃ t, r = .returned t ∧ RowB w (oneL b) t w' := by
  have C := Lib.hid (one_any b w)
  go_enter Try.func85, Try.ntmps85
  go_wp2_with (go_at_call 86; refine C.out.mono ?_; rintro e w' ⟨t, rfl, hr⟩)
  go_ret
  exact ⟨_, rfl, hr⟩
set_option maxRecDepth 100000 in
theorem clo87 (A N : Nat) (hN : N < 4294967296) (w : World) (hc : w.cell? ⟨A, 4, none⟩ = some (.int .i64 N)) : Calls Try.prog 87 #[.pointer (some ⟨A, 0, none⟩)] w fun r w' => ∃ t, r = .returned t ∧ RowB w (fixE 4 N) t w' := by
  have C := Lib.hid (smallFour_any N hN w)
  go_enter Try.func87, Try.ntmps87
  go_wp2_with (go_at_call 68; refine C.out.mono ?_; rintro e w' ⟨t, rfl, hr⟩)
  go_ret
  exact ⟨_, rfl, hr⟩
set_option maxRecDepth 100000 in
theorem clo88 (A N : Nat) (hN : N < 4294967296) (w : World) (hc : w.cell? ⟨A, 5, none⟩ = some (.int .u32 N)) : Calls Try.prog 88 #[.pointer (some ⟨A, 0, none⟩)] w fun r w' => ∃ t, r = .returned t ∧ RowB w (fixE 4 N) t w' := by
  have C := Lib.hid (four_any N w hN)
  go_enter Try.func88, Try.ntmps88
  go_wp2_with (go_at_call 52; refine C.out.mono ?_; rintro e w' ⟨t, rfl, hr⟩)
  go_ret
  exact ⟨_, rfl, hr⟩
def headE1 (A : Nat) : Array MapEntry := #[{ key := .int .i64 0, val := .func (.func 64) #[] #[.pointer (some ⟨A, 0, none⟩)], born := 0 }]
def headE2 (A : Nat) : Array MapEntry := #[{ key := .int .i64 0, val := .func (.func 64) #[] #[.pointer (some ⟨A, 0, none⟩)], born := 0 }, { key := .int .i64 1, val := .func (.func 66) #[] #[.pointer (some ⟨A, 0, none⟩)], born := 1 }]
def headE3 (A : Nat) : Array MapEntry := #[{ key := .int .i64 0, val := .func (.func 64) #[] #[.pointer (some ⟨A, 0, none⟩)], born := 0 }, { key := .int .i64 1, val := .func (.func 66) #[] #[.pointer (some ⟨A, 0, none⟩)], born := 1 }, { key := .int .i64 5, val := .func (.func 67) #[] #[.pointer (some ⟨A, 0, none⟩)], born := 2 }]
def headE4 (A : Nat) : Array MapEntry := #[{ key := .int .i64 0, val := .func (.func 64) #[] #[.pointer (some ⟨A, 0, none⟩)], born := 0 }, { key := .int .i64 1, val := .func (.func 66) #[] #[.pointer (some ⟨A, 0, none⟩)], born := 1 }, { key := .int .i64 5, val := .func (.func 67) #[] #[.pointer (some ⟨A, 0, none⟩)], born := 2 }, { key := .int .i64 6, val := .func (.func 69) #[] #[.pointer (some ⟨A, 0, none⟩)], born := 3 }]
theorem headE_put1 (A : Nat) (w : World) : (Instr.mapUpdate 98 (.map (some w.heap.size)) (.int .i64 0) (.func (.func 64) #[] #[.pointer (some ⟨A, 0, none⟩)])).run Try.prog (w.alloc (.map #[] 0)) = .ok () (w.alloc (.map (headE1 A) 1)) :=
  put_new w (d := .int .i64) Try.underlying98 Try.underlying101 #[] 0 _ _ rfl (by kernel_rfl)
theorem headE_put2 (A : Nat) (w : World) : (Instr.mapUpdate 98 (.map (some w.heap.size)) (.int .i64 1) (.func (.func 66) #[] #[.pointer (some ⟨A, 0, none⟩)])).run Try.prog (w.alloc (.map (headE1 A) 1)) = .ok () (w.alloc (.map (headE2 A) 2)) :=
  put_new w (d := .int .i64) Try.underlying98 Try.underlying101 (headE1 A) 1 _ _ rfl (by kernel_rfl)
theorem headE_put3 (A : Nat) (w : World) : (Instr.mapUpdate 98 (.map (some w.heap.size)) (.int .i64 5) (.func (.func 67) #[] #[.pointer (some ⟨A, 0, none⟩)])).run Try.prog (w.alloc (.map (headE2 A) 2)) = .ok () (w.alloc (.map (headE3 A) 3)) :=
  put_new w (d := .int .i64) Try.underlying98 Try.underlying101 (headE2 A) 2 _ _ rfl (by kernel_rfl)
theorem headE_put4 (A : Nat) (w : World) : (Instr.mapUpdate 98 (.map (some w.heap.size)) (.int .i64 6) (.func (.func 69) #[] #[.pointer (some ⟨A, 0, none⟩)])).run Try.prog (w.alloc (.map (headE3 A) 3)) = .ok () (w.alloc (.map (headE4 A) 4)) :=
  put_new w (d := .int .i64) Try.underlying98 Try.underlying101 (headE3 A) 3 _ _ rfl (by kernel_rfl)
theorem headE_get0 (A M : Nat) (w : World) (h : w.heap[M]? = some (.map (headE4 A) 4)) : (Instr.lookup 98 (.map (some M)) (.int .i64 0) false).run Try.prog w = .ok (.func (.func 64) #[] #[.pointer (some ⟨A, 0, none⟩)]) w :=
  look_in w M (d := .int .i64) Try.underlying98 Try.underlying101 _ _ _ _ 0 rfl (by kernel_rfl) h
theorem headE_get1 (A M : Nat) (w : World) (h : w.heap[M]? = some (.map (headE4 A) 4)) : (Instr.lookup 98 (.map (some M)) (.int .i64 1) false).run Try.prog w = .ok (.func (.func 66) #[] #[.pointer (some ⟨A, 0, none⟩)]) w :=
  look_in w M (d := .int .i64) Try.underlying98 Try.underlying101 _ _ _ _ 1 rfl (by kernel_rfl) h
theorem headE_get5 (A M : Nat) (w : World) (h : w.heap[M]? = some (.map (headE4 A) 4)) : (Instr.lookup 98 (.map (some M)) (.int .i64 5) false).run Try.prog w = .ok (.func (.func 67) #[] #[.pointer (some ⟨A, 0, none⟩)]) w :=
  look_in w M (d := .int .i64) Try.underlying98 Try.underlying101 _ _ _ _ 2 rfl (by kernel_rfl) h
theorem headE_get6 (A M : Nat) (w : World) (h : w.heap[M]? = some (.map (headE4 A) 4)) : (Instr.lookup 98 (.map (some M)) (.int .i64 6) false).run Try.prog w = .ok (.func (.func 69) #[] #[.pointer (some ⟨A, 0, none⟩)]) w :=
  look_in w M (d := .int .i64) Try.underlying98 Try.underlying101 _ _ _ _ 3 rfl (by kernel_rfl) h
def frameE1 (A : Nat) : Array MapEntry := #[{ key := .int .i64 1, val := .func (.func 82) #[] #[.pointer (some ⟨A, 0, none⟩)], born := 0 }]
def frameE2 (A : Nat) : Array MapEntry := #[{ key := .int .i64 1, val := .func (.func 82) #[] #[.pointer (some ⟨A, 0, none⟩)], born := 0 }, { key := .int .i64 2, val := .func (.func 83) #[] #[.pointer (some ⟨A, 0, none⟩)], born := 1 }]
def frameE3 (A : Nat) : Array MapEntry := #[{ key := .int .i64 1, val := .func (.func 82) #[] #[.pointer (some ⟨A, 0, none⟩)], born := 0 }, { key := .int .i64 2, val := .func (.func 83) #[] #[.pointer (some ⟨A, 0, none⟩)], born := 1 }, { key := .int .i64 3, val := .func (.func 84) #[] #[.pointer (some ⟨A, 0, none⟩)], born := 2 }]
def frameE4 (A : Nat) : Array MapEntry := #[{ key := .int .i64 1, val := .func (.func 82) #[] #[.pointer (some ⟨A, 0, none⟩)], born := 0 }, { key := .int .i64 2, val := .func (.func 83) #[] #[.pointer (some ⟨A, 0, none⟩)], born := 1 }, { key := .int .i64 3, val := .func (.func 84) #[] #[.pointer (some ⟨A, 0, none⟩)], born := 2 }, { key := .int .i64 4, val := .func (.func 85) #[] #[.pointer (some ⟨A, 0, none⟩)], born := 3 }]
def frameE5 (A : Nat) : Array MapEntry := #[{ key := .int .i64 1, val := .func (.func 82) #[] #[.pointer (some ⟨A, 0, none⟩)], born := 0 }, { key := .int .i64 2, val := .func (.func 83) #[] #[.pointer (some ⟨A, 0, none⟩)], born := 1 }, { key := .int .i64 3, val := .func (.func 84) #[] #[.pointer (some ⟨A, 0, none⟩)], born := 2 }, { key := .int .i64 4, val := .func (.func 85) #[] #[.pointer (some ⟨A, 0, none⟩)], born := 3 }, { key := .int .i64 5, val := .func (.func 87) #[] #[.pointer (some ⟨A, 0, none⟩)], born := 4 }]
def frameE6 (A : Nat) : Array MapEntry := #[{ key := .int .i64 1, val := .func (.func 82) #[] #[.pointer (some ⟨A, 0, none⟩)], born := 0 }, { key := .int .i64 2, val := .func (.func 83) #[] #[.pointer (some ⟨A, 0, none⟩)], born := 1 }, { key := .int .i64 3, val := .func (.func 84) #[] #[.pointer (some ⟨A, 0, none⟩)], born := 2 }, { key := .int .i64 4, val := .func (.func 85) #[] #[.pointer (some ⟨A, 0, none⟩)], born := 3 }, { key := .int .i64 5, val := .func (.func 87) #[] #[.pointer (some ⟨A, 0, none⟩)], born := 4 }, { key := .int .i64 7, val := .func (.func 88) #[] #[.pointer (some ⟨A, 0, none⟩)], born := 5 }]
theorem frameE_put1 (A : Nat) (w : World) : (Instr.mapUpdate 98 (.map (some w.heap.size)) (.int .i64 1) (.func (.func 82) #[] #[.pointer (some ⟨A, 0, none⟩)])).run Try.prog (w.alloc (.map #[] 0)) = .ok () (w.alloc (.map (frameE1 A) 1)) :=
  put_new w (d := .int .i64) Try.underlying98 Try.underlying101 #[] 0 _ _ rfl (by kernel_rfl)
theorem frameE_put2 (A : Nat) (w : World) : (Instr.mapUpdate 98 (.map (some w.heap.size)) (.int .i64 2) (.func (.func 83) #[] #[.pointer (some ⟨A, 0, none⟩)])).run Try.prog (w.alloc (.map (frameE1 A) 1)) = .ok () (w.alloc (.map (frameE2 A) 2)) :=
  put_new w (d := .int .i64) Try.underlying98 Try.underlying101 (frameE1 A) 1 _ _ rfl (by kernel_rfl)
theorem frameE_put3 (A : Nat) (w : World) : (Instr.mapUpdate 98 (.map (some w.heap.size)) (.int .i64 3) (.func (.func 84) #[] #[.pointer (some ⟨A, 0, none⟩)])).run Try.prog (w.alloc (.map (frameE2 A) 2)) = .ok () (w.alloc (.map (frameE3 A) 3)) :=
  put_new w (d := .int .i64) Try.underlying98 Try.underlying101 (frameE2 A) 2 _ _ rfl (by kernel_rfl)
theorem frameE_put4 (A : Nat) (w : World) : (Instr.mapUpdate 98 (.map (some w.heap.size)) (.int .i64 4) (.func (.func 85) #[] #[.pointer (some ⟨A, 0, none⟩)])).run Try.prog (w.alloc (.map (frameE3 A) 3)) = .ok () (w.alloc (.map (frameE4 A) 4)) :=
  put_new w (d := .int .i64) Try.underlying98 Try.underlying101 (frameE3 A) 3 _ _ rfl (by kernel_rfl)
theorem frameE_put5 (A : Nat) (w : World) : (Instr.mapUpdate 98 (.map (some w.heap.size)) (.int .i64 5) (.func (.func 87) #[] #[.pointer (some ⟨A, 0, none⟩)])).run Try.prog (w.alloc (.map (frameE4 A) 4)) = .ok () (w.alloc (.map (frameE5 A) 5)) :=
  put_new w (d := .int .i64) Try.underlying98 Try.underlying101 (frameE4 A) 4 _ _ rfl (by kernel_rfl)
theorem frameE_put6 (A : Nat) (w : World) : (Instr.mapUpdate 98 (.map (some w.heap.size)) (.int .i64 7) (.func (.func 88) #[] #[.pointer (some ⟨A, 0, none⟩)])).run Try.prog (w.alloc (.map (frameE5 A) 5)) = .ok () (w.alloc (.map (frameE6 A) 6)) :=
  put_new w (d := .int .i64) Try.underlying98 Try.underlying101 (frameE5 A) 5 _ _ rfl (by kernel_rfl)
theorem frameE_get1 (A M : Nat) (w : World) (h : w.heap[M]? = some (.map (frameE6 A) 6)) : (Instr.lookup 98 (.map (some M)) (.int .i64 1) false).run Try.prog w = .ok (.func (.func 82) #[] #[.pointer (some ⟨A, 0, none⟩)]) w :=
  look_in w M (d := .int .i64) Try.underlying98 Try.underlying101 _ _ _ _ 0 rfl (by kernel_rfl) h
theorem frameE_get2 (A M : Nat) (w : World) (h : w.heap[M]? = some (.map (frameE6 A) 6)) : (Instr.lookup 98 (.map (some M)) (.int .i64 2) false).run Try.prog w = .ok (.func (.func 83) #[] #[.pointer (some ⟨A, 0, none⟩)]) w :=
  look_in w M (d := .int .i64) Try.underlying98 Try.underlying101 _ _ _ _ 1 rfl (by kernel_rfl) h
theorem frameE_get3 (A M : Nat) (w : World) (h : w.heap[M]? = some (.map (frameE6 A) 6)) : (Instr.lookup 98 (.map (some M)) (.int .i64 3) false).run Try.prog w = .ok (.func (.func 84) #[] #[.pointer (some ⟨A, 0, none⟩)]) w :=
  look_in w M (d := .int .i64) Try.underlying98 Try.underlying101 _ _ _ _ 2 rfl (by kernel_rfl) h
theorem frameE_get4 (A M : Nat) (w : World) (h : w.heap[M]? = some (.map (frameE6 A) 6)) : (Instr.lookup 98 (.map (some M)) (.int .i64 4) false).run Try.prog w = .ok (.func (.func 85) #[] #[.pointer (some ⟨A, 0, none⟩)]) w :=
  look_in w M (d := .int .i64) Try.underlying98 Try.underlying101 _ _ _ _ 3 rfl (by kernel_rfl) h
theorem frameE_get5 (A M : Nat) (w : World) (h : w.heap[M]? = some (.map (frameE6 A) 6)) : (Instr.lookup 98 (.map (some M)) (.int .i64 5) false).run Try.prog w = .ok (.func (.func 87) #[] #[.pointer (some ⟨A, 0, none⟩)]) w :=
  look_in w M (d := .int .i64) Try.underlying98 Try.underlying101 _ _ _ _ 4 rfl (by kernel_rfl) h
theorem frameE_get7 (A M : Nat) (w : World) (h : w.heap[M]? = some (.map (frameE6 A) 6)) : (Instr.lookup 98 (.map (some M)) (.int .i64 7) false).run Try.prog w = .ok (.func (.func 88) #[] #[.pointer (some ⟨A, 0, none⟩)]) w :=
  look_in w M (d := .int .i64) Try.underlying98 Try.underlying101 _ _ _ _ 5 rfl (by kernel_rfl) h
def headPs (S : Nat) (E : Nat) (n : Nat) (c : Nat) : List (Nat × Nat × List Nat) := [(0, 64, fixE 8 S), (1, 66, fixE 8 E), (5, 67, fixE 4 n), (6, 69, fixE 4 c)]
theorem headParts_ok (S : Nat) (E : Nat) (n : Nat) (c : Nat) (hS : S < 2 ^ 64) (hE : E < 2 ^ 64) (hn : n < 4294967296) (hc : c < 4294967296) (A M : Nat) (w : World) (cS : w.cell? ⟨A, 0, none⟩ = some (.int .u64 (S : Nat))) (cE : w.cell? ⟨A, 1, none⟩ = some (.int .u64 (E : Nat))) (cn : w.cell? ⟨A, 2, none⟩ = some (.int .i64 (n : Nat))) (cc : w.cell? ⟨A, 3, none⟩ = some (.int .i64 (c : Nat))) (hM : w.heap[M]? = some (.map (headE4 A) 4)) : PartsOk w M A (headPs S E n c) := by
  have hl : M < w.heap.size := (Array.getElem?_eq_some_iff.1 hM).1
  refine ⟨fun x hx wr hb => ?_, fun x hx wr hb => ?_, fun x hx => ?_, fun x hx => ?_⟩
  · simp only [headPs, List.mem_cons, List.not_mem_nil, or_false] at hx
    have hM2 := (hb.block M hl).trans hM
    rcases hx with rfl | rfl | rfl | rfl
    · exact headE_get0 A M wr hM2
    · exact headE_get1 A M wr hM2
    · exact headE_get5 A M wr hM2
    · exact headE_get6 A M wr hM2
  · simp only [headPs, List.mem_cons, List.not_mem_nil, or_false] at hx
    rcases hx with rfl | rfl | rfl | rfl
    · exact clo64 A S hS wr ((hb.cell (lt_of_cell_some cS)).trans cS)
    · exact clo66 A E hE wr ((hb.cell (lt_of_cell_some cE)).trans cE)
    · exact clo67 A n hn wr ((hb.cell (lt_of_cell_some cn)).trans cn)
    · exact clo69 A c hc wr ((hb.cell (lt_of_cell_some cc)).trans cc)
  · simp only [headPs, List.mem_cons, List.not_mem_nil, or_false] at hx
    rcases hx with rfl | rfl | rfl | rfl
    · exact enters_of Try.func64 (by kernel_rfl) rfl
    · exact enters_of Try.func66 (by kernel_rfl) rfl
    · exact enters_of Try.func67 (by kernel_rfl) rfl
    · exact enters_of Try.func69 (by kernel_rfl) rfl
  · simp only [headPs, List.mem_cons, List.not_mem_nil, or_false] at hx
    rcases hx with rfl | rfl | rfl | rfl <;> simp [fixE_length, oneL_length]
def framePs (E : Nat) (i : Nat) (p : Nat) (cm : Bool) (n : Nat) (k : Nat) : List (Nat × Nat × List Nat) := [(1, 82, fixE 8 E), (2, 83, fixE 4 i), (3, 84, fixE 4 p), (4, 85, oneL cm), (5, 87, fixE 4 n), (7, 88, fixE 4 k)]
theorem frameParts_ok (E : Nat) (i : Nat) (p : Nat) (cm : Bool) (n : Nat) (k : Nat) (hE : E < 2 ^ 64) (hi : i < 4294967296) (hp : p < 4294967296) (hn : n < 4294967296) (hk : k < 4294967296) (A M : Nat) (w : World) (cE : w.cell? ⟨A, 0, none⟩ = some (.int .u64 (E : Nat))) (ci : w.cell? ⟨A, 1, none⟩ = some (.int .i64 (i : Nat))) (cp : w.cell? ⟨A, 2, none⟩ = some (.int .i64 (p : Nat))) (ccm : w.cell? ⟨A, 3, none⟩ = some (.bool cm)) (cn : w.cell? ⟨A, 4, none⟩ = some (.int .i64 (n : Nat))) (ck : w.cell? ⟨A, 5, none⟩ = some (.int .u32 (k : Nat))) (hM : w.heap[M]? = some (.map (frameE6 A) 6)) : PartsOk w M A (framePs E i p cm n k) := by
  have hl : M < w.heap.size := (Array.getElem?_eq_some_iff.1 hM).1
  refine ⟨fun x hx wr hb => ?_, fun x hx wr hb => ?_, fun x hx => ?_, fun x hx => ?_⟩
  · simp only [framePs, List.mem_cons, List.not_mem_nil, or_false] at hx
    have hM2 := (hb.block M hl).trans hM
    rcases hx with rfl | rfl | rfl | rfl | rfl | rfl
    · exact frameE_get1 A M wr hM2
    · exact frameE_get2 A M wr hM2
    · exact frameE_get3 A M wr hM2
    · exact frameE_get4 A M wr hM2
    · exact frameE_get5 A M wr hM2
    · exact frameE_get7 A M wr hM2
  · simp only [framePs, List.mem_cons, List.not_mem_nil, or_false] at hx
    rcases hx with rfl | rfl | rfl | rfl | rfl | rfl
    · exact clo82 A E hE wr ((hb.cell (lt_of_cell_some cE)).trans cE)
    · exact clo83 A i hi wr ((hb.cell (lt_of_cell_some ci)).trans ci)
    · exact clo84 A p hp wr ((hb.cell (lt_of_cell_some cp)).trans cp)
    · exact clo85 A cm wr ((hb.cell (lt_of_cell_some ccm)).trans ccm)
    · exact clo87 A n hn wr ((hb.cell (lt_of_cell_some cn)).trans cn)
    · exact clo88 A k hk wr ((hb.cell (lt_of_cell_some ck)).trans ck)
  · simp only [framePs, List.mem_cons, List.not_mem_nil, or_false] at hx
    rcases hx with rfl | rfl | rfl | rfl | rfl | rfl
    · exact enters_of Try.func82 (by kernel_rfl) rfl
    · exact enters_of Try.func83 (by kernel_rfl) rfl
    · exact enters_of Try.func84 (by kernel_rfl) rfl
    · exact enters_of Try.func85 (by kernel_rfl) rfl
    · exact enters_of Try.func87 (by kernel_rfl) rfl
    · exact enters_of Try.func88 (by kernel_rfl) rfl
  · simp only [framePs, List.mem_cons, List.not_mem_nil, or_false] at hx
    rcases hx with rfl | rfl | rfl | rfl | rfl | rfl <;> simp [fixE_length, oneL_length]
set_option maxRecDepth 100000 in
set_option maxHeartbeats 1000000 in
theorem headParts_any (S E n c : Nat) (w : World) : Calls Try.prog 50 #[.agg #[.int .u64 (S : Nat), .int .u64 (E : Nat), .int .i64 (n : Nat), .int .i64 (c : Nat)]] w fun r w' => r = .returned (.map (some (w.heap.size + 1))) ∧ w' = (w.alloc (.cells #[.int .u64 (S : Nat), .int .u64 (E : Nat), .int .i64 (n : Nat), .int .i64 (c : Nat)] 38)).alloc (.map (headE4 w.heap.size) 4) := by
  have hmk := hmf
  have hmm := @run_makeMap Try.prog
  have p1 := headE_put1 w.heap.size (w.alloc (.cells #[.int .u64 (S : Nat), .int .u64 (E : Nat), .int .i64 (n : Nat), .int .i64 (c : Nat)] 38))
  have p2 := headE_put2 w.heap.size (w.alloc (.cells #[.int .u64 (S : Nat), .int .u64 (E : Nat), .int .i64 (n : Nat), .int .i64 (c : Nat)] 38))
  have p3 := headE_put3 w.heap.size (w.alloc (.cells #[.int .u64 (S : Nat), .int .u64 (E : Nat), .int .i64 (n : Nat), .int .i64 (c : Nat)] 38))
  have p4 := headE_put4 w.heap.size (w.alloc (.cells #[.int .u64 (S : Nat), .int .u64 (E : Nat), .int .i64 (n : Nat), .int .i64 (c : Nat)] 38))
  rw [World.size_alloc] at p1 p2 p3 p4
  go_enter Try.func50, Try.ntmps50
  go_wp2
  go_ret
  exact ⟨rfl, rfl⟩
set_option maxRecDepth 100000 in
set_option maxHeartbeats 1000000 in
theorem frameParts_any (E i p : Nat) (cm : Bool) (n k : Nat) (q : Option Addr) (ln cp : Nat) (w : World) : Calls Try.prog 77 #[.agg #[.int .u64 (E : Nat), .int .i64 (i : Nat), .int .i64 (p : Nat), .bool cm, .int .i64 (n : Nat), .int .u32 (k : Nat), .slice q ln cp]] w fun r w' => r = .returned (.map (some (w.heap.size + 1))) ∧ w' = (w.alloc (.cells #[.int .u64 (E : Nat), .int .i64 (i : Nat), .int .i64 (p : Nat), .bool cm, .int .i64 (n : Nat), .int .u32 (k : Nat), .slice q ln cp] 51)).alloc (.map (frameE6 w.heap.size) 6) := by
  have hmk := hmf
  have hmm := @run_makeMap Try.prog
  have p1 := frameE_put1 w.heap.size (w.alloc (.cells #[.int .u64 (E : Nat), .int .i64 (i : Nat), .int .i64 (p : Nat), .bool cm, .int .i64 (n : Nat), .int .u32 (k : Nat), .slice q ln cp] 51))
  have p2 := frameE_put2 w.heap.size (w.alloc (.cells #[.int .u64 (E : Nat), .int .i64 (i : Nat), .int .i64 (p : Nat), .bool cm, .int .i64 (n : Nat), .int .u32 (k : Nat), .slice q ln cp] 51))
  have p3 := frameE_put3 w.heap.size (w.alloc (.cells #[.int .u64 (E : Nat), .int .i64 (i : Nat), .int .i64 (p : Nat), .bool cm, .int .i64 (n : Nat), .int .u32 (k : Nat), .slice q ln cp] 51))
  have p4 := frameE_put4 w.heap.size (w.alloc (.cells #[.int .u64 (E : Nat), .int .i64 (i : Nat), .int .i64 (p : Nat), .bool cm, .int .i64 (n : Nat), .int .u32 (k : Nat), .slice q ln cp] 51))
  have p5 := frameE_put5 w.heap.size (w.alloc (.cells #[.int .u64 (E : Nat), .int .i64 (i : Nat), .int .i64 (p : Nat), .bool cm, .int .i64 (n : Nat), .int .u32 (k : Nat), .slice q ln cp] 51))
  have p6 := frameE_put6 w.heap.size (w.alloc (.cells #[.int .u64 (E : Nat), .int .i64 (i : Nat), .int .i64 (p : Nat), .bool cm, .int .i64 (n : Nat), .int .u32 (k : Nat), .slice q ln cp] 51))
  rw [World.size_alloc] at p1 p2 p3 p4 p5 p6
  go_enter Try.func77, Try.ntmps77
  go_wp2
  go_ret
  exact ⟨rfl, rfl⟩
end Go.Proofs.Ythnllhfdbnnjhaa
