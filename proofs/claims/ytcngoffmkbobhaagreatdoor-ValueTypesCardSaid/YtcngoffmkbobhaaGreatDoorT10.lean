import Derived.Test.YtcngoffmkbobhaaGreatDoorT9
namespace Go.Proofs.YtcngoffmkbobhaaGreatDoor
open Go.RowKit

abbrev vNull : Value := .agg #[.int .i64 0, .int .i64 0, .string ⟨#[]⟩]
abbrev vBool (n : Int) : Value := .agg #[.int .i64 1, .int .i64 n, .string ⟨#[]⟩]
theorem of2 (w : World) : Calls Tryz.prog 25 #[.int .i64 2] w fun r w' => r = .returned vNull ∧ Below w.heap.size w w' := of_any 2 w
theorem of0 (w : World) : Calls Tryz.prog 25 #[.int .i64 0] w fun r w' => r = .returned (vBool 0) ∧ Below w.heap.size w w' := of_any 0 w
theorem of1 (w : World) : Calls Tryz.prog 25 #[.int .i64 1] w fun r w' => r = .returned (vBool 1) ∧ Below w.heap.size w w' := of_any 1 w

abbrev resObj : Obj := .cells #[.int .i64 0, .int .i64 0, .string ⟨#[]⟩] 24
theorem res_facts {W w3 : World} {n : Nat} (hn : n = W.heap.size) (hb : Below (W.alloc resObj).heap.size (W.alloc resObj) w3) :
    w3.cell? ⟨n, 0, none⟩ = some (.int .i64 0) ∧ w3.cell? ⟨n, 1, none⟩ = some (.int .i64 0) ∧ w3.cell? ⟨n, 2, none⟩ = some (.string ⟨#[]⟩) ∧ w3.frozen? ⟨n, 0, none⟩ = false ∧ w3.frozen? ⟨n, 1, none⟩ = false ∧ w3.frozen? ⟨n, 2, none⟩ = false := by
  subst hn
  refine ⟨(hb.cell (by simp)).trans ?_, (hb.cell (by simp)).trans ?_, (hb.cell (by simp)).trans ?_, (hb.frozen (by simp)).trans ?_, (hb.frozen (by simp)).trans ?_, (hb.frozen (by simp)).trans ?_⟩ <;> go_cell

theorem restOf_no (s p : ByteArray) (h : Lib.hasPrefix s.data.toList p.data.toList = false) : restOf s p = s := by
  unfold restOf Lib.trimPrefix
  rw [if_neg (by rw [h]; simp)]

set_option maxRecDepth 100000 in
set_option maxHeartbeats 400000 in
theorem value_null (b : Nat) (s : ByteArray) (w0 w : World) (hw0 : Base w0) (hw : Below w0.heap.size w0 w) (hs : s.size ≤ 1000000) (hB : w0.heap.size ≤ b) (hlt : b < w.heap.size) (h : w.cell? ⟨b, 0, none⟩ = some (.string s)) (hf : w.frozen? ⟨b, 0, none⟩ = false) (h1 : (s.toList == [110, 117, 108, 108]) = true) :
    Calls Tryz.prog 54 #[.pointer (some ⟨b, 0, none⟩)] w fun r w' => r = .returned vNull ∧ Below w0.heap.size w0 w' := by
  go_enter Tryz.func54, Tryz.ntmps54
  go_wp2_with (first | (go_at_call 25; refine (of2 _).mono ?_; rintro e w2 ⟨rfl, hb2⟩; obtain ⟨k0, k1, k2, f0, f1, f2⟩ := res_facts (W := w) rfl hb2))
  refine bodyPost_ret (v := vNull) ?_ rfl ⟨rfl, ?_⟩
  · simp [results, Tryz.results54, go_sem, k0, k1, k2]
  · exact (((((hw.alloc hw.size resObj).trans (hb2.mono (by have := hw.size; simp; omega))).setCell hw.size _).setCell hw.size _).setCell hw.size _)

set_option maxRecDepth 100000 in
set_option maxHeartbeats 400000 in
theorem value_false (b : Nat) (s : ByteArray) (w0 w : World) (hw0 : Base w0) (hw : Below w0.heap.size w0 w) (hs : s.size ≤ 1000000) (hB : w0.heap.size ≤ b) (hlt : b < w.heap.size) (h : w.cell? ⟨b, 0, none⟩ = some (.string s)) (hf : w.frozen? ⟨b, 0, none⟩ = false) (h1 : (s.toList == [110, 117, 108, 108]) = false) (h2 : (s.toList == [102, 97, 108, 115, 101]) = true) :
    Calls Tryz.prog 54 #[.pointer (some ⟨b, 0, none⟩)] w fun r w' => r = .returned (vBool 0) ∧ Below w0.heap.size w0 w' := by
  go_enter Tryz.func54, Tryz.ntmps54
  go_wp2_with (first | (go_at_call 25; refine (of0 _).mono ?_; rintro e w2 ⟨rfl, hb2⟩; obtain ⟨k0, k1, k2, f0, f1, f2⟩ := res_facts (W := w) rfl hb2))
  refine bodyPost_ret (v := (vBool 0)) ?_ rfl ⟨rfl, ?_⟩
  · simp [results, Tryz.results54, go_sem, k0, k1, k2]
  · exact (((((hw.alloc hw.size resObj).trans (hb2.mono (by have := hw.size; simp; omega))).setCell hw.size _).setCell hw.size _).setCell hw.size _)

set_option maxRecDepth 100000 in
set_option maxHeartbeats 400000 in
theorem value_true (b : Nat) (s : ByteArray) (w0 w : World) (hw0 : Base w0) (hw : Below w0.heap.size w0 w) (hs : s.size ≤ 1000000) (hB : w0.heap.size ≤ b) (hlt : b < w.heap.size) (h : w.cell? ⟨b, 0, none⟩ = some (.string s)) (hf : w.frozen? ⟨b, 0, none⟩ = false) (h1 : (s.toList == [110, 117, 108, 108]) = false) (h2 : (s.toList == [102, 97, 108, 115, 101]) = false) (h3 : (s.toList == [116, 114, 117, 101]) = true) :
    Calls Tryz.prog 54 #[.pointer (some ⟨b, 0, none⟩)] w fun r w' => r = .returned (vBool 1) ∧ Below w0.heap.size w0 w' := by
  go_enter Tryz.func54, Tryz.ntmps54
  go_wp2_with (first | (go_at_call 25; refine (of1 _).mono ?_; rintro e w2 ⟨rfl, hb2⟩; obtain ⟨k0, k1, k2, f0, f1, f2⟩ := res_facts (W := w) rfl hb2))
  refine bodyPost_ret (v := (vBool 1)) ?_ rfl ⟨rfl, ?_⟩
  · simp [results, Tryz.results54, go_sem, k0, k1, k2]
  · exact (((((hw.alloc hw.size resObj).trans (hb2.mono (by have := hw.size; simp; omega))).setCell hw.size _).setCell hw.size _).setCell hw.size _)
end Go.Proofs.YtcngoffmkbobhaaGreatDoor
