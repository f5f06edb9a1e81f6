import Derived.Test.YtcngoffmkbobhaaGreatDoorR6
namespace Go.Proofs.YtcngoffmkbobhaaGreatDoor
open Go.RowKit

/-- An answer of the document's reader of literals. -/
def rdV (p : Int × Int × Int × List UInt8) : Value := .tuple #[.agg #[.int .i64 p.2.1, .int .i64 p.2.2.1, .string ⟨p.2.2.2.toArray⟩], .int .i64 p.1]
theorem refOf0 (w : World) : Calls Tryz.prog 26 #[.int .i64 0] w fun r w' => r = .returned (.agg #[.int .i64 1, .int .i64 0, .string ⟨#[]⟩]) ∧ Below w.heap.size w w' := refOf_any 0 w
theorem refOf1 (w : World) : Calls Tryz.prog 26 #[.int .i64 1] w fun r w' => r = .returned (.agg #[.int .i64 1, .int .i64 1, .string ⟨#[]⟩]) ∧ Below w.heap.size w w' := refOf_any 1 w
theorem cold_facts {w w1 : World} {k n : Int} {s : ByteArray} (b1 : Below (w.alloc (vObj k n s)).heap.size (w.alloc (vObj k n s)) w1) : w1.frozen? ⟨w.heap.size, 0, none⟩ = false ∧ w1.frozen? ⟨w.heap.size, 1, none⟩ = false ∧ w1.frozen? ⟨w.heap.size, 2, none⟩ = false :=
  ⟨(b1.frozen (by simp)).trans (by go_simp), (b1.frozen (by simp)).trans (by go_simp), (b1.frozen (by simp)).trans (by go_simp)⟩
theorem two_facts {w w1 : World} {k n k' n' : Int} {s s' : ByteArray} (b1 : Below ((w.alloc (vObj k n s)).alloc (vObj k' n' s')).heap.size ((w.alloc (vObj k n s)).alloc (vObj k' n' s')) w1) :
    (w1.cell? ⟨w.heap.size, 0, none⟩ = some (.int .i64 k) ∧ w1.cell? ⟨w.heap.size, 1, none⟩ = some (.int .i64 n) ∧ w1.cell? ⟨w.heap.size, 2, none⟩ = some (.string s)) ∧
    (w1.frozen? ⟨w.heap.size, 0, none⟩ = false ∧ w1.frozen? ⟨w.heap.size, 1, none⟩ = false ∧ w1.frozen? ⟨w.heap.size, 2, none⟩ = false) ∧
    (w1.cell? ⟨w.heap.size + 1, 0, none⟩ = some (.int .i64 k') ∧ w1.cell? ⟨w.heap.size + 1, 1, none⟩ = some (.int .i64 n') ∧ w1.cell? ⟨w.heap.size + 1, 2, none⟩ = some (.string s')) ∧ Below w.heap.size w w1 :=
  ⟨⟨(b1.cell (by simp; omega)).trans (by go_cell), (b1.cell (by simp; omega)).trans (by go_cell), (b1.cell (by simp; omega)).trans (by go_cell)⟩,
   ⟨(b1.frozen (by simp; omega)).trans (by go_simp), (b1.frozen (by simp; omega)).trans (by go_simp), (b1.frozen (by simp; omega)).trans (by go_simp)⟩,
   ⟨(b1.cell (by simp)).trans (by go_cell), (b1.cell (by simp)).trans (by go_cell), (b1.cell (by simp)).trans (by go_cell)⟩,
   (((Below.refl _ _).alloc (Nat.le_refl _) _).alloc (by simp) _).trans (b1.mono (by simp; omega))⟩
theorem put3 {w1 : World} {B : Nat} {x0 x1 x2 : Value} (k0 : w1.cell? ⟨B, 0, none⟩ = some x0) (k1 : w1.cell? ⟨B, 1, none⟩ = some x1) (k2 : w1.cell? ⟨B, 2, none⟩ = some x2) (v0 v1 v2 : Value) :
    (((w1.setCell ⟨B, 0, none⟩ v0).setCell ⟨B, 1, none⟩ v1).setCell ⟨B, 2, none⟩ v2).cell? ⟨B, 0, none⟩ = some v0 ∧ (((w1.setCell ⟨B, 0, none⟩ v0).setCell ⟨B, 1, none⟩ v1).setCell ⟨B, 2, none⟩ v2).cell? ⟨B, 1, none⟩ = some v1 ∧ (((w1.setCell ⟨B, 0, none⟩ v0).setCell ⟨B, 1, none⟩ v1).setCell ⟨B, 2, none⟩ v2).cell? ⟨B, 2, none⟩ = some v2 :=
  ⟨by go_cell, by go_cell, by go_cell⟩
theorem blank {w w1 : World} {o : Obj} (b1 : Below (w.alloc o).heap.size (w.alloc o) w1) : w.heap.size < w1.heap.size := by have := b1.size; simp at this; omega

set_option maxRecDepth 100000 in
set_option maxHeartbeats 1000000 in
theorem rp_null (w : World) :
    Calls Tryz.prog 30 #[.string ⟨#[110, 117, 108, 108]⟩] w fun r w' => r = .returned (rdV (0, 0, 0, [])) ∧ Below w.heap.size w w' := by
  go_enter Tryz.func30, Tryz.ntmps30
  go_wp2_with (fail)
  go_returns
  exact ⟨rfl, by go_grown⟩
set_option maxRecDepth 100000 in
set_option maxHeartbeats 1000000 in
theorem rp_false (w : World) :
    Calls Tryz.prog 30 #[.string ⟨#[102, 97, 108, 115, 101]⟩] w fun r w' => r = .returned (rdV (0, 1, 0, [])) ∧ Below w.heap.size w w' := by
  go_enter Tryz.func30, Tryz.ntmps30
  go_wp2_with (go_at_call 26; refine (refOf0 _).mono ?_; rintro e w1 ⟨rfl, b1⟩; obtain ⟨kk0, kk1, kk2⟩ := box_facts b1; obtain ⟨kf0, kf1, kf2⟩ := cold_facts b1)
  have e0 := put3 kk0 kk1 kk2 (.int .i64 1) (.int .i64 0) (.string ⟨#[]⟩)
  have hBW : Below w.heap.size w (((w1.setCell ⟨w.heap.size, 0, none⟩ (.int .i64 1)).setCell ⟨w.heap.size, 1, none⟩ (.int .i64 0)).setCell ⟨w.heap.size, 2, none⟩ (.string ⟨#[]⟩)) := (((kb1 b1).setCell (Nat.le_refl _) _).setCell (Nat.le_refl _) _).setCell (Nat.le_refl _) _
  generalize ((w1.setCell ⟨w.heap.size, 0, none⟩ (.int .i64 1)).setCell ⟨w.heap.size, 1, none⟩ (.int .i64 0)).setCell ⟨w.heap.size, 2, none⟩ (.string ⟨#[]⟩) = W at e0 hBW ⊢
  obtain ⟨e0, e1, e2⟩ := e0
  refine bodyPost_ret (v := rdV (0, 1, 0, [])) ?_ rfl ⟨rfl, hBW⟩
  simp [results, Tryz.results30, go_sem, e0, e1, e2, rdV]
set_option maxRecDepth 100000 in
set_option maxHeartbeats 1000000 in
theorem rp_true (w : World) :
    Calls Tryz.prog 30 #[.string ⟨#[116, 114, 117, 101]⟩] w fun r w' => r = .returned (rdV (0, 1, 1, [])) ∧ Below w.heap.size w w' := by
  go_enter Tryz.func30, Tryz.ntmps30
  go_wp2_with (go_at_call 26; refine (refOf1 _).mono ?_; rintro e w1 ⟨rfl, b1⟩; obtain ⟨kk0, kk1, kk2⟩ := box_facts b1; obtain ⟨kf0, kf1, kf2⟩ := cold_facts b1)
  have e0 := put3 kk0 kk1 kk2 (.int .i64 1) (.int .i64 1) (.string ⟨#[]⟩)
  have hBW : Below w.heap.size w (((w1.setCell ⟨w.heap.size, 0, none⟩ (.int .i64 1)).setCell ⟨w.heap.size, 1, none⟩ (.int .i64 1)).setCell ⟨w.heap.size, 2, none⟩ (.string ⟨#[]⟩)) := (((kb1 b1).setCell (Nat.le_refl _) _).setCell (Nat.le_refl _) _).setCell (Nat.le_refl _) _
  generalize ((w1.setCell ⟨w.heap.size, 0, none⟩ (.int .i64 1)).setCell ⟨w.heap.size, 1, none⟩ (.int .i64 1)).setCell ⟨w.heap.size, 2, none⟩ (.string ⟨#[]⟩) = W at e0 hBW ⊢
  obtain ⟨e0, e1, e2⟩ := e0
  refine bodyPost_ret (v := rdV (0, 1, 1, [])) ?_ rfl ⟨rfl, hBW⟩
  simp [results, Tryz.results30, go_sem, e0, e1, e2, rdV]
set_option maxRecDepth 100000 in
set_option maxHeartbeats 1000000 in
theorem rp_num (s : ByteArray) (n : Int) (w : World) (h0 : (s.toList == [110, 117, 108, 108]) = false) (h1 : (s.toList == [102, 97, 108, 115, 101]) = false) (h2 : (s.toList == [116, 114, 117, 101]) = false)
    (HW : Hid (∀ w, Calls Tryz.prog 55 #[.string s] w fun r w' => r = .returned (.tuple #[.int .i64 n, .bool true]) ∧ w = w')) :
    Calls Tryz.prog 30 #[.string s] w fun r w' => r = .returned (rdV (0, 2, n, [])) ∧ Below w.heap.size w w' := by
  go_enter Tryz.func30, Tryz.ntmps30
  go_wp2_with (go_at_call 55; refine (HW.out _).mono ?_; rintro e w' ⟨rfl, rfl⟩)
  go_returns
  exact ⟨rfl, by go_grown⟩
set_option maxRecDepth 100000 in
set_option maxHeartbeats 1000000 in
theorem rp_bad_e (s : ByteArray) (w : World) (hs : s.size ≤ 1000000) (h0 : (s.toList == [110, 117, 108, 108]) = false) (h1 : (s.toList == [102, 97, 108, 115, 101]) = false) (h2 : (s.toList == [116, 114, 117, 101]) = false)
    (HW : Hid (∀ w, Calls Tryz.prog 55 #[.string s] w fun r w' => ∃ n, r = .returned (.tuple #[.int .i64 n, .bool false]) ∧ w = w')) (hz : s.size = 0)
    (HQ : Hid (∀ w, Calls Tryz.prog 56 #[.string (s)] w fun r w' => r = .returned (.tuple #[.string ⟨#[]⟩, .bool false]) ∧ w = w')) :
    Calls Tryz.prog 30 #[.string s] w fun r w' => r = .returned (rdV (110, 0, 0, [])) ∧ Below w.heap.size w w' := by
  have z0 : (s.size : Int) = 0 := by omega
  go_enter Tryz.func30, Tryz.ntmps30
  go_wp2_with (first | (go_at_call 55; refine (HW.out _).mono ?_; rintro e w' ⟨n, rfl, rfl⟩) | (go_at_call 56; refine (HQ.out _).mono ?_; rintro e w' ⟨rfl, rfl⟩))
  go_returns
  exact ⟨rfl, by go_grown⟩
set_option maxRecDepth 100000 in
set_option maxHeartbeats 1000000 in
theorem rp_bad_n (s : ByteArray) (w : World) (hs : s.size ≤ 1000000) (h0 : (s.toList == [110, 117, 108, 108]) = false) (h1 : (s.toList == [102, 97, 108, 115, 101]) = false) (h2 : (s.toList == [116, 114, 117, 101]) = false)
    (HW : Hid (∀ w, Calls Tryz.prog 55 #[.string s] w fun r w' => ∃ n, r = .returned (.tuple #[.int .i64 n, .bool false]) ∧ w = w')) (hz : 0 < s.size) (hc : ¬ (s[0]'hz).toNat = 120)
    (HQ : Hid (∀ w, Calls Tryz.prog 56 #[.string (s)] w fun r w' => r = .returned (.tuple #[.string ⟨#[]⟩, .bool false]) ∧ w = w')) :
    Calls Tryz.prog 30 #[.string s] w fun r w' => r = .returned (rdV (110, 0, 0, [])) ∧ Below w.heap.size w w' := by
  have z0 : (0 : Int) < (s.size : Int) := by omega
  go_enter Tryz.func30, Tryz.ntmps30
  go_wp2_with (first | (go_at_call 55; refine (HW.out _).mono ?_; rintro e w' ⟨n, rfl, rfl⟩) | (go_at_call 56; refine (HQ.out _).mono ?_; rintro e w' ⟨rfl, rfl⟩))
  go_returns
  exact ⟨rfl, by go_grown⟩
set_option maxRecDepth 100000 in
set_option maxHeartbeats 1000000 in
theorem rp_bad_x (s : ByteArray) (w : World) (hs : s.size ≤ 1000000) (h0 : (s.toList == [110, 117, 108, 108]) = false) (h1 : (s.toList == [102, 97, 108, 115, 101]) = false) (h2 : (s.toList == [116, 114, 117, 101]) = false)
    (HW : Hid (∀ w, Calls Tryz.prog 55 #[.string s] w fun r w' => ∃ n, r = .returned (.tuple #[.int .i64 n, .bool false]) ∧ w = w')) (hz : 0 < s.size) (hc : (s[0]'hz).toNat = 120)
    (HQ : Hid (∀ w, Calls Tryz.prog 56 #[.string (s.extract 1 s.size)] w fun r w' => r = .returned (.tuple #[.string ⟨#[]⟩, .bool false]) ∧ w = w')) :
    Calls Tryz.prog 30 #[.string s] w fun r w' => r = .returned (rdV (110, 0, 0, [])) ∧ Below w.heap.size w w' := by
  have z0 : (0 : Int) < (s.size : Int) := by omega
  have z1 : (1 : Int) ≤ (s.size : Int) := by omega
  go_enter Tryz.func30, Tryz.ntmps30
  go_wp2_with (first | (go_at_call 55; refine (HW.out _).mono ?_; rintro e w' ⟨n, rfl, rfl⟩) | (go_at_call 56; refine (HQ.out _).mono ?_; rintro e w' ⟨rfl, rfl⟩))
  go_returns
  exact ⟨rfl, by go_grown⟩
set_option maxRecDepth 100000 in
set_option maxHeartbeats 1000000 in
theorem rp_text_ok (s t : ByteArray) (w : World) (hs : s.size ≤ 1000000) (h0 : (s.toList == [110, 117, 108, 108]) = false) (h1 : (s.toList == [102, 97, 108, 115, 101]) = false) (h2 : (s.toList == [116, 114, 117, 101]) = false)
    (HW : Hid (∀ w, Calls Tryz.prog 55 #[.string s] w fun r w' => ∃ n, r = .returned (.tuple #[.int .i64 n, .bool false]) ∧ w = w')) (hz : 0 < s.size) (hc : ¬ (s[0]'hz).toNat = 120)
    (HQ : Hid (∀ w, Calls Tryz.prog 56 #[.string (s)] w fun r w' => r = .returned (.tuple #[.string t, .bool true]) ∧ w = w')) (hck : Hid (checkV 3 0 t = 0)) :
    Calls Tryz.prog 30 #[.string s] w fun r w' => r = .returned (rdV (0, 3, 0, t.data.toList)) ∧ Below w.heap.size w w' := by
  have z0 : (0 : Int) < (s.size : Int) := by omega
  go_enter Tryz.func30, Tryz.ntmps30
  go_wp2_with (first | (go_at_call 55; refine (HW.out _).mono ?_; rintro e w' ⟨n, rfl, rfl⟩) | (go_at_call 56; refine (HQ.out _).mono ?_; rintro e w' ⟨rfl, rfl⟩) | (go_at_call 12; refine (refCheck_any _ _ _ _).mono ?_; rintro e w1 ⟨rfl, b1⟩; rw [hck.out]; obtain ⟨⟨kk0, kk1, kk2⟩, ⟨kf0, kf1, kf2⟩, ⟨jj0, jj1, jj2⟩, hB⟩ := two_facts b1))
  have e0 := put3 kk0 kk1 kk2 (.int .i64 3) (.int .i64 0) (.string t)
  have hBW : Below w.heap.size w (((w1.setCell ⟨w.heap.size, 0, none⟩ (.int .i64 3)).setCell ⟨w.heap.size, 1, none⟩ (.int .i64 0)).setCell ⟨w.heap.size, 2, none⟩ (.string t)) := ((hB.setCell (Nat.le_refl _) _).setCell (Nat.le_refl _) _).setCell (Nat.le_refl _) _
  generalize ((w1.setCell ⟨w.heap.size, 0, none⟩ (.int .i64 3)).setCell ⟨w.heap.size, 1, none⟩ (.int .i64 0)).setCell ⟨w.heap.size, 2, none⟩ (.string t) = W at e0 hBW ⊢
  obtain ⟨e0, e1, e2⟩ := e0
  refine bodyPost_ret (v := rdV (0, 3, 0, t.data.toList)) ?_ rfl ⟨rfl, hBW⟩
  simp [results, Tryz.results30, go_sem, e0, e1, e2, rdV]
set_option maxRecDepth 100000 in
set_option maxHeartbeats 1000000 in
theorem rp_text_no (s t : ByteArray) (c : Int) (w : World) (hs : s.size ≤ 1000000) (h0 : (s.toList == [110, 117, 108, 108]) = false) (h1 : (s.toList == [102, 97, 108, 115, 101]) = false) (h2 : (s.toList == [116, 114, 117, 101]) = false)
    (HW : Hid (∀ w, Calls Tryz.prog 55 #[.string s] w fun r w' => ∃ n, r = .returned (.tuple #[.int .i64 n, .bool false]) ∧ w = w')) (hz : 0 < s.size) (hc : ¬ (s[0]'hz).toNat = 120)
    (HQ : Hid (∀ w, Calls Tryz.prog 56 #[.string (s)] w fun r w' => r = .returned (.tuple #[.string t, .bool true]) ∧ w = w')) (hck : Hid (checkV 3 0 t = c)) (hne : (c != 0) = true) :
    Calls Tryz.prog 30 #[.string s] w fun r w' => r = .returned (rdV (c, 0, 0, [])) ∧ Below w.heap.size w w' := by
  have z0 : (0 : Int) < (s.size : Int) := by omega
  go_enter Tryz.func30, Tryz.ntmps30
  go_wp2_with (first | (go_at_call 55; refine (HW.out _).mono ?_; rintro e w' ⟨n, rfl, rfl⟩) | (go_at_call 56; refine (HQ.out _).mono ?_; rintro e w' ⟨rfl, rfl⟩) | (go_at_call 12; refine (refCheck_any _ _ _ _).mono ?_; rintro e w1 ⟨rfl, b1⟩; rw [hck.out]; obtain ⟨⟨kk0, kk1, kk2⟩, ⟨kf0, kf1, kf2⟩, ⟨jj0, jj1, jj2⟩, hB⟩ := two_facts b1))
  have e0 := put3 kk0 kk1 kk2 (.int .i64 0) (.int .i64 0) (.string ⟨#[]⟩)
  have hBW : Below w.heap.size w (((w1.setCell ⟨w.heap.size, 0, none⟩ (.int .i64 0)).setCell ⟨w.heap.size, 1, none⟩ (.int .i64 0)).setCell ⟨w.heap.size, 2, none⟩ (.string ⟨#[]⟩)) := ((hB.setCell (Nat.le_refl _) _).setCell (Nat.le_refl _) _).setCell (Nat.le_refl _) _
  generalize ((w1.setCell ⟨w.heap.size, 0, none⟩ (.int .i64 0)).setCell ⟨w.heap.size, 1, none⟩ (.int .i64 0)).setCell ⟨w.heap.size, 2, none⟩ (.string ⟨#[]⟩) = W at e0 hBW ⊢
  obtain ⟨e0, e1, e2⟩ := e0
  refine bodyPost_ret (v := rdV (c, 0, 0, [])) ?_ rfl ⟨rfl, hBW⟩
  simp [results, Tryz.results30, go_sem, e0, e1, e2, rdV]
set_option maxRecDepth 100000 in
set_option maxHeartbeats 1000000 in
theorem rp_blob_odd (s t : ByteArray) (w : World) (hs : s.size ≤ 1000000) (h0 : (s.toList == [110, 117, 108, 108]) = false) (h1 : (s.toList == [102, 97, 108, 115, 101]) = false) (h2 : (s.toList == [116, 114, 117, 101]) = false)
    (HW : Hid (∀ w, Calls Tryz.prog 55 #[.string s] w fun r w' => ∃ n, r = .returned (.tuple #[.int .i64 n, .bool false]) ∧ w = w')) (hz : 0 < s.size) (hc : (s[0]'hz).toNat = 120)
    (HQ : Hid (∀ w, Calls Tryz.prog 56 #[.string (s.extract 1 s.size)] w fun r w' => r = .returned (.tuple #[.string t, .bool true]) ∧ w = w')) (ht : t.size ≤ 1000000) (hodd : t.size % 2 = 1) :
    Calls Tryz.prog 30 #[.string s] w fun r w' => r = .returned (rdV (110, 0, 0, [])) ∧ Below w.heap.size w w' := by
  have z0 : (0 : Int) < (s.size : Int) := by omega
  have z1 : (1 : Int) ≤ (s.size : Int) := by omega
  go_enter Tryz.func30, Tryz.ntmps30
  go_wp2_with (first | (go_at_call 55; refine (HW.out _).mono ?_; rintro e w' ⟨n, rfl, rfl⟩) | (go_at_call 56; refine (HQ.out _).mono ?_; rintro e w' ⟨rfl, rfl⟩))
  go_returns
  exact ⟨rfl, by go_grown⟩
end Go.Proofs.YtcngoffmkbobhaaGreatDoor
