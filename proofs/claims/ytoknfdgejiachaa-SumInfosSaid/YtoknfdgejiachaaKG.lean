import Derived.Test.YtoknfdgejiachaaKF
namespace Go.Proofs.Ytoknfdgejiachaa
open Go.RowKit Go.Shelf

theorem isType_ok {t : Int} (h : tyB t = true) (w : World) : Calls Try.prog 39 #[.int .i64 t] w fun r w' => r = .returned (.bool true) ∧ Below w.heap.size w w' := by rw [← h]; exact isType_any t w
theorem isType_no {t : Int} (h : tyB t = false) (w : World) : Calls Try.prog 39 #[.int .i64 t] w fun r w' => r = .returned (.bool false) ∧ Below w.heap.size w w' := by rw [← h]; exact isType_any t w
/-- Numbers in memory. -/
def IntsAt (W : World) (B off : Nat) (l : List Int) : Prop := ∀ i, i < l.length → W.cell? ⟨B, off + i, none⟩ = some (.int .i64 (l.getD i 0))
theorem IntsAt.below {W W' : World} {B off : Nat} {l : List Int} (h : IntsAt W B off l) (hb : Below W.heap.size W W') : IntsAt W' B off l := fun i hi => (hb.cell (lt_of_cell_some (h i hi))).trans (h i hi)
/-- The types of values, and what an operator is, in memory. -/
structure MadeAt (w W : World) (B off : Nat) (l : List Int) (n m : Nat) (f k : Int) (s : ByteArray) : Prop where
  cl : IntsAt W B off l
  i0 : W.cell? ⟨n, 0, none⟩ = some (.string s)
  i1 : W.cell? ⟨n, 1, none⟩ = some (.int .i64 m)
  i2 : W.cell? ⟨n, 2, none⟩ = some (.int .i64 f)
  i3 : W.cell? ⟨n, 3, none⟩ = some (.int .i64 k)
  hw : Below w.heap.size w W
theorem MadeAt.below {w W W' : World} {B off : Nat} {l : List Int} {n m : Nat} {f k : Int} {s : ByteArray} (h : MadeAt w W B off l n m f k s) (hb : Below W.heap.size W W') : MadeAt w W' B off l n m f k s :=
  ⟨h.cl.below hb, (hb.cell (lt_of_cell_some h.i0)).trans h.i0, (hb.cell (lt_of_cell_some h.i1)).trans h.i1, (hb.cell (lt_of_cell_some h.i2)).trans h.i2, (hb.cell (lt_of_cell_some h.i3)).trans h.i3, h.hw.trans (hb.mono h.hw.size)⟩
theorem MadeAt.start {w w1 : World} {B off : Nat} {l : List Int} (cl : IntsAt w B off l) (b1 : Below w.heap.size w w1) (s : ByteArray) (m : Nat) (f k : Int) :
    MadeAt w (w1.alloc (.cells #[.string s, .int .i64 m, .int .i64 f, .int .i64 k] 27)) B off l w1.heap.size m f k s := by
  have hb : Below w.heap.size w (w1.alloc (.cells #[.string s, .int .i64 m, .int .i64 f, .int .i64 k] 27)) := b1.alloc b1.size _
  exact ⟨cl.below hb, by go_cell, by go_cell, by go_cell, by go_cell, hb⟩
/-- What Info tells. -/
abbrev InfoOk (o : Int) (nm : ByteArray) (m : Nat) (f k : Int) : Prop := ∀ w, Calls Try.prog 8 #[.int .i64 o] w fun r w' => r = .returned (.tuple #[info nm m f k, .bool true]) ∧ Below w.heap.size w w'
/-- The first k numbers are types, or none. -/
def TypesTo (l : List Int) (k : Nat) : Prop := ∀ i, i < k → l.getD i 0 = 0 ∨ tyB (l.getD i 0) = true
theorem TypesTo.next {l : List Int} {k : Nat} (h : TypesTo l k) (hx : l.getD k 0 = 0 ∨ tyB (l.getD k 0) = true) : TypesTo l (k + 1) := by
  intro i hi
  by_cases e : i = k
  · subst e; exact hx
  · exact h i (by omega)
set_option maxRecDepth 100000 in
set_option maxHeartbeats 1000000 in
theorem made_bad (o f k : Int) (nm : ByteArray) (l : List Int) (C : Hid (InfoOk o nm l.length f k)) (hl : l.length ≤ 100000) (hbad : Hid (¬ TypesTo l l.length)) (B off cap : Nat) (w : World) (cl : Hid (IntsAt w B off l)) :
    Calls Try.prog 20 #[.int .i64 o, .slice (some ⟨B, off, none⟩) l.length cap] w fun r w' => r = .panicked (gaveUp 2) ∧ Below w.heap.size w w' := by
  go_enter Try.func20, Try.ntmps20
  go_wp2_with (first
    | (go_at_call 8; refine (C.out _).mono ?_; rintro e w1 ⟨rfl, b1⟩; have M0 := Lib.hid (MadeAt.start cl.out b1 nm l.length f k))
    | (go_at_call 25; with_reducible refine (need_ok _ _).mono ?_; rintro e w' ⟨rfl, rfl⟩))
  go_loopw [27] (fun i wr => ∃ k' : Nat, k' ≤ l.length ∧ i = .int .i64 k' ∧ TypesTo l k' ∧ MadeAt w wr B off l w1.heap.size l.length f k nm) (fun i _ => l.length - (intOf i).toNat)
  case atStart => exact ⟨0, Nat.zero_le _, rfl, (fun i hi => absurd hi (Nat.not_lt_zero i)), M0.out⟩
  case round =>
    obtain ⟨j, hj, rfl, hg, hM⟩ := hrel
    have HG := Lib.hid hg
    have HM := Lib.hid hM
    clear hg hM
    by_cases hlt : j < l.length
    · have hcell := HM.out.cl j hlt
      have HN := Lib.hid (HG.out.next (l := l) (k := j))
      generalize l.getD j 0 = x at hcell HN
      by_cases hx : x = 0
      · subst hx
        go_wp2_with (go_at_call 25; with_reducible refine (need_ok _ _).mono ?_; rintro e w' ⟨rfl, rfl⟩)
        go_roundw
        case rel => exact ⟨j + 1, by omega, by go_num, HN.out (by simp), HM.out⟩
        case measure => simp [intOf]; omega
      · have hx' : (x == 0) = false := by simpa using hx
        by_cases ht : tyB x = true
        · have HT := Lib.hid ht
          clear ht hx
          go_wp2_with (first
            | (go_at_call 25; with_reducible refine (need_ok _ _).mono ?_; rintro e w' ⟨rfl, rfl⟩)
            | (go_at_call 39; refine (isType_ok HT.out _).mono ?_; rintro e w2 ⟨rfl, b2⟩; have M1 := Lib.hid (HM.out.below b2)))
          go_roundw
          case rel => exact ⟨j + 1, by omega, by go_num, HN.out (.inr HT.out), M1.out⟩
          case measure => simp [intOf]; omega
        · have HT := Lib.hid (show tyB x = false by simpa using ht)
          clear ht hx
          go_wp2_with (first
            | (go_at_call 25; with_reducible refine (need_no _ _).mono ?_; rintro e w' ⟨rfl, rfl⟩)
            | (go_at_call 39; refine (isType_no HT.out _).mono ?_; rintro e w2 ⟨rfl, b2⟩; have M1 := Lib.hid (HM.out.below b2)))
          exact ⟨rfl, rfl, M1.out.hw⟩
    · obtain rfl : j = l.length := by omega
      exact absurd HG.out hbad.out

set_option maxRecDepth 100000 in
set_option maxHeartbeats 1000000 in
theorem made_ok (o f k c : Int) (nm : ByteArray) (l : List Int) (C : Hid (InfoOk o nm l.length f k)) (hl : l.length ≤ 100000) (hgood : Hid (TypesTo l l.length)) (B off cap : Nat) (w : World) (cl : Hid (IntsAt w B off l))
    (CM : Hid (∀ W : World, IntsAt W B off l → Calls Try.prog 40 #[.int .i64 0, .slice (some ⟨B, off, none⟩) l.length cap] W fun r w' => r = .returned (.tuple #[.int .i64 c, .bool true]) ∧ W = w'))
    (TK : Hid (∀ W, Calls Try.prog 41 #[.int .i64 o, .int .i64 f, .int .i64 c] W fun r w' => r = .returned (.bool true) ∧ W = w')) :
    Calls Try.prog 20 #[.int .i64 o, .slice (some ⟨B, off, none⟩) l.length cap] w fun r w' => r = .returned (.int .i64 (orE k c)) ∧ Below w.heap.size w w' := by
  go_enter Try.func20, Try.ntmps20
  go_wp2_with (first
    | (go_at_call 8; refine (C.out _).mono ?_; rintro e w1 ⟨rfl, b1⟩; have M0 := Lib.hid (MadeAt.start cl.out b1 nm l.length f k))
    | (go_at_call 25; with_reducible refine (need_ok _ _).mono ?_; rintro e w' ⟨rfl, rfl⟩))
  go_loopw [27] (fun i wr => ∃ k' : Nat, k' ≤ l.length ∧ i = .int .i64 k' ∧ MadeAt w wr B off l w1.heap.size l.length f k nm) (fun i _ => l.length - (intOf i).toNat)
  case atStart => exact ⟨0, Nat.zero_le _, rfl, M0.out⟩
  case round =>
    obtain ⟨j, hj, rfl, hM⟩ := hrel
    have HM := Lib.hid hM
    clear hM
    by_cases hlt : j < l.length
    · have hcell := HM.out.cl j hlt
      have HN := Lib.hid (hgood.out j hlt)
      generalize l.getD j 0 = x at hcell HN
      by_cases hx : x = 0
      · subst hx
        go_wp2_with (go_at_call 25; with_reducible refine (need_ok _ _).mono ?_; rintro e w' ⟨rfl, rfl⟩)
        go_roundw
        case rel => exact ⟨j + 1, by omega, by go_num, HM.out⟩
        case measure => simp [intOf]; omega
      · have hx' : (x == 0) = false := by simpa using hx
        have HT := Lib.hid (HN.out.resolve_left hx)
        clear hx
        go_wp2_with (first
          | (go_at_call 25; with_reducible refine (need_ok _ _).mono ?_; rintro e w' ⟨rfl, rfl⟩)
          | (go_at_call 39; refine (isType_ok HT.out _).mono ?_; rintro e w2 ⟨rfl, b2⟩; have M1 := Lib.hid (HM.out.below b2)))
        go_roundw
        case rel => exact ⟨j + 1, by omega, by go_num, M1.out⟩
        case measure => simp [intOf]; omega
    · obtain rfl : j = l.length := by omega
      obtain ⟨_, j0, j1, j2, j3, _⟩ := HM.out
      go_wp2_with (first
        | (go_at_call 40; refine (CM.out _ HM.out.cl).mono ?_; rintro e w' ⟨rfl, rfl⟩)
        | (go_at_call 41; refine (TK.out _).mono ?_; rintro e w' ⟨rfl, rfl⟩)
        | (go_at_call 25; with_reducible refine (need_ok _ _).mono ?_; rintro e w' ⟨rfl, rfl⟩)
        | (go_at_call 25; with_reducible refine (need_no _ _).mono ?_; rintro e w' ⟨rfl, rfl⟩)
        | (go_at_call 42; refine (orT_any k c _ _ (by go_cell) (by go_cell)).mono ?_; rintro e w' ⟨rfl, rfl⟩))
      go_ret
      exact ⟨rfl, HM.out.hw.alloc HM.out.hw.size _⟩

set_option maxRecDepth 100000 in
set_option maxHeartbeats 1000000 in
theorem made_wrong (o f k c : Int) (nm : ByteArray) (l : List Int) (C : Hid (InfoOk o nm l.length f k)) (hl : l.length ≤ 100000) (hgood : Hid (TypesTo l l.length)) (B off cap : Nat) (w : World) (cl : Hid (IntsAt w B off l))
    (CM : Hid (∀ W : World, IntsAt W B off l → Calls Try.prog 40 #[.int .i64 0, .slice (some ⟨B, off, none⟩) l.length cap] W fun r w' => r = .returned (.tuple #[.int .i64 c, .bool true]) ∧ W = w'))
    (TK : Hid (∀ W, Calls Try.prog 41 #[.int .i64 o, .int .i64 f, .int .i64 c] W fun r w' => r = .returned (.bool false) ∧ W = w')) :
    Calls Try.prog 20 #[.int .i64 o, .slice (some ⟨B, off, none⟩) l.length cap] w fun r w' => r = .panicked (gaveUp 120) ∧ Below w.heap.size w w' := by
  go_enter Try.func20, Try.ntmps20
  go_wp2_with (first
    | (go_at_call 8; refine (C.out _).mono ?_; rintro e w1 ⟨rfl, b1⟩; have M0 := Lib.hid (MadeAt.start cl.out b1 nm l.length f k))
    | (go_at_call 25; with_reducible refine (need_ok _ _).mono ?_; rintro e w' ⟨rfl, rfl⟩))
  go_loopw [27] (fun i wr => ∃ k' : Nat, k' ≤ l.length ∧ i = .int .i64 k' ∧ MadeAt w wr B off l w1.heap.size l.length f k nm) (fun i _ => l.length - (intOf i).toNat)
  case atStart => exact ⟨0, Nat.zero_le _, rfl, M0.out⟩
  case round =>
    obtain ⟨j, hj, rfl, hM⟩ := hrel
    have HM := Lib.hid hM
    clear hM
    by_cases hlt : j < l.length
    · have hcell := HM.out.cl j hlt
      have HN := Lib.hid (hgood.out j hlt)
      generalize l.getD j 0 = x at hcell HN
      by_cases hx : x = 0
      · subst hx
        go_wp2_with (go_at_call 25; with_reducible refine (need_ok _ _).mono ?_; rintro e w' ⟨rfl, rfl⟩)
        go_roundw
        case rel => exact ⟨j + 1, by omega, by go_num, HM.out⟩
        case measure => simp [intOf]; omega
      · have hx' : (x == 0) = false := by simpa using hx
        have HT := Lib.hid (HN.out.resolve_left hx)
        clear hx
        go_wp2_with (first
          | (go_at_call 25; with_reducible refine (need_ok _ _).mono ?_; rintro e w' ⟨rfl, rfl⟩)
          | (go_at_call 39; refine (isType_ok HT.out _).mono ?_; rintro e w2 ⟨rfl, b2⟩; have M1 := Lib.hid (HM.out.below b2)))
        go_roundw
        case rel => exact ⟨j + 1, by omega, by go_num, M1.out⟩
        case measure => simp [intOf]; omega
    · obtain rfl : j = l.length := by omega
      obtain ⟨_, j0, j1, j2, j3, _⟩ := HM.out
      go_wp2_with (first
        | (go_at_call 40; refine (CM.out _ HM.out.cl).mono ?_; rintro e w' ⟨rfl, rfl⟩)
        | (go_at_call 41; refine (TK.out _).mono ?_; rintro e w' ⟨rfl, rfl⟩)
        | (go_at_call 25; with_reducible refine (need_ok _ _).mono ?_; rintro e w' ⟨rfl, rfl⟩)
        | (go_at_call 25; with_reducible refine (need_no _ _).mono ?_; rintro e w' ⟨rfl, rfl⟩)
        | (go_at_call 42; refine (orT_any k c _ _ (by go_cell) (by go_cell)).mono ?_; rintro e w' ⟨rfl, rfl⟩))
      exact ⟨rfl, rfl, HM.out.hw⟩

set_option maxRecDepth 100000 in
set_option maxHeartbeats 1000000 in
theorem made_unlike (o f k c : Int) (nm : ByteArray) (l : List Int) (C : Hid (InfoOk o nm l.length f k)) (hl : l.length ≤ 100000) (hgood : Hid (TypesTo l l.length)) (B off cap : Nat) (w : World) (cl : Hid (IntsAt w B off l))
    (CM : Hid (∀ W : World, IntsAt W B off l → Calls Try.prog 40 #[.int .i64 0, .slice (some ⟨B, off, none⟩) l.length cap] W fun r w' => r = .returned (.tuple #[.int .i64 c, .bool false]) ∧ W = w')) :
    Calls Try.prog 20 #[.int .i64 o, .slice (some ⟨B, off, none⟩) l.length cap] w fun r w' => r = .panicked (gaveUp 120) ∧ Below w.heap.size w w' := by
  go_enter Try.func20, Try.ntmps20
  go_wp2_with (first
    | (go_at_call 8; refine (C.out _).mono ?_; rintro e w1 ⟨rfl, b1⟩; have M0 := Lib.hid (MadeAt.start cl.out b1 nm l.length f k))
    | (go_at_call 25; with_reducible refine (need_ok _ _).mono ?_; rintro e w' ⟨rfl, rfl⟩))
  go_loopw [27] (fun i wr => ∃ k' : Nat, k' ≤ l.length ∧ i = .int .i64 k' ∧ MadeAt w wr B off l w1.heap.size l.length f k nm) (fun i _ => l.length - (intOf i).toNat)
  case atStart => exact ⟨0, Nat.zero_le _, rfl, M0.out⟩
  case round =>
    obtain ⟨j, hj, rfl, hM⟩ := hrel
    have HM := Lib.hid hM
    clear hM
    by_cases hlt : j < l.length
    · have hcell := HM.out.cl j hlt
      have HN := Lib.hid (hgood.out j hlt)
      generalize l.getD j 0 = x at hcell HN
      by_cases hx : x = 0
      · subst hx
        go_wp2_with (go_at_call 25; with_reducible refine (need_ok _ _).mono ?_; rintro e w' ⟨rfl, rfl⟩)
        go_roundw
        case rel => exact ⟨j + 1, by omega, by go_num, HM.out⟩
        case measure => simp [intOf]; omega
      · have hx' : (x == 0) = false := by simpa using hx
        have HT := Lib.hid (HN.out.resolve_left hx)
        clear hx
        go_wp2_with (first
          | (go_at_call 25; with_reducible refine (need_ok _ _).mono ?_; rintro e w' ⟨rfl, rfl⟩)
          | (go_at_call 39; refine (isType_ok HT.out _).mono ?_; rintro e w2 ⟨rfl, b2⟩; have M1 := Lib.hid (HM.out.below b2)))
        go_roundw
        case rel => exact ⟨j + 1, by omega, by go_num, M1.out⟩
        case measure => simp [intOf]; omega
    · obtain rfl : j = l.length := by omega
      obtain ⟨_, j0, j1, j2, j3, _⟩ := HM.out
      go_wp2_with (first
        | (go_at_call 40; refine (CM.out _ HM.out.cl).mono ?_; rintro e w' ⟨rfl, rfl⟩)
        | (go_at_call 25; with_reducible refine (need_ok _ _).mono ?_; rintro e w' ⟨rfl, rfl⟩)
        | (go_at_call 25; with_reducible refine (need_no _ _).mono ?_; rintro e w' ⟨rfl, rfl⟩)
        | (go_at_call 42; refine (orT_any k c _ _ (by go_cell) (by go_cell)).mono ?_; rintro e w' ⟨rfl, rfl⟩))
      exact ⟨rfl, rfl, HM.out.hw⟩
end Go.Proofs.Ytoknfdgejiachaa
