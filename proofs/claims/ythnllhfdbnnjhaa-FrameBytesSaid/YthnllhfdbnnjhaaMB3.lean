/- Parts: PR PS PM PN PZ PO PT. -/
import Derived.Test.YthnllhfdbnnjhaaMB2
import Derived.Lib.AppendZerosOnto
namespace Go.Proofs.Ythnllhfdbnnjhaa
open Go.RowKit Go.Shelf

/-- A frame, as a value. -/
def frameV (E i p : Int) (cm : Bool) (n k : Int) (q : Option Addr) (ln cp : Nat) : Value := .agg #[.int .u64 E, .int .i64 i, .int .i64 p, .bool cm, .int .i64 n, .int .u32 k, .slice q ln cp]
def mostOf (cm : Bool) : Int := if cm then 2000 else 0
def frameOk (i p : Int) (cm : Bool) (n : Int) (ln : Nat) : Bool := decide (0 ≤ i) && decide (i ≤ 2000) && decide (0 ≤ p) && decide (p ≤ 2000) && decide (0 ≤ n) && decide (n ≤ mostOf cm) && decide (ln = 512)
theorem frame_bounds {i p n : Int} {cm : Bool} {ln : Nat} (h : frameOk i p cm n ln = true) : 0 ≤ i ∧ i ≤ 2000 ∧ 0 ≤ p ∧ p ≤ 2000 ∧ 0 ≤ n ∧ n ≤ mostOf cm ∧ n ≤ 2000 ∧ ln = 512 := by
  simp only [frameOk, Bool.and_eq_true, decide_eq_true_eq] at h
  have : mostOf cm ≤ 2000 := by unfold mostOf; split <;> omega
  omega
theorem refuse_frame (i p n : Int) (cm : Bool) (ln : Nat) : refuseE 2 [(i, 0, 2000), (p, 0, 2000), (n, 0, mostOf cm), ((ln : Int), 512, 512)] = if frameOk i p cm n ln then 0 else 2 := by
  unfold refuseE frameOk spanOk
  simp only [List.all_cons, List.all_nil, Bool.and_true, ← Bool.and_assoc]
  congr 2
  rw [Bool.and_assoc]
  congr 1
  rw [Bool.eq_iff_iff]
  simp only [Bool.and_eq_true, decide_eq_true_eq]
  omega
theorem spans_four {w : World} {q : Nat} {a b c d e f g h i j k l : Int} (c0 : w.cell? ⟨q, 0, none⟩ = some (.int .i64 a)) (c1 : w.cell? ⟨q, 1, none⟩ = some (.int .i64 b)) (c2 : w.cell? ⟨q, 2, none⟩ = some (.int .i64 c)) (d0 : w.cell? ⟨q, 3, none⟩ = some (.int .i64 d)) (d1 : w.cell? ⟨q, 4, none⟩ = some (.int .i64 e)) (d2 : w.cell? ⟨q, 5, none⟩ = some (.int .i64 f))
    (e0 : w.cell? ⟨q, 6, none⟩ = some (.int .i64 g)) (e1 : w.cell? ⟨q, 7, none⟩ = some (.int .i64 h)) (e2 : w.cell? ⟨q, 8, none⟩ = some (.int .i64 i)) (f0 : w.cell? ⟨q, 9, none⟩ = some (.int .i64 j)) (f1 : w.cell? ⟨q, 10, none⟩ = some (.int .i64 k)) (f2 : w.cell? ⟨q, 11, none⟩ = some (.int .i64 l)) : SpansAt w q [(a, b, c), (d, e, f), (g, h, i), (j, k, l)] := by
  intro m s h
  match m with
  | 0 => injection h with h; subst h; exact ⟨c0, c1, c2⟩
  | 1 => injection h with h; subst h; exact ⟨d0, d1, d2⟩
  | 2 => injection h with h; subst h; exact ⟨e0, e1, e2⟩
  | 3 => injection h with h; subst h; exact ⟨f0, f1, f2⟩
  | m + 4 => cases h
set_option maxRecDepth 100000 in
set_option maxHeartbeats 1000000 in
theorem checkFrame_any (E i p : Int) (cm : Bool) (n k : Int) (q : Option Addr) (ln cp : Nat) (w : World) : Calls Try.prog 42 #[frameV E i p cm n k q ln cp] w fun r w' => r = .returned (.int .i64 (if frameOk i p cm n ln then 0 else 2)) ∧ Below w.heap.size w w' := by
  have C := Lib.hid fun (q : Nat) (w : World) h => refusal_any 2 [(i, 0, 2000), (p, 0, 2000), (n, 0, mostOf cm), ((ln : Int), 512, 512)] q 4 w (by simp) h
  rw [refuse_frame] at C
  generalize (if frameOk i p cm n ln then (0 : Int) else 2) = R at *
  unfold frameV
  cases cm
  · change Hid (∀ q w, Hid (SpansAt w q [(i, 0, 2000), (p, 0, 2000), (n, 0, 0), ((ln : Int), 512, 512)]) → _) at C
    go_enter Try.func42, Try.ntmps42
    go_wp2_with (go_at_call 35; refine (C.out _ _ (Lib.hid (spans_four (by go_cell) (by go_cell) (by go_cell) (by go_cell) (by go_cell) (by go_cell) (by go_cell) (by go_cell) (by go_cell) (by go_cell) (by go_cell) (by go_cell)))).mono ?_; rintro e w' ⟨rfl, hb⟩)
    go_ret
    exact ⟨rfl, (((Below.refl _ _).alloc (Nat.le_refl _) _).alloc (by simp) _).trans (hb.mono (by simp; omega))⟩
  · change Hid (∀ q w, Hid (SpansAt w q [(i, 0, 2000), (p, 0, 2000), (n, 0, 2000), ((ln : Int), 512, 512)]) → _) at C
    go_enter Try.func42, Try.ntmps42
    go_wp2_with (go_at_call 35; refine (C.out _ _ (Lib.hid (spans_four (by go_cell) (by go_cell) (by go_cell) (by go_cell) (by go_cell) (by go_cell) (by go_cell) (by go_cell) (by go_cell) (by go_cell) (by go_cell) (by go_cell)))).mono ?_; rintro e w' ⟨rfl, hb⟩)
    go_ret
    exact ⟨rfl, (((Below.refl _ _).alloc (Nat.le_refl _) _).alloc (by simp) _).trans (hb.mono (by simp; omega))⟩
theorem frameParts_made (E i p : Nat) (cm : Bool) (n k : Nat) (hE : E < 2 ^ 64) (hi : i < 4294967296) (hp : p < 4294967296) (hn : n < 4294967296) (hk : k < 4294967296) (q : Option Addr) (cap : Nat) (w : World) :
    Calls Try.prog 77 #[.agg #[.int .u64 E, .int .i64 i, .int .i64 p, .bool cm, .int .i64 n, .int .u32 k, .slice q 512 cap]] w fun r w' => r = .returned (.map (some (w.heap.size + 1))) ∧ Below w.heap.size w w' ∧ PartsOk w' (w.heap.size + 1) w.heap.size (framePs E i p cm n k) := by
  refine (frameParts_any E i p cm n k q 512 cap w).mono ?_
  rintro e w' ⟨rfl, rfl⟩
  refine ⟨rfl, ((Below.refl _ _).alloc (Nat.le_refl _) _).alloc (by simp) _, frameParts_ok E i p cm n k hE hi hp hn hk _ _ _ (by go_cell) (by go_cell) (by go_cell) (by go_cell) (by go_cell) (by go_cell) ?_⟩
  have := heap_alloc_last (w.alloc (.cells #[.int .u64 E, .int .i64 i, .int .i64 p, .bool cm, .int .i64 n, .int .u32 k, .slice q 512 cap] 51)) (.map (frameE6 w.heap.size) 6)
  rw [World.size_alloc] at this
  exact this
def frameB (E i p : Nat) (cm : Bool) (n k : Nat) : List Nat := partsL (framePs E i p cm n k)
/-- What stands in a frame's first sector, ahead of the noughts. -/
def frameC (E i p : Nat) (cm : Bool) (n k : Nat) (bs : List Nat) : List Nat := frameB E i p cm n k ++ fixE 4 (~~~ sumN (frameB E i p cm n k ++ bs)).toNat
theorem frameB_length (E i p : Nat) (cm : Bool) (n k : Nat) : (frameB E i p cm n k).length = 25 := by simp [frameB, partsL, framePs, fixE_length, oneL_length]
theorem frameC_length (E i p : Nat) (cm : Bool) (n k : Nat) (bs : List Nat) : (frameC E i p cm n k bs).length = 29 := by simp [frameC, frameB_length, fixE_length]
theorem frameB_byte (E i p : Nat) (cm : Bool) (n k : Nat) : ∀ b ∈ frameB E i p cm n k, b < 256 := by
  intro b hb
  simp only [frameB, partsL, framePs, List.map_cons, List.map_nil, List.flatten_cons, List.flatten_nil, List.append_nil, List.mem_append] at hb
  rcases hb with h | h | h | h | h | h
  · exact fixE_byte _ _ b h
  · exact fixE_byte _ _ b h
  · exact fixE_byte _ _ b h
  · exact oneL_byte _ b h
  · exact fixE_byte _ _ b h
  · exact fixE_byte _ _ b h
theorem frameC_byte (E i p : Nat) (cm : Bool) (n k : Nat) (bs : List Nat) : ∀ b ∈ frameC E i p cm n k bs, b < 256 := by
  intro b hb
  rcases List.mem_append.1 hb with h | h
  · exact frameB_byte _ _ _ _ _ _ b h
  · exact fixE_byte _ _ b h
theorem names6 {w : World} {q : Nat} {a b c d e f : Nat × Nat × List Nat} (h0 : w.cell? ⟨q, 0, none⟩ = some (.int .i64 (a.1 : Int))) (h1 : w.cell? ⟨q, 1, none⟩ = some (.int .i64 (b.1 : Int))) (h2 : w.cell? ⟨q, 2, none⟩ = some (.int .i64 (c.1 : Int))) (h3 : w.cell? ⟨q, 3, none⟩ = some (.int .i64 (d.1 : Int))) (h4 : w.cell? ⟨q, 4, none⟩ = some (.int .i64 (e.1 : Int))) (h5 : w.cell? ⟨q, 5, none⟩ = some (.int .i64 (f.1 : Int))) : NamesAt w q [a, b, c, d, e, f] := by
  intro k x hx
  match k with
  | 0 => injection hx with hx; subst hx; exact h0
  | 1 => injection hx with hx; subst hx; exact h1
  | 2 => injection hx with hx; subst hx; exact h2
  | 3 => injection hx with hx; subst hx; exact h3
  | 4 => injection hx with hx; subst hx; exact h4
  | 5 => injection hx with hx; subst hx; exact h5
  | k + 6 => simp at hx
set_option maxRecDepth 100000 in
set_option maxHeartbeats 2000000 in
theorem summed_any (E i p : Nat) (cm : Bool) (n k : Nat) (hE : E < 2 ^ 64) (hi : i < 4294967296) (hp : p < 4294967296) (hn : n < 4294967296) (hk : k < 4294967296) (q : Option Addr) (cap : Nat) (w : World) :
    Calls Try.prog 59 #[.agg #[.int .u64 E, .int .i64 i, .int .i64 p, .bool cm, .int .i64 n, .int .u32 k, .slice q 512 cap]] w fun r w' => ∃ t, r = .returned t ∧ RowB w (frameB E i p cm n k) t w' := by
  have CP := Lib.hid (frameParts_made E i p cm n k hE hi hp hn hk q cap)
  have LA := Lib.hid fun M A q cap w => laid_any (framePs E i p cm n k) M A q cap w (by simp [framePs])
  have HPS : Hid (∀ (w : World) (q : Nat), w.cell? ⟨q, 0, none⟩ = some (.int .i64 1) → w.cell? ⟨q, 1, none⟩ = some (.int .i64 2) → w.cell? ⟨q, 2, none⟩ = some (.int .i64 3) → w.cell? ⟨q, 3, none⟩ = some (.int .i64 4) → w.cell? ⟨q, 4, none⟩ = some (.int .i64 5) → w.cell? ⟨q, 5, none⟩ = some (.int .i64 7) → NamesAt w q (framePs E i p cm n k)) := Lib.hid fun w q h0 h1 h2 h3 h4 h5 => names6 h0 h1 h2 h3 h4 h5
  change Hid (∀ M A q cap w, _ → _ → Calls Try.prog 51 #[.map (some M), .slice (some ⟨q, 0, none⟩) 6 cap] w fun r w' => ∃ t, r = .returned t ∧ RowB w (frameB E i p cm n k) t w') at LA
  generalize frameB E i p cm n k = lb at *
  go_enter Try.func59, Try.ntmps59
  go_upto_region 1 with fail
  obtain ⟨w1, hw1⟩ : ∃ w1, w.alloc (.cells #[.int .u64 E, .int .i64 i, .int .i64 p, .bool cm, .int .i64 n, .int .u32 k, .slice q 512 cap] 51) = w1 := ⟨_, rfl⟩
  have HB1 : Hid (Below w.heap.size w w1) := Lib.hid (by subst hw1; exact (Below.refl _ _).alloc (Nat.le_refl _) _)
  have k0 : w1.cell? ⟨w.heap.size, 0, none⟩ = some (.int .u64 E) := by subst hw1; go_cell
  have k1 : w1.cell? ⟨w.heap.size, 1, none⟩ = some (.int .i64 i) := by subst hw1; go_cell
  have k2 : w1.cell? ⟨w.heap.size, 2, none⟩ = some (.int .i64 p) := by subst hw1; go_cell
  have k3 : w1.cell? ⟨w.heap.size, 3, none⟩ = some (.bool cm) := by subst hw1; go_cell
  have k4 : w1.cell? ⟨w.heap.size, 4, none⟩ = some (.int .i64 n) := by subst hw1; go_cell
  have k5 : w1.cell? ⟨w.heap.size, 5, none⟩ = some (.int .u32 k) := by subst hw1; go_cell
  have k6 : w1.cell? ⟨w.heap.size, 6, none⟩ = some (.slice q 512 cap) := by subst hw1; go_cell
  rw [hw1]
  clear hw1
  go_wp2_with (first
    | (go_at_call 77; refine (CP.out _).mono ?_; rintro e wa ⟨rfl, hb1, hpo⟩; have B1 := Lib.hid (kbT HB1.out hb1); have HPO := Lib.hid hpo; clear hb1 hpo)
    | (go_at_call 51; refine (LA.out _ _ _ _ _ (Lib.hid (HPO.out.below ((Below.refl _ _).alloc (Nat.le_refl _) _))) (Lib.hid (HPS.out _ _ (by go_cell) (by go_cell) (by go_cell) (by go_cell) (by go_cell) (by go_cell)))).mono ?_; rintro e wb ⟨t, rfl, hr⟩))
  go_ret
  exact ⟨_, rfl, hr.grow (B1.out.alloc B1.out.size _)⟩
set_option maxRecDepth 100000 in
set_option maxHeartbeats 4000000 in
theorem frameSum_any (E i p : Nat) (cm : Bool) (n k : Nat) (hE : E < 2 ^ 64) (hi : i < 4294967296) (hp : p < 4294967296) (hn : n < 4294967296) (hk : k < 4294967296) (q : Option Addr) (cap : Nat) (bs : List Nat) (hbl : bs.length = 512) (hbb : ∀ b ∈ bs, b < 256) (w : World) (hbs : BytesAt w q bs) :
    Calls Try.prog 46 #[.agg #[.int .u64 E, .int .i64 i, .int .i64 p, .bool cm, .int .i64 n, .int .u32 k, .slice q 512 cap]] w fun r w' => r = .returned (.int .u32 (~~~ sumN (frameB E i p cm n k ++ bs)).toNat) ∧ Below w.heap.size w w' := by
  have CS := Lib.hid (summed_any E i p cm n k hE hi hp hn hk q cap)
  have HBS := Lib.hid fun (w' : World) (h : Below w.heap.size w w') => bytesAt_below hbs h
  have hlen := frameB_length E i p cm n k
  have hbyt := frameB_byte E i p cm n k
  generalize frameB E i p cm n k = lb at *
  have CT := Lib.hid fun pp cp (w : World) h1 h2 => sum_two lb bs pp q cp cap w (by omega) (by omega) hbyt hbb h1 h2
  rw [hbl] at CT
  generalize (~~~ sumN (lb ++ bs)).toNat = sb at *
  clear hlen hbyt hbs hbb hE hi hp hn hk
  go_enter Try.func46, Try.ntmps46
  go_upto_region 1 with fail
  obtain ⟨w1, hw1⟩ : ∃ w1, w.alloc (.cells #[.int .u64 E, .int .i64 i, .int .i64 p, .bool cm, .int .i64 n, .int .u32 k, .slice q 512 cap] 51) = w1 := ⟨_, rfl⟩
  have HB1 : Hid (Below w.heap.size w w1) := Lib.hid (by subst hw1; exact (Below.refl _ _).alloc (Nat.le_refl _) _)
  have HCL : Hid (∀ w', Below w1.heap.size w1 w' → w'.cell? ⟨w.heap.size, 0, none⟩ = some (.int .u64 E) ∧ w'.cell? ⟨w.heap.size, 1, none⟩ = some (.int .i64 i) ∧ w'.cell? ⟨w.heap.size, 2, none⟩ = some (.int .i64 p) ∧ w'.cell? ⟨w.heap.size, 3, none⟩ = some (.bool cm) ∧ w'.cell? ⟨w.heap.size, 4, none⟩ = some (.int .i64 n) ∧ w'.cell? ⟨w.heap.size, 5, none⟩ = some (.int .u32 k) ∧ w'.cell? ⟨w.heap.size, 6, none⟩ = some (.slice q 512 cap)) := Lib.hid fun w' h => by
    have k0 : w1.cell? ⟨w.heap.size, 0, none⟩ = some (.int .u64 E) := by subst hw1; go_cell
    have k1 : w1.cell? ⟨w.heap.size, 1, none⟩ = some (.int .i64 i) := by subst hw1; go_cell
    have k2 : w1.cell? ⟨w.heap.size, 2, none⟩ = some (.int .i64 p) := by subst hw1; go_cell
    have k3 : w1.cell? ⟨w.heap.size, 3, none⟩ = some (.bool cm) := by subst hw1; go_cell
    have k4 : w1.cell? ⟨w.heap.size, 4, none⟩ = some (.int .i64 n) := by subst hw1; go_cell
    have k5 : w1.cell? ⟨w.heap.size, 5, none⟩ = some (.int .u32 k) := by subst hw1; go_cell
    have k6 : w1.cell? ⟨w.heap.size, 6, none⟩ = some (.slice q 512 cap) := by subst hw1; go_cell
    exact ⟨(h.cell (lt_of_cell_some k0)).trans k0, (h.cell (lt_of_cell_some k1)).trans k1, (h.cell (lt_of_cell_some k2)).trans k2, (h.cell (lt_of_cell_some k3)).trans k3, (h.cell (lt_of_cell_some k4)).trans k4, (h.cell (lt_of_cell_some k5)).trans k5, (h.cell (lt_of_cell_some k6)).trans k6⟩
  rw [hw1]
  clear hw1
  refine wp_region_held_drew (S := fun w' => Below w1.heap.size w1 w') (by kernel_rfl) ((Below.refl _ _).drew) (fun H0 => ?_)
  obtain ⟨wd, hwd⟩ : ∃ wd, w1.drew = wd := ⟨_, rfl⟩
  rw [hwd] at H0 ⊢
  clear hwd
  refine wpAnyH_take (i := 0) (oi := { dst := some 3, op := Go.Op.load 51 (Go.Operand.tmp 1), type := 51, pos := "part.go:90", after := #[], guard := none }) (v := ?_) rfl (by kernel_rfl) (by kernel_rfl) (by kernel_rfl) (fun _ _ _ h => h) (Or.inl ⟨by rfl, ?_⟩) H0 ?_
  rotate_left
  focus (intro w' hSw; (try dsimp only at hSw); obtain ⟨k0, k1, k2, k3, k4, k5, k6⟩ := HCL.out _ hSw; go_simp; (try with_reducible rfl))
  simp only [Act.put, List.setIfInBounds_toArray, List.set_cons_zero, List.set_cons_succ]
  refine wpAnyH_take (i := 2) (oi := { dst := some 5, op := Go.Op.fieldAddr 51 (Go.Operand.tmp 1) 6, type := 0, pos := "part.go:90", after := #[], guard := none }) (v := ?_) rfl (by kernel_rfl) (by kernel_rfl) (by kernel_rfl) (fun _ _ _ h => h) (Or.inl ⟨by rfl, ?_⟩) H0 ?_
  rotate_left
  focus (intro w' hSw; (try dsimp only at hSw); go_simp; (try with_reducible rfl))
  simp only [Act.put, List.setIfInBounds_toArray, List.set_cons_zero, List.set_cons_succ]
  refine wpAnyH_take (i := 3) (oi := { dst := some 6, op := Go.Op.load 39 (Go.Operand.tmp 5), type := 39, pos := "part.go:90", after := #[{ on := 2, ground := Go.Ground.data }], guard := none }) (v := ?_) rfl (by kernel_rfl) (by kernel_rfl) (by kernel_rfl) (fun _ _ _ h => h) (Or.inl ⟨by rfl, ?_⟩) H0 ?_
  rotate_left
  focus (intro w' hSw; (try dsimp only at hSw); obtain ⟨k0, k1, k2, k3, k4, k5, k6⟩ := HCL.out _ hSw; go_simp; (try with_reducible rfl))
  simp only [Act.put, List.setIfInBounds_toArray, List.set_cons_zero, List.set_cons_succ]
  refine wpAnyH_ready (rs := [1]) (by kernel_rfl) (by simp) ?_
  refine AllReadyH.cons (o := { dst := some 4, op := Go.Op.call { callee := Go.Callee.value (Go.Operand.func 59), args := #[Go.Operand.tmp 3], argTypes := #[51] }, type := 39, pos := "part.go:90", after := #[{ on := 0, ground := Go.Ground.data }], guard := none }) rfl (fun K hK => ?_) ?_
  rotate_left
  exact AllReadyH.nil
  go_simp
  (go_at_call 59; (with_reducible refine (CS.out _).mono ?_); rintro e wa ⟨t, rfl, hr⟩)
  try go_wp2_with fail
  obtain ⟨pp, cp, rfl, -, -, hby, -⟩ := hr.at2
  refine hK.out _ _ (kbT H0 hr.2) (fun Ha => ?_)
  clear hK K
  try simp only [Act.put, List.setIfInBounds_toArray, List.set_cons_zero, List.set_cons_succ]
  refine wpAnyH_ready (rs := [4]) (by kernel_rfl) (by simp) ?_
  refine AllReadyH.cons (o := { dst := some 7, op := Go.Op.buildSlice 115 2 #[(0, Go.Operand.tmp 4), (1, Go.Operand.tmp 6)], type := 115, pos := "part.go:90", after := #[{ on := 1, ground := Go.Ground.data }, { on := 3, ground := Go.Ground.data }], guard := none }) rfl (fun K hK => ?_) ?_
  rotate_left
  exact AllReadyH.nil
  go_simp
  obtain ⟨wb, hwb⟩ : ∃ wb, wa.alloc (.cells #[.slice pp lb.length cp, .slice q 512 cap] 39) = wb := ⟨_, rfl⟩
  have hbw : Below wa.heap.size wa wb := by subst hwb; exact (Below.refl _ _).alloc (Nat.le_refl _) _
  rw [hwb]
  refine hK.out _ _ (kbT Ha hbw) (fun Hb => ?_)
  clear hK K
  try simp only [Act.put, List.setIfInBounds_toArray, List.set_cons_zero, List.set_cons_succ]
  refine wpAnyH_ready (rs := [5]) (by kernel_rfl) (by simp) ?_
  refine AllReadyH.cons (o := { dst := some 8, op := Go.Op.call { callee := Go.Callee.value (Go.Operand.func 53), args := #[Go.Operand.tmp 7], argTypes := #[115] }, type := 49, pos := "part.go:90", after := #[{ on := 4, ground := Go.Ground.data }, { on := 1, ground := Go.Ground.chain }], guard := none }) rfl (fun K hK => ?_) ?_
  rotate_left
  exact AllReadyH.nil
  go_simp
  have c53 := CT.out pp cp wa hby (HBS.out _ (kbT HB1.out Ha))
  rw [hwb] at c53
  (go_at_call 53; (with_reducible refine c53.mono ?_); rintro e wc ⟨rfl, hc53⟩)
  try go_wp2_with fail
  have hc54 : Below wa.heap.size wa wc := hbw.trans (hc53.mono (Nat.le_succ _))
  refine hK.out _ _ (kbT Ha hc54) (fun Hc => ?_)
  clear hK K
  try simp only [Act.put, List.setIfInBounds_toArray, List.set_cons_zero, List.set_cons_succ]
  refine wpAnyH_take (i := 6) (oi := { dst := some 2, op := Go.Op.assign (Go.Operand.tmp 8), type := 49, pos := "part.go:90", after := #[{ on := 5, ground := Go.Ground.data }, { on := 5, ground := Go.Ground.chain }, { on := 0, ground := Go.Ground.phase }, { on := 1, ground := Go.Ground.phase }, { on := 2, ground := Go.Ground.phase }, { on := 3, ground := Go.Ground.phase }, { on := 4, ground := Go.Ground.phase }, { on := 5, ground := Go.Ground.phase }], guard := none }) (v := ?_) rfl (by kernel_rfl) (by kernel_rfl) (by kernel_rfl) (fun _ _ _ h => h) (Or.inl ⟨by rfl, ?_⟩) Hc ?_
  rotate_left
  focus (intro w' hSw; (try dsimp only at hSw); go_simp; (try with_reducible rfl))
  simp only [Act.put, List.setIfInBounds_toArray, List.set_cons_zero, List.set_cons_succ]
  refine wpAnyH_done (by kernel_rfl) ?_ _
  go_wp2_with fail
  go_ret
  exact ⟨rfl, kbT HB1.out Hc⟩
end Go.Proofs.Ythnllhfdbnnjhaa
namespace Go.Proofs.Ythnllhfdbnnjhaa
open Go.RowKit Go.Shelf

theorem step_store_row {P : Program} {ops : Array Oper} {o : Oper} {a : Act} {w : World} {K : Act → World → Prop} {Q : Exit → Act → World → Prop} {E : Prop} (hgd : o.guard = none) (ty : TypeId) (x y : Operand) (ho : o.op = .store ty x y)
    (g : Nat) (cells : Array Value) (hx : a.eval x = .pointer (some ⟨g, 0, none⟩)) (hy : a.eval y = .agg cells)
    (t : TypeId) (old : Array Value) (hg : w.heap[g]? = some (.cells old t (0, 0))) (hi : (P.info? ty).map (·.size) = some cells.size)
    (hold : old.size = cells.size) (h1 : cells.all (·.oneCell') = true)
    (h : K (a.put o.dst undef) (w.setRow g cells)) : if Region.wanted o (yielded ops a.tmps) = true then Oper.wp P o a w K Q else E := by
  have hw : Region.wanted o (yielded ops a.tmps) = true := by simp [Region.wanted, hgd]
  rw [if_pos hw]
  exact wp_store_row ty x y ho g cells hx hy t old hg hi hold h1 h
/-- A frame's first sector. -/
def frameS (E i p : Nat) (cm : Bool) (n k : Nat) (bs : List Nat) : List Nat := padL (frameC E i p cm n k bs)
/-- A frame's bytes. -/
def frameL (E i p : Nat) (cm : Bool) (n k : Nat) (bs : List Nat) : List Nat := frameS E i p cm n k bs ++ bs
theorem frameS_length (E i p : Nat) (cm : Bool) (n k : Nat) (bs : List Nat) : (frameS E i p cm n k bs).length = 64 := padL_length (by rw [frameC_length]; omega)
theorem frameS_byte (E i p : Nat) (cm : Bool) (n k : Nat) (bs : List Nat) : ∀ b ∈ frameS E i p cm n k bs, b < 256 := padL_byte (frameC_byte E i p cm n k bs)
set_option maxRecDepth 100000 in
set_option maxHeartbeats 4000000 in
theorem frameSector_any (E i p : Nat) (cm : Bool) (n k : Nat) (hE : E < 2 ^ 64) (hi : i < 4294967296) (hp : p < 4294967296) (hn : n < 4294967296) (hk : k < 4294967296) (q : Option Addr) (cap : Nat) (bs : List Nat) (hbl : bs.length = 512) (hbb : ∀ b ∈ bs, b < 256) (w : World) (hbs : BytesAt w q bs) :
    Calls Try.prog 43 #[.agg #[.int .u64 E, .int .i64 i, .int .i64 p, .bool cm, .int .i64 n, .int .u32 k, .slice q 512 cap]] w fun r w' => r = .returned (.agg (secA (frameS E i p cm n k bs))) ∧ Below w.heap.size w w' := by
  have CS := Lib.hid (summed_any E i p cm n k hE hi hp hn hk q cap)
  have CT := Lib.hid fun (w' : World) (h : Below w.heap.size w w') => frameSum_any E i p cm n k hE hi hp hn hk q cap bs hbl hbb w' (bytesAt_below hbs h)
  have hlen := frameB_length E i p cm n k
  have hbyt := frameB_byte E i p cm n k
  have HSL := Lib.hid (frameS_length E i p cm n k bs)
  have hfs : frameS E i p cm n k bs = padL (frameB E i p cm n k ++ fixE 4 (~~~ sumN (frameB E i p cm n k ++ bs)).toNat) := rfl
  generalize frameS E i p cm n k bs = ls at *
  generalize frameB E i p cm n k = lb at *
  have C4 := Lib.hid fun w => four_any (~~~ sumN (lb ++ bs)).toNat w (sumNot_lt _)
  have hfl : (fixE 4 (~~~ sumN (lb ++ bs)).toNat).length = 4 := fixE_length _ _
  have hfb := fixE_byte 4 (~~~ sumN (lb ++ bs)).toNat
  generalize fixE 4 (~~~ sumN (lb ++ bs)).toNat = lf at *
  generalize (~~~ sumN (lb ++ bs)).toNat = sb at *
  have FT := Lib.hid fun p q c d (w : World) h1 h2 h3 h4 => filled_two lb lf p q c d w (by omega) hbyt hfb h1 h2 h3 h4
  rw [← hfs] at FT
  clear hlen hbyt hfl hfb hfs hE hi hp hn hk hbl hbb hbs
  go_enter Try.func43, Try.ntmps43
  go_upto_region 1 with fail
  change Code.wp Try.prog _ _ _ ((w.alloc (.cells #[.int .u64 E, .int .i64 i, .int .i64 p, .bool cm, .int .i64 n, .int .u32 k, .slice q 512 cap] 51)).alloc (.cells zs64 84))
  obtain ⟨w1, hw1⟩ : ∃ w1, (w.alloc (.cells #[.int .u64 E, .int .i64 i, .int .i64 p, .bool cm, .int .i64 n, .int .u32 k, .slice q 512 cap] 51)).alloc (.cells zs64 84) = w1 := ⟨_, rfl⟩
  have HB1 : Hid (Below w.heap.size w w1) := Lib.hid (by subst hw1; exact ((Below.refl _ _).alloc (Nat.le_refl _) _).alloc (by simp) _)
  have HGX : Hid (w1.heap[w.heap.size]? = some (.cells #[.int .u64 E, .int .i64 i, .int .i64 p, .bool cm, .int .i64 n, .int .u32 k, .slice q 512 cap] 51 (0, 0))) := Lib.hid (by subst hw1; exact (((Below.refl _ _).alloc (Nat.le_refl _) _).block _ (by simp)).trans (heap_alloc_last w _))
  have HGT : Hid (w1.heap[w.heap.size + 1]? = some (.cells zs64 84 (0, 0))) := Lib.hid (by subst hw1; have := heap_alloc_last (w.alloc (.cells #[.int .u64 E, .int .i64 i, .int .i64 p, .bool cm, .int .i64 n, .int .u32 k, .slice q 512 cap] 51)) (.cells zs64 84); rw [World.size_alloc] at this; exact this)
  have HLT : Hid (w.heap.size + 1 < w1.heap.size) := Lib.hid (by subst hw1; simp)
  have HLX : Hid (w.heap.size < w1.heap.size) := Lib.hid (by subst hw1; simp; omega)
  rw [hw1]
  clear hw1
  refine wp_region_held_drew (S := fun w' => Below w.heap.size w w' ∧ w'.heap[w.heap.size]? = some (.cells #[.int .u64 E, .int .i64 i, .int .i64 p, .bool cm, .int .i64 n, .int .u32 k, .slice q 512 cap] 51 (0, 0))) (by kernel_rfl) ⟨HB1.out.drew, HGX.out⟩ (fun S0 => ?_)
  obtain ⟨wd, hwd⟩ : ∃ wd, w1.drew = wd := ⟨_, rfl⟩
  have H0 : Below w1.heap.size w1 wd := by rw [← hwd]; exact (Below.refl _ _).drew
  rw [hwd] at S0 ⊢
  clear hwd
  refine wpAnyH_take (i := 0) (oi := { dst := some 3, op := Go.Op.load 51 (Go.Operand.tmp 1), type := 51, pos := "part.go:87", after := #[], guard := none }) (v := ?_) rfl (by kernel_rfl) (by kernel_rfl) (by kernel_rfl) (fun _ _ _ h => h) (Or.inl ⟨by rfl, ?_⟩) S0 ?_
  rotate_left
  focus (intro w' hSw; (try dsimp only at hSw); have k0 := row_cell (i := 0) hSw.2 rfl; have k1 := row_cell (i := 1) hSw.2 rfl; have k2 := row_cell (i := 2) hSw.2 rfl; have k3 := row_cell (i := 3) hSw.2 rfl; have k4 := row_cell (i := 4) hSw.2 rfl; have k5 := row_cell (i := 5) hSw.2 rfl; have k6 := row_cell (i := 6) hSw.2 rfl; go_simp; (try with_reducible rfl))
  simp only [Act.put, List.setIfInBounds_toArray, List.set_cons_zero, List.set_cons_succ]
  refine wpAnyH_take (i := 2) (oi := { dst := some 5, op := Go.Op.load 51 (Go.Operand.tmp 1), type := 51, pos := "part.go:87", after := #[], guard := none }) (v := ?_) rfl (by kernel_rfl) (by kernel_rfl) (by kernel_rfl) (fun _ _ _ h => h) (Or.inl ⟨by rfl, ?_⟩) S0 ?_
  rotate_left
  focus (intro w' hSw; (try dsimp only at hSw); have k0 := row_cell (i := 0) hSw.2 rfl; have k1 := row_cell (i := 1) hSw.2 rfl; have k2 := row_cell (i := 2) hSw.2 rfl; have k3 := row_cell (i := 3) hSw.2 rfl; have k4 := row_cell (i := 4) hSw.2 rfl; have k5 := row_cell (i := 5) hSw.2 rfl; have k6 := row_cell (i := 6) hSw.2 rfl; go_simp; (try with_reducible rfl))
  simp only [Act.put, List.setIfInBounds_toArray, List.set_cons_zero, List.set_cons_succ]
  refine wpAnyH_ready (rs := [1]) (by kernel_rfl) (by simp) ?_
  refine AllReadyH.cons (o := { dst := some 4, op := Go.Op.call { callee := Go.Callee.value (Go.Operand.func 59), args := #[Go.Operand.tmp 3], argTypes := #[51] }, type := 39, pos := "part.go:87", after := #[{ on := 0, ground := Go.Ground.data }], guard := none }) rfl (fun K hK => ?_) ?_
  rotate_left
  exact AllReadyH.nil
  go_simp
  (go_at_call 59; (with_reducible refine (CS.out _).mono ?_); rintro e wa ⟨t, rfl, hr⟩)
  try go_wp2_with fail
  obtain ⟨pp, cp, rfl, -, -, hby, hnn⟩ := hr.at2
  have Ha := kbT H0 hr.2
  refine hK.out _ _ ⟨HB1.out.trans (Ha.mono HB1.out.size), (Ha.block _ HLX.out).trans HGX.out⟩ (fun Sa => ?_)
  clear hK K
  try simp only [Act.put, List.setIfInBounds_toArray, List.set_cons_zero, List.set_cons_succ]
  refine wpAnyH_ready (rs := [3]) (by kernel_rfl) (by simp) ?_
  refine AllReadyH.cons (o := { dst := some 6, op := Go.Op.call { callee := Go.Callee.value (Go.Operand.func 46), args := #[Go.Operand.tmp 5], argTypes := #[51] }, type := 49, pos := "part.go:87", after := #[{ on := 2, ground := Go.Ground.data }, { on := 1, ground := Go.Ground.chain }], guard := none }) rfl (fun K hK => ?_) ?_
  rotate_left
  exact AllReadyH.nil
  go_simp
  (go_at_call 46; (with_reducible refine (CT.out _ (kbT HB1.out Ha)).mono ?_); rintro e wb ⟨rfl, hb⟩)
  try go_wp2_with fail
  have Hb := kbT Ha hb
  have hby := bytesAt_below hby hb
  refine hK.out _ _ ⟨HB1.out.trans (Hb.mono HB1.out.size), (Hb.block _ HLX.out).trans HGX.out⟩ (fun Sb => ?_)
  clear hK K
  try simp only [Act.put, List.setIfInBounds_toArray, List.set_cons_zero, List.set_cons_succ]
  refine wpAnyH_ready (rs := [4]) (by kernel_rfl) (by simp) ?_
  refine AllReadyH.cons (o := { dst := some 7, op := Go.Op.call { callee := Go.Callee.value (Go.Operand.func 52), args := #[Go.Operand.tmp 6], argTypes := #[49] }, type := 39, pos := "part.go:87", after := #[{ on := 3, ground := Go.Ground.data }, { on := 3, ground := Go.Ground.chain }], guard := none }) rfl (fun K hK => ?_) ?_
  rotate_left
  exact AllReadyH.nil
  go_simp
  (go_at_call 52; (with_reducible refine (C4.out _).mono ?_); rintro e wc ⟨t2, rfl, hr2⟩)
  try go_wp2_with fail
  obtain ⟨p2, c2, rfl, -, -, hby2, hnn2⟩ := hr2.at2
  have Hc := kbT Hb hr2.2
  have hby := bytesAt_below hby hr2.2
  refine hK.out _ _ ⟨HB1.out.trans (Hc.mono HB1.out.size), (Hc.block _ HLX.out).trans HGX.out⟩ (fun Sc => ?_)
  clear hK K
  try simp only [Act.put, List.setIfInBounds_toArray, List.set_cons_zero, List.set_cons_succ]
  refine wpAnyH_ready (rs := [5]) (by kernel_rfl) (by simp) ?_
  refine AllReadyH.cons (o := { dst := some 8, op := Go.Op.buildSlice 115 2 #[(0, Go.Operand.tmp 4), (1, Go.Operand.tmp 7)], type := 115, pos := "part.go:87", after := #[{ on := 1, ground := Go.Ground.data }, { on := 4, ground := Go.Ground.data }], guard := none }) rfl (fun K hK => ?_) ?_
  rotate_left
  exact AllReadyH.nil
  go_simp
  obtain ⟨we, hwe⟩ : ∃ we, wc.alloc (.cells #[.slice pp lb.length cp, .slice p2 lf.length c2] 39) = we := ⟨_, rfl⟩
  have hbe : Below wc.heap.size wc we := by subst hwe; exact (Below.refl _ _).alloc (Nat.le_refl _) _
  have He := kbT Hc hbe
  rw [hwe]
  refine hK.out _ _ ⟨HB1.out.trans (He.mono HB1.out.size), (He.block _ HLX.out).trans HGX.out⟩ (fun Se => ?_)
  clear hK K
  try simp only [Act.put, List.setIfInBounds_toArray, List.set_cons_zero, List.set_cons_succ]
  refine wpAnyH_ready (rs := [6]) (by kernel_rfl) (by simp) ?_
  refine AllReadyH.cons (o := { dst := some 9, op := Go.Op.call { callee := Go.Callee.value (Go.Operand.func 54), args := #[Go.Operand.tmp 8], argTypes := #[115] }, type := 84, pos := "part.go:87", after := #[{ on := 5, ground := Go.Ground.data }, { on := 4, ground := Go.Ground.chain }], guard := none }) rfl (fun K hK => ?_) ?_
  rotate_left
  exact AllReadyH.nil
  go_simp
  have c54 := FT.out pp p2 cp c2 wc hby hby2 hnn hnn2
  rw [hwe] at c54
  (go_at_call 54; (with_reducible refine c54.mono ?_); rintro e wf ⟨rfl, hf⟩)
  try go_wp2_with fail
  have Hf := kbT Hc hf
  have HG2 := (Hf.block _ HLT.out).trans HGT.out
  refine hK.out _ _ ⟨HB1.out.trans (Hf.mono HB1.out.size), (Hf.block _ HLX.out).trans HGX.out⟩ (fun Sf => ?_)
  clear hK K
  try simp only [Act.put, List.setIfInBounds_toArray, List.set_cons_zero, List.set_cons_succ]
  refine wpAnyH_ready (rs := [7]) (by kernel_rfl) (by simp) ?_
  refine AllReadyH.cons (o := { dst := none, op := Go.Op.store 84 (Go.Operand.tmp 2) (Go.Operand.tmp 9), type := 0, pos := "part.go:87", after := #[{ on := 6, ground := Go.Ground.data }, { on := 6, ground := Go.Ground.chain }, { on := 0, ground := Go.Ground.phase }, { on := 1, ground := Go.Ground.phase }, { on := 2, ground := Go.Ground.phase }, { on := 3, ground := Go.Ground.phase }, { on := 4, ground := Go.Ground.phase }, { on := 5, ground := Go.Ground.phase }, { on := 6, ground := Go.Ground.phase }], guard := none }) rfl (fun K hK => ?_) ?_
  rotate_left
  exact AllReadyH.nil
  refine step_store_row rfl 84 (.tmp 2) (.tmp 9) rfl (w.heap.size + 1) (secA ls) rfl rfl 84 zs64 HG2 (by rw [secA_size, HSL.out]; kernel_rfl) (by rw [secA_size, HSL.out]; rfl) (secA_one _) ?_
  refine hK.out _ _ ⟨below_setRow Sf.1 (Nat.le_succ _) _, (setRow_other _ _ _ _ (by omega)).trans Sf.2⟩ (fun Sg => ?_)
  clear hK K
  try simp only [Act.put, List.setIfInBounds_toArray, List.set_cons_zero, List.set_cons_succ]
  refine wpAnyH_done (by kernel_rfl) ?_ _
  go_wp2_with fail
  exact bodyPost_ret (results_cell_row rfl _ _ _ _ _ _ _ rfl (setRow_heap _ _ _ _ _ _ HG2) Try.underlying84 rfl (by rw [secA_size, HSL.out]; kernel_rfl)) rfl ⟨rfl, Sg.1⟩
/-- Two lists of bytes, joined. -/
theorem concat_two (l m : List Nat) (p q : Option Addr) (c d : Nat) (w : World) (hs : l.length + m.length ≤ 100000) (hb : ∀ b ∈ l, b < 256) (hd : ∀ b ∈ m, b < 256) (hc : BytesAt w p l) (hq : BytesAt w q m) (n1 : p = none → c = 0) (n2 : q = none → d = 0) :
    Calls Try.prog 44 #[.slice (some ⟨w.heap.size, 0, none⟩) 2 2] (w.alloc (.cells #[.slice p l.length c, .slice q m.length d] 39)) fun r w' => ∃ t, r = .returned t ∧ RowB (w.alloc (.cells #[.slice p l.length c, .slice q m.length d] 39)) (l ++ m) t w' := by
  have e : flatL [(p, l, c), (q, m, d)] = l ++ m := by simp [flatL]
  have hB : Below w.heap.size w (w.alloc (.cells #[.slice p l.length c, .slice q m.length d] 39)) := (Below.refl _ _).alloc (Nat.le_refl _) _
  have h := concat_any [(p, l, c), (q, m, d)] (some ⟨w.heap.size, 0, none⟩) 2 (w.alloc (.cells #[.slice p l.length c, .slice q m.length d] 39)) (by simp)
    (Lib.hid (lists_two (by omega) (by omega) hb hd (by go_cell) (by go_cell) (bytesAt_below hc hB) (bytesAt_below hq hB)))
    (Lib.hid fun x hx => by
      simp only [List.mem_cons, List.not_mem_nil, or_false] at hx
      rcases hx with rfl | rfl
      · exact n1
      · exact n2) (by rw [e, List.length_append]; exact hs)
  rw [e] at h
  exact h
set_option maxRecDepth 100000 in
set_option maxHeartbeats 4000000 in
theorem encode_ok (E i p : Nat) (cm : Bool) (n k : Nat) (hE : E < 2 ^ 64) (hi : i < 4294967296) (hp : p < 4294967296) (hn : n < 4294967296) (hk : k < 4294967296) (q : Option Addr) (cap : Nat) (bs : List Nat) (hbl : bs.length = 512) (hbb : ∀ b ∈ bs, b < 256) (w : World) (hbs : BytesAt w q bs) (hnn : q = none → cap = 0) (hok : frameOk i p cm n 512 = true) :
    Calls Try.prog 23 #[.agg #[.int .u64 E, .int .i64 i, .int .i64 p, .bool cm, .int .i64 n, .int .u32 k, .slice q 512 cap]] w fun r w' => ∃ t, r = .returned (.tuple #[t, .int .i64 0]) ∧ RowB w (frameL E i p cm n k bs) t w' := by
  have CC := Lib.hid (checkFrame_any E i p cm n k q 512 cap)
  rw [if_pos hok] at CC
  unfold frameV at CC
  have CH := Lib.hid fun (w' : World) (h : Below w.heap.size w w') => frameSector_any E i p cm n k hE hi hp hn hk q cap bs hbl hbb w' (bytesAt_below hbs h)
  have HSL := Lib.hid (frameS_length E i p cm n k bs)
  have hsb := frameS_byte E i p cm n k bs
  have hfl : frameL E i p cm n k bs = frameS E i p cm n k bs ++ bs := rfl
  have HBS := Lib.hid fun (w' : World) (h : Below w.heap.size w w') => bytesAt_below hbs h
  generalize frameL E i p cm n k bs = fl at *
  generalize frameS E i p cm n k bs = ls at *
  have KT := Lib.hid fun p c (w : World) h1 h2 h3 => concat_two ls bs p q c cap w (by have := HSL.out; omega) hsb hbb h1 h2 h3 hnn
  rw [← hfl, HSL.out, hbl] at KT
  clear hok hsb hfl hE hi hp hn hk hbl hbb hbs hnn
  go_enter Try.func23, Try.ntmps23
  go_upto_region 1 with fail
  obtain ⟨w1, hw1⟩ : ∃ w1, w.alloc (.cells #[.int .u64 E, .int .i64 i, .int .i64 p, .bool cm, .int .i64 n, .int .u32 k, .slice q 512 cap] 51) = w1 := ⟨_, rfl⟩
  have HB1 : Hid (Below w.heap.size w w1) := Lib.hid (by subst hw1; exact (Below.refl _ _).alloc (Nat.le_refl _) _)
  have HCL : Hid (∀ w', Below w1.heap.size w1 w' → w'.cell? ⟨w.heap.size, 0, none⟩ = some (.int .u64 E) ∧ w'.cell? ⟨w.heap.size, 1, none⟩ = some (.int .i64 i) ∧ w'.cell? ⟨w.heap.size, 2, none⟩ = some (.int .i64 p) ∧ w'.cell? ⟨w.heap.size, 3, none⟩ = some (.bool cm) ∧ w'.cell? ⟨w.heap.size, 4, none⟩ = some (.int .i64 n) ∧ w'.cell? ⟨w.heap.size, 5, none⟩ = some (.int .u32 k) ∧ w'.cell? ⟨w.heap.size, 6, none⟩ = some (.slice q 512 cap)) := Lib.hid fun w' h => by
    have k0 : w1.cell? ⟨w.heap.size, 0, none⟩ = some (.int .u64 E) := by subst hw1; go_cell
    have k1 : w1.cell? ⟨w.heap.size, 1, none⟩ = some (.int .i64 i) := by subst hw1; go_cell
    have k2 : w1.cell? ⟨w.heap.size, 2, none⟩ = some (.int .i64 p) := by subst hw1; go_cell
    have k3 : w1.cell? ⟨w.heap.size, 3, none⟩ = some (.bool cm) := by subst hw1; go_cell
    have k4 : w1.cell? ⟨w.heap.size, 4, none⟩ = some (.int .i64 n) := by subst hw1; go_cell
    have k5 : w1.cell? ⟨w.heap.size, 5, none⟩ = some (.int .u32 k) := by subst hw1; go_cell
    have k6 : w1.cell? ⟨w.heap.size, 6, none⟩ = some (.slice q 512 cap) := by subst hw1; go_cell
    exact ⟨(h.cell (lt_of_cell_some k0)).trans k0, (h.cell (lt_of_cell_some k1)).trans k1, (h.cell (lt_of_cell_some k2)).trans k2, (h.cell (lt_of_cell_some k3)).trans k3, (h.cell (lt_of_cell_some k4)).trans k4, (h.cell (lt_of_cell_some k5)).trans k5, (h.cell (lt_of_cell_some k6)).trans k6⟩
  obtain ⟨k0, k1, k2, k3, k4, k5, k6⟩ := HCL.out _ (Below.refl _ _)
  rw [hw1]
  clear hw1
  go_upto_region 5 with (first
    | (go_at_call 42; (with_reducible refine (CC.out _).mono ?_); rintro e wb ⟨rfl, hb⟩; have HBB := Lib.hid hb; obtain ⟨k0, k1, k2, k3, k4, k5, k6⟩ := HCL.out _ hb; clear hb)
    | (go_at_call 43; (with_reducible refine (CH.out _ (kbT HB1.out HBB.out)).mono ?_); rintro e wc ⟨rfl, hb⟩; have HBC := Lib.hid (kbT HBB.out hb); clear hb)
    | (refine wpList_store_row rfl 84 _ _ rfl wc.heap.size (secA ls) rfl rfl 84 _ (heap_alloc_last wc _) (by rw [secA_size, HSL.out]; kernel_rfl) (by rw [secA_size, HSL.out]; rfl) (secA_one _) ?_; rw [World.setRow_alloc_new]))
  obtain ⟨wz, hwz⟩ : ∃ wz, wc.alloc (.cells (secA ls) 84) = wz := ⟨_, rfl⟩
  have HZ : Hid (Below w1.heap.size w1 wz) := Lib.hid (by subst hwz; exact HBC.out.alloc HBC.out.size _)
  have HBY : Hid (BytesAt wz (some ⟨wc.heap.size, 0, none⟩) ls) := Lib.hid (by subst hwz; exact bytes_sec wc ls 84)
  rw [hwz]
  clear hwz k0 k1 k2 k3 k4 k5 k6
  refine wp_region_held_drew (S := fun w' => Below wz.heap.size wz w') (by kernel_rfl) ((Below.refl _ _).drew) (fun H0 => ?_)
  obtain ⟨wd, hwd⟩ : ∃ wd, wz.drew = wd := ⟨_, rfl⟩
  rw [hwd] at H0 ⊢
  clear hwd
  refine wpAnyH_take (i := 0) (oi := { dst := some 13, op := Go.Op.slice 84 (Go.Operand.tmp 5) none none none, type := 39, pos := "frame.go:71", after := #[], guard := none }) (v := ?_) rfl (by kernel_rfl) (by kernel_rfl) (by kernel_rfl) (fun _ _ _ h => h) (Or.inl ⟨by rfl, ?_⟩) H0 ?_
  rotate_left
  focus (intro w' hSw; (try dsimp only at hSw); go_simp; (try with_reducible rfl))
  simp only [Act.put, List.setIfInBounds_toArray, List.set_cons_zero, List.set_cons_succ]
  refine wpAnyH_take (i := 1) (oi := { dst := some 14, op := Go.Op.fieldAddr 51 (Go.Operand.tmp 1) 6, type := 0, pos := "frame.go:71", after := #[], guard := none }) (v := ?_) rfl (by kernel_rfl) (by kernel_rfl) (by kernel_rfl) (fun _ _ _ h => h) (Or.inl ⟨by rfl, ?_⟩) H0 ?_
  rotate_left
  focus (intro w' hSw; (try dsimp only at hSw); go_simp; (try with_reducible rfl))
  simp only [Act.put, List.setIfInBounds_toArray, List.set_cons_zero, List.set_cons_succ]
  refine wpAnyH_take (i := 2) (oi := { dst := some 15, op := Go.Op.load 39 (Go.Operand.tmp 14), type := 39, pos := "frame.go:71", after := #[{ on := 1, ground := Go.Ground.data }], guard := none }) (v := ?_) rfl (by kernel_rfl) (by kernel_rfl) (by kernel_rfl) (fun _ _ _ h => h) (Or.inl ⟨by rfl, ?_⟩) H0 ?_
  rotate_left
  focus (intro w' hSw; (try dsimp only at hSw); obtain ⟨k0, k1, k2, k3, k4, k5, k6⟩ := HCL.out _ (kbT HZ.out hSw); go_simp; (try with_reducible rfl))
  simp only [Act.put, List.setIfInBounds_toArray, List.set_cons_zero, List.set_cons_succ]
  refine wpAnyH_ready (rs := [3]) (by kernel_rfl) (by simp) ?_
  refine AllReadyH.cons (o := { dst := some 16, op := Go.Op.buildSlice 115 2 #[(0, Go.Operand.tmp 13), (1, Go.Operand.tmp 15)], type := 115, pos := "frame.go:71", after := #[{ on := 0, ground := Go.Ground.data }, { on := 2, ground := Go.Ground.data }], guard := none }) rfl (fun K hK => ?_) ?_
  rotate_left
  exact AllReadyH.nil
  go_simp
  obtain ⟨wb, hwb⟩ : ∃ wb, wd.alloc (.cells #[.slice (some ⟨wc.heap.size, 0, none⟩) 64 64, .slice q 512 cap] 39) = wb := ⟨_, rfl⟩
  have hbw : Below wd.heap.size wd wb := by subst hwb; exact (Below.refl _ _).alloc (Nat.le_refl _) _
  rw [hwb]
  refine hK.out _ _ (kbT H0 hbw) (fun Hb => ?_)
  clear hK K
  try simp only [Act.put, List.setIfInBounds_toArray, List.set_cons_zero, List.set_cons_succ]
  refine wpAnyH_ready (rs := [4]) (by kernel_rfl) (by simp) ?_
  refine AllReadyH.cons (o := { dst := some 17, op := Go.Op.call { callee := Go.Callee.value (Go.Operand.func 44), args := #[Go.Operand.tmp 16], argTypes := #[115] }, type := 39, pos := "frame.go:71", after := #[{ on := 3, ground := Go.Ground.data }], guard := none }) rfl (fun K hK => ?_) ?_
  rotate_left
  exact AllReadyH.nil
  go_simp
  have c44 := KT.out (some ⟨wc.heap.size, 0, none⟩) 64 wd (bytesAt_below HBY.out H0) (HBS.out _ (kbT HB1.out (kbT HZ.out H0))) (fun h => nomatch h)
  rw [hwb] at c44
  (go_at_call 44; (with_reducible refine c44.mono ?_); rintro e we ⟨t, rfl, hr⟩)
  try go_wp2_with fail
  have hbe := kbT hbw (show Below wb.heap.size wb we from hr.2)
  refine hK.out _ _ (kbT H0 hbe) (fun He => ?_)
  clear hK K
  try simp only [Act.put, List.setIfInBounds_toArray, List.set_cons_zero, List.set_cons_succ]
  refine wpAnyH_take (i := 5) (oi := { dst := some 2, op := Go.Op.assign (Go.Operand.tmp 17), type := 39, pos := "frame.go:71", after := #[{ on := 4, ground := Go.Ground.data }, { on := 4, ground := Go.Ground.chain }, { on := 0, ground := Go.Ground.phase }, { on := 1, ground := Go.Ground.phase }, { on := 2, ground := Go.Ground.phase }, { on := 3, ground := Go.Ground.phase }, { on := 4, ground := Go.Ground.phase }], guard := none }) (v := ?_) rfl (by kernel_rfl) (by kernel_rfl) (by kernel_rfl) (fun _ _ _ h => h) (Or.inl ⟨by rfl, ?_⟩) He ?_
  rotate_left
  focus (intro w' hSw; (try dsimp only at hSw); go_simp; (try with_reducible rfl))
  simp only [Act.put, List.setIfInBounds_toArray, List.set_cons_zero, List.set_cons_succ]
  refine wpAnyH_take (i := 6) (oi := { dst := some 3, op := Go.Op.assign (Go.Operand.const (Go.Value.int Go.IntKind.i64 0)), type := 24, pos := "frame.go:71", after := #[{ on := 5, ground := Go.Ground.chain }, { on := 0, ground := Go.Ground.phase }, { on := 1, ground := Go.Ground.phase }, { on := 2, ground := Go.Ground.phase }, { on := 3, ground := Go.Ground.phase }, { on := 4, ground := Go.Ground.phase }, { on := 5, ground := Go.Ground.phase }], guard := none }) (v := ?_) rfl (by kernel_rfl) (by kernel_rfl) (by kernel_rfl) (fun _ _ _ h => h) (Or.inl ⟨by rfl, ?_⟩) He ?_
  rotate_left
  focus (intro w' hSw; (try dsimp only at hSw); go_simp; (try with_reducible rfl))
  simp only [Act.put, List.setIfInBounds_toArray, List.set_cons_zero, List.set_cons_succ]
  refine wpAnyH_done (by kernel_rfl) ?_ _
  go_wp2_with fail
  go_ret2
  exact ⟨_, rfl, hr.grow (kbT HB1.out (kbT HZ.out (kbT H0 hbw)))⟩
end Go.Proofs.Ythnllhfdbnnjhaa
namespace Go.Proofs.Ythnllhfdbnnjhaa
open Go.RowKit Go.Shelf

theorem run_append_room_zeros (w : World) (ty : TypeId) (g n cap k : Nat) (cur : Array Value) (hg : w.heap[g]? = some (.cells cur 5 (0, 0))) (hk : 0 < k) (hk2 : k ≤ 100000) (hroom : n + k ≤ cap) (hfit : n + k ≤ cur.size) :
    (Builtin.append_ #[39, 3] ty #[.slice (some ⟨g, 0, none⟩) n cap, .int .i64 k]).run Try.prog w =
      .ok (.slice (some ⟨g, 0, none⟩) (n + k) cap) (w.setRow g (cur.toList.take n ++ List.replicate k (Value.int .u8 0) ++ cur.toList.drop (n + k)).toArray) := by
  obtain ⟨i, hi, hz, hs, hb⟩ := info_parts info5
  have hst := run_storeCells_at Try.prog g n 5 (List.replicate k (.int .u8 0)) 0 cur w hg (by simpa using hfit) (fun u hu => by rw [List.mem_replicate] at hu; rw [hu.2]; rfl)
  have hzc : Builtin.zeroCells (Value.int .u8 0).cells k = (List.replicate k (.int .u8 0)).toArray := by
    apply Array.ext
    · simp [size_zeroCells, Value.cells]
    · intro j h1 h2
      simp [Builtin.zeroCells, Value.cells, Nat.mod_one]
  have hw : IntKind.i64.wrap (k : Int) = k := wrap_small (by omega) (by omega)
  have hneg : ¬ ((k : Int) < 0) := by omega
  have h48 : ¬ (281474976710656 < (k : Int) * (i.bytes : Int)) := by rw [hb]; omega
  have hns : ¬ (k * i.size = 0) := by rw [hs]; omega
  have hk0 : k ≠ 0 := by omega
  simp only [Nat.add_zero, List.length_replicate] at hst
  simp [Builtin.append_, run_underlying Try.underlying39, run_underlying Try.underlying3, sizeOf, typeInfo, zeroValue, hi, hz, hs, asInt, asIntOf, hw, hneg, h48, hk0, hroom, hzc, Addr.add_lit, hst]
/-- Noughts behind bytes of the call's own. -/
theorem run_append_zeros {w w0 : World} {l : List Nat} {v : Value} (k : Nat) (hk : 0 < k) (hR : RowB w0 l v w) (hb : l.length + k ≤ 100000) (ty : TypeId) :
    ∃ v' w', (Builtin.append_ #[39, 3] ty #[v, .int .i64 k]).run Try.prog w = .ok v' w' ∧ RowB w0 (l ++ List.replicate k 0) v' w' ∧ w.grownBy w' v.ownBlock := by
  obtain ⟨i, hi, hz, hs, hby⟩ := info_parts info5
  have hbs := hR.2.size
  have hmap : (l ++ List.replicate k 0).map (fun (x : Nat) => Value.int .u8 (x : Int)) = l.map (fun (x : Nat) => Value.int .u8 (x : Int)) ++ List.replicate k (.int .u8 0) := by simp
  have hzc : ∀ k, Builtin.zeroCells (Value.int .u8 0).cells k = (List.replicate k (.int .u8 0)).toArray := fun k => by
    apply Array.ext
    · simp [size_zeroCells, Value.cells]
    · intro j h1 h2
      simp [Builtin.zeroCells, Value.cells, Nat.mod_one]
  have grown : ∀ (old : Nat), old < l.length + k → ∀ row, RowB w0 (l ++ List.replicate k 0) (.slice (some ⟨w.heap.size, 0, none⟩) (l.length + k) (grownCap w (l.length + k) old 5))
      (w.drew.alloc (.cells ((l.map fun (x : Nat) => Value.int .u8 (x : Int)).toArray ++ Builtin.zeroCells (Value.int .u8 0).cells k ++ Builtin.zeroCells (Value.int .u8 0).cells (grownCap w (l.length + k) old 5 - (l.length + k))) 5)) ∧
      w.grownBy (w.drew.alloc (.cells ((l.map fun (x : Nat) => Value.int .u8 (x : Int)).toArray ++ Builtin.zeroCells (Value.int .u8 0).cells k ++ Builtin.zeroCells (Value.int .u8 0).cells (grownCap w (l.length + k) old 5 - (l.length + k))) 5)) row := by
    intro old ho row
    have hge := grownCap_ge w (l.length + k) old 5
    have hcm : grownCap w (l.length + k) old 5 ≤ maxLen := grownCap_le_maxLen w (l.length + k) old 5 (by unfold maxLen; omega)
    refine ⟨⟨⟨by simp, .inr ⟨w.heap.size, _, _, by simp, hbs, heap_alloc_new w.drew _, by simpa using hge, hcm, ?_, ?_⟩⟩, (hR.2.drew).alloc (by simpa using hbs) _⟩, ⟨rfl, rfl, rfl, by simp, fun j hj _ => (((Below.refl _ w).drew).alloc (Nat.le_refl _) _).block j hj⟩⟩
    · simp only [hzc, Array.size_append, List.size_toArray, List.length_map, List.length_replicate]
      omega
    · simp only [hzc, Array.toList_append, hmap]
      rw [List.take_append_of_le_length (by simp), List.take_of_length_le (by simp)]
  rcases hR.1.2 with ⟨rfl, hn⟩ | ⟨g, cap, cur, rfl, hbg, hg, hnc, hcm, hcs, htake⟩
  · have hl : l = [] := List.eq_nil_of_length_eq_zero hn
    subst hl
    have hr := Lib.run_append_grow_zeros (P := Try.prog) w 39 3 ty 5 i (.int .u8 0) .i64 .i64 Try.underlying39 Try.underlying3 hi hz none 0 0 [] (run_firstCells_none w.drew i.size 0 0 0) k hk (by omega) (by omega) (by simp at hb; omega) (by simp at hb; rw [hby]; omega) (growslice_fits (by omega) (by simp at hb; rw [hby]; omega))
    have := grown 0 (by omega) (Value.ownBlock (.slice none 0 0))
    exact ⟨_, _, hr, this.1, this.2⟩
  · by_cases hroom : l.length + k ≤ cap
    · have hr := run_append_room_zeros w ty g l.length cap k cur hg hk (by omega) hroom (by omega)
      refine ⟨_, _, hr, ⟨⟨by simp, .inr ⟨g, cap, _, by simp, hbg, setRow_heap w g cur _ 5 _ hg, by simpa using hroom, hcm, ?_, ?_⟩⟩, below_setRow hR.2 hbg _⟩, ⟨rfl, rfl, rfl, by simp, fun k _ hk => setRow_other w g k _ (fun e => hk (by simp [Value.ownBlock, e]))⟩⟩
      · simp only [List.size_toArray, List.length_append, List.length_take, List.length_drop, Array.length_toList, List.length_replicate]
        omega
      · rw [hmap]
        rw [Nat.mul_one] at htake
        simp only [htake, List.length_append, List.length_replicate, Nat.mul_one]
        rw [List.take_append_of_le_length (by simp), List.take_of_length_le (by simp)]
    · have holds : ∀ j u, (l.map fun (x : Nat) => Value.int .u8 (x : Int))[j]? = some u → w.cell? ((⟨g, 0, none⟩ : Addr).add j) = some u := hR.1.cells (g := g) rfl
      have hold := run_firstCells_some (P := Try.prog) w.drew i.size l.length ⟨g, 0, none⟩ l.length cap (l.map fun (x : Nat) => Value.int .u8 (x : Int)) (by simp [hs]) (fun j u h => by rw [World.cell?_drew]; exact holds j u h)
      have hr := Lib.run_append_grow_zeros (P := Try.prog) w 39 3 ty 5 i (.int .u8 0) .i64 .i64 Try.underlying39 Try.underlying3 hi hz (some ⟨g, 0, none⟩) l.length cap _ hold k hk (by omega) (by omega) (by omega) (by rw [hby]; omega) (growslice_fits (by omega) (by rw [hby]; omega))
      have := grown cap (by omega) (Value.ownBlock (.slice (some ⟨g, 0, none⟩) l.length cap))
      exact ⟨_, _, hr, this.1, this.2⟩
theorem wpList_append_zeros {ops : Array Oper} {rest : List Oper} {o : Oper} {a : Act} {w : World} {Q : Exit → Act → World → Prop} (hgd : o.guard = none) (s x : Operand)
    (ho : o.op = .call { callee := .builtin .append, args := #[s, x], argTypes := #[39, 3] })
    {w0 : World} {l : List Nat} {v : Value} (k : Nat) (hk : 0 < k) (hs : a.eval s = v) (hR : RowB w0 l v w) (hx : a.eval x = .int .i64 k) (hb : l.length + k ≤ 100000)
    (h : ∀ v' w', RowB w0 (l ++ List.replicate k 0) v' w' → wpList Try.prog ops Q rest (a.put o.dst v') w') : wpList Try.prog ops Q (o :: rest) a w := by
  refine wpList_plain hgd fun K hK => ?_
  obtain ⟨v', w', hrun, h1, -⟩ := run_append_zeros k hk hR hb o.type
  unfold Oper.wp
  simp [execOp, ho, resolve, invoke, builtin, hs, hx, hrun, Result.andThen]
  exact hK _ _ (h v' w' h1)
end Go.Proofs.Ythnllhfdbnnjhaa
namespace Go.Proofs.Ythnllhfdbnnjhaa
open Go.RowKit Go.Shelf

theorem fix8 (x : Nat) (h : x < 2 ^ 64) (w : World) : Calls Try.prog 36 #[.int .u64 x, .int .i64 8] w fun r w' => r = .returned (.slice (some ⟨w.heap.size, 0, none⟩) 8 8) ∧ RowB w (fixE 8 x) (.slice (some ⟨w.heap.size, 0, none⟩) 8 8) w' :=
  (fixed_conv x 8 (by omega) h w).mono fun _ _ h => ⟨h.1, h.2.1⟩
theorem fix4 (x : Nat) (h : x < 2 ^ 64) (w : World) : Calls Try.prog 36 #[.int .u64 x, .int .i64 4] w fun r w' => r = .returned (.slice (some ⟨w.heap.size, 0, none⟩) 4 4) ∧ RowB w (fixE 4 x) (.slice (some ⟨w.heap.size, 0, none⟩) 4 4) w' :=
  (fixed_conv x 4 (by omega) h w).mono fun _ _ h => ⟨h.1, h.2.1⟩
theorem head_no {n c : Int} (h : ¬ (0 ≤ n ∧ n ≤ 2000 ∧ 0 ≤ c ∧ c ≤ 2000)) : headOk n c = false := by
  cases hp : headOk n c
  · rfl
  · exact absurd (head_bounds hp) h
set_option maxRecDepth 100000 in
theorem refEncodeHead_no (S E : Nat) (n c : Int) (hh : headOk n c = false) (w : World) :
    Calls Try.prog 20 #[.agg #[.int .u64 S, .int .u64 E, .int .i64 n, .int .i64 c]] w fun r w' => r = .returned (.tuple #[.slice none 0 0, .int .i64 2]) ∧ Below w.heap.size w w' := by
  by_cases h1 : n < 0
  · clear hh
    go_enter Try.func20, Try.ntmps20
    go_wp2
    go_ret2
    exact ⟨rfl, (Below.refl _ _).alloc (Nat.le_refl _) _⟩
  · by_cases h2 : n > 2000
    · clear hh
      go_enter Try.func20, Try.ntmps20
      go_wp2
      go_ret2
      exact ⟨rfl, (Below.refl _ _).alloc (Nat.le_refl _) _⟩
    · by_cases h3 : c < 0
      · clear hh
        go_enter Try.func20, Try.ntmps20
        go_wp2
        go_ret2
        exact ⟨rfl, (Below.refl _ _).alloc (Nat.le_refl _) _⟩
      · by_cases h4 : c > 2000
        · clear hh
          go_enter Try.func20, Try.ntmps20
          go_wp2
          go_ret2
          exact ⟨rfl, (Below.refl _ _).alloc (Nat.le_refl _) _⟩
        · simp [headOk] at hh
          omega
theorem headB_is (S E n c : Nat) : headB S E n c = fixE 8 S ++ fixE 8 E ++ fixE 4 n ++ fixE 4 c := by simp [headB, partsL, headPs]
theorem headL_is (S E n c : Nat) : headL S E n c = headC S E n c ++ headC S E n c ++ List.replicate 8 0 := by
  have h := headC_length S E n c
  unfold headL padL
  rw [List.length_append, h]
theorem RX (w : World) : Hid (RowB w [] (.slice (some ⟨w.heap.size, 0, none⟩) 0 0) (w.alloc (.cells #[] 5))) := Lib.hid (rowB_empty w)
/-- As wpList_append_bytes, where the length is told. -/
theorem wpList_append_at {ops : Array Oper} {rest : List Oper} {o : Oper} {a : Act} {w : World} {Q : Exit → Act → World → Prop} (hgd : o.guard = none) (s x : Operand)
    (ho : o.op = .call { callee := .builtin .append, args := #[s, x], argTypes := #[39, 39] })
    {w0 : World} {l m : List Nat} {v : Value} {q : Option Addr} {n c : Nat} (hs : a.eval s = v) (hR : RowB w0 l v w) (hn : m.length = n) (hx : a.eval x = .slice q n c) (hq : q = none → c = 0) (hm : BytesAt w q m) (hb : l.length + m.length ≤ 100000)
    (h : ∀ v' w', RowB w0 (l ++ m) v' w' → wpList Try.prog ops Q rest (a.put o.dst v') w') : wpList Try.prog ops Q (o :: rest) a w := by
  subst hn
  exact wpList_append_bytes hgd s x ho hs hR hx hq hm hb h
set_option maxRecDepth 100000 in
set_option maxHeartbeats 4000000 in
theorem refEncodeHead_ok (S E n c : Nat) (hS : S < 2 ^ 64) (hE : E < 2 ^ 64) (hh : headOk n c = true) (w : World) :
    Calls Try.prog 20 #[.agg #[.int .u64 S, .int .u64 E, .int .i64 n, .int .i64 c]] w fun r w' => ∃ t, r = .returned (.tuple #[t, .int .i64 0]) ∧ RowB w (headL S E n c) t w' := by
  obtain ⟨h1, h2, h3, h4⟩ := head_bounds hh
  have F1 := Lib.hid (fix8 S hS)
  have F2 := Lib.hid (fix8 E hE)
  have F3 := Lib.hid (fix4 n (by omega))
  have F4 := Lib.hid (fix4 c (by omega))
  have HB := Lib.hid (headB_is S E n c)
  have HC : Hid (headC S E n c = headB S E n c ++ fixE 4 (~~~ sumN (headB S E n c)).toNat) := Lib.hid rfl
  have HLL := Lib.hid (headL_is S E n c)
  have hbl := headB_length S E n c
  have hcl := headC_length S E n c
  have hbb := headB_byte S E n c
  generalize headB S E n c = lb at *
  generalize headC S E n c = lc at *
  generalize headL S E n c = ll at *
  have SU := Lib.hid fun p cap w h => refSum_any lb p cap w (by omega) hbb (Lib.hid h)
  have hsb : (~~~ sumN lb).toNat < 4294967296 := sumNot_lt _
  have F5 := Lib.hid (fix4 (~~~ sumN lb).toNat (by omega))
  have e8s : Hid ((fixE 8 E).length = 8) := Lib.hid (fixE_length _ _)
  have e4n : Hid ((fixE 4 n).length = 4) := Lib.hid (fixE_length _ _)
  have e4c : Hid ((fixE 4 c).length = 4) := Lib.hid (fixE_length _ _)
  have e4s : Hid ((fixE 4 (~~~ sumN lb).toNat).length = 4) := Lib.hid (fixE_length _ _)
  have s1 : Hid ((fixE 8 S).length + (fixE 8 E).length ≤ 100000) := Lib.hid (by simp [fixE_length])
  have s2 : Hid ((fixE 8 S ++ fixE 8 E).length + (fixE 4 n).length ≤ 100000) := Lib.hid (by simp [fixE_length])
  have s3 : Hid ((fixE 8 S ++ fixE 8 E ++ fixE 4 n).length + (fixE 4 c).length ≤ 100000) := Lib.hid (by simp [fixE_length])
  have s4 : Hid (lb.length + (fixE 4 (~~~ sumN lb).toNat).length ≤ 100000) := Lib.hid (by rw [fixE_length]; omega)
  have s5 : Hid (([] : List Nat).length + lc.length ≤ 100000) := Lib.hid (by simp; omega)
  have s6 : Hid (lc.length + lc.length ≤ 100000) := Lib.hid (by omega)
  have s7 : Hid ((lc ++ lc).length + 8 ≤ 100000) := Lib.hid (by rw [List.length_append]; omega)
  generalize fixE 4 (~~~ sumN lb).toNat = l5 at *
  generalize (~~~ sumN lb).toNat = sb at *
  generalize fixE 8 S = f1 at *
  generalize fixE 8 E = f2 at *
  generalize fixE 4 n = f3 at *
  generalize fixE 4 c = f4 at *
  have u1 : IntKind.u64.wrap (n : Int) = (n : Int) := wrap_u64 _ (by omega) (by omega)
  have u2 : IntKind.u64.wrap (c : Int) = (c : Int) := wrap_u64 _ (by omega) (by omega)
  have u3 : IntKind.u64.wrap (sb : Int) = (sb : Int) := wrap_u64 _ (by omega) (by omega)
  clear hbl hcl hbb hh
  go_enter Try.func20, Try.ntmps20
  go_upto_region 3 with fail
  obtain ⟨w1, hw1⟩ : ∃ w1, w.alloc (.cells #[.int .u64 S, .int .u64 E, .int .i64 n, .int .i64 c] 38) = w1 := ⟨_, rfl⟩
  have B1 : Hid (Below w.heap.size w w1) := Lib.hid (by subst hw1; exact (Below.refl _ _).alloc (Nat.le_refl _) _)
  have HCL : Hid (∀ w', Below w1.heap.size w1 w' → w'.cell? ⟨w.heap.size, 0, none⟩ = some (.int .u64 S) ∧ w'.cell? ⟨w.heap.size, 1, none⟩ = some (.int .u64 E) ∧ w'.cell? ⟨w.heap.size, 2, none⟩ = some (.int .i64 n) ∧ w'.cell? ⟨w.heap.size, 3, none⟩ = some (.int .i64 c)) := Lib.hid fun w' h => by
    have k0 : w1.cell? ⟨w.heap.size, 0, none⟩ = some (.int .u64 S) := by subst hw1; go_cell
    have k1 : w1.cell? ⟨w.heap.size, 1, none⟩ = some (.int .u64 E) := by subst hw1; go_cell
    have k2 : w1.cell? ⟨w.heap.size, 2, none⟩ = some (.int .i64 n) := by subst hw1; go_cell
    have k3 : w1.cell? ⟨w.heap.size, 3, none⟩ = some (.int .i64 c) := by subst hw1; go_cell
    exact ⟨(h.cell (lt_of_cell_some k0)).trans k0, (h.cell (lt_of_cell_some k1)).trans k1, (h.cell (lt_of_cell_some k2)).trans k2, (h.cell (lt_of_cell_some k3)).trans k3⟩
  rw [hw1]
  clear hw1
  go_cut [4] from 23 to 29 (fun s4 wx => ∃ w2, Hid (Below w1.heap.size w1 w2) ∧ Hid (RowB w2 (f1 ++ f2) s4 wx))
  case first =>
    refine wp_region_held_drew (S := fun w' => Below w1.heap.size w1 w') (by kernel_rfl) ((Below.refl _ _).drew) (fun H0 => ?_)
    obtain ⟨wd, hwd⟩ : ∃ wd, w1.drew = wd := ⟨_, rfl⟩
    rw [hwd] at H0 ⊢
    clear hwd
    refine wpAnyH_take (i := 0) (oi := { dst := some 23, op := Go.Op.fieldAddr 38 (Go.Operand.tmp 1) 0, type := 0, pos := "ref.go:35", after := #[], guard := none }) (v := ?_) rfl (by kernel_rfl) (by kernel_rfl) (by kernel_rfl) (fun _ _ _ h => h) (Or.inl ⟨by rfl, ?_⟩) H0 ?_
    rotate_left
    focus (intro w' hSw; (try dsimp only at hSw); go_simp; (try with_reducible rfl))
    simp only [Act.put, List.setIfInBounds_toArray, List.set_cons_zero, List.set_cons_succ]
    refine wpAnyH_take (i := 1) (oi := { dst := some 24, op := Go.Op.load 36 (Go.Operand.tmp 23), type := 36, pos := "ref.go:35", after := #[{ on := 0, ground := Go.Ground.data }], guard := none }) (v := ?_) rfl (by kernel_rfl) (by kernel_rfl) (by kernel_rfl) (fun _ _ _ h => h) (Or.inl ⟨by rfl, ?_⟩) H0 ?_
    rotate_left
    focus (intro w' hSw; (try dsimp only at hSw); obtain ⟨k0, k1, k2, k3⟩ := HCL.out _ hSw; go_simp; (try with_reducible rfl))
    simp only [Act.put, List.setIfInBounds_toArray, List.set_cons_zero, List.set_cons_succ]
    refine wpAnyH_take (i := 3) (oi := { dst := some 26, op := Go.Op.fieldAddr 38 (Go.Operand.tmp 1) 1, type := 0, pos := "ref.go:35", after := #[], guard := none }) (v := ?_) rfl (by kernel_rfl) (by kernel_rfl) (by kernel_rfl) (fun _ _ _ h => h) (Or.inl ⟨by rfl, ?_⟩) H0 ?_
    rotate_left
    focus (intro w' hSw; (try dsimp only at hSw); go_simp; (try with_reducible rfl))
    simp only [Act.put, List.setIfInBounds_toArray, List.set_cons_zero, List.set_cons_succ]
    refine wpAnyH_take (i := 4) (oi := { dst := some 27, op := Go.Op.load 36 (Go.Operand.tmp 26), type := 36, pos := "ref.go:35", after := #[{ on := 3, ground := Go.Ground.data }], guard := none }) (v := ?_) rfl (by kernel_rfl) (by kernel_rfl) (by kernel_rfl) (fun _ _ _ h => h) (Or.inl ⟨by rfl, ?_⟩) H0 ?_
    rotate_left
    focus (intro w' hSw; (try dsimp only at hSw); obtain ⟨k0, k1, k2, k3⟩ := HCL.out _ hSw; go_simp; (try with_reducible rfl))
    simp only [Act.put, List.setIfInBounds_toArray, List.set_cons_zero, List.set_cons_succ]
    refine wpAnyH_ready (rs := [2]) (by kernel_rfl) (by simp) ?_
    refine AllReadyH.cons (o := { dst := some 25, op := Go.Op.call { callee := Go.Callee.value (Go.Operand.func 36), args := #[Go.Operand.tmp 24, Go.Operand.const (Go.Value.int Go.IntKind.i64 8)], argTypes := #[36, 3] }, type := 39, pos := "ref.go:35", after := #[{ on := 1, ground := Go.Ground.data }], guard := none }) rfl (fun K hK => ?_) ?_
    rotate_left
    exact AllReadyH.nil
    go_simp
    (go_at_call 36; (with_reducible refine (F1.out _).mono ?_); rintro e wa ⟨rfl, r1⟩)
    try go_wp2_with fail
    refine hK.out _ _ (kbT H0 r1.2) (fun Ha => ?_)
    clear hK K
    try simp only [Act.put, List.setIfInBounds_toArray, List.set_cons_zero, List.set_cons_succ]
    refine wpAnyH_ready (rs := [5]) (by kernel_rfl) (by simp) ?_
    refine AllReadyH.cons (o := { dst := some 28, op := Go.Op.call { callee := Go.Callee.value (Go.Operand.func 36), args := #[Go.Operand.tmp 27, Go.Operand.const (Go.Value.int Go.IntKind.i64 8)], argTypes := #[36, 3] }, type := 39, pos := "ref.go:35", after := #[{ on := 4, ground := Go.Ground.data }, { on := 2, ground := Go.Ground.chain }], guard := none }) rfl (fun K hK => ?_) ?_
    rotate_left
    exact AllReadyH.nil
    go_simp
    (go_at_call 36; (with_reducible refine (F2.out _).mono ?_); rintro e wb ⟨rfl, r2⟩)
    try go_wp2_with fail
    have r1 := r1.later r2.2
    refine hK.out _ _ (kbT Ha r2.2) (fun Hb => ?_)
    clear hK K
    try simp only [Act.put, List.setIfInBounds_toArray, List.set_cons_zero, List.set_cons_succ]
    refine wpAnyH_ready (rs := [6]) (by kernel_rfl) (by simp) ?_
    refine AllReadyH.cons (o := { dst := some 29, op := Go.Op.call { callee := Go.Callee.builtin Go.Builtin.append, args := #[Go.Operand.tmp 25, Go.Operand.tmp 28], argTypes := #[39, 39] }, type := 39, pos := "ref.go:35", after := #[{ on := 2, ground := Go.Ground.data }, { on := 5, ground := Go.Ground.data }, { on := 5, ground := Go.Ground.chain }], guard := none }) rfl (fun K hK => ?_) ?_
    rotate_left
    exact AllReadyH.nil
    refine step_append_bytes rfl (.tmp 25) (.tmp 28) rfl rfl r1 e8s.out rfl (fun h => nomatch h) r2.bytes s1.out ?_
    intro v1 wc r3 _
    refine hK.out _ _ (kbT H0 r3.2) (fun Hc => ?_)
    clear hK K
    try simp only [Act.put, List.setIfInBounds_toArray, List.set_cons_zero, List.set_cons_succ]
    refine wpAnyH_take (i := 7) (oi := { dst := some 4, op := Go.Op.assign (Go.Operand.tmp 29), type := 39, pos := "ref.go:35", after := #[{ on := 6, ground := Go.Ground.data }, { on := 6, ground := Go.Ground.chain }, { on := 0, ground := Go.Ground.phase }, { on := 1, ground := Go.Ground.phase }, { on := 2, ground := Go.Ground.phase }, { on := 3, ground := Go.Ground.phase }, { on := 4, ground := Go.Ground.phase }, { on := 5, ground := Go.Ground.phase }, { on := 6, ground := Go.Ground.phase }], guard := none }) (v := ?_) rfl (by kernel_rfl) (by kernel_rfl) (by kernel_rfl) (fun _ _ _ h => h) (Or.inl ⟨by rfl, ?_⟩) Hc ?_
    rotate_left
    focus (intro w' hSw; (try dsimp only at hSw); go_simp; (try with_reducible rfl))
    simp only [Act.put, List.setIfInBounds_toArray, List.set_cons_zero, List.set_cons_succ]
    refine wpAnyH_done (by kernel_rfl) ?_ _
    go_wp2_with fail
    go_meet
    exact ⟨wd, Lib.hid H0, Lib.hid r3⟩
  case rest =>
    rename World => wv
    obtain ⟨w2, HB2, R4⟩ := hcut
    have HBV := Lib.hid (kbT HB2.out R4.out.2)
    go_upto_region 4 with fail
    go_cut [4] from 30 to 40 (fun s4 wx => ∃ w3, Hid (Below w1.heap.size w1 w3) ∧ Hid (RowB w3 (f1 ++ f2 ++ f3 ++ f4) s4 wx))
    case first =>
      refine wp_region_held_drew (S := fun w' => Below w1.heap.size w1 w') (by kernel_rfl) (HBV.out.drew) (fun H0 => ?_)
      obtain ⟨wd, hwd⟩ : ∃ wd, wv.drew = wd := ⟨_, rfl⟩
      have r4 := R4.out.later (show Below wv.heap.size wv wd by rw [← hwd]; exact (Below.refl _ _).drew)
      rw [hwd] at H0 ⊢
      clear hwd
      refine wpAnyH_take (i := 0) (oi := { dst := some 30, op := Go.Op.move (Go.Operand.tmp 4), type := 39, pos := "ref.go:36", after := #[], guard := none }) (v := ?_) rfl (by kernel_rfl) (by kernel_rfl) (by kernel_rfl) (fun _ _ _ h => h) (Or.inl ⟨by rfl, ?_⟩) H0 ?_
      rotate_left
      focus (intro w' hSw; (try dsimp only at hSw); go_simp; (try with_reducible rfl))
      simp only [Act.put, List.setIfInBounds_toArray, List.set_cons_zero, List.set_cons_succ]
      refine wpAnyH_take (i := 1) (oi := { dst := some 31, op := Go.Op.fieldAddr 38 (Go.Operand.tmp 1) 2, type := 0, pos := "ref.go:36", after := #[], guard := none }) (v := ?_) rfl (by kernel_rfl) (by kernel_rfl) (by kernel_rfl) (fun _ _ _ h => h) (Or.inl ⟨by rfl, ?_⟩) H0 ?_
      rotate_left
      focus (intro w' hSw; (try dsimp only at hSw); go_simp; (try with_reducible rfl))
      simp only [Act.put, List.setIfInBounds_toArray, List.set_cons_zero, List.set_cons_succ]
      refine wpAnyH_take (i := 2) (oi := { dst := some 32, op := Go.Op.load 3 (Go.Operand.tmp 31), type := 3, pos := "ref.go:36", after := #[{ on := 1, ground := Go.Ground.data }], guard := none }) (v := ?_) rfl (by kernel_rfl) (by kernel_rfl) (by kernel_rfl) (fun _ _ _ h => h) (Or.inl ⟨by rfl, ?_⟩) H0 ?_
      rotate_left
      focus (intro w' hSw; (try dsimp only at hSw); obtain ⟨k0, k1, k2, k3⟩ := HCL.out _ hSw; go_simp; (try with_reducible rfl))
      simp only [Act.put, List.setIfInBounds_toArray, List.set_cons_zero, List.set_cons_succ]
      refine wpAnyH_take (i := 3) (oi := { dst := some 33, op := Go.Op.convert 3 36 (Go.Operand.tmp 32), type := 36, pos := "ref.go:36", after := #[{ on := 2, ground := Go.Ground.data }], guard := none }) (v := ?_) rfl (by kernel_rfl) (by kernel_rfl) (by kernel_rfl) (fun _ _ _ h => h) (Or.inl ⟨by rfl, ?_⟩) H0 ?_
      rotate_left
      focus (intro w' hSw; (try dsimp only at hSw); go_simp; (try with_reducible rfl))
      simp only [Act.put, List.setIfInBounds_toArray, List.set_cons_zero, List.set_cons_succ]
      refine wpAnyH_take (i := 6) (oi := { dst := some 36, op := Go.Op.fieldAddr 38 (Go.Operand.tmp 1) 3, type := 0, pos := "ref.go:36", after := #[], guard := none }) (v := ?_) rfl (by kernel_rfl) (by kernel_rfl) (by kernel_rfl) (fun _ _ _ h => h) (Or.inl ⟨by rfl, ?_⟩) H0 ?_
      rotate_left
      focus (intro w' hSw; (try dsimp only at hSw); go_simp; (try with_reducible rfl))
      simp only [Act.put, List.setIfInBounds_toArray, List.set_cons_zero, List.set_cons_succ]
      refine wpAnyH_take (i := 7) (oi := { dst := some 37, op := Go.Op.load 3 (Go.Operand.tmp 36), type := 3, pos := "ref.go:36", after := #[{ on := 6, ground := Go.Ground.data }], guard := none }) (v := ?_) rfl (by kernel_rfl) (by kernel_rfl) (by kernel_rfl) (fun _ _ _ h => h) (Or.inl ⟨by rfl, ?_⟩) H0 ?_
      rotate_left
      focus (intro w' hSw; (try dsimp only at hSw); obtain ⟨k0, k1, k2, k3⟩ := HCL.out _ hSw; go_simp; (try with_reducible rfl))
      simp only [Act.put, List.setIfInBounds_toArray, List.set_cons_zero, List.set_cons_succ]
      refine wpAnyH_take (i := 8) (oi := { dst := some 38, op := Go.Op.convert 3 36 (Go.Operand.tmp 37), type := 36, pos := "ref.go:36", after := #[{ on := 7, ground := Go.Ground.data }], guard := none }) (v := ?_) rfl (by kernel_rfl) (by kernel_rfl) (by kernel_rfl) (fun _ _ _ h => h) (Or.inl ⟨by rfl, ?_⟩) H0 ?_
      rotate_left
      focus (intro w' hSw; (try dsimp only at hSw); go_simp; (try with_reducible rfl))
      simp only [Act.put, List.setIfInBounds_toArray, List.set_cons_zero, List.set_cons_succ]
      refine wpAnyH_ready (rs := [4]) (by kernel_rfl) (by simp) ?_
      refine AllReadyH.cons (o := { dst := some 34, op := Go.Op.call { callee := Go.Callee.value (Go.Operand.func 36), args := #[Go.Operand.tmp 33, Go.Operand.const (Go.Value.int Go.IntKind.i64 4)], argTypes := #[36, 3] }, type := 39, pos := "ref.go:36", after := #[{ on := 3, ground := Go.Ground.data }], guard := none }) rfl (fun K hK => ?_) ?_
      rotate_left
      exact AllReadyH.nil
      go_simp
      (go_at_call 36; (with_reducible refine (F3.out _).mono ?_); rintro e wa ⟨rfl, r5⟩)
      try go_wp2_with fail
      have r4 := r4.later r5.2
      refine hK.out _ _ (kbT H0 r5.2) (fun Ha => ?_)
      clear hK K
      try simp only [Act.put, List.setIfInBounds_toArray, List.set_cons_zero, List.set_cons_succ]
      refine wpAnyH_ready (rs := [5]) (by kernel_rfl) (by simp) ?_
      refine AllReadyH.cons (o := { dst := some 35, op := Go.Op.call { callee := Go.Callee.builtin Go.Builtin.append, args := #[Go.Operand.tmp 30, Go.Operand.tmp 34], argTypes := #[39, 39] }, type := 39, pos := "ref.go:36", after := #[{ on := 0, ground := Go.Ground.data }, { on := 4, ground := Go.Ground.data }, { on := 4, ground := Go.Ground.chain }], guard := none }) rfl (fun K hK => ?_) ?_
      rotate_left
      exact AllReadyH.nil
      refine step_append_bytes rfl (.tmp 30) (.tmp 34) rfl rfl r4 e4n.out rfl (fun h => nomatch h) r5.bytes s2.out ?_
      intro v6 wb r6 _
      refine hK.out _ _ (kbT HB2.out r6.2) (fun Hb => ?_)
      clear hK K
      try simp only [Act.put, List.setIfInBounds_toArray, List.set_cons_zero, List.set_cons_succ]
      refine wpAnyH_ready (rs := [9]) (by kernel_rfl) (by simp) ?_
      refine AllReadyH.cons (o := { dst := some 39, op := Go.Op.call { callee := Go.Callee.value (Go.Operand.func 36), args := #[Go.Operand.tmp 38, Go.Operand.const (Go.Value.int Go.IntKind.i64 4)], argTypes := #[36, 3] }, type := 39, pos := "ref.go:36", after := #[{ on := 8, ground := Go.Ground.data }, { on := 5, ground := Go.Ground.chain }], guard := none }) rfl (fun K hK => ?_) ?_
      rotate_left
      exact AllReadyH.nil
      go_simp
      (go_at_call 36; (with_reducible refine (F4.out _).mono ?_); rintro e wc ⟨rfl, r7⟩)
      try go_wp2_with fail
      have r6 := r6.later r7.2
      refine hK.out _ _ (kbT Hb r7.2) (fun Hc => ?_)
      clear hK K
      try simp only [Act.put, List.setIfInBounds_toArray, List.set_cons_zero, List.set_cons_succ]
      refine wpAnyH_ready (rs := [10]) (by kernel_rfl) (by simp) ?_
      refine AllReadyH.cons (o := { dst := some 40, op := Go.Op.call { callee := Go.Callee.builtin Go.Builtin.append, args := #[Go.Operand.tmp 35, Go.Operand.tmp 39], argTypes := #[39, 39] }, type := 39, pos := "ref.go:36", after := #[{ on := 5, ground := Go.Ground.data }, { on := 9, ground := Go.Ground.data }, { on := 9, ground := Go.Ground.chain }], guard := none }) rfl (fun K hK => ?_) ?_
      rotate_left
      exact AllReadyH.nil
      refine step_append_bytes rfl (.tmp 35) (.tmp 39) rfl rfl r6 e4c.out rfl (fun h => nomatch h) r7.bytes s3.out ?_
      intro v8 we r8 _
      refine hK.out _ _ (kbT HB2.out r8.2) (fun Hd => ?_)
      clear hK K
      try simp only [Act.put, List.setIfInBounds_toArray, List.set_cons_zero, List.set_cons_succ]
      refine wpAnyH_take (i := 11) (oi := { dst := some 4, op := Go.Op.assign (Go.Operand.tmp 40), type := 39, pos := "ref.go:36", after := #[{ on := 10, ground := Go.Ground.data }, { on := 10, ground := Go.Ground.chain }, { on := 0, ground := Go.Ground.phase }, { on := 1, ground := Go.Ground.phase }, { on := 2, ground := Go.Ground.phase }, { on := 3, ground := Go.Ground.phase }, { on := 4, ground := Go.Ground.phase }, { on := 5, ground := Go.Ground.phase }, { on := 6, ground := Go.Ground.phase }, { on := 7, ground := Go.Ground.phase }, { on := 8, ground := Go.Ground.phase }, { on := 9, ground := Go.Ground.phase }, { on := 10, ground := Go.Ground.phase }], guard := none }) (v := ?_) rfl (by kernel_rfl) (by kernel_rfl) (by kernel_rfl) (fun _ _ _ h => h) (Or.inl ⟨by rfl, ?_⟩) Hd ?_
      rotate_left
      focus (intro w' hSw; (try dsimp only at hSw); go_simp; (try with_reducible rfl))
      simp only [Act.put, List.setIfInBounds_toArray, List.set_cons_zero, List.set_cons_succ]
      refine wpAnyH_done (by kernel_rfl) ?_ _
      go_wp2_with fail
      go_meet
      exact ⟨w2, HB2, Lib.hid r8⟩
    case rest =>
      rename World => wu
      obtain ⟨w3, HB3, R5⟩ := hcut
      have R6 := R5.out
      rw [← HB.out] at R6
      obtain ⟨p, cp, rfl, -, -, hby, hnn⟩ := R6.at2
      have HBY := Lib.hid hby
      have HR := Lib.hid R6
      have HNN := Lib.hid hnn
      have HBL := Lib.hid (kbT HB3.out R6.2)
      clear R6 hby hnn R5
      go_wp2_with (first
        | (go_at_call 37; (with_reducible refine (SU.out _ _ _ HBY.out).mono ?_); rintro e wn ⟨rfl, rfl⟩)
        | (go_at_call 36; (with_reducible refine (F5.out _).mono ?_); rintro e wa ⟨rfl, r5⟩; have R7 := Lib.hid (HR.out.later r5.2); have BY5 := Lib.hid r5.bytes; clear r5)
        | (at_builtin; refine wpList_append_at rfl _ _ rfl rfl R7.out e4s.out rfl (fun h => nomatch h) BY5.out s4.out ?_; intro v9 wb r9; rw [← HC.out] at r9; obtain ⟨p2, c2, rfl, -, -, hby2, hnn2⟩ := r9.at2; have R9 := Lib.hid r9; have BY9 := Lib.hid hby2; have N9 := Lib.hid hnn2; clear r9 hby2 hnn2)
        | (at_builtin; refine wpList_append_bytes rfl _ _ rfl rfl (RX wb).out rfl N9.out (bytesAt_below BY9.out ((Below.refl _ _).alloc (Nat.le_refl _) _)) s5.out ?_; intro v10 wc r10; rw [List.nil_append] at r10; have R10 := Lib.hid r10; have BYA := Lib.hid (bytesAt_below BY9.out r10.2); clear r10)
        | (at_builtin; refine wpList_append_bytes rfl _ _ rfl rfl R10.out rfl N9.out BYA.out s6.out ?_; intro v11 wd r11; have R11 := Lib.hid r11; clear r11)
        | (at_builtin; refine wpList_append_zeros rfl _ _ rfl 8 (by omega) rfl R11.out rfl s7.out ?_; intro v12 we r12; rw [← HLL.out] at r12; have R12 := Lib.hid r12; clear r12))
      go_ret2
      exact ⟨_, rfl, R12.out.grow (kbT B1.out (kbT HB3.out R9.out.2))⟩
end Go.Proofs.Ythnllhfdbnnjhaa
namespace Go.Proofs.Ythnllhfdbnnjhaa
open Go.RowKit Go.Shelf

theorem bytes_true (w : World) : BytesAt (w.alloc (.cells #[.int .u8 1] 5)) (some ⟨w.heap.size, 0, none⟩) [1] := by
  intro i hi
  have : i = 0 := by simp at hi; omega
  subst this
  exact ⟨_, _, rfl, by go_cell⟩
theorem bytes_false (w : World) : BytesAt (w.alloc (.cells #[.int .u8 0] 5)) (some ⟨w.heap.size, 0, none⟩) [0] := by
  intro i hi
  have : i = 0 := by simp at hi; omega
  subst this
  exact ⟨_, _, rfl, by go_cell⟩
set_option maxRecDepth 100000 in
set_option maxHeartbeats 1000000 in
theorem fsum_no (E : Nat) (i p : Int) (cm : Bool) (n : Int) (k : Nat) (q : Option Addr) (ln cap : Nat) (hok : frameOk i p cm n ln = false) (w : World) :
    Calls Try.prog 28 #[frameV E i p cm n k q ln cap] w fun r w' => r = .returned (.tuple #[.int .u32 0, .int .i64 2]) ∧ Below w.heap.size w w' := by
  have CC := Lib.hid (checkFrame_any E i p cm n k q ln cap)
  rw [if_neg (by simp [hok])] at CC
  unfold frameV at CC ⊢
  go_enter Try.func28, Try.ntmps28
  go_wp2_with (go_at_call 42; (with_reducible refine (CC.out _).mono ?_); rintro e wa ⟨rfl, hb1⟩; have B1 := Lib.hid (kbA hb1); clear hb1)
  go_ret2
  exact ⟨rfl, B1.out⟩
set_option maxRecDepth 100000 in
set_option maxHeartbeats 2000000 in
theorem fsum_ok (E i p : Nat) (cm : Bool) (n k : Nat) (hE : E < 2 ^ 64) (hi : i < 4294967296) (hp : p < 4294967296) (hn : n < 4294967296) (hk : k < 4294967296) (q : Option Addr) (cap : Nat) (bs : List Nat) (hbl : bs.length = 512) (hbb : ∀ b ∈ bs, b < 256) (w : World) (hbs : BytesAt w q bs) (hok : frameOk i p cm n 512 = true) :
    Calls Try.prog 28 #[frameV E i p cm n k q 512 cap] w fun r w' => r = .returned (.tuple #[.int .u32 (~~~ sumN (frameB E i p cm n k ++ bs)).toNat, .int .i64 0]) ∧ Below w.heap.size w w' := by
  have CC := Lib.hid (checkFrame_any E i p cm n k q 512 cap)
  rw [if_pos hok] at CC
  have CS := Lib.hid fun (w' : World) (h : Below w.heap.size w w') => frameSum_any E i p cm n k hE hi hp hn hk q cap bs hbl hbb w' (bytesAt_below hbs h)
  generalize (~~~ sumN (frameB E i p cm n k ++ bs)).toNat = sb at *
  unfold frameV at CC ⊢
  clear hok hE hi hp hn hk hbl hbb hbs
  go_enter Try.func28, Try.ntmps28
  go_upto_region 1 with fail
  obtain ⟨w1, hw1⟩ : ∃ w1, w.alloc (.cells #[.int .u64 E, .int .i64 i, .int .i64 p, .bool cm, .int .i64 n, .int .u32 k, .slice q 512 cap] 51) = w1 := ⟨_, rfl⟩
  have HB1 : Hid (Below w.heap.size w w1) := Lib.hid (by subst hw1; exact (Below.refl _ _).alloc (Nat.le_refl _) _)
  have HCL : Hid (∀ w', Below w1.heap.size w1 w' → w'.cell? ⟨w.heap.size, 0, none⟩ = some (.int .u64 E) ∧ w'.cell? ⟨w.heap.size, 1, none⟩ = some (.int .i64 i) ∧ w'.cell? ⟨w.heap.size, 2, none⟩ = some (.int .i64 p) ∧ w'.cell? ⟨w.heap.size, 3, none⟩ = some (.bool cm) ∧ w'.cell? ⟨w.heap.size, 4, none⟩ = some (.int .i64 n) ∧ w'.cell? ⟨w.heap.size, 5, none⟩ = some (.int .u32 k) ∧ w'.cell? ⟨w.heap.size, 6, none⟩ = some (.slice q 512 cap)) := Lib.hid fun w' h => by
    have k0 : w1.cell? ⟨w.heap.size, 0, none⟩ = some (.int .u64 E) := by subst hw1; go_cell
    have k1 : w1.cell? ⟨w.heap.size, 1, none⟩ = some (.int .i64 i) := by subst hw1; go_cell
    have k2 : w1.cell? ⟨w.heap.size, 2, none⟩ = some (.int .i64 p) := by subst hw1; go_cell
    have k3 : w1.cell? ⟨w.heap.size, 3, none⟩ = some (.bool cm) := by subst hw1; go_cell
    have k4 : w1.cell? ⟨w.heap.size, 4, none⟩ = some (.int .i64 n) := by subst hw1; go_cell
    have k5 : w1.cell? ⟨w.heap.size, 5, none⟩ = some (.int .u32 k) := by subst hw1; go_cell
    have k6 : w1.cell? ⟨w.heap.size, 6, none⟩ = some (.slice q 512 cap) := by subst hw1; go_cell
    exact ⟨(h.cell (lt_of_cell_some k0)).trans k0, (h.cell (lt_of_cell_some k1)).trans k1, (h.cell (lt_of_cell_some k2)).trans k2, (h.cell (lt_of_cell_some k3)).trans k3, (h.cell (lt_of_cell_some k4)).trans k4, (h.cell (lt_of_cell_some k5)).trans k5, (h.cell (lt_of_cell_some k6)).trans k6⟩
  obtain ⟨k0, k1, k2, k3, k4, k5, k6⟩ := HCL.out _ (Below.refl _ _)
  rw [hw1]
  clear hw1
  go_wp2_with (first
    | (go_at_call 42; (with_reducible refine (CC.out _).mono ?_); rintro e wa ⟨rfl, hb1⟩; have B1 := Lib.hid hb1; obtain ⟨k0, k1, k2, k3, k4, k5, k6⟩ := HCL.out _ hb1; clear hb1)
    | (go_at_call 46; (with_reducible refine (CS.out _ (kbT HB1.out B1.out)).mono ?_); rintro e wb ⟨rfl, hb2⟩; have B2 := Lib.hid (kbT (kbT HB1.out B1.out) hb2); clear hb2))
  go_ret2
  exact ⟨rfl, B2.out⟩
set_option maxRecDepth 100000 in
set_option maxHeartbeats 8000000 in
theorem refEncode_true (E i p n k : Nat) (hE : E < 2 ^ 64) (hi : i ≤ 2000) (hp : p ≤ 2000) (hn : n ≤ 2000) (hk : k < 4294967296) (q : Option Addr) (cap : Nat) (bs : List Nat) (hbl : bs.length = 512) (hbb : ∀ b ∈ bs, b < 256) (w : World) (hbs : BytesAt w q bs) (hnn : q = none → cap = 0) :
    Calls Try.prog 24 #[.agg #[.int .u64 E, .int .i64 i, .int .i64 p, .bool true, .int .i64 n, .int .u32 k, .slice q 512 cap]] w fun r w' => ∃ t, r = .returned (.tuple #[t, .int .i64 0]) ∧ RowB w (frameL E i p true n k bs) t w' := by
  have F1 := Lib.hid (fix8 E hE)
  have F2 := Lib.hid (fix4 i (by omega))
  have F3 := Lib.hid (fix4 p (by omega))
  have F4 := Lib.hid (fix4 n (by omega))
  have F5 := Lib.hid (fix4 k (by omega))
  have HB : Hid (frameB E i p true n k = fixE 8 E ++ fixE 4 i ++ fixE 4 p ++ [1] ++ fixE 4 n ++ fixE 4 k) := Lib.hid (by simp [frameB, partsL, framePs, oneL])
  have HC : Hid (frameC E i p true n k bs = frameB E i p true n k ++ fixE 4 (~~~ sumN (frameB E i p true n k ++ bs)).toNat) := Lib.hid rfl
  have hcl := frameC_length E i p true n k bs
  have HL : Hid (frameL E i p true n k bs = frameC E i p true n k bs ++ List.replicate 35 0 ++ bs) := Lib.hid (by unfold frameL frameS padL; rw [hcl])
  have hbl2 := frameB_length E i p true n k
  have hb2 := frameB_byte E i p true n k
  generalize frameB E i p true n k = lb at *
  generalize frameC E i p true n k bs = lc at *
  generalize frameL E i p true n k bs = ll at *
  have SU := Lib.hid fun pp cp w h => refSum_any (lb ++ bs) pp cp w (by rw [List.length_append]; omega) (fun b h => (List.mem_append.1 h).elim (hb2 b) (hbb b)) (Lib.hid h)
  rw [show (lb ++ bs).length = lb.length + bs.length from List.length_append] at SU
  have hsb : (~~~ sumN (lb ++ bs)).toNat < 4294967296 := sumNot_lt _
  have F6 := Lib.hid (fix4 (~~~ sumN (lb ++ bs)).toNat (by omega))
  have HBS := Lib.hid fun (w' : World) (h : Below w.heap.size w w') => bytesAt_below hbs h
  have HNN := Lib.hid hnn
  have e4i : Hid ((fixE 4 i).length = 4) := Lib.hid (fixE_length _ _)
  have e4p : Hid ((fixE 4 p).length = 4) := Lib.hid (fixE_length _ _)
  have e4n : Hid ((fixE 4 n).length = 4) := Lib.hid (fixE_length _ _)
  have e4k : Hid ((fixE 4 k).length = 4) := Lib.hid (fixE_length _ _)
  have e4s : Hid ((fixE 4 (~~~ sumN (lb ++ bs)).toNat).length = 4) := Lib.hid (fixE_length _ _)
  have s1 : Hid ((fixE 8 E).length + (fixE 4 i).length ≤ 100000) := Lib.hid (by simp [fixE_length])
  have s2 : Hid ((fixE 8 E ++ fixE 4 i).length + (fixE 4 p).length ≤ 100000) := Lib.hid (by simp [fixE_length])
  have s3 : Hid ((fixE 8 E ++ fixE 4 i ++ fixE 4 p).length + [1].length ≤ 100000) := Lib.hid (by simp [fixE_length])
  have s4 : Hid ((fixE 8 E ++ fixE 4 i ++ fixE 4 p ++ [1]).length + (fixE 4 n).length ≤ 100000) := Lib.hid (by simp [fixE_length])
  have s5 : Hid ((fixE 8 E ++ fixE 4 i ++ fixE 4 p ++ [1] ++ fixE 4 n).length + (fixE 4 k).length ≤ 100000) := Lib.hid (by simp [fixE_length])
  have s6 : Hid (lb.length + (fixE 4 (~~~ sumN (lb ++ bs)).toNat).length ≤ 100000) := Lib.hid (by rw [fixE_length]; omega)
  have s7 : Hid (([] : List Nat).length + lb.length ≤ 100000) := Lib.hid (by simp; omega)
  have s8 : Hid (lb.length + bs.length ≤ 100000) := Lib.hid (by omega)
  have s9 : Hid (lc.length + 35 ≤ 100000) := Lib.hid (by omega)
  have s10 : Hid ((lc ++ List.replicate 35 0).length + bs.length ≤ 100000) := Lib.hid (by rw [List.length_append, List.length_replicate]; omega)
  have HBL := Lib.hid hbl
  have HCLEN := Lib.hid hcl
  generalize fixE 4 (~~~ sumN (lb ++ bs)).toNat = l6 at *
  generalize (~~~ sumN (lb ++ bs)).toNat = sb at *
  generalize fixE 8 E = f1 at *
  generalize fixE 4 i = f2 at *
  generalize fixE 4 p = f3 at *
  generalize fixE 4 n = f4 at *
  generalize fixE 4 k = f5 at *
  have u1 : IntKind.u64.wrap (i : Int) = (i : Int) := wrap_u64 _ (by omega) (by omega)
  have u2 : IntKind.u64.wrap (p : Int) = (p : Int) := wrap_u64 _ (by omega) (by omega)
  have u3 : IntKind.u64.wrap (n : Int) = (n : Int) := wrap_u64 _ (by omega) (by omega)
  have u4 : IntKind.u64.wrap (k : Int) = (k : Int) := wrap_u64 _ (by omega) (by omega)
  have u5 : IntKind.u64.wrap (sb : Int) = (sb : Int) := wrap_u64 _ (by omega) (by omega)
  have d1 : decide ((i : Int) < 0) = false := by simp
  have d2 : decide ((i : Int) > 2000) = false := by simp; omega
  have d3 : decide ((p : Int) < 0) = false := by simp
  have d4 : decide ((p : Int) > 2000) = false := by simp; omega
  have d5 : decide ((n : Int) < 0) = false := by simp
  have d6 : decide ((n : Int) > 2000) = false := by simp; omega
  clear hbl hcl hb2 hbl2 hbb hbs hnn hE hk hsb
  go_enter Try.func24, Try.ntmps24
  go_upto_region 1 with fail
  obtain ⟨w1, hw1⟩ : ∃ w1, w.alloc (.cells #[.int .u64 E, .int .i64 i, .int .i64 p, .bool true, .int .i64 n, .int .u32 k, .slice q 512 cap] 51) = w1 := ⟨_, rfl⟩
  have HB1 : Hid (Below w.heap.size w w1) := Lib.hid (by subst hw1; exact (Below.refl _ _).alloc (Nat.le_refl _) _)
  have HCL : Hid (∀ w', Below w1.heap.size w1 w' → w'.cell? ⟨w.heap.size, 0, none⟩ = some (.int .u64 E) ∧ w'.cell? ⟨w.heap.size, 1, none⟩ = some (.int .i64 i) ∧ w'.cell? ⟨w.heap.size, 2, none⟩ = some (.int .i64 p) ∧ w'.cell? ⟨w.heap.size, 3, none⟩ = some (.bool true) ∧ w'.cell? ⟨w.heap.size, 4, none⟩ = some (.int .i64 n) ∧ w'.cell? ⟨w.heap.size, 5, none⟩ = some (.int .u32 k) ∧ w'.cell? ⟨w.heap.size, 6, none⟩ = some (.slice q 512 cap)) := Lib.hid fun w' h => by
    have k0 : w1.cell? ⟨w.heap.size, 0, none⟩ = some (.int .u64 E) := by subst hw1; go_cell
    have k1 : w1.cell? ⟨w.heap.size, 1, none⟩ = some (.int .i64 i) := by subst hw1; go_cell
    have k2 : w1.cell? ⟨w.heap.size, 2, none⟩ = some (.int .i64 p) := by subst hw1; go_cell
    have k3 : w1.cell? ⟨w.heap.size, 3, none⟩ = some (.bool true) := by subst hw1; go_cell
    have k4 : w1.cell? ⟨w.heap.size, 4, none⟩ = some (.int .i64 n) := by subst hw1; go_cell
    have k5 : w1.cell? ⟨w.heap.size, 5, none⟩ = some (.int .u32 k) := by subst hw1; go_cell
    have k6 : w1.cell? ⟨w.heap.size, 6, none⟩ = some (.slice q 512 cap) := by subst hw1; go_cell
    exact ⟨(h.cell (lt_of_cell_some k0)).trans k0, (h.cell (lt_of_cell_some k1)).trans k1, (h.cell (lt_of_cell_some k2)).trans k2, (h.cell (lt_of_cell_some k3)).trans k3, (h.cell (lt_of_cell_some k4)).trans k4, (h.cell (lt_of_cell_some k5)).trans k5, (h.cell (lt_of_cell_some k6)).trans k6⟩
  obtain ⟨k0, k1, k2, k3, k4, k5, k6⟩ := HCL.out _ (Below.refl _ _)
  rw [hw1]
  clear hw1
  go_upto_region 3 with fail
  clear k0 k1 k2 k3 k4 k5 k6 hi hp hn d1 d2 d3 d4 d5 d6
  go_cut [4] from 49 to 57 (fun s4 wx => ∃ w2, Hid (Below w1.heap.size w1 w2) ∧ Hid (RowB w2 (f1 ++ f2) s4 wx))
  case first =>
    refine wp_region_held_drew (S := fun w' => Below w1.heap.size w1 w') (by kernel_rfl) ((Below.refl _ _).drew) (fun H0 => ?_)
    obtain ⟨wd, hwd⟩ : ∃ wd, w1.drew = wd := ⟨_, rfl⟩
    rw [hwd] at H0 ⊢
    clear hwd
    refine wpAnyH_take (i := 0) (oi := { dst := some 49, op := Go.Op.fieldAddr 51 (Go.Operand.tmp 1) 0, type := 0, pos := "ref.go:63", after := #[], guard := none }) (v := ?_) rfl (by kernel_rfl) (by kernel_rfl) (by kernel_rfl) (fun _ _ _ h => h) (Or.inl ⟨by rfl, ?_⟩) H0 ?_
    rotate_left
    focus (intro w' hSw; (try dsimp only at hSw); go_simp; (try with_reducible rfl))
    simp only [Act.put, List.setIfInBounds_toArray, List.set_cons_zero, List.set_cons_succ]
    refine wpAnyH_take (i := 1) (oi := { dst := some 50, op := Go.Op.load 36 (Go.Operand.tmp 49), type := 36, pos := "ref.go:63", after := #[{ on := 0, ground := Go.Ground.data }], guard := none }) (v := ?_) rfl (by kernel_rfl) (by kernel_rfl) (by kernel_rfl) (fun _ _ _ h => h) (Or.inl ⟨by rfl, ?_⟩) H0 ?_
    rotate_left
    focus (intro w' hSw; (try dsimp only at hSw); obtain ⟨k0, k1, k2, k3, k4, k5, k6⟩ := HCL.out _ hSw; go_simp; (try with_reducible rfl))
    simp only [Act.put, List.setIfInBounds_toArray, List.set_cons_zero, List.set_cons_succ]
    refine wpAnyH_take (i := 3) (oi := { dst := some 52, op := Go.Op.fieldAddr 51 (Go.Operand.tmp 1) 1, type := 0, pos := "ref.go:63", after := #[], guard := none }) (v := ?_) rfl (by kernel_rfl) (by kernel_rfl) (by kernel_rfl) (fun _ _ _ h => h) (Or.inl ⟨by rfl, ?_⟩) H0 ?_
    rotate_left
    focus (intro w' hSw; (try dsimp only at hSw); go_simp; (try with_reducible rfl))
    simp only [Act.put, List.setIfInBounds_toArray, List.set_cons_zero, List.set_cons_succ]
    refine wpAnyH_take (i := 4) (oi := { dst := some 53, op := Go.Op.load 3 (Go.Operand.tmp 52), type := 3, pos := "ref.go:63", after := #[{ on := 3, ground := Go.Ground.data }], guard := none }) (v := ?_) rfl (by kernel_rfl) (by kernel_rfl) (by kernel_rfl) (fun _ _ _ h => h) (Or.inl ⟨by rfl, ?_⟩) H0 ?_
    rotate_left
    focus (intro w' hSw; (try dsimp only at hSw); obtain ⟨k0, k1, k2, k3, k4, k5, k6⟩ := HCL.out _ hSw; go_simp; (try with_reducible rfl))
    simp only [Act.put, List.setIfInBounds_toArray, List.set_cons_zero, List.set_cons_succ]
    refine wpAnyH_take (i := 5) (oi := { dst := some 54, op := Go.Op.convert 3 36 (Go.Operand.tmp 53), type := 36, pos := "ref.go:63", after := #[{ on := 4, ground := Go.Ground.data }], guard := none }) (v := ?_) rfl (by kernel_rfl) (by kernel_rfl) (by kernel_rfl) (fun _ _ _ h => h) (Or.inl ⟨by rfl, ?_⟩) H0 ?_
    rotate_left
    focus (intro w' hSw; (try dsimp only at hSw); go_simp; (try with_reducible rfl))
    simp only [Act.put, List.setIfInBounds_toArray, List.set_cons_zero, List.set_cons_succ]
    refine wpAnyH_ready (rs := [2]) (by kernel_rfl) (by simp) ?_
    refine AllReadyH.cons (o := { dst := some 51, op := Go.Op.call { callee := Go.Callee.value (Go.Operand.func 36), args := #[Go.Operand.tmp 50, Go.Operand.const (Go.Value.int Go.IntKind.i64 8)], argTypes := #[36, 3] }, type := 39, pos := "ref.go:63", after := #[{ on := 1, ground := Go.Ground.data }], guard := none }) rfl (fun K hK => ?_) ?_
    rotate_left
    exact AllReadyH.nil
    go_simp
    (go_at_call 36; (with_reducible refine (F1.out _).mono ?_); rintro e wa ⟨rfl, r1⟩)
    try go_wp2_with fail
    refine hK.out _ _ (kbT H0 r1.2) (fun Ha => ?_)
    clear hK K
    try simp only [Act.put, List.setIfInBounds_toArray, List.set_cons_zero, List.set_cons_succ]
    refine wpAnyH_ready (rs := [6]) (by kernel_rfl) (by simp) ?_
    refine AllReadyH.cons (o := { dst := some 55, op := Go.Op.call { callee := Go.Callee.value (Go.Operand.func 36), args := #[Go.Operand.tmp 54, Go.Operand.const (Go.Value.int Go.IntKind.i64 4)], argTypes := #[36, 3] }, type := 39, pos := "ref.go:63", after := #[{ on := 5, ground := Go.Ground.data }, { on := 2, ground := Go.Ground.chain }], guard := none }) rfl (fun K hK => ?_) ?_
    rotate_left
    exact AllReadyH.nil
    go_simp
    (go_at_call 36; (with_reducible refine (F2.out _).mono ?_); rintro e wb ⟨rfl, r2⟩)
    try go_wp2_with fail
    have r1 := r1.later r2.2
    refine hK.out _ _ (kbT Ha r2.2) (fun Hb => ?_)
    clear hK K
    try simp only [Act.put, List.setIfInBounds_toArray, List.set_cons_zero, List.set_cons_succ]
    refine wpAnyH_ready (rs := [7]) (by kernel_rfl) (by simp) ?_
    refine AllReadyH.cons (o := { dst := some 56, op := Go.Op.call { callee := Go.Callee.builtin Go.Builtin.append, args := #[Go.Operand.tmp 51, Go.Operand.tmp 55], argTypes := #[39, 39] }, type := 39, pos := "ref.go:63", after := #[{ on := 2, ground := Go.Ground.data }, { on := 6, ground := Go.Ground.data }, { on := 6, ground := Go.Ground.chain }], guard := none }) rfl (fun K hK => ?_) ?_
    rotate_left
    exact AllReadyH.nil
    refine step_append_bytes rfl (.tmp 51) (.tmp 55) rfl rfl r1 e4i.out rfl (fun h => nomatch h) r2.bytes s1.out ?_
    intro v1 wc r3 _
    refine hK.out _ _ (kbT H0 r3.2) (fun Hc => ?_)
    clear hK K
    try simp only [Act.put, List.setIfInBounds_toArray, List.set_cons_zero, List.set_cons_succ]
    refine wpAnyH_take (i := 8) (oi := { dst := some 4, op := Go.Op.assign (Go.Operand.tmp 56), type := 39, pos := "ref.go:63", after := #[{ on := 7, ground := Go.Ground.data }, { on := 7, ground := Go.Ground.chain }, { on := 0, ground := Go.Ground.phase }, { on := 1, ground := Go.Ground.phase }, { on := 2, ground := Go.Ground.phase }, { on := 3, ground := Go.Ground.phase }, { on := 4, ground := Go.Ground.phase }, { on := 5, ground := Go.Ground.phase }, { on := 6, ground := Go.Ground.phase }, { on := 7, ground := Go.Ground.phase }], guard := none }) (v := ?_) rfl (by kernel_rfl) (by kernel_rfl) (by kernel_rfl) (fun _ _ _ h => h) (Or.inl ⟨by rfl, ?_⟩) Hc ?_
    rotate_left
    focus (intro w' hSw; (try dsimp only at hSw); go_simp; (try with_reducible rfl))
    simp only [Act.put, List.setIfInBounds_toArray, List.set_cons_zero, List.set_cons_succ]
    refine wpAnyH_done (by kernel_rfl) ?_ _
    go_wp2_with fail
    go_meet
    exact ⟨wd, Lib.hid H0, Lib.hid r3⟩
  case rest =>
    rename World => wv
    obtain ⟨w2, HB2, R4⟩ := hcut
    have HBV := Lib.hid (kbT HB2.out R4.out.2)
    obtain ⟨k0, k1, k2, k3, k4, k5, k6⟩ := HCL.out _ HBV.out
    go_upto_region 10 with (first
      | (go_at_call 36; (with_reducible refine (F3.out _).mono ?_); rintro e wa ⟨rfl, r5⟩; have R5 := Lib.hid (R4.out.later r5.2); have BY5 := Lib.hid r5.bytes; clear r5 k0 k1 k2 k3 k4 k5 k6)
      | (at_builtin; refine wpList_append_at rfl _ _ rfl rfl R5.out e4p.out rfl (fun h => nomatch h) BY5.out s2.out ?_; intro v6 wb r6; have R6 := Lib.hid r6; obtain ⟨k0, k1, k2, k3, k4, k5, k6⟩ := HCL.out _ (kbT HB2.out r6.2); clear r6)
      | (at_builtin; refine wpList_append_at (q := some ⟨wb.heap.size, 0, none⟩) (m := [1]) rfl _ _ rfl rfl (show Hid (RowB w2 _ _ (wb.alloc (.cells #[.int .u8 1] 5))) from Lib.hid (R6.out.later ((Below.refl _ _).alloc (Nat.le_refl _) _))).out rfl rfl (fun h => nomatch h) (bytes_true wb) s3.out ?_; intro v7 wc r7; have R7 := Lib.hid r7; obtain ⟨k0, k1, k2, k3, k4, k5, k6⟩ := HCL.out _ (kbT HB2.out r7.2); clear r7)
      | (go_at_call 36; (with_reducible refine (F4.out _).mono ?_); rintro e wd ⟨rfl, r8⟩; have R8 := Lib.hid (R7.out.later r8.2); have BY8 := Lib.hid r8.bytes; clear r8 k0 k1 k2 k3 k4 k5 k6)
      | (at_builtin; refine wpList_append_at rfl _ _ rfl rfl R8.out e4n.out rfl (fun h => nomatch h) BY8.out s4.out ?_; intro v9 we r9; have R9 := Lib.hid r9; obtain ⟨k0, k1, k2, k3, k4, k5, k6⟩ := HCL.out _ (kbT HB2.out r9.2); clear r9)
      | (go_at_call 36; (with_reducible refine (F5.out _).mono ?_); rintro e wf ⟨rfl, r10⟩; have RA := Lib.hid (R9.out.later r10.2); have BYA := Lib.hid r10.bytes; clear r10 k0 k1 k2 k3 k4 k5 k6)
      | (at_builtin; refine wpList_append_at rfl _ _ rfl rfl RA.out e4k.out rfl (fun h => nomatch h) BYA.out s5.out ?_; intro v11 wg r11; rw [← HB.out] at r11; have RB := Lib.hid r11; clear r11))
    obtain ⟨pb, cb, rfl, -, -, hby, hnb⟩ := RB.out.at2
    have HBG := Lib.hid (kbT HB2.out RB.out.2)
    go_cut [4] from 83 to 93 (fun s4 wx => ∃ w3, Hid (Below w1.heap.size w1 w3) ∧ Hid (RowB w3 lc s4 wx))
    case first =>
      refine wp_region_held_drew (S := fun w' => Below w1.heap.size w1 w') (by kernel_rfl) (HBG.out.drew) (fun H0 => ?_)
      obtain ⟨wd, hwd⟩ : ∃ wd, wg.drew = wd := ⟨_, rfl⟩
      have bd : Below wg.heap.size wg wd := by rw [← hwd]; exact (Below.refl _ _).drew
      have r0 := RB.out.later bd
      have by0 := bytesAt_below hby bd
      rw [hwd] at H0 ⊢
      clear hwd bd
      refine wpAnyH_take (i := 0) (oi := { dst := some 83, op := Go.Op.move (Go.Operand.tmp 4), type := 39, pos := "ref.go:72", after := #[], guard := none }) (v := ?_) rfl (by kernel_rfl) (by kernel_rfl) (by kernel_rfl) (fun _ _ _ h => h) (Or.inl ⟨by rfl, ?_⟩) H0 ?_
      rotate_left
      focus (intro w' hSw; (try dsimp only at hSw); go_simp; (try with_reducible rfl))
      simp only [Act.put, List.setIfInBounds_toArray, List.set_cons_zero, List.set_cons_succ]
      refine wpAnyH_take (i := 2) (oi := { dst := some 85, op := Go.Op.move (Go.Operand.tmp 4), type := 39, pos := "ref.go:72", after := #[], guard := none }) (v := ?_) rfl (by kernel_rfl) (by kernel_rfl) (by kernel_rfl) (fun _ _ _ h => h) (Or.inl ⟨by rfl, ?_⟩) H0 ?_
      rotate_left
      focus (intro w' hSw; (try dsimp only at hSw); go_simp; (try with_reducible rfl))
      simp only [Act.put, List.setIfInBounds_toArray, List.set_cons_zero, List.set_cons_succ]
      refine wpAnyH_take (i := 4) (oi := { dst := some 87, op := Go.Op.fieldAddr 51 (Go.Operand.tmp 1) 6, type := 0, pos := "ref.go:72", after := #[], guard := none }) (v := ?_) rfl (by kernel_rfl) (by kernel_rfl) (by kernel_rfl) (fun _ _ _ h => h) (Or.inl ⟨by rfl, ?_⟩) H0 ?_
      rotate_left
      focus (intro w' hSw; (try dsimp only at hSw); go_simp; (try with_reducible rfl))
      simp only [Act.put, List.setIfInBounds_toArray, List.set_cons_zero, List.set_cons_succ]
      refine wpAnyH_take (i := 5) (oi := { dst := some 88, op := Go.Op.load 39 (Go.Operand.tmp 87), type := 39, pos := "ref.go:72", after := #[{ on := 4, ground := Go.Ground.data }], guard := none }) (v := ?_) rfl (by kernel_rfl) (by kernel_rfl) (by kernel_rfl) (fun _ _ _ h => h) (Or.inl ⟨by rfl, ?_⟩) H0 ?_
      rotate_left
      focus (intro w' hSw; (try dsimp only at hSw); obtain ⟨k0, k1, k2, k3, k4, k5, k6⟩ := HCL.out _ hSw; go_simp; (try with_reducible rfl))
      simp only [Act.put, List.setIfInBounds_toArray, List.set_cons_zero, List.set_cons_succ]
      refine wpAnyH_ready (rs := [1]) (by kernel_rfl) (by simp) ?_
      refine AllReadyH.cons (o := { dst := some 84, op := Go.Op.buildSlice 39 0 #[], type := 39, pos := "ref.go:72", after := #[], guard := none }) rfl (fun K hK => ?_) ?_
      rotate_left
      exact AllReadyH.nil
      go_simp
      have re := rowB_empty wd
      obtain ⟨wb, hwb⟩ : ∃ wb, wd.alloc (.cells #[] 5) = wb := ⟨_, rfl⟩
      rw [hwb] at re ⊢
      refine hK.out _ _ (kbT H0 re.2) (fun Ha => ?_)
      clear hK K
      try simp only [Act.put, List.setIfInBounds_toArray, List.set_cons_zero, List.set_cons_succ]
      refine wpAnyH_ready (rs := [3]) (by kernel_rfl) (by simp) ?_
      refine AllReadyH.cons (o := { dst := some 86, op := Go.Op.call { callee := Go.Callee.builtin Go.Builtin.append, args := #[Go.Operand.tmp 84, Go.Operand.tmp 85], argTypes := #[39, 39] }, type := 39, pos := "ref.go:72", after := #[{ on := 1, ground := Go.Ground.data }, { on := 2, ground := Go.Ground.data }], guard := none }) rfl (fun K hK => ?_) ?_
      rotate_left
      exact AllReadyH.nil
      refine step_append_bytes rfl (.tmp 84) (.tmp 85) rfl rfl re rfl rfl hnb (bytesAt_below by0 re.2) s7.out ?_
      intro v1 wc r1 _
      rw [List.nil_append] at r1
      refine hK.out _ _ (kbT H0 r1.2) (fun Hb => ?_)
      clear hK K
      try simp only [Act.put, List.setIfInBounds_toArray, List.set_cons_zero, List.set_cons_succ]
      refine wpAnyH_ready (rs := [6]) (by kernel_rfl) (by simp) ?_
      refine AllReadyH.cons (o := { dst := some 89, op := Go.Op.call { callee := Go.Callee.builtin Go.Builtin.append, args := #[Go.Operand.tmp 86, Go.Operand.tmp 88], argTypes := #[39, 39] }, type := 39, pos := "ref.go:72", after := #[{ on := 3, ground := Go.Ground.data }, { on := 5, ground := Go.Ground.data }, { on := 3, ground := Go.Ground.chain }], guard := none }) rfl (fun K hK => ?_) ?_
      rotate_left
      exact AllReadyH.nil
      refine step_append_bytes rfl (.tmp 86) (.tmp 88) rfl rfl r1 HBL.out rfl HNN.out (HBS.out _ (kbT HB1.out Hb)) s8.out ?_
      intro v2 we r2 _
      obtain ⟨p2, c2, rfl, -, -, hby2, -⟩ := r2.at2
      refine hK.out _ _ (kbT H0 r2.2) (fun Hc => ?_)
      clear hK K
      try simp only [Act.put, List.setIfInBounds_toArray, List.set_cons_zero, List.set_cons_succ]
      refine wpAnyH_ready (rs := [7]) (by kernel_rfl) (by simp) ?_
      refine AllReadyH.cons (o := { dst := some 90, op := Go.Op.call { callee := Go.Callee.value (Go.Operand.func 37), args := #[Go.Operand.tmp 89], argTypes := #[39] }, type := 49, pos := "ref.go:72", after := #[{ on := 6, ground := Go.Ground.data }, { on := 6, ground := Go.Ground.chain }], guard := none }) rfl (fun K hK => ?_) ?_
      rotate_left
      exact AllReadyH.nil
      go_simp
      (go_at_call 37; (with_reducible refine (SU.out _ _ _ hby2).mono ?_); rintro e wn ⟨rfl, rfl⟩)
      try go_wp2_with fail
      refine hK.out _ _ Hc (fun Hd => ?_)
      clear hK K
      try simp only [Act.put, List.setIfInBounds_toArray, List.set_cons_zero, List.set_cons_succ]
      refine wpAnyH_take (i := 8) (oi := { dst := some 91, op := Go.Op.convert 49 36 (Go.Operand.tmp 90), type := 36, pos := "ref.go:72", after := #[{ on := 7, ground := Go.Ground.data }], guard := none }) (v := ?_) rfl (by kernel_rfl) (by kernel_rfl) (by kernel_rfl) (fun _ _ _ h => h) (Or.inl ⟨by rfl, ?_⟩) Hd ?_
      rotate_left
      focus (intro w' hSw; (try dsimp only at hSw); go_simp; (try with_reducible rfl))
      simp only [Act.put, List.setIfInBounds_toArray, List.set_cons_zero, List.set_cons_succ]
      refine wpAnyH_ready (rs := [9]) (by kernel_rfl) (by simp) ?_
      refine AllReadyH.cons (o := { dst := some 92, op := Go.Op.call { callee := Go.Callee.value (Go.Operand.func 36), args := #[Go.Operand.tmp 91, Go.Operand.const (Go.Value.int Go.IntKind.i64 4)], argTypes := #[36, 3] }, type := 39, pos := "ref.go:72", after := #[{ on := 8, ground := Go.Ground.data }, { on := 7, ground := Go.Ground.chain }], guard := none }) rfl (fun K hK => ?_) ?_
      rotate_left
      exact AllReadyH.nil
      go_simp
      (go_at_call 36; (with_reducible refine (F6.out _).mono ?_); rintro e wf ⟨rfl, r3⟩)
      try go_wp2_with fail
      have r0 := r0.later (kbT r2.2 r3.2)
      refine hK.out _ _ (kbT Hc r3.2) (fun He => ?_)
      clear hK K
      try simp only [Act.put, List.setIfInBounds_toArray, List.set_cons_zero, List.set_cons_succ]
      refine wpAnyH_ready (rs := [10]) (by kernel_rfl) (by simp) ?_
      refine AllReadyH.cons (o := { dst := some 93, op := Go.Op.call { callee := Go.Callee.builtin Go.Builtin.append, args := #[Go.Operand.tmp 83, Go.Operand.tmp 92], argTypes := #[39, 39] }, type := 39, pos := "ref.go:72", after := #[{ on := 0, ground := Go.Ground.data }, { on := 9, ground := Go.Ground.data }, { on := 9, ground := Go.Ground.chain }], guard := none }) rfl (fun K hK => ?_) ?_
      rotate_left
      exact AllReadyH.nil
      refine step_append_bytes rfl (.tmp 83) (.tmp 92) rfl rfl r0 e4s.out rfl (fun h => nomatch h) r3.bytes s6.out ?_
      intro v4 wz r4 _
      rw [← HC.out] at r4
      refine hK.out _ _ (kbT HB2.out r4.2) (fun Hf => ?_)
      clear hK K
      try simp only [Act.put, List.setIfInBounds_toArray, List.set_cons_zero, List.set_cons_succ]
      refine wpAnyH_take (i := 11) (oi := { dst := some 4, op := Go.Op.assign (Go.Operand.tmp 93), type := 39, pos := "ref.go:72", after := #[{ on := 10, ground := Go.Ground.data }, { on := 10, ground := Go.Ground.chain }, { on := 0, ground := Go.Ground.phase }, { on := 1, ground := Go.Ground.phase }, { on := 2, ground := Go.Ground.phase }, { on := 3, ground := Go.Ground.phase }, { on := 4, ground := Go.Ground.phase }, { on := 5, ground := Go.Ground.phase }, { on := 6, ground := Go.Ground.phase }, { on := 7, ground := Go.Ground.phase }, { on := 8, ground := Go.Ground.phase }, { on := 9, ground := Go.Ground.phase }, { on := 10, ground := Go.Ground.phase }], guard := none }) (v := ?_) rfl (by kernel_rfl) (by kernel_rfl) (by kernel_rfl) (fun _ _ _ h => h) (Or.inl ⟨by rfl, ?_⟩) Hf ?_
      rotate_left
      focus (intro w' hSw; (try dsimp only at hSw); go_simp; (try with_reducible rfl))
      simp only [Act.put, List.setIfInBounds_toArray, List.set_cons_zero, List.set_cons_succ]
      refine wpAnyH_done (by kernel_rfl) ?_ _
      go_wp2_with fail
      go_meet
      exact ⟨w2, HB2, Lib.hid r4⟩
    case rest =>
      rename World => wu
      obtain ⟨w3, HB3, R12⟩ := hcut
      have hh := R12.out.at2
      rw [HCLEN.out] at hh
      obtain ⟨p5, c5, rfl, -, -, -, -⟩ := hh
      go_wp2_with (first
        | (at_builtin; refine wpList_append_zeros rfl _ _ rfl 35 (by omega) rfl R12.out rfl s9.out ?_; intro v13 wa r13; have R13 := Lib.hid r13; obtain ⟨k0, k1, k2, k3, k4, k5, k6⟩ := HCL.out _ (kbT HB3.out r13.2); clear r13)
        | (at_builtin; refine wpList_append_at rfl _ _ rfl rfl R13.out HBL.out rfl HNN.out (HBS.out _ (kbT HB1.out (kbT HB3.out R13.out.2))) s10.out ?_; intro v14 wb r14; rw [← HL.out] at r14; have R14 := Lib.hid r14; clear r14))
      go_ret2
      exact ⟨_, rfl, R14.out.grow (kbT HB1.out HB3.out)⟩
set_option maxRecDepth 100000 in
set_option maxHeartbeats 8000000 in
theorem refEncode_false (E i p k : Nat) (hE : E < 2 ^ 64) (hi : i ≤ 2000) (hp : p ≤ 2000) (hk : k < 4294967296) (q : Option Addr) (cap : Nat) (bs : List Nat) (hbl : bs.length = 512) (hbb : ∀ b ∈ bs, b < 256) (w : World) (hbs : BytesAt w q bs) (hnn : q = none → cap = 0) :
    Calls Try.prog 24 #[.agg #[.int .u64 E, .int .i64 i, .int .i64 p, .bool false, .int .i64 0, .int .u32 k, .slice q 512 cap]] w fun r w' => ∃ t, r = .returned (.tuple #[t, .int .i64 0]) ∧ RowB w (frameL E i p false 0 k bs) t w' := by
  have F1 := Lib.hid (fix8 E hE)
  have F2 := Lib.hid (fix4 i (by omega))
  have F3 := Lib.hid (fix4 p (by omega))
  have F4 : Hid (∀ w, Calls Try.prog 36 #[.int .u64 0, .int .i64 4] w fun r w' => r = .returned (.slice (some ⟨w.heap.size, 0, none⟩) 4 4) ∧ RowB w (fixE 4 0) (.slice (some ⟨w.heap.size, 0, none⟩) 4 4) w') := Lib.hid (fix4 0 (by omega))
  have F5 := Lib.hid (fix4 k (by omega))
  have HB : Hid (frameB E i p false 0 k = fixE 8 E ++ fixE 4 i ++ fixE 4 p ++ [0] ++ fixE 4 0 ++ fixE 4 k) := Lib.hid (by simp [frameB, partsL, framePs, oneL])
  have HC : Hid (frameC E i p false 0 k bs = frameB E i p false 0 k ++ fixE 4 (~~~ sumN (frameB E i p false 0 k ++ bs)).toNat) := Lib.hid rfl
  have hcl := frameC_length E i p false 0 k bs
  have HL : Hid (frameL E i p false 0 k bs = frameC E i p false 0 k bs ++ List.replicate 35 0 ++ bs) := Lib.hid (by unfold frameL frameS padL; rw [hcl])
  have hbl2 := frameB_length E i p false 0 k
  have hb2 := frameB_byte E i p false 0 k
  generalize frameB E i p false 0 k = lb at *
  generalize frameC E i p false 0 k bs = lc at *
  generalize frameL E i p false 0 k bs = ll at *
  have SU := Lib.hid fun pp cp w h => refSum_any (lb ++ bs) pp cp w (by rw [List.length_append]; omega) (fun b h => (List.mem_append.1 h).elim (hb2 b) (hbb b)) (Lib.hid h)
  rw [show (lb ++ bs).length = lb.length + bs.length from List.length_append] at SU
  have hsb : (~~~ sumN (lb ++ bs)).toNat < 4294967296 := sumNot_lt _
  have F6 := Lib.hid (fix4 (~~~ sumN (lb ++ bs)).toNat (by omega))
  have HBS := Lib.hid fun (w' : World) (h : Below w.heap.size w w') => bytesAt_below hbs h
  have HNN := Lib.hid hnn
  have e4i : Hid ((fixE 4 i).length = 4) := Lib.hid (fixE_length _ _)
  have e4p : Hid ((fixE 4 p).length = 4) := Lib.hid (fixE_length _ _)
  have e4n : Hid ((fixE 4 0).length = 4) := Lib.hid (fixE_length _ _)
  have e4k : Hid ((fixE 4 k).length = 4) := Lib.hid (fixE_length _ _)
  have e4s : Hid ((fixE 4 (~~~ sumN (lb ++ bs)).toNat).length = 4) := Lib.hid (fixE_length _ _)
  have s1 : Hid ((fixE 8 E).length + (fixE 4 i).length ≤ 100000) := Lib.hid (by simp [fixE_length])
  have s2 : Hid ((fixE 8 E ++ fixE 4 i).length + (fixE 4 p).length ≤ 100000) := Lib.hid (by simp [fixE_length])
  have s3 : Hid ((fixE 8 E ++ fixE 4 i ++ fixE 4 p).length + [0].length ≤ 100000) := Lib.hid (by simp [fixE_length])
  have s4 : Hid ((fixE 8 E ++ fixE 4 i ++ fixE 4 p ++ [0]).length + (fixE 4 0).length ≤ 100000) := Lib.hid (by simp [fixE_length])
  have s5 : Hid ((fixE 8 E ++ fixE 4 i ++ fixE 4 p ++ [0] ++ fixE 4 0).length + (fixE 4 k).length ≤ 100000) := Lib.hid (by simp [fixE_length])
  have s6 : Hid (lb.length + (fixE 4 (~~~ sumN (lb ++ bs)).toNat).length ≤ 100000) := Lib.hid (by rw [fixE_length]; omega)
  have s7 : Hid (([] : List Nat).length + lb.length ≤ 100000) := Lib.hid (by simp; omega)
  have s8 : Hid (lb.length + bs.length ≤ 100000) := Lib.hid (by omega)
  have s9 : Hid (lc.length + 35 ≤ 100000) := Lib.hid (by omega)
  have s10 : Hid ((lc ++ List.replicate 35 0).length + bs.length ≤ 100000) := Lib.hid (by rw [List.length_append, List.length_replicate]; omega)
  have HBL := Lib.hid hbl
  have HCLEN := Lib.hid hcl
  generalize fixE 4 (~~~ sumN (lb ++ bs)).toNat = l6 at *
  generalize (~~~ sumN (lb ++ bs)).toNat = sb at *
  generalize fixE 8 E = f1 at *
  generalize fixE 4 i = f2 at *
  generalize fixE 4 p = f3 at *
  generalize fixE 4 0 = f4 at *
  generalize fixE 4 k = f5 at *
  have u1 : IntKind.u64.wrap (i : Int) = (i : Int) := wrap_u64 _ (by omega) (by omega)
  have u2 : IntKind.u64.wrap (p : Int) = (p : Int) := wrap_u64 _ (by omega) (by omega)
  have u4 : IntKind.u64.wrap (k : Int) = (k : Int) := wrap_u64 _ (by omega) (by omega)
  have u5 : IntKind.u64.wrap (sb : Int) = (sb : Int) := wrap_u64 _ (by omega) (by omega)
  have d1 : decide ((i : Int) < 0) = false := by simp
  have d2 : decide ((i : Int) > 2000) = false := by simp; omega
  have d3 : decide ((p : Int) < 0) = false := by simp
  have d4 : decide ((p : Int) > 2000) = false := by simp; omega
  clear hbl hcl hb2 hbl2 hbb hbs hnn hE hk hsb
  go_enter Try.func24, Try.ntmps24
  go_upto_region 1 with fail
  obtain ⟨w1, hw1⟩ : ∃ w1, w.alloc (.cells #[.int .u64 E, .int .i64 i, .int .i64 p, .bool false, .int .i64 0, .int .u32 k, .slice q 512 cap] 51) = w1 := ⟨_, rfl⟩
  have HB1 : Hid (Below w.heap.size w w1) := Lib.hid (by subst hw1; exact (Below.refl _ _).alloc (Nat.le_refl _) _)
  have HCL : Hid (∀ w', Below w1.heap.size w1 w' → w'.cell? ⟨w.heap.size, 0, none⟩ = some (.int .u64 E) ∧ w'.cell? ⟨w.heap.size, 1, none⟩ = some (.int .i64 i) ∧ w'.cell? ⟨w.heap.size, 2, none⟩ = some (.int .i64 p) ∧ w'.cell? ⟨w.heap.size, 3, none⟩ = some (.bool false) ∧ w'.cell? ⟨w.heap.size, 4, none⟩ = some (.int .i64 0) ∧ w'.cell? ⟨w.heap.size, 5, none⟩ = some (.int .u32 k) ∧ w'.cell? ⟨w.heap.size, 6, none⟩ = some (.slice q 512 cap)) := Lib.hid fun w' h => by
    have k0 : w1.cell? ⟨w.heap.size, 0, none⟩ = some (.int .u64 E) := by subst hw1; go_cell
    have k1 : w1.cell? ⟨w.heap.size, 1, none⟩ = some (.int .i64 i) := by subst hw1; go_cell
    have k2 : w1.cell? ⟨w.heap.size, 2, none⟩ = some (.int .i64 p) := by subst hw1; go_cell
    have k3 : w1.cell? ⟨w.heap.size, 3, none⟩ = some (.bool false) := by subst hw1; go_cell
    have k4 : w1.cell? ⟨w.heap.size, 4, none⟩ = some (.int .i64 0) := by subst hw1; go_cell
    have k5 : w1.cell? ⟨w.heap.size, 5, none⟩ = some (.int .u32 k) := by subst hw1; go_cell
    have k6 : w1.cell? ⟨w.heap.size, 6, none⟩ = some (.slice q 512 cap) := by subst hw1; go_cell
    exact ⟨(h.cell (lt_of_cell_some k0)).trans k0, (h.cell (lt_of_cell_some k1)).trans k1, (h.cell (lt_of_cell_some k2)).trans k2, (h.cell (lt_of_cell_some k3)).trans k3, (h.cell (lt_of_cell_some k4)).trans k4, (h.cell (lt_of_cell_some k5)).trans k5, (h.cell (lt_of_cell_some k6)).trans k6⟩
  obtain ⟨k0, k1, k2, k3, k4, k5, k6⟩ := HCL.out _ (Below.refl _ _)
  rw [hw1]
  clear hw1
  go_upto_region 3 with fail
  clear k0 k1 k2 k3 k4 k5 k6 hi hp d1 d2 d3 d4
  go_cut [4] from 49 to 57 (fun s4 wx => ∃ w2, Hid (Below w1.heap.size w1 w2) ∧ Hid (RowB w2 (f1 ++ f2) s4 wx))
  case first =>
    refine wp_region_held_drew (S := fun w' => Below w1.heap.size w1 w') (by kernel_rfl) ((Below.refl _ _).drew) (fun H0 => ?_)
    obtain ⟨wd, hwd⟩ : ∃ wd, w1.drew = wd := ⟨_, rfl⟩
    rw [hwd] at H0 ⊢
    clear hwd
    refine wpAnyH_take (i := 0) (oi := { dst := some 49, op := Go.Op.fieldAddr 51 (Go.Operand.tmp 1) 0, type := 0, pos := "ref.go:63", after := #[], guard := none }) (v := ?_) rfl (by kernel_rfl) (by kernel_rfl) (by kernel_rfl) (fun _ _ _ h => h) (Or.inl ⟨by rfl, ?_⟩) H0 ?_
    rotate_left
    focus (intro w' hSw; (try dsimp only at hSw); go_simp; (try with_reducible rfl))
    simp only [Act.put, List.setIfInBounds_toArray, List.set_cons_zero, List.set_cons_succ]
    refine wpAnyH_take (i := 1) (oi := { dst := some 50, op := Go.Op.load 36 (Go.Operand.tmp 49), type := 36, pos := "ref.go:63", after := #[{ on := 0, ground := Go.Ground.data }], guard := none }) (v := ?_) rfl (by kernel_rfl) (by kernel_rfl) (by kernel_rfl) (fun _ _ _ h => h) (Or.inl ⟨by rfl, ?_⟩) H0 ?_
    rotate_left
    focus (intro w' hSw; (try dsimp only at hSw); obtain ⟨k0, k1, k2, k3, k4, k5, k6⟩ := HCL.out _ hSw; go_simp; (try with_reducible rfl))
    simp only [Act.put, List.setIfInBounds_toArray, List.set_cons_zero, List.set_cons_succ]
    refine wpAnyH_take (i := 3) (oi := { dst := some 52, op := Go.Op.fieldAddr 51 (Go.Operand.tmp 1) 1, type := 0, pos := "ref.go:63", after := #[], guard := none }) (v := ?_) rfl (by kernel_rfl) (by kernel_rfl) (by kernel_rfl) (fun _ _ _ h => h) (Or.inl ⟨by rfl, ?_⟩) H0 ?_
    rotate_left
    focus (intro w' hSw; (try dsimp only at hSw); go_simp; (try with_reducible rfl))
    simp only [Act.put, List.setIfInBounds_toArray, List.set_cons_zero, List.set_cons_succ]
    refine wpAnyH_take (i := 4) (oi := { dst := some 53, op := Go.Op.load 3 (Go.Operand.tmp 52), type := 3, pos := "ref.go:63", after := #[{ on := 3, ground := Go.Ground.data }], guard := none }) (v := ?_) rfl (by kernel_rfl) (by kernel_rfl) (by kernel_rfl) (fun _ _ _ h => h) (Or.inl ⟨by rfl, ?_⟩) H0 ?_
    rotate_left
    focus (intro w' hSw; (try dsimp only at hSw); obtain ⟨k0, k1, k2, k3, k4, k5, k6⟩ := HCL.out _ hSw; go_simp; (try with_reducible rfl))
    simp only [Act.put, List.setIfInBounds_toArray, List.set_cons_zero, List.set_cons_succ]
    refine wpAnyH_take (i := 5) (oi := { dst := some 54, op := Go.Op.convert 3 36 (Go.Operand.tmp 53), type := 36, pos := "ref.go:63", after := #[{ on := 4, ground := Go.Ground.data }], guard := none }) (v := ?_) rfl (by kernel_rfl) (by kernel_rfl) (by kernel_rfl) (fun _ _ _ h => h) (Or.inl ⟨by rfl, ?_⟩) H0 ?_
    rotate_left
    focus (intro w' hSw; (try dsimp only at hSw); go_simp; (try with_reducible rfl))
    simp only [Act.put, List.setIfInBounds_toArray, List.set_cons_zero, List.set_cons_succ]
    refine wpAnyH_ready (rs := [2]) (by kernel_rfl) (by simp) ?_
    refine AllReadyH.cons (o := { dst := some 51, op := Go.Op.call { callee := Go.Callee.value (Go.Operand.func 36), args := #[Go.Operand.tmp 50, Go.Operand.const (Go.Value.int Go.IntKind.i64 8)], argTypes := #[36, 3] }, type := 39, pos := "ref.go:63", after := #[{ on := 1, ground := Go.Ground.data }], guard := none }) rfl (fun K hK => ?_) ?_
    rotate_left
    exact AllReadyH.nil
    go_simp
    (go_at_call 36; (with_reducible refine (F1.out _).mono ?_); rintro e wa ⟨rfl, r1⟩)
    try go_wp2_with fail
    refine hK.out _ _ (kbT H0 r1.2) (fun Ha => ?_)
    clear hK K
    try simp only [Act.put, List.setIfInBounds_toArray, List.set_cons_zero, List.set_cons_succ]
    refine wpAnyH_ready (rs := [6]) (by kernel_rfl) (by simp) ?_
    refine AllReadyH.cons (o := { dst := some 55, op := Go.Op.call { callee := Go.Callee.value (Go.Operand.func 36), args := #[Go.Operand.tmp 54, Go.Operand.const (Go.Value.int Go.IntKind.i64 4)], argTypes := #[36, 3] }, type := 39, pos := "ref.go:63", after := #[{ on := 5, ground := Go.Ground.data }, { on := 2, ground := Go.Ground.chain }], guard := none }) rfl (fun K hK => ?_) ?_
    rotate_left
    exact AllReadyH.nil
    go_simp
    (go_at_call 36; (with_reducible refine (F2.out _).mono ?_); rintro e wb ⟨rfl, r2⟩)
    try go_wp2_with fail
    have r1 := r1.later r2.2
    refine hK.out _ _ (kbT Ha r2.2) (fun Hb => ?_)
    clear hK K
    try simp only [Act.put, List.setIfInBounds_toArray, List.set_cons_zero, List.set_cons_succ]
    refine wpAnyH_ready (rs := [7]) (by kernel_rfl) (by simp) ?_
    refine AllReadyH.cons (o := { dst := some 56, op := Go.Op.call { callee := Go.Callee.builtin Go.Builtin.append, args := #[Go.Operand.tmp 51, Go.Operand.tmp 55], argTypes := #[39, 39] }, type := 39, pos := "ref.go:63", after := #[{ on := 2, ground := Go.Ground.data }, { on := 6, ground := Go.Ground.data }, { on := 6, ground := Go.Ground.chain }], guard := none }) rfl (fun K hK => ?_) ?_
    rotate_left
    exact AllReadyH.nil
    refine step_append_bytes rfl (.tmp 51) (.tmp 55) rfl rfl r1 e4i.out rfl (fun h => nomatch h) r2.bytes s1.out ?_
    intro v1 wc r3 _
    refine hK.out _ _ (kbT H0 r3.2) (fun Hc => ?_)
    clear hK K
    try simp only [Act.put, List.setIfInBounds_toArray, List.set_cons_zero, List.set_cons_succ]
    refine wpAnyH_take (i := 8) (oi := { dst := some 4, op := Go.Op.assign (Go.Operand.tmp 56), type := 39, pos := "ref.go:63", after := #[{ on := 7, ground := Go.Ground.data }, { on := 7, ground := Go.Ground.chain }, { on := 0, ground := Go.Ground.phase }, { on := 1, ground := Go.Ground.phase }, { on := 2, ground := Go.Ground.phase }, { on := 3, ground := Go.Ground.phase }, { on := 4, ground := Go.Ground.phase }, { on := 5, ground := Go.Ground.phase }, { on := 6, ground := Go.Ground.phase }, { on := 7, ground := Go.Ground.phase }], guard := none }) (v := ?_) rfl (by kernel_rfl) (by kernel_rfl) (by kernel_rfl) (fun _ _ _ h => h) (Or.inl ⟨by rfl, ?_⟩) Hc ?_
    rotate_left
    focus (intro w' hSw; (try dsimp only at hSw); go_simp; (try with_reducible rfl))
    simp only [Act.put, List.setIfInBounds_toArray, List.set_cons_zero, List.set_cons_succ]
    refine wpAnyH_done (by kernel_rfl) ?_ _
    go_wp2_with fail
    go_meet
    exact ⟨wd, Lib.hid H0, Lib.hid r3⟩
  case rest =>
    rename World => wv
    obtain ⟨w2, HB2, R4⟩ := hcut
    have HBV := Lib.hid (kbT HB2.out R4.out.2)
    obtain ⟨k0, k1, k2, k3, k4, k5, k6⟩ := HCL.out _ HBV.out
    go_upto_region 10 with (first
      | (go_at_call 36; (with_reducible refine (F3.out _).mono ?_); rintro e wa ⟨rfl, r5⟩; have R5 := Lib.hid (R4.out.later r5.2); have BY5 := Lib.hid r5.bytes; clear r5 k0 k1 k2 k3 k4 k5 k6)
      | (at_builtin; refine wpList_append_at rfl _ _ rfl rfl R5.out e4p.out rfl (fun h => nomatch h) BY5.out s2.out ?_; intro v6 wb r6; have R6 := Lib.hid r6; obtain ⟨k0, k1, k2, k3, k4, k5, k6⟩ := HCL.out _ (kbT HB2.out r6.2); clear r6)
      | (at_builtin; refine wpList_append_at (q := some ⟨wb.heap.size, 0, none⟩) (m := [0]) rfl _ _ rfl rfl (show Hid (RowB w2 _ _ (wb.alloc (.cells #[.int .u8 0] 5))) from Lib.hid (R6.out.later ((Below.refl _ _).alloc (Nat.le_refl _) _))).out rfl rfl (fun h => nomatch h) (bytes_false wb) s3.out ?_; intro v7 wc r7; have R7 := Lib.hid r7; obtain ⟨k0, k1, k2, k3, k4, k5, k6⟩ := HCL.out _ (kbT HB2.out r7.2); clear r7)
      | (go_at_call 36; (with_reducible refine (F4.out _).mono ?_); rintro e wd ⟨rfl, r8⟩; have R8 := Lib.hid (R7.out.later r8.2); have BY8 := Lib.hid r8.bytes; clear r8 k0 k1 k2 k3 k4 k5 k6)
      | (at_builtin; refine wpList_append_at rfl _ _ rfl rfl R8.out e4n.out rfl (fun h => nomatch h) BY8.out s4.out ?_; intro v9 we r9; have R9 := Lib.hid r9; obtain ⟨k0, k1, k2, k3, k4, k5, k6⟩ := HCL.out _ (kbT HB2.out r9.2); clear r9)
      | (go_at_call 36; (with_reducible refine (F5.out _).mono ?_); rintro e wf ⟨rfl, r10⟩; have RA := Lib.hid (R9.out.later r10.2); have BYA := Lib.hid r10.bytes; clear r10 k0 k1 k2 k3 k4 k5 k6)
      | (at_builtin; refine wpList_append_at rfl _ _ rfl rfl RA.out e4k.out rfl (fun h => nomatch h) BYA.out s5.out ?_; intro v11 wg r11; rw [← HB.out] at r11; have RB := Lib.hid r11; clear r11))
    obtain ⟨pb, cb, rfl, -, -, hby, hnb⟩ := RB.out.at2
    have HBG := Lib.hid (kbT HB2.out RB.out.2)
    go_cut [4] from 83 to 93 (fun s4 wx => ∃ w3, Hid (Below w1.heap.size w1 w3) ∧ Hid (RowB w3 lc s4 wx))
    case first =>
      refine wp_region_held_drew (S := fun w' => Below w1.heap.size w1 w') (by kernel_rfl) (HBG.out.drew) (fun H0 => ?_)
      obtain ⟨wd, hwd⟩ : ∃ wd, wg.drew = wd := ⟨_, rfl⟩
      have bd : Below wg.heap.size wg wd := by rw [← hwd]; exact (Below.refl _ _).drew
      have r0 := RB.out.later bd
      have by0 := bytesAt_below hby bd
      rw [hwd] at H0 ⊢
      clear hwd bd
      refine wpAnyH_take (i := 0) (oi := { dst := some 83, op := Go.Op.move (Go.Operand.tmp 4), type := 39, pos := "ref.go:72", after := #[], guard := none }) (v := ?_) rfl (by kernel_rfl) (by kernel_rfl) (by kernel_rfl) (fun _ _ _ h => h) (Or.inl ⟨by rfl, ?_⟩) H0 ?_
      rotate_left
      focus (intro w' hSw; (try dsimp only at hSw); go_simp; (try with_reducible rfl))
      simp only [Act.put, List.setIfInBounds_toArray, List.set_cons_zero, List.set_cons_succ]
      refine wpAnyH_take (i := 2) (oi := { dst := some 85, op := Go.Op.move (Go.Operand.tmp 4), type := 39, pos := "ref.go:72", after := #[], guard := none }) (v := ?_) rfl (by kernel_rfl) (by kernel_rfl) (by kernel_rfl) (fun _ _ _ h => h) (Or.inl ⟨by rfl, ?_⟩) H0 ?_
      rotate_left
      focus (intro w' hSw; (try dsimp only at hSw); go_simp; (try with_reducible rfl))
      simp only [Act.put, List.setIfInBounds_toArray, List.set_cons_zero, List.set_cons_succ]
      refine wpAnyH_take (i := 4) (oi := { dst := some 87, op := Go.Op.fieldAddr 51 (Go.Operand.tmp 1) 6, type := 0, pos := "ref.go:72", after := #[], guard := none }) (v := ?_) rfl (by kernel_rfl) (by kernel_rfl) (by kernel_rfl) (fun _ _ _ h => h) (Or.inl ⟨by rfl, ?_⟩) H0 ?_
      rotate_left
      focus (intro w' hSw; (try dsimp only at hSw); go_simp; (try with_reducible rfl))
      simp only [Act.put, List.setIfInBounds_toArray, List.set_cons_zero, List.set_cons_succ]
      refine wpAnyH_take (i := 5) (oi := { dst := some 88, op := Go.Op.load 39 (Go.Operand.tmp 87), type := 39, pos := "ref.go:72", after := #[{ on := 4, ground := Go.Ground.data }], guard := none }) (v := ?_) rfl (by kernel_rfl) (by kernel_rfl) (by kernel_rfl) (fun _ _ _ h => h) (Or.inl ⟨by rfl, ?_⟩) H0 ?_
      rotate_left
      focus (intro w' hSw; (try dsimp only at hSw); obtain ⟨k0, k1, k2, k3, k4, k5, k6⟩ := HCL.out _ hSw; go_simp; (try with_reducible rfl))
      simp only [Act.put, List.setIfInBounds_toArray, List.set_cons_zero, List.set_cons_succ]
      refine wpAnyH_ready (rs := [1]) (by kernel_rfl) (by simp) ?_
      refine AllReadyH.cons (o := { dst := some 84, op := Go.Op.buildSlice 39 0 #[], type := 39, pos := "ref.go:72", after := #[], guard := none }) rfl (fun K hK => ?_) ?_
      rotate_left
      exact AllReadyH.nil
      go_simp
      have re := rowB_empty wd
      obtain ⟨wb, hwb⟩ : ∃ wb, wd.alloc (.cells #[] 5) = wb := ⟨_, rfl⟩
      rw [hwb] at re ⊢
      refine hK.out _ _ (kbT H0 re.2) (fun Ha => ?_)
      clear hK K
      try simp only [Act.put, List.setIfInBounds_toArray, List.set_cons_zero, List.set_cons_succ]
      refine wpAnyH_ready (rs := [3]) (by kernel_rfl) (by simp) ?_
      refine AllReadyH.cons (o := { dst := some 86, op := Go.Op.call { callee := Go.Callee.builtin Go.Builtin.append, args := #[Go.Operand.tmp 84, Go.Operand.tmp 85], argTypes := #[39, 39] }, type := 39, pos := "ref.go:72", after := #[{ on := 1, ground := Go.Ground.data }, { on := 2, ground := Go.Ground.data }], guard := none }) rfl (fun K hK => ?_) ?_
      rotate_left
      exact AllReadyH.nil
      refine step_append_bytes rfl (.tmp 84) (.tmp 85) rfl rfl re rfl rfl hnb (bytesAt_below by0 re.2) s7.out ?_
      intro v1 wc r1 _
      rw [List.nil_append] at r1
      refine hK.out _ _ (kbT H0 r1.2) (fun Hb => ?_)
      clear hK K
      try simp only [Act.put, List.setIfInBounds_toArray, List.set_cons_zero, List.set_cons_succ]
      refine wpAnyH_ready (rs := [6]) (by kernel_rfl) (by simp) ?_
      refine AllReadyH.cons (o := { dst := some 89, op := Go.Op.call { callee := Go.Callee.builtin Go.Builtin.append, args := #[Go.Operand.tmp 86, Go.Operand.tmp 88], argTypes := #[39, 39] }, type := 39, pos := "ref.go:72", after := #[{ on := 3, ground := Go.Ground.data }, { on := 5, ground := Go.Ground.data }, { on := 3, ground := Go.Ground.chain }], guard := none }) rfl (fun K hK => ?_) ?_
      rotate_left
      exact AllReadyH.nil
      refine step_append_bytes rfl (.tmp 86) (.tmp 88) rfl rfl r1 HBL.out rfl HNN.out (HBS.out _ (kbT HB1.out Hb)) s8.out ?_
      intro v2 we r2 _
      obtain ⟨p2, c2, rfl, -, -, hby2, -⟩ := r2.at2
      refine hK.out _ _ (kbT H0 r2.2) (fun Hc => ?_)
      clear hK K
      try simp only [Act.put, List.setIfInBounds_toArray, List.set_cons_zero, List.set_cons_succ]
      refine wpAnyH_ready (rs := [7]) (by kernel_rfl) (by simp) ?_
      refine AllReadyH.cons (o := { dst := some 90, op := Go.Op.call { callee := Go.Callee.value (Go.Operand.func 37), args := #[Go.Operand.tmp 89], argTypes := #[39] }, type := 49, pos := "ref.go:72", after := #[{ on := 6, ground := Go.Ground.data }, { on := 6, ground := Go.Ground.chain }], guard := none }) rfl (fun K hK => ?_) ?_
      rotate_left
      exact AllReadyH.nil
      go_simp
      (go_at_call 37; (with_reducible refine (SU.out _ _ _ hby2).mono ?_); rintro e wn ⟨rfl, rfl⟩)
      try go_wp2_with fail
      refine hK.out _ _ Hc (fun Hd => ?_)
      clear hK K
      try simp only [Act.put, List.setIfInBounds_toArray, List.set_cons_zero, List.set_cons_succ]
      refine wpAnyH_take (i := 8) (oi := { dst := some 91, op := Go.Op.convert 49 36 (Go.Operand.tmp 90), type := 36, pos := "ref.go:72", after := #[{ on := 7, ground := Go.Ground.data }], guard := none }) (v := ?_) rfl (by kernel_rfl) (by kernel_rfl) (by kernel_rfl) (fun _ _ _ h => h) (Or.inl ⟨by rfl, ?_⟩) Hd ?_
      rotate_left
      focus (intro w' hSw; (try dsimp only at hSw); go_simp; (try with_reducible rfl))
      simp only [Act.put, List.setIfInBounds_toArray, List.set_cons_zero, List.set_cons_succ]
      refine wpAnyH_ready (rs := [9]) (by kernel_rfl) (by simp) ?_
      refine AllReadyH.cons (o := { dst := some 92, op := Go.Op.call { callee := Go.Callee.value (Go.Operand.func 36), args := #[Go.Operand.tmp 91, Go.Operand.const (Go.Value.int Go.IntKind.i64 4)], argTypes := #[36, 3] }, type := 39, pos := "ref.go:72", after := #[{ on := 8, ground := Go.Ground.data }, { on := 7, ground := Go.Ground.chain }], guard := none }) rfl (fun K hK => ?_) ?_
      rotate_left
      exact AllReadyH.nil
      go_simp
      (go_at_call 36; (with_reducible refine (F6.out _).mono ?_); rintro e wf ⟨rfl, r3⟩)
      try go_wp2_with fail
      have r0 := r0.later (kbT r2.2 r3.2)
      refine hK.out _ _ (kbT Hc r3.2) (fun He => ?_)
      clear hK K
      try simp only [Act.put, List.setIfInBounds_toArray, List.set_cons_zero, List.set_cons_succ]
      refine wpAnyH_ready (rs := [10]) (by kernel_rfl) (by simp) ?_
      refine AllReadyH.cons (o := { dst := some 93, op := Go.Op.call { callee := Go.Callee.builtin Go.Builtin.append, args := #[Go.Operand.tmp 83, Go.Operand.tmp 92], argTypes := #[39, 39] }, type := 39, pos := "ref.go:72", after := #[{ on := 0, ground := Go.Ground.data }, { on := 9, ground := Go.Ground.data }, { on := 9, ground := Go.Ground.chain }], guard := none }) rfl (fun K hK => ?_) ?_
      rotate_left
      exact AllReadyH.nil
      refine step_append_bytes rfl (.tmp 83) (.tmp 92) rfl rfl r0 e4s.out rfl (fun h => nomatch h) r3.bytes s6.out ?_
      intro v4 wz r4 _
      rw [← HC.out] at r4
      refine hK.out _ _ (kbT HB2.out r4.2) (fun Hf => ?_)
      clear hK K
      try simp only [Act.put, List.setIfInBounds_toArray, List.set_cons_zero, List.set_cons_succ]
      refine wpAnyH_take (i := 11) (oi := { dst := some 4, op := Go.Op.assign (Go.Operand.tmp 93), type := 39, pos := "ref.go:72", after := #[{ on := 10, ground := Go.Ground.data }, { on := 10, ground := Go.Ground.chain }, { on := 0, ground := Go.Ground.phase }, { on := 1, ground := Go.Ground.phase }, { on := 2, ground := Go.Ground.phase }, { on := 3, ground := Go.Ground.phase }, { on := 4, ground := Go.Ground.phase }, { on := 5, ground := Go.Ground.phase }, { on := 6, ground := Go.Ground.phase }, { on := 7, ground := Go.Ground.phase }, { on := 8, ground := Go.Ground.phase }, { on := 9, ground := Go.Ground.phase }, { on := 10, ground := Go.Ground.phase }], guard := none }) (v := ?_) rfl (by kernel_rfl) (by kernel_rfl) (by kernel_rfl) (fun _ _ _ h => h) (Or.inl ⟨by rfl, ?_⟩) Hf ?_
      rotate_left
      focus (intro w' hSw; (try dsimp only at hSw); go_simp; (try with_reducible rfl))
      simp only [Act.put, List.setIfInBounds_toArray, List.set_cons_zero, List.set_cons_succ]
      refine wpAnyH_done (by kernel_rfl) ?_ _
      go_wp2_with fail
      go_meet
      exact ⟨w2, HB2, Lib.hid r4⟩
    case rest =>
      rename World => wu
      obtain ⟨w3, HB3, R12⟩ := hcut
      have hh := R12.out.at2
      rw [HCLEN.out] at hh
      obtain ⟨p5, c5, rfl, -, -, -, -⟩ := hh
      go_wp2_with (first
        | (at_builtin; refine wpList_append_zeros rfl _ _ rfl 35 (by omega) rfl R12.out rfl s9.out ?_; intro v13 wa r13; have R13 := Lib.hid r13; obtain ⟨k0, k1, k2, k3, k4, k5, k6⟩ := HCL.out _ (kbT HB3.out r13.2); clear r13)
        | (at_builtin; refine wpList_append_at rfl _ _ rfl rfl R13.out HBL.out rfl HNN.out (HBS.out _ (kbT HB1.out (kbT HB3.out R13.out.2))) s10.out ?_; intro v14 wb r14; rw [← HL.out] at r14; have R14 := Lib.hid r14; clear r14))
      go_ret2
      exact ⟨_, rfl, R14.out.grow (kbT HB1.out HB3.out)⟩
set_option maxRecDepth 100000 in
set_option maxHeartbeats 4000000 in
theorem refEncode_no (E : Nat) (i p : Int) (cm : Bool) (n : Int) (k : Nat) (q : Option Addr) (ln cap : Nat) (hok : frameOk i p cm n ln = false) (w : World) :
    Calls Try.prog 24 #[frameV E i p cm n k q ln cap] w fun r w' => r = .returned (.tuple #[.slice none 0 0, .int .i64 2]) ∧ Below w.heap.size w w' := by
  unfold frameV
  by_cases h0 : ((ln : Nat) : Int) = 512
  · have : ln = 512 := by omega
    subst this
    clear h0
    cases cm
    · by_cases h7 : i < 0
      · clear hok
        go_enter Try.func24, Try.ntmps24
        go_wp2
        go_ret2
        exact ⟨rfl, (Below.refl _ _).alloc (Nat.le_refl _) _⟩
      · by_cases h6 : i > 2000
        · clear hok
          go_enter Try.func24, Try.ntmps24
          go_wp2
          go_ret2
          exact ⟨rfl, (Below.refl _ _).alloc (Nat.le_refl _) _⟩
        · by_cases h5 : p < 0
          · clear hok
            go_enter Try.func24, Try.ntmps24
            go_wp2
            go_ret2
            exact ⟨rfl, (Below.refl _ _).alloc (Nat.le_refl _) _⟩
          · by_cases h4 : p > 2000
            · clear hok
              go_enter Try.func24, Try.ntmps24
              go_wp2
              go_ret2
              exact ⟨rfl, (Below.refl _ _).alloc (Nat.le_refl _) _⟩
            · by_cases h3 : n < 0
              · clear hok
                go_enter Try.func24, Try.ntmps24
                go_wp2
                go_ret2
                exact ⟨rfl, (Below.refl _ _).alloc (Nat.le_refl _) _⟩
              · by_cases h2 : n > 2000
                · clear hok
                  go_enter Try.func24, Try.ntmps24
                  go_wp2
                  go_ret2
                  exact ⟨rfl, (Below.refl _ _).alloc (Nat.le_refl _) _⟩
                · by_cases h1 : ¬ n = 0
                  · clear hok
                    go_enter Try.func24, Try.ntmps24
                    go_wp2
                    go_ret2
                    exact ⟨rfl, (Below.refl _ _).alloc (Nat.le_refl _) _⟩
                  · exact absurd hok (by simp [frameOk, mostOf]; omega)
    · by_cases h6 : i < 0
      · clear hok
        go_enter Try.func24, Try.ntmps24
        go_wp2
        go_ret2
        exact ⟨rfl, (Below.refl _ _).alloc (Nat.le_refl _) _⟩
      · by_cases h5 : i > 2000
        · clear hok
          go_enter Try.func24, Try.ntmps24
          go_wp2
          go_ret2
          exact ⟨rfl, (Below.refl _ _).alloc (Nat.le_refl _) _⟩
        · by_cases h4 : p < 0
          · clear hok
            go_enter Try.func24, Try.ntmps24
            go_wp2
            go_ret2
            exact ⟨rfl, (Below.refl _ _).alloc (Nat.le_refl _) _⟩
          · by_cases h3 : p > 2000
            · clear hok
              go_enter Try.func24, Try.ntmps24
              go_wp2
              go_ret2
              exact ⟨rfl, (Below.refl _ _).alloc (Nat.le_refl _) _⟩
            · by_cases h2 : n < 0
              · clear hok
                go_enter Try.func24, Try.ntmps24
                go_wp2
                go_ret2
                exact ⟨rfl, (Below.refl _ _).alloc (Nat.le_refl _) _⟩
              · by_cases h1 : n > 2000
                · clear hok
                  go_enter Try.func24, Try.ntmps24
                  go_wp2
                  go_ret2
                  exact ⟨rfl, (Below.refl _ _).alloc (Nat.le_refl _) _⟩
                · exact absurd hok (by simp [frameOk, mostOf]; omega)
  · clear hok
    go_enter Try.func24, Try.ntmps24
    go_wp2
    go_ret2
    exact ⟨rfl, (Below.refl _ _).alloc (Nat.le_refl _) _⟩
end Go.Proofs.Ythnllhfdbnnjhaa
namespace Go.Proofs.Ythnllhfdbnnjhaa
open Go.RowKit Go.Shelf

theorem strOf_inj {l m : List Nat} (hl : ∀ b ∈ l, b < 256) (hm : ∀ b ∈ m, b < 256) (h : strOf l = strOf m) : l = m := by
  unfold strOf at h
  injection h with h
  have h2 := congrArg Array.toList h
  simp only at h2
  have inj : ∀ (x y : List Nat), (∀ b ∈ x, b < 256) → (∀ b ∈ y, b < 256) → x.map UInt8.ofNat = y.map UInt8.ofNat → x = y := by
    intro x
    induction x with
    | nil => intro y _ _ e; cases y with
      | nil => rfl
      | cons b t => simp at e
    | cons a x ih =>
      intro y hx hy e
      cases y with
      | nil => simp at e
      | cons b y =>
        simp only [List.map_cons, List.cons.injEq] at e
        have h1 := congrArg UInt8.toNat e.1
        have ha := hx a (by simp)
        have hb := hy b (by simp)
        simp only [UInt8.toNat_ofNat'] at h1
        rw [Nat.mod_eq_of_lt ha, Nat.mod_eq_of_lt hb] at h1
        rw [h1, ih y (fun b hb => hx b (by simp [hb])) (fun b hb => hy b (by simp [hb])) e.2]
  exact inj l m hl hm (by simpa using h2)
theorem str_beq (s t : ByteArray) : (s.toList == t.toList) = decide (s = t) := by
  rw [ByteArray.toList_eq, ByteArray.toList_eq]
  by_cases h : s = t
  · subst h; simp
  · rw [decide_eq_false h]
    apply Bool.eq_false_iff.2
    intro e
    have e2 := eq_of_beq e
    apply h
    cases s; cases t
    simp only [ByteArray.mk.injEq]
    exact Array.toList_inj.1 e2
theorem readFixE_val {m : Nat} {l : List Nat} (h : m ≤ l.length) : readFixE m l = (foldN (l.take m), 0) := by
  unfold readFixE
  rw [if_neg (by omega)]
  rfl
/-- A fixed number is read from some place on. -/
theorem readAt_any (l : List Nat) (m k : Nat) (hm : m ≤ 8) (hk : k + m ≤ l.length) (B off cap : Nat) (w : World) (hl : l.length ≤ 100000) (hb : ∀ b ∈ l, b < 256) (hc : BytesAt w (some ⟨B, off, none⟩) l) :
    Calls Try.prog 41 #[.slice (some ⟨B, off + k, none⟩) (l.length - k) (cap - k), .int .i64 m] w fun r w' => r = .returned (.tuple #[.int .u64 (foldN ((l.drop k).take m) : Nat), .int .i64 0]) ∧ w = w' := by
  have h := bytesAt_from hc k
  rw [show (some (⟨B, off, none⟩ : Addr)).map (fun x => x.add k) = some ⟨B, off + k, none⟩ from congrArg some (addr_plain B off k)] at h
  have := refReadFixed_any (l.drop k) m hm (some ⟨B, off + k, none⟩) (cap - k) w (by rw [List.length_drop]; omega) (fun b hb' => hb b (List.mem_of_mem_drop hb')) (Lib.hid h)
  rw [readFixE_val (by rw [List.length_drop]; omega), List.length_drop] at this
  exact this
set_option maxRecDepth 100000 in
set_option maxHeartbeats 1000000 in
theorem refDecodeHead_long (l : List Nat) (p : Option Addr) (cap : Nat) (w : World) (hl : l.length ≠ 64) :
    Calls Try.prog 22 #[.slice p l.length cap] w fun r w' => r = .returned (.tuple #[headV 0 0 0 0, .int .i64 150]) ∧ Below w.heap.size w w' := by
  generalize l.length = L at *
  have hl2 : (L : Int) ≠ 64 := by omega
  have hl3 : ((L : Int) != 64) = true := by simp [hl2]
  clear hl hl2
  go_enter Try.func22, Try.ntmps22
  go_wp2
  refine bodyPost_ret (v := .tuple #[headV 0 0 0 0, .int .i64 150]) ?_ rfl ⟨rfl, ?_⟩
  · simp [results, Try.results22, go_sem, headV]
  · first | exact (Below.refl _ _).alloc (Nat.le_refl _) _ | exact ((((((Below.refl _ _).alloc (Nat.le_refl _) _).setCell (by simp) _).setCell (by simp) _).setCell (by simp) _).setCell (by simp) _)
set_option maxRecDepth 100000 in
set_option maxHeartbeats 4000000 in
theorem refDecodeHead_no (l : List Nat) (p : Option Addr) (cap : Nat) (w : World) (hl : l.length = 64) (hcap : 64 ≤ cap) (hc0 : cap ≤ 9223372036854775807) (hb : ∀ b ∈ l, b < 256) (hc : BytesAt w p l) (hh : headOk (hN l) (hC l) = false) :
    Calls Try.prog 22 #[.slice p 64 cap] w fun r w' => r = .returned (.tuple #[headV 0 0 0 0, .int .i64 150]) ∧ Below w.heap.size w w' := by
  obtain ⟨B, off, rfl, hcs⟩ := bytesAt_lt hc (fun h => by subst h; simp at hl)
  have R1 := Lib.hid fun (w' : World) (hb' : Below w.heap.size w w') => readAt_any l 8 0 (by omega) (by omega) B off cap w' (by omega) hb (bytesAt_below hc hb')
  have R2 := Lib.hid fun (w' : World) (hb' : Below w.heap.size w w') => readAt_any l 8 8 (by omega) (by omega) B off cap w' (by omega) hb (bytesAt_below hc hb')
  have R3 := Lib.hid fun (w' : World) (hb' : Below w.heap.size w w') => readAt_any l 4 16 (by omega) (by omega) B off cap w' (by omega) hb (bytesAt_below hc hb')
  have R4 := Lib.hid fun (w' : World) (hb' : Below w.heap.size w w') => readAt_any l 4 20 (by omega) (by omega) B off cap w' (by omega) hb (bytesAt_below hc hb')
  have CV := Lib.hid fun (w' : World) (hb' : Below w.heap.size w w') => conv_at w' (some ⟨B, off, none⟩) cap l hb (bytesAt_below hc hb')
  rw [hl] at R1 R2 R3 R4 CV
  simp only [Nat.reduceSub, Nat.add_zero, Nat.sub_zero, List.drop_zero] at R1 R2 R3 R4
  have y3 := foldN_lt' (k := 4) (fun b h => hb b (List.mem_of_mem_drop h)) (l := l.drop 16)
  have y4 := foldN_lt' (k := 4) (fun b h => hb b (List.mem_of_mem_drop h)) (l := l.drop 20)
  have C20 := Lib.hid (refEncodeHead_no (hS l) (hE l) (hN l) (hC l) hh)
  clear hh
  change Hid (∀ w', Below w.heap.size w w' → Calls Try.prog 41 #[.slice (some ⟨B, off, none⟩) 64 cap, .int .i64 8] w' fun r w2 => r = .returned (.tuple #[.int .u64 (hS l : Nat), .int .i64 0]) ∧ w' = w2) at R1
  change Hid (∀ w', Below w.heap.size w w' → Calls Try.prog 41 #[.slice (some ⟨B, off + 8, none⟩) 56 (cap - 8), .int .i64 8] w' fun r w2 => r = .returned (.tuple #[.int .u64 (hE l : Nat), .int .i64 0]) ∧ w' = w2) at R2
  change Hid (∀ w', Below w.heap.size w w' → Calls Try.prog 41 #[.slice (some ⟨B, off + 16, none⟩) 48 (cap - 16), .int .i64 4] w' fun r w2 => r = .returned (.tuple #[.int .u64 (hN l : Nat), .int .i64 0]) ∧ w' = w2) at R3
  change Hid (∀ w', Below w.heap.size w w' → Calls Try.prog 41 #[.slice (some ⟨B, off + 20, none⟩) 44 (cap - 20), .int .i64 4] w' fun r w2 => r = .returned (.tuple #[.int .u64 (hC l : Nat), .int .i64 0]) ∧ w' = w2) at R4
  change hN l < 256 ^ 4 at y3
  change hC l < 256 ^ 4 at y4
  generalize hS l = x1 at *
  generalize hE l = x2 at *
  generalize hN l = x3 at *
  generalize hC l = x4 at *
  simp only [Nat.reducePow] at y3 y4
  have u3 : IntKind.i64.wrap (x3 : Int) = (x3 : Int) := wrap_small (by omega) (by omega)
  have u4 : IntKind.i64.wrap (x4 : Int) = (x4 : Int) := wrap_small (by omega) (by omega)
  have n8 : ¬ cap = 8 := by omega
  have n16 : ¬ cap = 16 := by omega
  have n20 : ¬ cap = 20 := by omega
  clear hcs hb hc hl
  go_enter Try.func22, Try.ntmps22
  go_upto_region 3 with fail
  obtain ⟨w0, hw0⟩ : ∃ w0, w.alloc (.cells #[.int .u64 0, .int .u64 0, .int .i64 0, .int .i64 0] 38) = w0 := ⟨_, rfl⟩
  have HB0 : Hid (Below w.heap.size w w0) := Lib.hid (by subst hw0; exact (Below.refl _ _).alloc (Nat.le_refl _) _)
  have HG0 : Hid (w0.heap[w.heap.size]? = some (.cells #[.int .u64 0, .int .u64 0, .int .i64 0, .int .i64 0] 38 (0, 0))) := Lib.hid (by subst hw0; exact heap_alloc_last w _)
  have HS0 : Hid (w.heap.size < w0.heap.size) := Lib.hid (by subst hw0; simp)
  rw [hw0]
  clear hw0
  go_wp2_with (first
    | (go_at_call 41; (with_reducible refine (R1.out _ HB0.out).mono ?_); rintro e wn ⟨rfl, rfl⟩)
    | (go_at_call 41; (with_reducible refine (R2.out _ HB0.out).mono ?_); rintro e wn ⟨rfl, rfl⟩)
    | (go_at_call 41; (with_reducible refine (R3.out _ HB0.out).mono ?_); rintro e wn ⟨rfl, rfl⟩)
    | (go_at_call 41; (with_reducible refine (R4.out _ HB0.out).mono ?_); rintro e wn ⟨rfl, rfl⟩)
    | (go_at_call 20; (with_reducible refine (C20.out _).mono ?_); rintro e wa ⟨rfl, hb1⟩; have hg2 := (hb1.block _ (by simp; exact Nat.lt_succ_of_lt HS0.out)).trans ((((Below.refl w0.heap.size w0).alloc (Nat.le_refl _) (.cells #[.int .u64 x1, .int .u64 x2, .int .i64 x3, .int .i64 x4] 38)).block _ HS0.out).trans HG0.out); have z0 := row_cell (i := 0) hg2 rfl; have z1 := row_cell (i := 1) hg2 rfl; have z2 := row_cell (i := 2) hg2 rfl; have z3 := row_cell (i := 3) hg2 rfl; have f0 := row_frozen (i := 0) hg2; have f1 := row_frozen (i := 1) hg2; have f2 := row_frozen (i := 2) hg2; have f3 := row_frozen (i := 3) hg2; have m0 : wa.cell? ⟨w0.heap.size, 0, none⟩ = some (.int .u64 x1) := (hb1.cell (by simp)).trans (by go_cell); have m1 : wa.cell? ⟨w0.heap.size, 1, none⟩ = some (.int .u64 x2) := (hb1.cell (by simp)).trans (by go_cell); have m2 : wa.cell? ⟨w0.heap.size, 2, none⟩ = some (.int .i64 x3) := (hb1.cell (by simp)).trans (by go_cell); have m3 : wa.cell? ⟨w0.heap.size, 3, none⟩ = some (.int .i64 x4) := (hb1.cell (by simp)).trans (by go_cell); have HBA := Lib.hid (kbT HB0.out (kbA hb1)); clear hb1 hg2))
  refine bodyPost_ret (v := .tuple #[headV 0 0 0 0, .int .i64 150]) ?_ rfl ⟨rfl, ?_⟩
  · simp [results, Try.results22, go_sem, headV, z0, z1, z2, z3]
  · exact (((HBA.out.setCell (Nat.le_refl _) _).setCell (Nat.le_refl _) _).setCell (Nat.le_refl _) _).setCell (Nat.le_refl _) _
set_option maxRecDepth 100000 in
set_option maxHeartbeats 4000000 in
theorem refDecodeHead_other (l : List Nat) (p : Option Addr) (cap : Nat) (w : World) (hl : l.length = 64) (hcap : 64 ≤ cap) (hc0 : cap ≤ 9223372036854775807) (hb : ∀ b ∈ l, b < 256) (hc : BytesAt w p l) (hh : headOk (hN l) (hC l) = true) (hq : headL (hS l) (hE l) (hN l) (hC l) ≠ l) :
    Calls Try.prog 22 #[.slice p 64 cap] w fun r w' => r = .returned (.tuple #[headV 0 0 0 0, .int .i64 150]) ∧ Below w.heap.size w w' := by
  obtain ⟨B, off, rfl, hcs⟩ := bytesAt_lt hc (fun h => by subst h; simp at hl)
  have R1 := Lib.hid fun (w' : World) (hb' : Below w.heap.size w w') => readAt_any l 8 0 (by omega) (by omega) B off cap w' (by omega) hb (bytesAt_below hc hb')
  have R2 := Lib.hid fun (w' : World) (hb' : Below w.heap.size w w') => readAt_any l 8 8 (by omega) (by omega) B off cap w' (by omega) hb (bytesAt_below hc hb')
  have R3 := Lib.hid fun (w' : World) (hb' : Below w.heap.size w w') => readAt_any l 4 16 (by omega) (by omega) B off cap w' (by omega) hb (bytesAt_below hc hb')
  have R4 := Lib.hid fun (w' : World) (hb' : Below w.heap.size w w') => readAt_any l 4 20 (by omega) (by omega) B off cap w' (by omega) hb (bytesAt_below hc hb')
  have CV := Lib.hid fun (w' : World) (hb' : Below w.heap.size w w') => conv_at w' (some ⟨B, off, none⟩) cap l hb (bytesAt_below hc hb')
  rw [hl] at R1 R2 R3 R4 CV
  simp only [Nat.reduceSub, Nat.add_zero, Nat.sub_zero, List.drop_zero] at R1 R2 R3 R4
  have y3 := foldN_lt' (k := 4) (fun b h => hb b (List.mem_of_mem_drop h)) (l := l.drop 16)
  have y4 := foldN_lt' (k := 4) (fun b h => hb b (List.mem_of_mem_drop h)) (l := l.drop 20)
  have hbb := head_bounds hh
  have C20 := Lib.hid (refEncodeHead_ok (hS l) (hE l) (hN l) (hC l) (foldN_lt' hb) (foldN_lt' (fun b h => hb b (List.mem_of_mem_drop h))) hh)
  have hlb := headL_byte (hS l) (hE l) (hN l) (hC l)
  have hll := headL_length (hS l) (hE l) (hN l) (hC l)
  have hse : ((strOf (headL (hS l) (hE l) (hN l) (hC l))).toList == (strOf l).toList) = false := by
    rw [str_beq]
    exact decide_eq_false fun e => hq (strOf_inj hlb hb e)
  generalize headL (hS l) (hE l) (hN l) (hC l) = ll at *
  have HLB := Lib.hid hlb
  have HLL := Lib.hid hll
  generalize strOf l = sl at *
  obtain ⟨sll, hsl⟩ : ∃ s, s = strOf ll := ⟨_, rfl⟩
  rw [← hsl] at hse
  have HSL := Lib.hid hsl
  clear hh hbb hq hlb hll hsl
  change Hid (∀ w', Below w.heap.size w w' → Calls Try.prog 41 #[.slice (some ⟨B, off, none⟩) 64 cap, .int .i64 8] w' fun r w2 => r = .returned (.tuple #[.int .u64 (hS l : Nat), .int .i64 0]) ∧ w' = w2) at R1
  change Hid (∀ w', Below w.heap.size w w' → Calls Try.prog 41 #[.slice (some ⟨B, off + 8, none⟩) 56 (cap - 8), .int .i64 8] w' fun r w2 => r = .returned (.tuple #[.int .u64 (hE l : Nat), .int .i64 0]) ∧ w' = w2) at R2
  change Hid (∀ w', Below w.heap.size w w' → Calls Try.prog 41 #[.slice (some ⟨B, off + 16, none⟩) 48 (cap - 16), .int .i64 4] w' fun r w2 => r = .returned (.tuple #[.int .u64 (hN l : Nat), .int .i64 0]) ∧ w' = w2) at R3
  change Hid (∀ w', Below w.heap.size w w' → Calls Try.prog 41 #[.slice (some ⟨B, off + 20, none⟩) 44 (cap - 20), .int .i64 4] w' fun r w2 => r = .returned (.tuple #[.int .u64 (hC l : Nat), .int .i64 0]) ∧ w' = w2) at R4
  change hN l < 256 ^ 4 at y3
  change hC l < 256 ^ 4 at y4
  generalize hS l = x1 at *
  generalize hE l = x2 at *
  generalize hN l = x3 at *
  generalize hC l = x4 at *
  simp only [Nat.reducePow] at y3 y4
  have u3 : IntKind.i64.wrap (x3 : Int) = (x3 : Int) := wrap_small (by omega) (by omega)
  have u4 : IntKind.i64.wrap (x4 : Int) = (x4 : Int) := wrap_small (by omega) (by omega)
  have n8 : ¬ cap = 8 := by omega
  have n16 : ¬ cap = 16 := by omega
  have n20 : ¬ cap = 20 := by omega
  clear hcs hb hc hl
  go_enter Try.func22, Try.ntmps22
  go_upto_region 3 with fail
  obtain ⟨w0, hw0⟩ : ∃ w0, w.alloc (.cells #[.int .u64 0, .int .u64 0, .int .i64 0, .int .i64 0] 38) = w0 := ⟨_, rfl⟩
  have HB0 : Hid (Below w.heap.size w w0) := Lib.hid (by subst hw0; exact (Below.refl _ _).alloc (Nat.le_refl _) _)
  have HG0 : Hid (w0.heap[w.heap.size]? = some (.cells #[.int .u64 0, .int .u64 0, .int .i64 0, .int .i64 0] 38 (0, 0))) := Lib.hid (by subst hw0; exact heap_alloc_last w _)
  have HS0 : Hid (w.heap.size < w0.heap.size) := Lib.hid (by subst hw0; simp)
  rw [hw0]
  clear hw0
  go_wp2_with (first
    | (go_at_call 41; (with_reducible refine (R1.out _ HB0.out).mono ?_); rintro e wn ⟨rfl, rfl⟩)
    | (go_at_call 41; (with_reducible refine (R2.out _ HB0.out).mono ?_); rintro e wn ⟨rfl, rfl⟩)
    | (go_at_call 41; (with_reducible refine (R3.out _ HB0.out).mono ?_); rintro e wn ⟨rfl, rfl⟩)
    | (go_at_call 41; (with_reducible refine (R4.out _ HB0.out).mono ?_); rintro e wn ⟨rfl, rfl⟩)
    | (go_at_call 20; (with_reducible refine (C20.out _).mono ?_); rintro e wa ⟨t, rfl, hr⟩; obtain ⟨pt, ct, rfl, -, -, hby, -⟩ := hr.at2; have hcv := conv_at wa pt ct ll HLB.out hby; rw [← HSL.out] at hcv; have hb1 := hr.2; clear hr hby; have hg2 := (hb1.block _ (by simp; exact Nat.lt_succ_of_lt HS0.out)).trans ((((Below.refl w0.heap.size w0).alloc (Nat.le_refl _) (.cells #[.int .u64 x1, .int .u64 x2, .int .i64 x3, .int .i64 x4] 38)).block _ HS0.out).trans HG0.out); have z0 := row_cell (i := 0) hg2 rfl; have z1 := row_cell (i := 1) hg2 rfl; have z2 := row_cell (i := 2) hg2 rfl; have z3 := row_cell (i := 3) hg2 rfl; have f0 := row_frozen (i := 0) hg2; have f1 := row_frozen (i := 1) hg2; have f2 := row_frozen (i := 2) hg2; have f3 := row_frozen (i := 3) hg2; have m0 : wa.cell? ⟨w0.heap.size, 0, none⟩ = some (.int .u64 x1) := (hb1.cell (by simp)).trans (by go_cell); have m1 : wa.cell? ⟨w0.heap.size, 1, none⟩ = some (.int .u64 x2) := (hb1.cell (by simp)).trans (by go_cell); have m2 : wa.cell? ⟨w0.heap.size, 2, none⟩ = some (.int .i64 x3) := (hb1.cell (by simp)).trans (by go_cell); have m3 : wa.cell? ⟨w0.heap.size, 3, none⟩ = some (.int .i64 x4) := (hb1.cell (by simp)).trans (by go_cell); have HBA := Lib.hid (kbT HB0.out (kbA hb1)); clear hb1 hg2; have hcl := CV.out wa HBA.out))
  refine bodyPost_ret (v := .tuple #[headV 0 0 0 0, .int .i64 150]) ?_ rfl ⟨rfl, ?_⟩
  · simp [results, Try.results22, go_sem, headV, z0, z1, z2, z3]
  · exact (((HBA.out.setCell (Nat.le_refl _) _).setCell (Nat.le_refl _) _).setCell (Nat.le_refl _) _).setCell (Nat.le_refl _) _
set_option maxRecDepth 100000 in
set_option maxHeartbeats 4000000 in
theorem refDecodeHead_yes (l : List Nat) (p : Option Addr) (cap : Nat) (w : World) (hl : l.length = 64) (hcap : 64 ≤ cap) (hc0 : cap ≤ 9223372036854775807) (hb : ∀ b ∈ l, b < 256) (hc : BytesAt w p l) (hh : headOk (hN l) (hC l) = true) (hq : headL (hS l) (hE l) (hN l) (hC l) = l) :
    Calls Try.prog 22 #[.slice p 64 cap] w fun r w' => r = .returned (.tuple #[headV (hS l) (hE l) (hN l) (hC l), .int .i64 0]) ∧ Below w.heap.size w w' := by
  obtain ⟨B, off, rfl, hcs⟩ := bytesAt_lt hc (fun h => by subst h; simp at hl)
  have R1 := Lib.hid fun (w' : World) (hb' : Below w.heap.size w w') => readAt_any l 8 0 (by omega) (by omega) B off cap w' (by omega) hb (bytesAt_below hc hb')
  have R2 := Lib.hid fun (w' : World) (hb' : Below w.heap.size w w') => readAt_any l 8 8 (by omega) (by omega) B off cap w' (by omega) hb (bytesAt_below hc hb')
  have R3 := Lib.hid fun (w' : World) (hb' : Below w.heap.size w w') => readAt_any l 4 16 (by omega) (by omega) B off cap w' (by omega) hb (bytesAt_below hc hb')
  have R4 := Lib.hid fun (w' : World) (hb' : Below w.heap.size w w') => readAt_any l 4 20 (by omega) (by omega) B off cap w' (by omega) hb (bytesAt_below hc hb')
  have CV := Lib.hid fun (w' : World) (hb' : Below w.heap.size w w') => conv_at w' (some ⟨B, off, none⟩) cap l hb (bytesAt_below hc hb')
  rw [hl] at R1 R2 R3 R4 CV
  simp only [Nat.reduceSub, Nat.add_zero, Nat.sub_zero, List.drop_zero] at R1 R2 R3 R4
  have y3 := foldN_lt' (k := 4) (fun b h => hb b (List.mem_of_mem_drop h)) (l := l.drop 16)
  have y4 := foldN_lt' (k := 4) (fun b h => hb b (List.mem_of_mem_drop h)) (l := l.drop 20)
  have hbb := head_bounds hh
  have C20 := Lib.hid (refEncodeHead_ok (hS l) (hE l) (hN l) (hC l) (foldN_lt' hb) (foldN_lt' (fun b h => hb b (List.mem_of_mem_drop h))) hh)
  have hlb := headL_byte (hS l) (hE l) (hN l) (hC l)
  have hll := headL_length (hS l) (hE l) (hN l) (hC l)
  have hse : ((strOf (headL (hS l) (hE l) (hN l) (hC l))).toList == (strOf l).toList) = true := by
    rw [str_beq]
    rw [hq]; exact decide_eq_true rfl
  generalize headL (hS l) (hE l) (hN l) (hC l) = ll at *
  have HLB := Lib.hid hlb
  have HLL := Lib.hid hll
  generalize strOf l = sl at *
  obtain ⟨sll, hsl⟩ : ∃ s, s = strOf ll := ⟨_, rfl⟩
  rw [← hsl] at hse
  have HSL := Lib.hid hsl
  clear hh hbb hq hlb hll hsl
  change Hid (∀ w', Below w.heap.size w w' → Calls Try.prog 41 #[.slice (some ⟨B, off, none⟩) 64 cap, .int .i64 8] w' fun r w2 => r = .returned (.tuple #[.int .u64 (hS l : Nat), .int .i64 0]) ∧ w' = w2) at R1
  change Hid (∀ w', Below w.heap.size w w' → Calls Try.prog 41 #[.slice (some ⟨B, off + 8, none⟩) 56 (cap - 8), .int .i64 8] w' fun r w2 => r = .returned (.tuple #[.int .u64 (hE l : Nat), .int .i64 0]) ∧ w' = w2) at R2
  change Hid (∀ w', Below w.heap.size w w' → Calls Try.prog 41 #[.slice (some ⟨B, off + 16, none⟩) 48 (cap - 16), .int .i64 4] w' fun r w2 => r = .returned (.tuple #[.int .u64 (hN l : Nat), .int .i64 0]) ∧ w' = w2) at R3
  change Hid (∀ w', Below w.heap.size w w' → Calls Try.prog 41 #[.slice (some ⟨B, off + 20, none⟩) 44 (cap - 20), .int .i64 4] w' fun r w2 => r = .returned (.tuple #[.int .u64 (hC l : Nat), .int .i64 0]) ∧ w' = w2) at R4
  change hN l < 256 ^ 4 at y3
  change hC l < 256 ^ 4 at y4
  generalize hS l = x1 at *
  generalize hE l = x2 at *
  generalize hN l = x3 at *
  generalize hC l = x4 at *
  simp only [Nat.reducePow] at y3 y4
  have u3 : IntKind.i64.wrap (x3 : Int) = (x3 : Int) := wrap_small (by omega) (by omega)
  have u4 : IntKind.i64.wrap (x4 : Int) = (x4 : Int) := wrap_small (by omega) (by omega)
  have n8 : ¬ cap = 8 := by omega
  have n16 : ¬ cap = 16 := by omega
  have n20 : ¬ cap = 20 := by omega
  clear hcs hb hc hl
  go_enter Try.func22, Try.ntmps22
  go_upto_region 3 with fail
  obtain ⟨w0, hw0⟩ : ∃ w0, w.alloc (.cells #[.int .u64 0, .int .u64 0, .int .i64 0, .int .i64 0] 38) = w0 := ⟨_, rfl⟩
  have HB0 : Hid (Below w.heap.size w w0) := Lib.hid (by subst hw0; exact (Below.refl _ _).alloc (Nat.le_refl _) _)
  have HG0 : Hid (w0.heap[w.heap.size]? = some (.cells #[.int .u64 0, .int .u64 0, .int .i64 0, .int .i64 0] 38 (0, 0))) := Lib.hid (by subst hw0; exact heap_alloc_last w _)
  have HS0 : Hid (w.heap.size < w0.heap.size) := Lib.hid (by subst hw0; simp)
  rw [hw0]
  clear hw0
  go_wp2_with (first
    | (go_at_call 41; (with_reducible refine (R1.out _ HB0.out).mono ?_); rintro e wn ⟨rfl, rfl⟩)
    | (go_at_call 41; (with_reducible refine (R2.out _ HB0.out).mono ?_); rintro e wn ⟨rfl, rfl⟩)
    | (go_at_call 41; (with_reducible refine (R3.out _ HB0.out).mono ?_); rintro e wn ⟨rfl, rfl⟩)
    | (go_at_call 41; (with_reducible refine (R4.out _ HB0.out).mono ?_); rintro e wn ⟨rfl, rfl⟩)
    | (go_at_call 20; (with_reducible refine (C20.out _).mono ?_); rintro e wa ⟨t, rfl, hr⟩; obtain ⟨pt, ct, rfl, -, -, hby, -⟩ := hr.at2; have hcv := conv_at wa pt ct ll HLB.out hby; rw [← HSL.out] at hcv; have hb1 := hr.2; clear hr hby; have hg2 := (hb1.block _ (by simp; exact Nat.lt_succ_of_lt HS0.out)).trans ((((Below.refl w0.heap.size w0).alloc (Nat.le_refl _) (.cells #[.int .u64 x1, .int .u64 x2, .int .i64 x3, .int .i64 x4] 38)).block _ HS0.out).trans HG0.out); have z0 := row_cell (i := 0) hg2 rfl; have z1 := row_cell (i := 1) hg2 rfl; have z2 := row_cell (i := 2) hg2 rfl; have z3 := row_cell (i := 3) hg2 rfl; have f0 := row_frozen (i := 0) hg2; have f1 := row_frozen (i := 1) hg2; have f2 := row_frozen (i := 2) hg2; have f3 := row_frozen (i := 3) hg2; have m0 : wa.cell? ⟨w0.heap.size, 0, none⟩ = some (.int .u64 x1) := (hb1.cell (by simp)).trans (by go_cell); have m1 : wa.cell? ⟨w0.heap.size, 1, none⟩ = some (.int .u64 x2) := (hb1.cell (by simp)).trans (by go_cell); have m2 : wa.cell? ⟨w0.heap.size, 2, none⟩ = some (.int .i64 x3) := (hb1.cell (by simp)).trans (by go_cell); have m3 : wa.cell? ⟨w0.heap.size, 3, none⟩ = some (.int .i64 x4) := (hb1.cell (by simp)).trans (by go_cell); have HBA := Lib.hid (kbT HB0.out (kbA hb1)); clear hb1 hg2; have hcl := CV.out wa HBA.out))
  refine bodyPost_ret (v := .tuple #[headV x1 x2 x3 x4, .int .i64 0]) ?_ rfl ⟨rfl, ?_⟩
  · simp [results, Try.results22, go_sem, headV, z0, z1, z2, z3]
  · exact (((HBA.out.setCell (Nat.le_refl _) _).setCell (Nat.le_refl _) _).setCell (Nat.le_refl _) _).setCell (Nat.le_refl _) _
theorem refDecodeHead_any (l : List Nat) (p : Option Addr) (cap : Nat) (w : World) (hcap : l.length ≤ cap) (hc0 : cap ≤ 9223372036854775807) (hb : ∀ b ∈ l, b < 256) (hc : BytesAt w p l) :
    Calls Try.prog 22 #[.slice p l.length cap] w fun r w' => r = .returned (.tuple #[decV l, .int .i64 (decX l)]) ∧ Below w.heap.size w w' := by
  unfold decV decX isHead
  by_cases hl : l.length = 64
  · cases hh : headOk (hN l) (hC l) with
    | false =>
      simp only [hl, decide_true, Bool.true_and, Bool.false_and, Bool.false_eq_true, if_false]
      exact refDecodeHead_no l p cap w hl (by omega) hc0 hb hc hh
    | true =>
      by_cases hq : headL (hS l) (hE l) (hN l) (hC l) = l
      · simp only [hl, hq, decide_true, Bool.true_and, if_true]
        exact refDecodeHead_yes l p cap w hl (by omega) hc0 hb hc hh hq
      · simp only [hl, hq, decide_true, decide_false, Bool.true_and, Bool.false_eq_true, if_false]
        exact refDecodeHead_other l p cap w hl (by omega) hc0 hb hc hh hq
  · simp only [hl, decide_false, Bool.false_and, Bool.false_eq_true, if_false]
    exact refDecodeHead_long l p cap w hl
end Go.Proofs.Ythnllhfdbnnjhaa
namespace Go.Proofs.Ythnllhfdbnnjhaa
open Go.RowKit Go.Shelf

def fE (l : List Nat) : Nat := foldN (l.take 8)
def fI (l : List Nat) : Nat := foldN ((l.drop 8).take 4)
def fP (l : List Nat) : Nat := foldN ((l.drop 12).take 4)
def fM (l : List Nat) : Bool := decide (l.getD 16 0 = 1)
def fN (l : List Nat) : Nat := foldN ((l.drop 17).take 4)
def fK (l : List Nat) : Nat := foldN ((l.drop 21).take 4)
theorem take1_any (P : Nat) (p : Option Addr) (c : Nat) (v : List Nat) (w0 w : World) (h : 1 ≤ v.length) (hv : c ≤ 9223372036854775807) (hP : w0.heap.size ≤ P) (R : RestP (· < w0.heap.size) w P p c v) :
    Calls Try.prog 61 #[.pointer (some ⟨P, 0, none⟩), .int .i64 1] w fun r w' => r = .returned (.slice p 1 1) ∧ But P w w' ∧ ∃ p' c', c' ≤ c ∧ RestP (· < w0.heap.size) w' P p' c' (v.drop 1) := by
  refine (ftake_rest 1 P p c v w h hv R).mono ?_
  rintro e w' ⟨rfl, rfl⟩
  exact ⟨rfl, But.set P w _, _, _, Nat.sub_le _ _, R.next h⟩
set_option maxRecDepth 100000 in
set_option maxHeartbeats 8000000 in
theorem readFrame_any (l : List Nat) (B off : Nat) (cap : Nat) (w : World) (hl : l.length = 576) (hcap : 576 ≤ cap) (hc0 : cap ≤ 9223372036854775807) (hb : ∀ b ∈ l, b < 256) (hc : BytesAt w (some ⟨B, off, none⟩) l) :
    Calls Try.prog 45 #[.slice (some ⟨B, off, none⟩) 576 cap] w fun r w' => ∃ q c, r = .returned (.agg #[.int .u64 (fE l : Nat), .int .i64 (fI l : Nat), .int .i64 (fP l : Nat), .bool (fM l), .int .i64 (fN l : Nat), .int .u32 (fK l : Nat), .slice q 512 c]) ∧ Below w.heap.size w w' ∧ BytesAt w' q (l.drop 64) ∧ (q = none → c = 0) ∧ c ≤ maxLen ∧ 512 ≤ c ∧ ∀ a, q = some a → w.heap.size < a.block := by
  have HR := rest_start w (.cells #[.int .u64 0, .int .i64 0, .int .i64 0, .bool false, .int .i64 0, .int .u32 0, .slice none 0 0] 51) (some ⟨B, off, none⟩) cap l 109 (by omega) (by omega) hc
  rw [hl] at HR
  have db : ∀ k, ∀ b ∈ l.drop k, b < 256 := fun k b h => hb b (List.mem_of_mem_drop h)
  have C1 := Lib.hid fun w1 c' p' (hc' : c' ≤ cap) R => num8_any (w.heap.size + 1) p' c' l w w1 (by omega) (by omega) hb (by omega) R
  have C2 := Lib.hid fun w1 c' p' (hc' : c' ≤ cap) R => num4_any (w.heap.size + 1) p' c' (l.drop 8) w w1 (by rw [List.length_drop]; omega) (by omega) (db 8) (by omega) R
  have C3 := Lib.hid fun w1 c' p' (hc' : c' ≤ cap) R => num4_any (w.heap.size + 1) p' c' (l.drop 12) w w1 (by rw [List.length_drop]; omega) (by omega) (db 12) (by omega) R
  have C4 := Lib.hid fun w1 c' p' (hc' : c' ≤ cap) R => take1_any (w.heap.size + 1) p' c' (l.drop 16) w w1 (by rw [List.length_drop]; omega) (by omega) (by omega) R
  have C5 := Lib.hid fun w1 c' p' (hc' : c' ≤ cap) R => num4_any (w.heap.size + 1) p' c' (l.drop 17) w w1 (by rw [List.length_drop]; omega) (by omega) (db 17) (by omega) R
  have C6 := Lib.hid fun w1 c' p' (hc' : c' ≤ cap) R => num4u_any (w.heap.size + 1) p' c' (l.drop 21) w w1 (by rw [List.length_drop]; omega) (by omega) (db 21) (by omega) R
  simp only [List.drop_drop, Nat.reduceAdd] at C2 C3 C4 C5
  have CK := Lib.hid fun (w' : World) (h : Below w.heap.size w w') => clone_any (l.drop 64) (some ⟨B, off + 64, none⟩) (cap - 64) w' (by rw [List.length_drop]; omega) (by
    have h2 := bytesAt_from (bytesAt_below hc h) 64
    rwa [show (some (⟨B, off, none⟩ : Addr)).map (fun x => x.add 64) = some ⟨B, off + 64, none⟩ from congrArg some (addr_plain B off 64)] at h2)
  have hdl : (l.drop 64).length = 512 := by rw [List.length_drop, hl]
  rw [hdl] at CK
  have n64 : ¬ cap = 64 := by omega
  generalize l.drop 64 = dd at *
  have HDL := Lib.hid hdl
  have HL := Lib.hid hl
  change Hid (∀ w1 c' p', c' ≤ cap → _ → Calls Try.prog 55 _ w1 fun r w' => r = .returned (.int .u64 (fE l : Nat)) ∧ _) at C1
  change Hid (∀ w1 c' p', c' ≤ cap → _ → Calls Try.prog 57 _ w1 fun r w' => r = .returned (.int .i64 (fI l : Nat)) ∧ _) at C2
  change Hid (∀ w1 c' p', c' ≤ cap → _ → Calls Try.prog 57 _ w1 fun r w' => r = .returned (.int .i64 (fP l : Nat)) ∧ _) at C3
  change Hid (∀ w1 c' p', c' ≤ cap → _ → Calls Try.prog 57 _ w1 fun r w' => r = .returned (.int .i64 (fN l : Nat)) ∧ _) at C5
  change Hid (∀ w1 c' p', c' ≤ cap → _ → Calls Try.prog 62 _ w1 fun r w' => r = .returned (.int .u32 (fK l : Nat)) ∧ _) at C6
  have HR := Lib.hid HR
  have HB0 : Hid (Below w.heap.size w ((w.alloc (.cells #[.int .u64 0, .int .i64 0, .int .i64 0, .bool false, .int .i64 0, .int .u32 0, .slice none 0 0] 51)).alloc (.cells #[.slice (some ⟨B, off, none⟩) 576 cap] 109))) := Lib.hid (((Below.refl _ _).alloc (Nat.le_refl _) _).alloc (by simp) _)
  have HG0 : Hid (((w.alloc (.cells #[.int .u64 0, .int .i64 0, .int .i64 0, .bool false, .int .i64 0, .int .u32 0, .slice none 0 0] 51)).alloc (.cells #[.slice (some ⟨B, off, none⟩) 576 cap] 109)).heap[w.heap.size]? = some (.cells #[.int .u64 0, .int .i64 0, .int .i64 0, .bool false, .int .i64 0, .int .u32 0, .slice none 0 0] 51 (0, 0))) := Lib.hid ((((Below.refl _ _).alloc (Nat.le_refl _) _).block _ (by simp)).trans (heap_alloc_last w _))
  have HS0 : Hid (w.heap.size < ((w.alloc (.cells #[.int .u64 0, .int .i64 0, .int .i64 0, .bool false, .int .i64 0, .int .u32 0, .slice none 0 0] 51)).alloc (.cells #[.slice (some ⟨B, off, none⟩) 576 cap] 109)).heap.size) := Lib.hid (by simp; omega)
  have hfm : fM l = decide (l.getD 16 0 = 1) := rfl
  generalize fE l = x1 at *
  generalize fI l = x2 at *
  generalize fP l = x3 at *
  generalize fN l = x5 at *
  generalize fK l = x6 at *
  generalize fM l = xm at *
  have hcap0 : cap ≤ cap := Nat.le_refl _
  have HW : Hid (w.heap.size ≠ w.heap.size + 1) := Lib.hid (by omega)
  clear hl hb hc db hdl
  go_enter Try.func45, Try.ntmps45
  go_upto_region 2 with fail
  obtain ⟨w0, hw0⟩ : ∃ w0, (w.alloc (.cells #[.int .u64 0, .int .i64 0, .int .i64 0, .bool false, .int .i64 0, .int .u32 0, .slice none 0 0] 51)).alloc (.cells #[.slice (some ⟨B, off, none⟩) 576 cap] 109) = w0 := ⟨_, rfl⟩
  rw [hw0] at HR HB0 HG0 HS0 ⊢
  clear hw0
  refine wp_region_held_drew (S := fun w' => Below w.heap.size w w') (by kernel_rfl) HB0.out.drew (fun H0 => ?_)
  obtain ⟨wd, hwd⟩ : ∃ wd, w0.drew = wd := ⟨_, rfl⟩
  have HR0 := Lib.hid (HR.out.but (show Below w0.heap.size w0 wd by rw [← hwd]; exact (Below.refl _ _).drew))
  have HG := Lib.hid ((show Below w0.heap.size w0 wd by rw [← hwd]; exact (Below.refl _ _).drew).block _ HS0.out |>.trans HG0.out)
  rw [hwd] at H0 ⊢
  clear hwd
  refine wpAnyH_take (i := 0) (oi := { dst := some 8, op := Go.Op.move (Go.Operand.tmp 3), type := 105, pos := "reader.go:45", after := #[], guard := none }) (v := ?_) rfl (by kernel_rfl) (by kernel_rfl) (by kernel_rfl) (fun _ _ _ h => h) (Or.inl ⟨by rfl, ?_⟩) H0 ?_
  rotate_left
  focus (intro w' hSw; (try dsimp only at hSw); go_simp; (try with_reducible rfl))
  simp only [Act.put, List.setIfInBounds_toArray, List.set_cons_zero, List.set_cons_succ]
  refine wpAnyH_take (i := 2) (oi := { dst := some 10, op := Go.Op.move (Go.Operand.tmp 3), type := 105, pos := "reader.go:45", after := #[], guard := none }) (v := ?_) rfl (by kernel_rfl) (by kernel_rfl) (by kernel_rfl) (fun _ _ _ h => h) (Or.inl ⟨by rfl, ?_⟩) H0 ?_
  rotate_left
  focus (intro w' hSw; (try dsimp only at hSw); go_simp; (try with_reducible rfl))
  simp only [Act.put, List.setIfInBounds_toArray, List.set_cons_zero, List.set_cons_succ]
  refine wpAnyH_take (i := 4) (oi := { dst := some 12, op := Go.Op.move (Go.Operand.tmp 3), type := 105, pos := "reader.go:45", after := #[], guard := none }) (v := ?_) rfl (by kernel_rfl) (by kernel_rfl) (by kernel_rfl) (fun _ _ _ h => h) (Or.inl ⟨by rfl, ?_⟩) H0 ?_
  rotate_left
  focus (intro w' hSw; (try dsimp only at hSw); go_simp; (try with_reducible rfl))
  simp only [Act.put, List.setIfInBounds_toArray, List.set_cons_zero, List.set_cons_succ]
  refine wpAnyH_take (i := 6) (oi := { dst := some 14, op := Go.Op.move (Go.Operand.tmp 3), type := 105, pos := "reader.go:45", after := #[], guard := none }) (v := ?_) rfl (by kernel_rfl) (by kernel_rfl) (by kernel_rfl) (fun _ _ _ h => h) (Or.inl ⟨by rfl, ?_⟩) H0 ?_
  rotate_left
  focus (intro w' hSw; (try dsimp only at hSw); go_simp; (try with_reducible rfl))
  simp only [Act.put, List.setIfInBounds_toArray, List.set_cons_zero, List.set_cons_succ]
  refine wpAnyH_take (i := 7) (oi := { dst := some 15, op := Go.Op.nilCheck (Go.Operand.tmp 14), type := 0, pos := "reader.go:45", after := #[{ on := 6, ground := Go.Ground.data }], guard := none }) (v := ?_) rfl (by kernel_rfl) (by kernel_rfl) (by kernel_rfl) (fun _ _ _ h => h) (Or.inl ⟨by rfl, ?_⟩) H0 ?_
  rotate_left
  focus (intro w' hSw; (try dsimp only at hSw); go_simp; (try with_reducible rfl))
  simp only [Act.put, List.setIfInBounds_toArray, List.set_cons_zero, List.set_cons_succ]
  refine wpAnyH_take (i := 8) (oi := { dst := some 16, op := Go.Op.fieldAddr 109 (Go.Operand.tmp 15) 0, type := 0, pos := "reader.go:45", after := #[{ on := 7, ground := Go.Ground.data }], guard := none }) (v := ?_) rfl (by kernel_rfl) (by kernel_rfl) (by kernel_rfl) (fun _ _ _ h => h) (Or.inl ⟨by rfl, ?_⟩) H0 ?_
  rotate_left
  focus (intro w' hSw; (try dsimp only at hSw); go_simp; (try with_reducible rfl))
  simp only [Act.put, List.setIfInBounds_toArray, List.set_cons_zero, List.set_cons_succ]
  refine wpAnyH_take (i := 13) (oi := { dst := some 21, op := Go.Op.move (Go.Operand.tmp 3), type := 105, pos := "reader.go:45", after := #[], guard := none }) (v := ?_) rfl (by kernel_rfl) (by kernel_rfl) (by kernel_rfl) (fun _ _ _ h => h) (Or.inl ⟨by rfl, ?_⟩) H0 ?_
  rotate_left
  focus (intro w' hSw; (try dsimp only at hSw); go_simp; (try with_reducible rfl))
  simp only [Act.put, List.setIfInBounds_toArray, List.set_cons_zero, List.set_cons_succ]
  refine wpAnyH_take (i := 15) (oi := { dst := some 23, op := Go.Op.move (Go.Operand.tmp 3), type := 105, pos := "reader.go:45", after := #[], guard := none }) (v := ?_) rfl (by kernel_rfl) (by kernel_rfl) (by kernel_rfl) (fun _ _ _ h => h) (Or.inl ⟨by rfl, ?_⟩) H0 ?_
  rotate_left
  focus (intro w' hSw; (try dsimp only at hSw); go_simp; (try with_reducible rfl))
  simp only [Act.put, List.setIfInBounds_toArray, List.set_cons_zero, List.set_cons_succ]
  refine wpAnyH_take (i := 17) (oi := { dst := some 25, op := Go.Op.move (Go.Operand.tmp 0), type := 39, pos := "reader.go:45", after := #[], guard := none }) (v := ?_) rfl (by kernel_rfl) (by kernel_rfl) (by kernel_rfl) (fun _ _ _ h => h) (Or.inl ⟨by rfl, ?_⟩) H0 ?_
  rotate_left
  focus (intro w' hSw; (try dsimp only at hSw); go_simp; (try with_reducible rfl))
  simp only [Act.put, List.setIfInBounds_toArray, List.set_cons_zero, List.set_cons_succ]
  refine wpAnyH_take (i := 18) (oi := { dst := some 26, op := Go.Op.slice 39 (Go.Operand.tmp 25) (some (Go.Operand.const (Go.Value.int Go.IntKind.i64 64))) none none, type := 39, pos := "reader.go:45", after := #[{ on := 17, ground := Go.Ground.data }], guard := none }) (v := ?_) rfl (by kernel_rfl) (by kernel_rfl) (by kernel_rfl) (fun _ _ _ h => h) (Or.inl ⟨by rfl, ?_⟩) H0 ?_
  rotate_left
  focus (intro w' hSw; (try dsimp only at hSw); go_simp; (try with_reducible rfl))
  simp only [Act.put, List.setIfInBounds_toArray, List.set_cons_zero, List.set_cons_succ]
  refine wpAnyH_ready (rs := [1]) (by kernel_rfl) (by simp) ?_
  refine AllReadyH.cons (o := { dst := some 9, op := Go.Op.call { callee := Go.Callee.value (Go.Operand.func 55), args := #[Go.Operand.tmp 8, Go.Operand.const (Go.Value.int Go.IntKind.i64 8), Go.Operand.func 56], argTypes := #[105, 3, 111] }, type := 36, pos := "reader.go:46", after := #[{ on := 0, ground := Go.Ground.data }], guard := none }) rfl (fun K hK => ?_) ?_
  rotate_left
  exact AllReadyH.nil
  go_simp
  (go_at_call 55; (with_reducible refine (C1.out _ _ _ hcap0 HR0.out).mono ?_); rintro e w1 ⟨rfl, hbt, p1, c1, hc1', hr1⟩)
  try go_wp2_with fail
  have hc1 := Nat.le_trans hc1' hcap0
  have HR1 := Lib.hid hr1
  have HG := Lib.hid (hbt.row HG.out HW.out)
  have HB1 := hbt.below H0 (Nat.le_succ _)
  clear hr1 hbt
  refine hK.out _ _ HB1 (fun H1 => ?_)
  clear hK K
  try simp only [Act.put, List.setIfInBounds_toArray, List.set_cons_zero, List.set_cons_succ]
  refine wpAnyH_ready (rs := [3]) (by kernel_rfl) (by simp) ?_
  refine AllReadyH.cons (o := { dst := some 11, op := Go.Op.call { callee := Go.Callee.value (Go.Operand.func 57), args := #[Go.Operand.tmp 10, Go.Operand.const (Go.Value.int Go.IntKind.i64 4), Go.Operand.func 58], argTypes := #[105, 3, 113] }, type := 3, pos := "reader.go:47", after := #[{ on := 2, ground := Go.Ground.data }, { on := 1, ground := Go.Ground.chain }], guard := none }) rfl (fun K hK => ?_) ?_
  rotate_left
  exact AllReadyH.nil
  go_simp
  (go_at_call 57; (with_reducible refine (C2.out _ _ _ hc1 HR1.out).mono ?_); rintro e w2 ⟨rfl, hbt, p2, c2, hc2', hr2⟩)
  try go_wp2_with fail
  have hc2 := Nat.le_trans hc2' hc1
  have HR2 := Lib.hid hr2
  have HG := Lib.hid (hbt.row HG.out HW.out)
  have HB2 := hbt.below H1 (Nat.le_succ _)
  clear hr2 hbt
  refine hK.out _ _ HB2 (fun H2 => ?_)
  clear hK K
  try simp only [Act.put, List.setIfInBounds_toArray, List.set_cons_zero, List.set_cons_succ]
  refine wpAnyH_ready (rs := [5]) (by kernel_rfl) (by simp) ?_
  refine AllReadyH.cons (o := { dst := some 13, op := Go.Op.call { callee := Go.Callee.value (Go.Operand.func 57), args := #[Go.Operand.tmp 12, Go.Operand.const (Go.Value.int Go.IntKind.i64 4), Go.Operand.func 58], argTypes := #[105, 3, 113] }, type := 3, pos := "reader.go:48", after := #[{ on := 4, ground := Go.Ground.data }, { on := 3, ground := Go.Ground.chain }], guard := none }) rfl (fun K hK => ?_) ?_
  rotate_left
  exact AllReadyH.nil
  go_simp
  (go_at_call 57; (with_reducible refine (C3.out _ _ _ hc2 HR2.out).mono ?_); rintro e w3 ⟨rfl, hbt, p3, c3, hc3', hr3⟩)
  try go_wp2_with fail
  have hc3 := Nat.le_trans hc3' hc2
  have HR3 := Lib.hid hr3
  have HG := Lib.hid (hbt.row HG.out HW.out)
  have HB3 := hbt.below H2 (Nat.le_succ _)
  clear hr3 hbt
  refine hK.out _ _ HB3 (fun H3 => ?_)
  clear hK K
  try simp only [Act.put, List.setIfInBounds_toArray, List.set_cons_zero, List.set_cons_succ]
  obtain ⟨Bq, oq, hpq, hTq, hcq⟩ := HR3.out.bytes 0 (by rw [List.length_drop]; have := HL.out; omega)
  subst hpq
  have hq16 : (l.drop 16).getD 0 0 = l.getD 16 0 := by simp [List.getD_eq_getElem?_getD, List.getElem?_drop]
  rw [hq16, Nat.add_zero] at hcq
  have HCQ : Hid (∀ w', Below w.heap.size w w' → w'.cell? ⟨Bq, oq, none⟩ = some (.int .u8 (l.getD 16 0 : Nat))) := Lib.hid fun w' h => ((h.cell (p := ⟨Bq, oq, none⟩) hTq).trans (H3.cell (p := ⟨Bq, oq, none⟩) hTq).symm).trans hcq
  clear hcq hq16
  generalize l.getD 16 0 = b16 at *
  refine wpAnyH_ready (rs := [9]) (by kernel_rfl) (by simp) ?_
  refine AllReadyH.cons (o := { dst := some 17, op := Go.Op.call { callee := Go.Callee.value (Go.Operand.func 61), args := #[Go.Operand.tmp 16, Go.Operand.const (Go.Value.int Go.IntKind.i64 1)], argTypes := #[107, 3] }, type := 39, pos := "reader.go:49", after := #[{ on := 8, ground := Go.Ground.data }, { on := 5, ground := Go.Ground.chain }], guard := none }) rfl (fun K hK => ?_) ?_
  rotate_left
  exact AllReadyH.nil
  go_simp
  (go_at_call 61; (with_reducible refine (C4.out _ _ _ hc3 HR3.out).mono ?_); rintro e w4 ⟨rfl, hbt, p4, c4, hc4', hr4⟩)
  try go_wp2_with fail
  have hc4 := Nat.le_trans hc4' hc3
  have HR4 := Lib.hid hr4
  have HG := Lib.hid (hbt.row HG.out HW.out)
  have HB4 := hbt.below H3 (Nat.le_succ _)
  clear hr4 hbt
  refine hK.out _ _ HB4 (fun H4 => ?_)
  clear hK K
  try simp only [Act.put, List.setIfInBounds_toArray, List.set_cons_zero, List.set_cons_succ]
  refine wpAnyH_take (i := 10) (oi := { dst := some 18, op := Go.Op.indexAddr 39 (Go.Operand.tmp 17) (Go.Operand.const (Go.Value.int Go.IntKind.i64 0)), type := 0, pos := "reader.go:45", after := #[{ on := 9, ground := Go.Ground.data }], guard := none }) (v := ?_) rfl (by kernel_rfl) (by kernel_rfl) (by kernel_rfl) (fun _ _ _ h => h) (Or.inl ⟨by rfl, ?_⟩) H4 ?_
  rotate_left
  focus (intro w' hSw; (try dsimp only at hSw); go_simp; (try with_reducible rfl))
  simp only [Act.put, List.setIfInBounds_toArray, List.set_cons_zero, List.set_cons_succ]
  refine wpAnyH_take (i := 11) (oi := { dst := some 19, op := Go.Op.load 5 (Go.Operand.tmp 18), type := 5, pos := "reader.go:45", after := #[{ on := 10, ground := Go.Ground.data }], guard := none }) (v := ?_) rfl (by kernel_rfl) (by kernel_rfl) (by kernel_rfl) (fun _ _ _ h => h) (Or.inl ⟨by rfl, ?_⟩) H4 ?_
  rotate_left
  focus (intro w' hSw; (try dsimp only at hSw); have kq := HCQ.out _ hSw; go_simp; (try with_reducible rfl))
  simp only [Act.put, List.setIfInBounds_toArray, List.set_cons_zero, List.set_cons_succ]
  refine wpAnyH_take (i := 12) (oi := { dst := some 20, op := Go.Op.binOp Go.BinOp.eql 5 (Go.Operand.tmp 19) (Go.Operand.const (Go.Value.int Go.IntKind.u8 1)) 5, type := 4, pos := "reader.go:45", after := #[{ on := 11, ground := Go.Ground.data }], guard := none }) (v := ?_) rfl (by kernel_rfl) (by kernel_rfl) (by kernel_rfl) (fun _ _ _ h => h) (Or.inl ⟨by rfl, ?_⟩) H4 ?_
  rotate_left
  focus (intro w' hSw; (try dsimp only at hSw); go_simp; (try with_reducible rfl))
  simp only [Act.put, List.setIfInBounds_toArray, List.set_cons_zero, List.set_cons_succ]
  refine wpAnyH_ready (rs := [14]) (by kernel_rfl) (by simp) ?_
  refine AllReadyH.cons (o := { dst := some 22, op := Go.Op.call { callee := Go.Callee.value (Go.Operand.func 57), args := #[Go.Operand.tmp 21, Go.Operand.const (Go.Value.int Go.IntKind.i64 4), Go.Operand.func 58], argTypes := #[105, 3, 113] }, type := 3, pos := "reader.go:50", after := #[{ on := 13, ground := Go.Ground.data }, { on := 9, ground := Go.Ground.chain }], guard := none }) rfl (fun K hK => ?_) ?_
  rotate_left
  exact AllReadyH.nil
  go_simp
  (go_at_call 57; (with_reducible refine (C5.out _ _ _ hc4 HR4.out).mono ?_); rintro e w5 ⟨rfl, hbt, p5, c5, hc5', hr5⟩)
  try go_wp2_with fail
  have hc5 := Nat.le_trans hc5' hc4
  have HR5 := Lib.hid hr5
  have HG := Lib.hid (hbt.row HG.out HW.out)
  have HB5 := hbt.below H4 (Nat.le_succ _)
  clear hr5 hbt
  refine hK.out _ _ HB5 (fun H5 => ?_)
  clear hK K
  try simp only [Act.put, List.setIfInBounds_toArray, List.set_cons_zero, List.set_cons_succ]
  refine wpAnyH_ready (rs := [16]) (by kernel_rfl) (by simp) ?_
  refine AllReadyH.cons (o := { dst := some 24, op := Go.Op.call { callee := Go.Callee.value (Go.Operand.func 62), args := #[Go.Operand.tmp 23, Go.Operand.const (Go.Value.int Go.IntKind.i64 4), Go.Operand.func 58], argTypes := #[105, 3, 113] }, type := 49, pos := "reader.go:51", after := #[{ on := 15, ground := Go.Ground.data }, { on := 14, ground := Go.Ground.chain }], guard := none }) rfl (fun K hK => ?_) ?_
  rotate_left
  exact AllReadyH.nil
  go_simp
  (go_at_call 62; (with_reducible refine (C6.out _ _ _ hc5 HR5.out).mono ?_); rintro e w6 ⟨rfl, hbt, p6, c6, hc6', hr6⟩)
  try go_wp2_with fail
  have hc6 := Nat.le_trans hc6' hc5
  have HR6 := Lib.hid hr6
  have HG := Lib.hid (hbt.row HG.out HW.out)
  have HB6 := hbt.below H5 (Nat.le_succ _)
  clear hr6 hbt
  refine hK.out _ _ HB6 (fun H6 => ?_)
  clear hK K
  try simp only [Act.put, List.setIfInBounds_toArray, List.set_cons_zero, List.set_cons_succ]
  refine wpAnyH_ready (rs := [19]) (by kernel_rfl) (by simp) ?_
  refine AllReadyH.cons (o := { dst := some 27, op := Go.Op.call { callee := Go.Callee.value (Go.Operand.func 47), args := #[Go.Operand.tmp 26], argTypes := #[39] }, type := 39, pos := "reader.go:52", after := #[{ on := 18, ground := Go.Ground.data }, { on := 16, ground := Go.Ground.chain }], guard := none }) rfl (fun K hK => ?_) ?_
  rotate_left
  exact AllReadyH.nil
  go_simp
  (go_at_call 47; (with_reducible refine (CK.out _ H6).mono ?_); rintro e w7 ⟨t, rfl, hr⟩)
  try go_wp2_with fail
  obtain ⟨q, c7, rfl, hcq7, hcm7, hby, hn7⟩ := (Tell.of hr).at'
  have kz := row_cell (i := 0) HG.out rfl
  have HG := Lib.hid ((hr.2.block _ (Array.getElem?_eq_some_iff.1 HG.out).1).trans HG.out)
  refine hK.out _ _ (kbT H6 hr.2) (fun H7 => ?_)
  clear hK K
  try simp only [Act.put, List.setIfInBounds_toArray, List.set_cons_zero, List.set_cons_succ]
  refine wpAnyH_take (i := 20) (oi := { dst := some 28, op := Go.Op.build 51 #[(0, Go.Operand.tmp 9), (1, Go.Operand.tmp 11), (2, Go.Operand.tmp 13), (3, Go.Operand.tmp 20), (4, Go.Operand.tmp 22), (5, Go.Operand.tmp 24), (6, Go.Operand.tmp 27)], type := 51, pos := "reader.go:45", after := #[{ on := 1, ground := Go.Ground.data }, { on := 3, ground := Go.Ground.data }, { on := 5, ground := Go.Ground.data }, { on := 12, ground := Go.Ground.data }, { on := 14, ground := Go.Ground.data }, { on := 16, ground := Go.Ground.data }, { on := 19, ground := Go.Ground.data }], guard := none }) (v := ?_) rfl (by kernel_rfl) (by kernel_rfl) (by kernel_rfl) (fun _ _ _ h => h) (Or.inl ⟨by rfl, ?_⟩) H7 ?_
  rotate_left
  focus (intro w' hSw; (try dsimp only at hSw); go_simp; (try with_reducible rfl))
  simp only [Act.put, List.setIfInBounds_toArray, List.set_cons_zero, List.set_cons_succ]
  refine wpAnyH_ready (rs := [21]) (by kernel_rfl) (by simp) ?_
  refine AllReadyH.cons (o := { dst := none, op := Go.Op.store 51 (Go.Operand.tmp 2) (Go.Operand.tmp 28), type := 0, pos := "reader.go:45", after := #[{ on := 20, ground := Go.Ground.data }, { on := 19, ground := Go.Ground.chain }, { on := 0, ground := Go.Ground.phase }, { on := 1, ground := Go.Ground.phase }, { on := 2, ground := Go.Ground.phase }, { on := 3, ground := Go.Ground.phase }, { on := 4, ground := Go.Ground.phase }, { on := 5, ground := Go.Ground.phase }, { on := 6, ground := Go.Ground.phase }, { on := 7, ground := Go.Ground.phase }, { on := 8, ground := Go.Ground.phase }, { on := 9, ground := Go.Ground.phase }, { on := 10, ground := Go.Ground.phase }, { on := 11, ground := Go.Ground.phase }, { on := 12, ground := Go.Ground.phase }, { on := 13, ground := Go.Ground.phase }, { on := 14, ground := Go.Ground.phase }, { on := 15, ground := Go.Ground.phase }, { on := 16, ground := Go.Ground.phase }, { on := 17, ground := Go.Ground.phase }, { on := 18, ground := Go.Ground.phase }, { on := 19, ground := Go.Ground.phase }, { on := 20, ground := Go.Ground.phase }], guard := none }) rfl (fun K hK => ?_) ?_
  rotate_left
  exact AllReadyH.nil
  have k0 := row_cell (i := 0) HG.out rfl
  have k1 := row_cell (i := 1) HG.out rfl
  have k2 := row_cell (i := 2) HG.out rfl
  have k3 := row_cell (i := 3) HG.out rfl
  have k4 := row_cell (i := 4) HG.out rfl
  have k5 := row_cell (i := 5) HG.out rfl
  have k6 := row_cell (i := 6) HG.out rfl
  have f0 := row_frozen (i := 0) HG.out
  have f1 := row_frozen (i := 1) HG.out
  have f2 := row_frozen (i := 2) HG.out
  have f3 := row_frozen (i := 3) HG.out
  have f4 := row_frozen (i := 4) HG.out
  have f5 := row_frozen (i := 5) HG.out
  have f6 := row_frozen (i := 6) HG.out
  go_simp
  refine hK.out _ _ (((((((H7.setCell (Nat.le_refl _) _).setCell (Nat.le_refl _) _).setCell (Nat.le_refl _) _).setCell (Nat.le_refl _) _).setCell (Nat.le_refl _) _).setCell (Nat.le_refl _) _).setCell (Nat.le_refl _) _) (fun H8 => ?_)
  clear hK K
  try simp only [Act.put, List.setIfInBounds_toArray, List.set_cons_zero, List.set_cons_succ]
  refine wpAnyH_done (by kernel_rfl) ?_ _
  go_wp2_with fail
  refine bodyPost_ret (v := .agg #[.int .u64 x1, .int .i64 x2, .int .i64 x3, .bool (decide (b16 = 1)), .int .i64 x5, .int .u32 x6, .slice q 512 c7]) ?_ rfl ⟨q, c7, ?_, H8, ?_, hn7.1, hcm7, ?_, fun a ha => Nat.lt_of_lt_of_le (lt_of_cell_some kz) (hn7.2 a ha)⟩
  · have hbb : ((b16 : Int) == 1) = decide (b16 = 1) := by
      by_cases hq : b16 = 1
      · subst hq; rfl
      · rw [decide_eq_false hq]
        simp only [beq_eq_false_iff_ne, ne_eq]
        omega
    simp [results, Try.results45, go_sem, k0, k1, k2, k3, k4, k5, k6, hbb, HDL.out]
  · rw [hfm]
  · have hlt : w.heap.size < w6.heap.size := lt_of_cell_some kz
    intro i hi
    obtain ⟨Bz, oz, e, cz⟩ := hby i hi
    have hge := hn7.2 _ e
    exact ⟨Bz, oz, e, (((((((But.set' _ _ _ _).trans (But.set' _ _ _ _)).trans (But.set' _ _ _ _)).trans (But.set' _ _ _ _)).trans (But.set' _ _ _ _)).trans (But.set' _ _ _ _)).trans (But.set' _ _ _ _)).cell cz (by simp only at hge ⊢; omega)⟩
  · have := HDL.out; omega
end Go.Proofs.Ythnllhfdbnnjhaa
