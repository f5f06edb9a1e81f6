/- Package frame: a frame's sum and its sector. -/
import Derived.Test.YthnllhfdbnnjhaaPK
namespace Go.Proofs.Ythnllhfdbnnjhaa
open Go.RowKit Go.Shelf

/-- A frame, as a value. -/
def frameV (E i p : Int) (cm : Bool) (n k : Int) (q : Option Addr) (ln cp : Nat) : Value := .agg #[.int .u64 E, .int .i64 i, .int .i64 p, .bool cm, .int .i64 n, .int .u32 k, .slice q ln cp]
def mostOf (cm : Bool) : Int := if cm then 2000 else 0
def frameOk (i p : Int) (cm : Bool) (n : Int) (ln : Nat) : Bool := decide (0 ≤ i) && decide (i ≤ 2000) && decide (0 ≤ p) && decide (p ≤ 2000) && decide (0 ≤ n) && decide (n ≤ mostOf cm) && decide (ln = 512)
theorem frame_bounds {i p n : Int} {cm : Bool} {ln : Nat} (h : frameOk i p cm n ln = true) : 0 ≤ i ∧ i ≤ 2000 ∧ 0 ≤ p ∧ p ≤ 2000 ∧ 0 ≤ n ∧ n ≤ mostOf cm ∧ n ≤ 2000 ∧ ln = 512 := by
  simp only [frameOk, Bool.and_eq_true, decide_eq_true_eq] at h
  have : mostOf cm ≤ 2000 := by unfold mostOf; split <;> omega
  omega
theorem refuse_frame (i p n : Int) (cm : Bool) (ln : Nat) : refuseE 2 [(i, 0, 2000), (p, 0, 2000), (n, 0, mostOf cm), ((ln : Int), 512, 512)] = if frameOk i p cm n ln then 0 else 2 := by
  unfold refuseE frameOk spanOk
  simp only [List.all_cons, List.all_nil, Bool.and_true, ← Bool.and_assoc]
  congr 2
  rw [Bool.and_assoc]
  congr 1
  rw [Bool.eq_iff_iff]
  simp only [Bool.and_eq_true, decide_eq_true_eq]
  omega
theorem spans_four {w : World} {q : Nat} {a b c d e f g h i j k l : Int} (c0 : w.cell? ⟨q, 0, none⟩ = some (.int .i64 a)) (c1 : w.cell? ⟨q, 1, none⟩ = some (.int .i64 b)) (c2 : w.cell? ⟨q, 2, none⟩ = some (.int .i64 c)) (d0 : w.cell? ⟨q, 3, none⟩ = some (.int .i64 d)) (d1 : w.cell? ⟨q, 4, none⟩ = some (.int .i64 e)) (d2 : w.cell? ⟨q, 5, none⟩ = some (.int .i64 f))
    (e0 : w.cell? ⟨q, 6, none⟩ = some (.int .i64 g)) (e1 : w.cell? ⟨q, 7, none⟩ = some (.int .i64 h)) (e2 : w.cell? ⟨q, 8, none⟩ = some (.int .i64 i)) (f0 : w.cell? ⟨q, 9, none⟩ = some (.int .i64 j)) (f1 : w.cell? ⟨q, 10, none⟩ = some (.int .i64 k)) (f2 : w.cell? ⟨q, 11, none⟩ = some (.int .i64 l)) : SpansAt w q [(a, b, c), (d, e, f), (g, h, i), (j, k, l)] := by
  intro m s h
  match m with
  | 0 => injection h with h; subst h; exact ⟨c0, c1, c2⟩
  | 1 => injection h with h; subst h; exact ⟨d0, d1, d2⟩
  | 2 => injection h with h; subst h; exact ⟨e0, e1, e2⟩
  | 3 => injection h with h; subst h; exact ⟨f0, f1, f2⟩
  | m + 4 => cases h
set_option maxRecDepth 100000 in
set_option maxHeartbeats 1000000 in
theorem checkFrame_any (E i p : Int) (cm : Bool) (n k : Int) (q : Option Addr) (ln cp : Nat) (w : World) : Calls Try.prog 42 #[frameV E i p cm n k q ln cp] w fun r w' => r = .returned (.int .i64 (if frameOk i p cm n ln then 0 else 2)) ∧ Below w.heap.size w w' := by
  have C := Lib.hid fun (q : Nat) (w : World) h => refusal_any 2 [(i, 0, 2000), (p, 0, 2000), (n, 0, mostOf cm), ((ln : Int), 512, 512)] q 4 w (by simp) h
  rw [refuse_frame] at C
  generalize (if frameOk i p cm n ln then (0 : Int) else 2) = R at *
  unfold frameV
  cases cm
  · change Hid (∀ q w, Hid (SpansAt w q [(i, 0, 2000), (p, 0, 2000), (n, 0, 0), ((ln : Int), 512, 512)]) → _) at C
    go_enter Try.func42, Try.ntmps42
    go_wp2_with (go_at_call 35; refine (C.out _ _ (Lib.hid (spans_four (by go_cell) (by go_cell) (by go_cell) (by go_cell) (by go_cell) (by go_cell) (by go_cell) (by go_cell) (by go_cell) (by go_cell) (by go_cell) (by go_cell)))).mono ?_; rintro e w' ⟨rfl, hb⟩)
    go_ret
    exact ⟨rfl, (((Below.refl _ _).alloc (Nat.le_refl _) _).alloc (by simp) _).trans (hb.mono (by simp; omega))⟩
  · change Hid (∀ q w, Hid (SpansAt w q [(i, 0, 2000), (p, 0, 2000), (n, 0, 2000), ((ln : Int), 512, 512)]) → _) at C
    go_enter Try.func42, Try.ntmps42
    go_wp2_with (go_at_call 35; refine (C.out _ _ (Lib.hid (spans_four (by go_cell) (by go_cell) (by go_cell) (by go_cell) (by go_cell) (by go_cell) (by go_cell) (by go_cell) (by go_cell) (by go_cell) (by go_cell) (by go_cell)))).mono ?_; rintro e w' ⟨rfl, hb⟩)
    go_ret
    exact ⟨rfl, (((Below.refl _ _).alloc (Nat.le_refl _) _).alloc (by simp) _).trans (hb.mono (by simp; omega))⟩
theorem frameParts_made (E i p : Nat) (cm : Bool) (n k : Nat) (hE : E < 2 ^ 64) (hi : i < 4294967296) (hp : p < 4294967296) (hn : n < 4294967296) (hk : k < 4294967296) (q : Option Addr) (cap : Nat) (w : World) :
    Calls Try.prog 77 #[.agg #[.int .u64 E, .int .i64 i, .int .i64 p, .bool cm, .int .i64 n, .int .u32 k, .slice q 512 cap]] w fun r w' => r = .returned (.map (some (w.heap.size + 1))) ∧ Below w.heap.size w w' ∧ PartsOk w' (w.heap.size + 1) w.heap.size (framePs E i p cm n k) := by
  refine (frameParts_any E i p cm n k q 512 cap w).mono ?_
  rintro e w' ⟨rfl, rfl⟩
  refine ⟨rfl, ((Below.refl _ _).alloc (Nat.le_refl _) _).alloc (by simp) _, frameParts_ok E i p cm n k hE hi hp hn hk _ _ _ (by go_cell) (by go_cell) (by go_cell) (by go_cell) (by go_cell) (by go_cell) ?_⟩
  have := heap_alloc_last (w.alloc (.cells #[.int .u64 E, .int .i64 i, .int .i64 p, .bool cm, .int .i64 n, .int .u32 k, .slice q 512 cap] 51)) (.map (frameE6 w.heap.size) 6)
  rw [World.size_alloc] at this
  exact this
def frameB (E i p : Nat) (cm : Bool) (n k : Nat) : List Nat := partsL (framePs E i p cm n k)
/-- What stands in a frame's first sector, ahead of the noughts. -/
def frameC (E i p : Nat) (cm : Bool) (n k : Nat) (bs : List Nat) : List Nat := frameB E i p cm n k ++ fixE 4 (~~~ sumN (frameB E i p cm n k ++ bs)).toNat
theorem frameB_length (E i p : Nat) (cm : Bool) (n k : Nat) : (frameB E i p cm n k).length = 25 := by simp [frameB, partsL, framePs, fixE_length, oneL_length]
theorem frameC_length (E i p : Nat) (cm : Bool) (n k : Nat) (bs : List Nat) : (frameC E i p cm n k bs).length = 29 := by simp [frameC, frameB_length, fixE_length]
theorem frameB_byte (E i p : Nat) (cm : Bool) (n k : Nat) : ∀ b ∈ frameB E i p cm n k, b < 256 := by
  intro b hb
  simp only [frameB, partsL, framePs, List.map_cons, List.map_nil, List.flatten_cons, List.flatten_nil, List.append_nil, List.mem_append] at hb
  rcases hb with h | h | h | h | h | h
  · exact fixE_byte _ _ b h
  · exact fixE_byte _ _ b h
  · exact fixE_byte _ _ b h
  · exact oneL_byte _ b h
  · exact fixE_byte _ _ b h
  · exact fixE_byte _ _ b h
theorem frameC_byte (E i p : Nat) (cm : Bool) (n k : Nat) (bs : List Nat) : ∀ b ∈ frameC E i p cm n k bs, b < 256 := by
  intro b hb
  rcases List.mem_append.1 hb with h | h
  · exact frameB_byte _ _ _ _ _ _ b h
  · exact fixE_byte _ _ b h
theorem names6 {w : World} {q : Nat} {a b c d e f : Nat × Nat × List Nat} (h0 : w.cell? ⟨q, 0, none⟩ = some (.int .i64 (a.1 : Int))) (h1 : w.cell? ⟨q, 1, none⟩ = some (.int .i64 (b.1 : Int))) (h2 : w.cell? ⟨q, 2, none⟩ = some (.int .i64 (c.1 : Int))) (h3 : w.cell? ⟨q, 3, none⟩ = some (.int .i64 (d.1 : Int))) (h4 : w.cell? ⟨q, 4, none⟩ = some (.int .i64 (e.1 : Int))) (h5 : w.cell? ⟨q, 5, none⟩ = some (.int .i64 (f.1 : Int))) : NamesAt w q [a, b, c, d, e, f] := by
  intro k x hx
  match k with
  | 0 => injection hx with hx; subst hx; exact h0
  | 1 => injection hx with hx; subst hx; exact h1
  | 2 => injection hx with hx; subst hx; exact h2
  | 3 => injection hx with hx; subst hx; exact h3
  | 4 => injection hx with hx; subst hx; exact h4
  | 5 => injection hx with hx; subst hx; exact h5
  | k + 6 => simp at hx
set_option maxRecDepth 100000 in
set_option maxHeartbeats 2000000 in
theorem summed_any (E i p : Nat) (cm : Bool) (n k : Nat) (hE : E < 2 ^ 64) (hi : i < 4294967296) (hp : p < 4294967296) (hn : n < 4294967296) (hk : k < 4294967296) (q : Option Addr) (cap : Nat) (w : World) :
    Calls Try.prog 59 #[.agg #[.int .u64 E, .int .i64 i, .int .i64 p, .bool cm, .int .i64 n, .int .u32 k, .slice q 512 cap]] w fun r w' => ∃ t, r = .returned t ∧ RowB w (frameB E i p cm n k) t w' := by
  have CP := Lib.hid (frameParts_made E i p cm n k hE hi hp hn hk q cap)
  have LA := Lib.hid fun M A q cap w => laid_any (framePs E i p cm n k) M A q cap w (by simp [framePs])
  have HPS : Hid (∀ (w : World) (q : Nat), w.cell? ⟨q, 0, none⟩ = some (.int .i64 1) → w.cell? ⟨q, 1, none⟩ = some (.int .i64 2) → w.cell? ⟨q, 2, none⟩ = some (.int .i64 3) → w.cell? ⟨q, 3, none⟩ = some (.int .i64 4) → w.cell? ⟨q, 4, none⟩ = some (.int .i64 5) → w.cell? ⟨q, 5, none⟩ = some (.int .i64 7) → NamesAt w q (framePs E i p cm n k)) := Lib.hid fun w q h0 h1 h2 h3 h4 h5 => names6 h0 h1 h2 h3 h4 h5
  change Hid (∀ M A q cap w, _ → _ → Calls Try.prog 51 #[.map (some M), .slice (some ⟨q, 0, none⟩) 6 cap] w fun r w' => ∃ t, r = .returned t ∧ RowB w (frameB E i p cm n k) t w') at LA
  generalize frameB E i p cm n k = lb at *
  go_enter Try.func59, Try.ntmps59
  go_upto_region 1 with fail
  obtain ⟨w1, hw1⟩ : ∃ w1, w.alloc (.cells #[.int .u64 E, .int .i64 i, .int .i64 p, .bool cm, .int .i64 n, .int .u32 k, .slice q 512 cap] 51) = w1 := ⟨_, rfl⟩
  have HB1 : Hid (Below w.heap.size w w1) := Lib.hid (by subst hw1; exact (Below.refl _ _).alloc (Nat.le_refl _) _)
  have k0 : w1.cell? ⟨w.heap.size, 0, none⟩ = some (.int .u64 E) := by subst hw1; go_cell
  have k1 : w1.cell? ⟨w.heap.size, 1, none⟩ = some (.int .i64 i) := by subst hw1; go_cell
  have k2 : w1.cell? ⟨w.heap.size, 2, none⟩ = some (.int .i64 p) := by subst hw1; go_cell
  have k3 : w1.cell? ⟨w.heap.size, 3, none⟩ = some (.bool cm) := by subst hw1; go_cell
  have k4 : w1.cell? ⟨w.heap.size, 4, none⟩ = some (.int .i64 n) := by subst hw1; go_cell
  have k5 : w1.cell? ⟨w.heap.size, 5, none⟩ = some (.int .u32 k) := by subst hw1; go_cell
  have k6 : w1.cell? ⟨w.heap.size, 6, none⟩ = some (.slice q 512 cap) := by subst hw1; go_cell
  rw [hw1]
  clear hw1
  go_wp2_with (first
    | (go_at_call 77; refine (CP.out _).mono ?_; rintro e wa ⟨rfl, hb1, hpo⟩; have B1 := Lib.hid (kbT HB1.out hb1); have HPO := Lib.hid hpo; clear hb1 hpo)
    | (go_at_call 51; refine (LA.out _ _ _ _ _ (Lib.hid (HPO.out.below ((Below.refl _ _).alloc (Nat.le_refl _) _))) (Lib.hid (HPS.out _ _ (by go_cell) (by go_cell) (by go_cell) (by go_cell) (by go_cell) (by go_cell)))).mono ?_; rintro e wb ⟨t, rfl, hr⟩))
  go_ret
  exact ⟨_, rfl, hr.grow (B1.out.alloc B1.out.size _)⟩
set_option maxRecDepth 100000 in
set_option maxHeartbeats 4000000 in
theorem frameSum_any (E i p : Nat) (cm : Bool) (n k : Nat) (hE : E < 2 ^ 64) (hi : i < 4294967296) (hp : p < 4294967296) (hn : n < 4294967296) (hk : k < 4294967296) (q : Option Addr) (cap : Nat) (bs : List Nat) (hbl : bs.length = 512) (hbb : ∀ b ∈ bs, b < 256) (w : World) (hbs : BytesAt w q bs) :
    Calls Try.prog 46 #[.agg #[.int .u64 E, .int .i64 i, .int .i64 p, .bool cm, .int .i64 n, .int .u32 k, .slice q 512 cap]] w fun r w' => r = .returned (.int .u32 (~~~ sumN (frameB E i p cm n k ++ bs)).toNat) ∧ Below w.heap.size w w' := by
  have CS := Lib.hid (summed_any E i p cm n k hE hi hp hn hk q cap)
  have HBS := Lib.hid fun (w' : World) (h : Below w.heap.size w w') => bytesAt_below hbs h
  have hlen := frameB_length E i p cm n k
  have hbyt := frameB_byte E i p cm n k
  generalize frameB E i p cm n k = lb at *
  have CT := Lib.hid fun pp cp (w : World) h1 h2 => sum_two lb bs pp q cp cap w (by omega) (by omega) hbyt hbb h1 h2
  rw [hbl] at CT
  generalize (~~~ sumN (lb ++ bs)).toNat = sb at *
  clear hlen hbyt hbs hbb hE hi hp hn hk
  go_enter Try.func46, Try.ntmps46
  go_upto_region 1 with fail
  obtain ⟨w1, hw1⟩ : ∃ w1, w.alloc (.cells #[.int .u64 E, .int .i64 i, .int .i64 p, .bool cm, .int .i64 n, .int .u32 k, .slice q 512 cap] 51) = w1 := ⟨_, rfl⟩
  have HB1 : Hid (Below w.heap.size w w1) := Lib.hid (by subst hw1; exact (Below.refl _ _).alloc (Nat.le_refl _) _)
  have HCL : Hid (∀ w', Below w1.heap.size w1 w' → w'.cell? ⟨w.heap.size, 0, none⟩ = some (.int .u64 E) ∧ w'.cell? ⟨w.heap.size, 1, none⟩ = some (.int .i64 i) ∧ w'.cell? ⟨w.heap.size, 2, none⟩ = some (.int .i64 p) ∧ w'.cell? ⟨w.heap.size, 3, none⟩ = some (.bool cm) ∧ w'.cell? ⟨w.heap.size, 4, none⟩ = some (.int .i64 n) ∧ w'.cell? ⟨w.heap.size, 5, none⟩ = some (.int .u32 k) ∧ w'.cell? ⟨w.heap.size, 6, none⟩ = some (.slice q 512 cap)) := Lib.hid fun w' h => by
    have k0 : w1.cell? ⟨w.heap.size, 0, none⟩ = some (.int .u64 E) := by subst hw1; go_cell
    have k1 : w1.cell? ⟨w.heap.size, 1, none⟩ = some (.int .i64 i) := by subst hw1; go_cell
    have k2 : w1.cell? ⟨w.heap.size, 2, none⟩ = some (.int .i64 p) := by subst hw1; go_cell
    have k3 : w1.cell? ⟨w.heap.size, 3, none⟩ = some (.bool cm) := by subst hw1; go_cell
    have k4 : w1.cell? ⟨w.heap.size, 4, none⟩ = some (.int .i64 n) := by subst hw1; go_cell
    have k5 : w1.cell? ⟨w.heap.size, 5, none⟩ = some (.int .u32 k) := by subst hw1; go_cell
    have k6 : w1.cell? ⟨w.heap.size, 6, none⟩ = some (.slice q 512 cap) := by subst hw1; go_cell
    exact ⟨(h.cell (lt_of_cell_some k0)).trans k0, (h.cell (lt_of_cell_some k1)).trans k1, (h.cell (lt_of_cell_some k2)).trans k2, (h.cell (lt_of_cell_some k3)).trans k3, (h.cell (lt_of_cell_some k4)).trans k4, (h.cell (lt_of_cell_some k5)).trans k5, (h.cell (lt_of_cell_some k6)).trans k6⟩
  rw [hw1]
  clear hw1
  refine wp_region_held_drew (S := fun w' => Below w1.heap.size w1 w') (by kernel_rfl) ((Below.refl _ _).drew) (fun H0 => ?_)
  obtain ⟨wd, hwd⟩ : ∃ wd, w1.drew = wd := ⟨_, rfl⟩
  rw [hwd] at H0 ⊢
  clear hwd
  refine wpAnyH_take (i := 0) (oi := { dst := some 3, op := Go.Op.load 51 (Go.Operand.tmp 1), type := 51, pos := "part.go:90", after := #[], guard := none }) (v := ?_) rfl (by kernel_rfl) (by kernel_rfl) (by kernel_rfl) (fun _ _ _ h => h) (Or.inl ⟨by rfl, ?_⟩) H0 ?_
  rotate_left
  focus (intro w' hSw; (try dsimp only at hSw); obtain ⟨k0, k1, k2, k3, k4, k5, k6⟩ := HCL.out _ hSw; go_simp; (try with_reducible rfl))
  simp only [Act.put, List.setIfInBounds_toArray, List.set_cons_zero, List.set_cons_succ]
  refine wpAnyH_take (i := 2) (oi := { dst := some 5, op := Go.Op.fieldAddr 51 (Go.Operand.tmp 1) 6, type := 0, pos := "part.go:90", after := #[], guard := none }) (v := ?_) rfl (by kernel_rfl) (by kernel_rfl) (by kernel_rfl) (fun _ _ _ h => h) (Or.inl ⟨by rfl, ?_⟩) H0 ?_
  rotate_left
  focus (intro w' hSw; (try dsimp only at hSw); go_simp; (try with_reducible rfl))
  simp only [Act.put, List.setIfInBounds_toArray, List.set_cons_zero, List.set_cons_succ]
  refine wpAnyH_take (i := 3) (oi := { dst := some 6, op := Go.Op.load 39 (Go.Operand.tmp 5), type := 39, pos := "part.go:90", after := #[{ on := 2, ground := Go.Ground.data }], guard := none }) (v := ?_) rfl (by kernel_rfl) (by kernel_rfl) (by kernel_rfl) (fun _ _ _ h => h) (Or.inl ⟨by rfl, ?_⟩) H0 ?_
  rotate_left
  focus (intro w' hSw; (try dsimp only at hSw); obtain ⟨k0, k1, k2, k3, k4, k5, k6⟩ := HCL.out _ hSw; go_simp; (try with_reducible rfl))
  simp only [Act.put, List.setIfInBounds_toArray, List.set_cons_zero, List.set_cons_succ]
  refine wpAnyH_ready (rs := [1]) (by kernel_rfl) (by simp) ?_
  refine AllReadyH.cons (o := { dst := some 4, op := Go.Op.call { callee := Go.Callee.value (Go.Operand.func 59), args := #[Go.Operand.tmp 3], argTypes := #[51] }, type := 39, pos := "part.go:90", after := #[{ on := 0, ground := Go.Ground.data }], guard := none }) rfl (fun K hK => ?_) ?_
  rotate_left
  exact AllReadyH.nil
  go_simp
  (go_at_call 59; (with_reducible refine (CS.out _).mono ?_); rintro e wa ⟨t, rfl, hr⟩)
  try go_wp2_with fail
  obtain ⟨pp, cp, rfl, -, -, hby, -⟩ := hr.at2
  refine hK.out _ _ (kbT H0 hr.2) (fun Ha => ?_)
  clear hK K
  try simp only [Act.put, List.setIfInBounds_toArray, List.set_cons_zero, List.set_cons_succ]
  refine wpAnyH_ready (rs := [4]) (by kernel_rfl) (by simp) ?_
  refine AllReadyH.cons (o := { dst := some 7, op := Go.Op.buildSlice 115 2 #[(0, Go.Operand.tmp 4), (1, Go.Operand.tmp 6)], type := 115, pos := "part.go:90", after := #[{ on := 1, ground := Go.Ground.data }, { on := 3, ground := Go.Ground.data }], guard := none }) rfl (fun K hK => ?_) ?_
  rotate_left
  exact AllReadyH.nil
  go_simp
  obtain ⟨wb, hwb⟩ : ∃ wb, wa.alloc (.cells #[.slice pp lb.length cp, .slice q 512 cap] 39) = wb := ⟨_, rfl⟩
  have hbw : Below wa.heap.size wa wb := by subst hwb; exact (Below.refl _ _).alloc (Nat.le_refl _) _
  rw [hwb]
  refine hK.out _ _ (kbT Ha hbw) (fun Hb => ?_)
  clear hK K
  try simp only [Act.put, List.setIfInBounds_toArray, List.set_cons_zero, List.set_cons_succ]
  refine wpAnyH_ready (rs := [5]) (by kernel_rfl) (by simp) ?_
  refine AllReadyH.cons (o := { dst := some 8, op := Go.Op.call { callee := Go.Callee.value (Go.Operand.func 53), args := #[Go.Operand.tmp 7], argTypes := #[115] }, type := 49, pos := "part.go:90", after := #[{ on := 4, ground := Go.Ground.data }, { on := 1, ground := Go.Ground.chain }], guard := none }) rfl (fun K hK => ?_) ?_
  rotate_left
  exact AllReadyH.nil
  go_simp
  have c53 := CT.out pp cp wa hby (HBS.out _ (kbT HB1.out Ha))
  rw [hwb] at c53
  (go_at_call 53; (with_reducible refine c53.mono ?_); rintro e wc ⟨rfl, hc53⟩)
  try go_wp2_with fail
  have hc54 : Below wa.heap.size wa wc := hbw.trans (hc53.mono (Nat.le_succ _))
  refine hK.out _ _ (kbT Ha hc54) (fun Hc => ?_)
  clear hK K
  try simp only [Act.put, List.setIfInBounds_toArray, List.set_cons_zero, List.set_cons_succ]
  refine wpAnyH_take (i := 6) (oi := { dst := some 2, op := Go.Op.assign (Go.Operand.tmp 8), type := 49, pos := "part.go:90", after := #[{ on := 5, ground := Go.Ground.data }, { on := 5, ground := Go.Ground.chain }, { on := 0, ground := Go.Ground.phase }, { on := 1, ground := Go.Ground.phase }, { on := 2, ground := Go.Ground.phase }, { on := 3, ground := Go.Ground.phase }, { on := 4, ground := Go.Ground.phase }, { on := 5, ground := Go.Ground.phase }], guard := none }) (v := ?_) rfl (by kernel_rfl) (by kernel_rfl) (by kernel_rfl) (fun _ _ _ h => h) (Or.inl ⟨by rfl, ?_⟩) Hc ?_
  rotate_left
  focus (intro w' hSw; (try dsimp only at hSw); go_simp; (try with_reducible rfl))
  simp only [Act.put, List.setIfInBounds_toArray, List.set_cons_zero, List.set_cons_succ]
  refine wpAnyH_done (by kernel_rfl) ?_ _
  go_wp2_with fail
  go_ret
  exact ⟨rfl, kbT HB1.out Hc⟩
end Go.Proofs.Ythnllhfdbnnjhaa
