/- Parts: PR PS PM PN PZ PT. -/
import Derived.Test.YtdanigigjainjaaGreatHA2
import Derived.Lib.AppendZerosOnto
namespace Go.Proofs.YtdanigigjainjaaGreat
open Go.RowKit Go.Shelf
set_option maxRecDepth 100000
set_option maxHeartbeats 1000000

/-- A frame, as a value. -/
def frameV (E i p : Int) (cm : Bool) (n k : Int) (q : Option Addr) (ln cp : Nat) : Value := .agg #[.int .u64 E, .int .i64 i, .int .i64 p, .bool cm, .int .i64 n, .int .u32 k, .slice q ln cp]
def mostOf (cm : Bool) : Int := if cm then 2000 else 0
def frameOk (i p : Int) (cm : Bool) (n : Int) (ln : Nat) : Bool := decide (0 ≤ i) && decide (i ≤ 2000) && decide (0 ≤ p) && decide (p ≤ 2000) && decide (0 ≤ n) && decide (n ≤ mostOf cm) && decide (ln = 512)
theorem frame_bounds {i p n : Int} {cm : Bool} {ln : Nat} (h : frameOk i p cm n ln = true) : 0 ≤ i ∧ i ≤ 2000 ∧ 0 ≤ p ∧ p ≤ 2000 ∧ 0 ≤ n ∧ n ≤ mostOf cm ∧ n ≤ 2000 ∧ ln = 512 := by
  simp only [frameOk, Bool.and_eq_true, decide_eq_true_eq] at h
  have : mostOf cm ≤ 2000 := by unfold mostOf; split <;> omega
  omega
theorem refuse_frame (i p n : Int) (cm : Bool) (ln : Nat) : refuseE 2 [(i, 0, 2000), (p, 0, 2000), (n, 0, mostOf cm), ((ln : Int), 512, 512)] = if frameOk i p cm n ln then 0 else 2 := by
  unfold refuseE frameOk spanOk
  simp only [List.all_cons, List.all_nil, Bool.and_true, ← Bool.and_assoc]
  congr 2
  rw [Bool.and_assoc]
  congr 1
  rw [Bool.eq_iff_iff]
  simp only [Bool.and_eq_true, decide_eq_true_eq]
  omega
theorem spans_four {w : World} {q : Nat} {a b c d e f g h i j k l : Int} (c0 : w.cell? ⟨q, 0, none⟩ = some (.int .i64 a)) (c1 : w.cell? ⟨q, 1, none⟩ = some (.int .i64 b)) (c2 : w.cell? ⟨q, 2, none⟩ = some (.int .i64 c)) (d0 : w.cell? ⟨q, 3, none⟩ = some (.int .i64 d)) (d1 : w.cell? ⟨q, 4, none⟩ = some (.int .i64 e)) (d2 : w.cell? ⟨q, 5, none⟩ = some (.int .i64 f))
    (e0 : w.cell? ⟨q, 6, none⟩ = some (.int .i64 g)) (e1 : w.cell? ⟨q, 7, none⟩ = some (.int .i64 h)) (e2 : w.cell? ⟨q, 8, none⟩ = some (.int .i64 i)) (f0 : w.cell? ⟨q, 9, none⟩ = some (.int .i64 j)) (f1 : w.cell? ⟨q, 10, none⟩ = some (.int .i64 k)) (f2 : w.cell? ⟨q, 11, none⟩ = some (.int .i64 l)) : SpansAt w q [(a, b, c), (d, e, f), (g, h, i), (j, k, l)] := by
  intro m s h
  match m with
  | 0 => injection h with h; subst h; exact ⟨c0, c1, c2⟩
  | 1 => injection h with h; subst h; exact ⟨d0, d1, d2⟩
  | 2 => injection h with h; subst h; exact ⟨e0, e1, e2⟩
  | 3 => injection h with h; subst h; exact ⟨f0, f1, f2⟩
  | m + 4 => cases h
set_option maxRecDepth 100000 in
set_option maxHeartbeats 3000000 in
theorem checkFrame_any (E i p : Int) (cm : Bool) (n k : Int) (q : Option Addr) (ln cp : Nat) (w : World) : Calls Tryz.prog 138 #[frameV E i p cm n k q ln cp] w fun r w' => r = .returned (.int .i64 (if frameOk i p cm n ln then 0 else 2)) ∧ Below w.heap.size w w' := by
  have C := Lib.hid fun (q : Nat) (w : World) h => refusal_any 2 [(i, 0, 2000), (p, 0, 2000), (n, 0, mostOf cm), ((ln : Int), 512, 512)] q 4 w (by simp) h
  rw [refuse_frame] at C
  generalize (if frameOk i p cm n ln then (0 : Int) else 2) = R at *
  unfold frameV
  cases cm
  · change Hid (∀ q w, Hid (SpansAt w q [(i, 0, 2000), (p, 0, 2000), (n, 0, 0), ((ln : Int), 512, 512)]) → _) at C
    go_enter Tryz.func138, Tryz.ntmps138
    go_wp2_with (go_at_call 115; refine (C.out _ _ (Lib.hid (spans_four (by go_cell) (by go_cell) (by go_cell) (by go_cell) (by go_cell) (by go_cell) (by go_cell) (by go_cell) (by go_cell) (by go_cell) (by go_cell) (by go_cell)))).mono ?_; rintro e w' ⟨rfl, hb⟩)
    go_ret
    exact ⟨rfl, (((Below.refl _ _).alloc (Nat.le_refl _) _).alloc (by simp) _).trans (hb.mono (by simp; omega))⟩
  · change Hid (∀ q w, Hid (SpansAt w q [(i, 0, 2000), (p, 0, 2000), (n, 0, 2000), ((ln : Int), 512, 512)]) → _) at C
    go_enter Tryz.func138, Tryz.ntmps138
    go_wp2_with (go_at_call 115; refine (C.out _ _ (Lib.hid (spans_four (by go_cell) (by go_cell) (by go_cell) (by go_cell) (by go_cell) (by go_cell) (by go_cell) (by go_cell) (by go_cell) (by go_cell) (by go_cell) (by go_cell)))).mono ?_; rintro e w' ⟨rfl, hb⟩)
    go_ret
    exact ⟨rfl, (((Below.refl _ _).alloc (Nat.le_refl _) _).alloc (by simp) _).trans (hb.mono (by simp; omega))⟩
theorem frameParts_made (E i p : Nat) (cm : Bool) (n k : Nat) (hE : E < 2 ^ 64) (hi : i < 4294967296) (hp : p < 4294967296) (hn : n < 4294967296) (hk : k < 4294967296) (q : Option Addr) (cap : Nat) (w : World) :
    Calls Tryz.prog 191 #[.agg #[.int .u64 E, .int .i64 i, .int .i64 p, .bool cm, .int .i64 n, .int .u32 k, .slice q 512 cap]] w fun r w' => r = .returned (.map (some (w.heap.size + 1))) ∧ Below w.heap.size w w' ∧ PartsOk w' (w.heap.size + 1) w.heap.size (framePs E i p cm n k) := by
  refine (frameParts_any E i p cm n k q 512 cap w).mono ?_
  rintro e w' ⟨rfl, rfl⟩
  refine ⟨rfl, ((Below.refl _ _).alloc (Nat.le_refl _) _).alloc (by simp) _, frameParts_ok E i p cm n k hE hi hp hn hk _ _ _ (by go_cell) (by go_cell) (by go_cell) (by go_cell) (by go_cell) (by go_cell) ?_⟩
  have := heap_alloc_last (w.alloc (.cells #[.int .u64 E, .int .i64 i, .int .i64 p, .bool cm, .int .i64 n, .int .u32 k, .slice q 512 cap] 156)) (.map (frameE6 w.heap.size) 6)
  rw [World.size_alloc] at this
  exact this
def frameB (E i p : Nat) (cm : Bool) (n k : Nat) : List Nat := partsL (framePs E i p cm n k)
/-- What stands in a frame's first sector, ahead of the noughts. -/
def frameC (E i p : Nat) (cm : Bool) (n k : Nat) (bs : List Nat) : List Nat := frameB E i p cm n k ++ fixE 4 (~~~ sumN (frameB E i p cm n k ++ bs)).toNat
theorem frameB_length (E i p : Nat) (cm : Bool) (n k : Nat) : (frameB E i p cm n k).length = 25 := by simp [frameB, partsL, framePs, fixE_length, oneL_length]
theorem frameC_length (E i p : Nat) (cm : Bool) (n k : Nat) (bs : List Nat) : (frameC E i p cm n k bs).length = 29 := by simp [frameC, frameB_length, fixE_length]
theorem frameB_byte (E i p : Nat) (cm : Bool) (n k : Nat) : ∀ b ∈ frameB E i p cm n k, b < 256 := by
  intro b hb
  simp only [frameB, partsL, framePs, List.map_cons, List.map_nil, List.flatten_cons, List.flatten_nil, List.append_nil, List.mem_append] at hb
  rcases hb with h | h | h | h | h | h
  · exact fixE_byte _ _ b h
  · exact fixE_byte _ _ b h
  · exact fixE_byte _ _ b h
  · exact oneL_byte _ b h
  · exact fixE_byte _ _ b h
  · exact fixE_byte _ _ b h
theorem frameC_byte (E i p : Nat) (cm : Bool) (n k : Nat) (bs : List Nat) : ∀ b ∈ frameC E i p cm n k bs, b < 256 := by
  intro b hb
  rcases List.mem_append.1 hb with h | h
  · exact frameB_byte _ _ _ _ _ _ b h
  · exact fixE_byte _ _ b h
theorem names6 {w : World} {q : Nat} {a b c d e f : Nat × Nat × List Nat} (h0 : w.cell? ⟨q, 0, none⟩ = some (.int .i64 (a.1 : Int))) (h1 : w.cell? ⟨q, 1, none⟩ = some (.int .i64 (b.1 : Int))) (h2 : w.cell? ⟨q, 2, none⟩ = some (.int .i64 (c.1 : Int))) (h3 : w.cell? ⟨q, 3, none⟩ = some (.int .i64 (d.1 : Int))) (h4 : w.cell? ⟨q, 4, none⟩ = some (.int .i64 (e.1 : Int))) (h5 : w.cell? ⟨q, 5, none⟩ = some (.int .i64 (f.1 : Int))) : NamesAt w q [a, b, c, d, e, f] := by
  intro k x hx
  match k with
  | 0 => injection hx with hx; subst hx; exact h0
  | 1 => injection hx with hx; subst hx; exact h1
  | 2 => injection hx with hx; subst hx; exact h2
  | 3 => injection hx with hx; subst hx; exact h3
  | 4 => injection hx with hx; subst hx; exact h4
  | 5 => injection hx with hx; subst hx; exact h5
  | k + 6 => simp at hx
set_option maxRecDepth 100000 in
set_option maxHeartbeats 2000000 in
theorem summed_any (E i p : Nat) (cm : Bool) (n k : Nat) (hE : E < 2 ^ 64) (hi : i < 4294967296) (hp : p < 4294967296) (hn : n < 4294967296) (hk : k < 4294967296) (q : Option Addr) (cap : Nat) (w : World) :
    Calls Tryz.prog 168 #[.agg #[.int .u64 E, .int .i64 i, .int .i64 p, .bool cm, .int .i64 n, .int .u32 k, .slice q 512 cap]] w fun r w' => ∃ t, r = .returned t ∧ RowB w (frameB E i p cm n k) t w' := by
  have CP := Lib.hid (frameParts_made E i p cm n k hE hi hp hn hk q cap)
  have LA := Lib.hid fun M A q cap w => laid_any (framePs E i p cm n k) M A q cap w (by simp [framePs])
  have HPS : Hid (∀ (w : World) (q : Nat), w.cell? ⟨q, 0, none⟩ = some (.int .i64 1) → w.cell? ⟨q, 1, none⟩ = some (.int .i64 2) → w.cell? ⟨q, 2, none⟩ = some (.int .i64 3) → w.cell? ⟨q, 3, none⟩ = some (.int .i64 4) → w.cell? ⟨q, 4, none⟩ = some (.int .i64 5) → w.cell? ⟨q, 5, none⟩ = some (.int .i64 7) → NamesAt w q (framePs E i p cm n k)) := Lib.hid fun w q h0 h1 h2 h3 h4 h5 => names6 h0 h1 h2 h3 h4 h5
  change Hid (∀ M A q cap w, _ → _ → Calls Tryz.prog 162 #[.map (some M), .slice (some ⟨q, 0, none⟩) 6 cap] w fun r w' => ∃ t, r = .returned t ∧ RowB w (frameB E i p cm n k) t w') at LA
  generalize frameB E i p cm n k = lb at *
  go_enter Tryz.func168, Tryz.ntmps168
  go_upto_region 1 with fail
  obtain ⟨w1, hw1⟩ : ∃ w1, w.alloc (.cells #[.int .u64 E, .int .i64 i, .int .i64 p, .bool cm, .int .i64 n, .int .u32 k, .slice q 512 cap] 156) = w1 := ⟨_, rfl⟩
  have HB1 : Hid (Below w.heap.size w w1) := Lib.hid (by subst hw1; exact (Below.refl _ _).alloc (Nat.le_refl _) _)
  have k0 : w1.cell? ⟨w.heap.size, 0, none⟩ = some (.int .u64 E) := by subst hw1; go_cell
  have k1 : w1.cell? ⟨w.heap.size, 1, none⟩ = some (.int .i64 i) := by subst hw1; go_cell
  have k2 : w1.cell? ⟨w.heap.size, 2, none⟩ = some (.int .i64 p) := by subst hw1; go_cell
  have k3 : w1.cell? ⟨w.heap.size, 3, none⟩ = some (.bool cm) := by subst hw1; go_cell
  have k4 : w1.cell? ⟨w.heap.size, 4, none⟩ = some (.int .i64 n) := by subst hw1; go_cell
  have k5 : w1.cell? ⟨w.heap.size, 5, none⟩ = some (.int .u32 k) := by subst hw1; go_cell
  have k6 : w1.cell? ⟨w.heap.size, 6, none⟩ = some (.slice q 512 cap) := by subst hw1; go_cell
  rw [hw1]
  clear hw1
  go_wp2_with (first
    | (go_at_call 191; refine (CP.out _).mono ?_; rintro e wa ⟨rfl, hb1, hpo⟩; have B1 := Lib.hid (kbT HB1.out hb1); have HPO := Lib.hid hpo; clear hb1 hpo)
    | (go_at_call 162; refine (LA.out _ _ _ _ _ (Lib.hid (HPO.out.below ((Below.refl _ _).alloc (Nat.le_refl _) _))) (Lib.hid (HPS.out _ _ (by go_cell) (by go_cell) (by go_cell) (by go_cell) (by go_cell) (by go_cell)))).mono ?_; rintro e wb ⟨t, rfl, hr⟩))
  go_ret
  exact ⟨_, rfl, hr.grow (B1.out.alloc B1.out.size _)⟩
set_option maxRecDepth 100000 in
set_option maxHeartbeats 4000000 in
theorem frameSum_any (E i p : Nat) (cm : Bool) (n k : Nat) (hE : E < 2 ^ 64) (hi : i < 4294967296) (hp : p < 4294967296) (hn : n < 4294967296) (hk : k < 4294967296) (q : Option Addr) (cap : Nat) (bs : List Nat) (hbl : bs.length = 512) (hbb : ∀ b ∈ bs, b < 256) (w : World) (hbs : BytesAt w q bs) :
    Calls Tryz.prog 140 #[.agg #[.int .u64 E, .int .i64 i, .int .i64 p, .bool cm, .int .i64 n, .int .u32 k, .slice q 512 cap]] w fun r w' => r = .returned (.int .u32 (~~~ sumN (frameB E i p cm n k ++ bs)).toNat) ∧ Below w.heap.size w w' := by
  have CS := Lib.hid (summed_any E i p cm n k hE hi hp hn hk q cap)
  have HBS := Lib.hid fun (w' : World) (h : Below w.heap.size w w') => bytesAt_below hbs h
  have hlen := frameB_length E i p cm n k
  have hbyt := frameB_byte E i p cm n k
  generalize frameB E i p cm n k = lb at *
  have CT := Lib.hid fun pp cp (w : World) h1 h2 => sum_two lb bs pp q cp cap w (by omega) (by omega) hbyt hbb h1 h2
  rw [hbl] at CT
  generalize (~~~ sumN (lb ++ bs)).toNat = sb at *
  clear hlen hbyt hbs hbb hE hi hp hn hk
  go_enter Tryz.func140, Tryz.ntmps140
  go_upto_region 1 with fail
  obtain ⟨w1, hw1⟩ : ∃ w1, w.alloc (.cells #[.int .u64 E, .int .i64 i, .int .i64 p, .bool cm, .int .i64 n, .int .u32 k, .slice q 512 cap] 156) = w1 := ⟨_, rfl⟩
  have HB1 : Hid (Below w.heap.size w w1) := Lib.hid (by subst hw1; exact (Below.refl _ _).alloc (Nat.le_refl _) _)
  have HCL : Hid (∀ w', Below w1.heap.size w1 w' → w'.cell? ⟨w.heap.size, 0, none⟩ = some (.int .u64 E) ∧ w'.cell? ⟨w.heap.size, 1, none⟩ = some (.int .i64 i) ∧ w'.cell? ⟨w.heap.size, 2, none⟩ = some (.int .i64 p) ∧ w'.cell? ⟨w.heap.size, 3, none⟩ = some (.bool cm) ∧ w'.cell? ⟨w.heap.size, 4, none⟩ = some (.int .i64 n) ∧ w'.cell? ⟨w.heap.size, 5, none⟩ = some (.int .u32 k) ∧ w'.cell? ⟨w.heap.size, 6, none⟩ = some (.slice q 512 cap)) := Lib.hid fun w' h => by
    have k0 : w1.cell? ⟨w.heap.size, 0, none⟩ = some (.int .u64 E) := by subst hw1; go_cell
    have k1 : w1.cell? ⟨w.heap.size, 1, none⟩ = some (.int .i64 i) := by subst hw1; go_cell
    have k2 : w1.cell? ⟨w.heap.size, 2, none⟩ = some (.int .i64 p) := by subst hw1; go_cell
    have k3 : w1.cell? ⟨w.heap.size, 3, none⟩ = some (.bool cm) := by subst hw1; go_cell
    have k4 : w1.cell? ⟨w.heap.size, 4, none⟩ = some (.int .i64 n) := by subst hw1; go_cell
    have k5 : w1.cell? ⟨w.heap.size, 5, none⟩ = some (.int .u32 k) := by subst hw1; go_cell
    have k6 : w1.cell? ⟨w.heap.size, 6, none⟩ = some (.slice q 512 cap) := by subst hw1; go_cell
    exact ⟨(h.cell (lt_of_cell_some k0)).trans k0, (h.cell (lt_of_cell_some k1)).trans k1, (h.cell (lt_of_cell_some k2)).trans k2, (h.cell (lt_of_cell_some k3)).trans k3, (h.cell (lt_of_cell_some k4)).trans k4, (h.cell (lt_of_cell_some k5)).trans k5, (h.cell (lt_of_cell_some k6)).trans k6⟩
  rw [hw1]
  clear hw1
  refine wp_region_held_drew (S := fun w' => Below w1.heap.size w1 w') (by kernel_rfl) ((Below.refl _ _).drew) (fun H0 => ?_)
  obtain ⟨wd, hwd⟩ : ∃ wd, w1.drew = wd := ⟨_, rfl⟩
  rw [hwd] at H0 ⊢
  clear hwd
  refine wpAnyH_take (i := 0) (oi := { dst := some 3, op := Go.Op.load 156 (Go.Operand.tmp 1), type := 156, pos := "part.go:90", after := #[], guard := none }) (v := ?_) rfl (by kernel_rfl) (by kernel_rfl) (by kernel_rfl) (fun _ _ _ h => h) (Or.inl ⟨by rfl, ?_⟩) H0 ?_
  rotate_left
  focus (intro w' hSw; (try dsimp only at hSw); obtain ⟨k0, k1, k2, k3, k4, k5, k6⟩ := HCL.out _ hSw; go_simp; (try with_reducible rfl))
  simp only [Act.put, List.setIfInBounds_toArray, List.set_cons_zero, List.set_cons_succ]
  refine wpAnyH_take (i := 2) (oi := { dst := some 5, op := Go.Op.fieldAddr 156 (Go.Operand.tmp 1) 6, type := 0, pos := "part.go:90", after := #[], guard := none }) (v := ?_) rfl (by kernel_rfl) (by kernel_rfl) (by kernel_rfl) (fun _ _ _ h => h) (Or.inl ⟨by rfl, ?_⟩) H0 ?_
  rotate_left
  focus (intro w' hSw; (try dsimp only at hSw); go_simp; (try with_reducible rfl))
  simp only [Act.put, List.setIfInBounds_toArray, List.set_cons_zero, List.set_cons_succ]
  refine wpAnyH_take (i := 3) (oi := { dst := some 6, op := Go.Op.load 49 (Go.Operand.tmp 5), type := 49, pos := "part.go:90", after := #[{ on := 2, ground := Go.Ground.data }], guard := none }) (v := ?_) rfl (by kernel_rfl) (by kernel_rfl) (by kernel_rfl) (fun _ _ _ h => h) (Or.inl ⟨by rfl, ?_⟩) H0 ?_
  rotate_left
  focus (intro w' hSw; (try dsimp only at hSw); obtain ⟨k0, k1, k2, k3, k4, k5, k6⟩ := HCL.out _ hSw; go_simp; (try with_reducible rfl))
  simp only [Act.put, List.setIfInBounds_toArray, List.set_cons_zero, List.set_cons_succ]
  refine wpAnyH_ready (rs := [1]) (by kernel_rfl) (by simp) ?_
  refine AllReadyH.cons (o := { dst := some 4, op := Go.Op.call { callee := Go.Callee.value (Go.Operand.func 168), args := #[Go.Operand.tmp 3], argTypes := #[156] }, type := 49, pos := "part.go:90", after := #[{ on := 0, ground := Go.Ground.data }], guard := none }) rfl (fun K hK => ?_) ?_
  rotate_left
  exact AllReadyH.nil
  go_simp
  (go_at_call 168; (with_reducible refine (CS.out _).mono ?_); rintro e wa ⟨t, rfl, hr⟩)
  try go_wp2_with fail
  obtain ⟨pp, cp, rfl, -, -, hby, -⟩ := hr.at2
  refine hK.out _ _ (kbT H0 hr.2) (fun Ha => ?_)
  clear hK K
  try simp only [Act.put, List.setIfInBounds_toArray, List.set_cons_zero, List.set_cons_succ]
  refine wpAnyH_ready (rs := [4]) (by kernel_rfl) (by simp) ?_
  refine AllReadyH.cons (o := { dst := some 7, op := Go.Op.buildSlice 230 2 #[(0, Go.Operand.tmp 4), (1, Go.Operand.tmp 6)], type := 230, pos := "part.go:90", after := #[{ on := 1, ground := Go.Ground.data }, { on := 3, ground := Go.Ground.data }], guard := none }) rfl (fun K hK => ?_) ?_
  rotate_left
  exact AllReadyH.nil
  go_simp
  obtain ⟨wb, hwb⟩ : ∃ wb, wa.alloc (.cells #[.slice pp lb.length cp, .slice q 512 cap] 49) = wb := ⟨_, rfl⟩
  have hbw : Below wa.heap.size wa wb := by subst hwb; exact (Below.refl _ _).alloc (Nat.le_refl _) _
  rw [hwb]
  refine hK.out _ _ (kbT Ha hbw) (fun Hb => ?_)
  clear hK K
  try simp only [Act.put, List.setIfInBounds_toArray, List.set_cons_zero, List.set_cons_succ]
  refine wpAnyH_ready (rs := [5]) (by kernel_rfl) (by simp) ?_
  refine AllReadyH.cons (o := { dst := some 8, op := Go.Op.call { callee := Go.Callee.value (Go.Operand.func 164), args := #[Go.Operand.tmp 7], argTypes := #[230] }, type := 39, pos := "part.go:90", after := #[{ on := 4, ground := Go.Ground.data }, { on := 1, ground := Go.Ground.chain }], guard := none }) rfl (fun K hK => ?_) ?_
  rotate_left
  exact AllReadyH.nil
  go_simp
  have c53 := CT.out pp cp wa hby (HBS.out _ (kbT HB1.out Ha))
  rw [hwb] at c53
  (go_at_call 164; (with_reducible refine c53.mono ?_); rintro e wc ⟨rfl, hc53⟩)
  try go_wp2_with fail
  have hc54 : Below wa.heap.size wa wc := hbw.trans (hc53.mono (Nat.le_succ _))
  refine hK.out _ _ (kbT Ha hc54) (fun Hc => ?_)
  clear hK K
  try simp only [Act.put, List.setIfInBounds_toArray, List.set_cons_zero, List.set_cons_succ]
  refine wpAnyH_take (i := 6) (oi := { dst := some 2, op := Go.Op.assign (Go.Operand.tmp 8), type := 39, pos := "part.go:90", after := #[{ on := 5, ground := Go.Ground.data }, { on := 5, ground := Go.Ground.chain }, { on := 0, ground := Go.Ground.phase }, { on := 1, ground := Go.Ground.phase }, { on := 2, ground := Go.Ground.phase }, { on := 3, ground := Go.Ground.phase }, { on := 4, ground := Go.Ground.phase }, { on := 5, ground := Go.Ground.phase }], guard := none }) (v := ?_) rfl (by kernel_rfl) (by kernel_rfl) (by kernel_rfl) (fun _ _ _ h => h) (Or.inl ⟨by rfl, ?_⟩) Hc ?_
  rotate_left
  focus (intro w' hSw; (try dsimp only at hSw); go_simp; (try with_reducible rfl))
  simp only [Act.put, List.setIfInBounds_toArray, List.set_cons_zero, List.set_cons_succ]
  refine wpAnyH_done (by kernel_rfl) ?_ _
  go_wp2_with fail
  go_ret
  exact ⟨rfl, kbT HB1.out Hc⟩
end Go.Proofs.YtdanigigjainjaaGreat
namespace Go.Proofs.YtdanigigjainjaaGreat
open Go.RowKit Go.Shelf
set_option maxRecDepth 100000
set_option maxHeartbeats 1000000

theorem step_store_row {P : Program} {ops : Array Oper} {o : Oper} {a : Act} {w : World} {K : Act → World → Prop} {Q : Exit → Act → World → Prop} {E : Prop} (hgd : o.guard = none) (ty : TypeId) (x y : Operand) (ho : o.op = .store ty x y)
    (g : Nat) (cells : Array Value) (hx : a.eval x = .pointer (some ⟨g, 0, none⟩)) (hy : a.eval y = .agg cells)
    (t : TypeId) (old : Array Value) (hg : w.heap[g]? = some (.cells old t (0, 0))) (hi : (P.info? ty).map (·.size) = some cells.size)
    (hold : old.size = cells.size) (h1 : cells.all (·.oneCell') = true)
    (h : K (a.put o.dst undef) (w.setRow g cells)) : if Region.wanted o (yielded ops a.tmps) = true then Oper.wp P o a w K Q else E := by
  have hw : Region.wanted o (yielded ops a.tmps) = true := by simp [Region.wanted, hgd]
  rw [if_pos hw]
  exact wp_store_row ty x y ho g cells hx hy t old hg hi hold h1 h
/-- A frame's first sector. -/
def frameS (E i p : Nat) (cm : Bool) (n k : Nat) (bs : List Nat) : List Nat := padL (frameC E i p cm n k bs)
/-- A frame's bytes. -/
def frameL (E i p : Nat) (cm : Bool) (n k : Nat) (bs : List Nat) : List Nat := frameS E i p cm n k bs ++ bs
theorem frameS_length (E i p : Nat) (cm : Bool) (n k : Nat) (bs : List Nat) : (frameS E i p cm n k bs).length = 64 := padL_length (by rw [frameC_length]; omega)
theorem frameS_byte (E i p : Nat) (cm : Bool) (n k : Nat) (bs : List Nat) : ∀ b ∈ frameS E i p cm n k bs, b < 256 := padL_byte (frameC_byte E i p cm n k bs)
set_option maxRecDepth 100000 in
set_option maxHeartbeats 4000000 in
theorem frameSector_any (E i p : Nat) (cm : Bool) (n k : Nat) (hE : E < 2 ^ 64) (hi : i < 4294967296) (hp : p < 4294967296) (hn : n < 4294967296) (hk : k < 4294967296) (q : Option Addr) (cap : Nat) (bs : List Nat) (hbl : bs.length = 512) (hbb : ∀ b ∈ bs, b < 256) (w : World) (hbs : BytesAt w q bs) :
    Calls Tryz.prog 139 #[.agg #[.int .u64 E, .int .i64 i, .int .i64 p, .bool cm, .int .i64 n, .int .u32 k, .slice q 512 cap]] w fun r w' => r = .returned (.agg (secA (frameS E i p cm n k bs))) ∧ Below w.heap.size w w' := by
  have CS := Lib.hid (summed_any E i p cm n k hE hi hp hn hk q cap)
  have CT := Lib.hid fun (w' : World) (h : Below w.heap.size w w') => frameSum_any E i p cm n k hE hi hp hn hk q cap bs hbl hbb w' (bytesAt_below hbs h)
  have hlen := frameB_length E i p cm n k
  have hbyt := frameB_byte E i p cm n k
  have HSL := Lib.hid (frameS_length E i p cm n k bs)
  have hfs : frameS E i p cm n k bs = padL (frameB E i p cm n k ++ fixE 4 (~~~ sumN (frameB E i p cm n k ++ bs)).toNat) := rfl
  generalize frameS E i p cm n k bs = ls at *
  generalize frameB E i p cm n k = lb at *
  have C4 := Lib.hid fun w => four_any (~~~ sumN (lb ++ bs)).toNat w (sumNot_lt _)
  have hfl : (fixE 4 (~~~ sumN (lb ++ bs)).toNat).length = 4 := fixE_length _ _
  have hfb := fixE_byte 4 (~~~ sumN (lb ++ bs)).toNat
  generalize fixE 4 (~~~ sumN (lb ++ bs)).toNat = lf at *
  generalize (~~~ sumN (lb ++ bs)).toNat = sb at *
  have FT := Lib.hid fun p q c d (w : World) h1 h2 h3 h4 => filled_two lb lf p q c d w (by omega) hbyt hfb h1 h2 h3 h4
  rw [← hfs] at FT
  clear hlen hbyt hfl hfb hfs hE hi hp hn hk hbl hbb hbs
  go_enter Tryz.func139, Tryz.ntmps139
  go_upto_region 1 with fail
  change Code.wp Tryz.prog _ _ _ ((w.alloc (.cells #[.int .u64 E, .int .i64 i, .int .i64 p, .bool cm, .int .i64 n, .int .u32 k, .slice q 512 cap] 156)).alloc (.cells zs64 187))
  obtain ⟨w1, hw1⟩ : ∃ w1, (w.alloc (.cells #[.int .u64 E, .int .i64 i, .int .i64 p, .bool cm, .int .i64 n, .int .u32 k, .slice q 512 cap] 156)).alloc (.cells zs64 187) = w1 := ⟨_, rfl⟩
  have HB1 : Hid (Below w.heap.size w w1) := Lib.hid (by subst hw1; exact ((Below.refl _ _).alloc (Nat.le_refl _) _).alloc (by simp) _)
  have HGX : Hid (w1.heap[w.heap.size]? = some (.cells #[.int .u64 E, .int .i64 i, .int .i64 p, .bool cm, .int .i64 n, .int .u32 k, .slice q 512 cap] 156 (0, 0))) := Lib.hid (by subst hw1; exact (((Below.refl _ _).alloc (Nat.le_refl _) _).block _ (by simp)).trans (heap_alloc_last w _))
  have HGT : Hid (w1.heap[w.heap.size + 1]? = some (.cells zs64 187 (0, 0))) := Lib.hid (by subst hw1; have := heap_alloc_last (w.alloc (.cells #[.int .u64 E, .int .i64 i, .int .i64 p, .bool cm, .int .i64 n, .int .u32 k, .slice q 512 cap] 156)) (.cells zs64 187); rw [World.size_alloc] at this; exact this)
  have HLT : Hid (w.heap.size + 1 < w1.heap.size) := Lib.hid (by subst hw1; simp)
  have HLX : Hid (w.heap.size < w1.heap.size) := Lib.hid (by subst hw1; simp; omega)
  rw [hw1]
  clear hw1
  refine wp_region_held_drew (S := fun w' => Below w.heap.size w w' ∧ w'.heap[w.heap.size]? = some (.cells #[.int .u64 E, .int .i64 i, .int .i64 p, .bool cm, .int .i64 n, .int .u32 k, .slice q 512 cap] 156 (0, 0))) (by kernel_rfl) ⟨HB1.out.drew, HGX.out⟩ (fun S0 => ?_)
  obtain ⟨wd, hwd⟩ : ∃ wd, w1.drew = wd := ⟨_, rfl⟩
  have H0 : Below w1.heap.size w1 wd := by rw [← hwd]; exact (Below.refl _ _).drew
  rw [hwd] at S0 ⊢
  clear hwd
  refine wpAnyH_take (i := 0) (oi := { dst := some 3, op := Go.Op.load 156 (Go.Operand.tmp 1), type := 156, pos := "part.go:87", after := #[], guard := none }) (v := ?_) rfl (by kernel_rfl) (by kernel_rfl) (by kernel_rfl) (fun _ _ _ h => h) (Or.inl ⟨by rfl, ?_⟩) S0 ?_
  rotate_left
  focus (intro w' hSw; (try dsimp only at hSw); have k0 := row_cell (i := 0) hSw.2 rfl; have k1 := row_cell (i := 1) hSw.2 rfl; have k2 := row_cell (i := 2) hSw.2 rfl; have k3 := row_cell (i := 3) hSw.2 rfl; have k4 := row_cell (i := 4) hSw.2 rfl; have k5 := row_cell (i := 5) hSw.2 rfl; have k6 := row_cell (i := 6) hSw.2 rfl; go_simp; (try with_reducible rfl))
  simp only [Act.put, List.setIfInBounds_toArray, List.set_cons_zero, List.set_cons_succ]
  refine wpAnyH_take (i := 2) (oi := { dst := some 5, op := Go.Op.load 156 (Go.Operand.tmp 1), type := 156, pos := "part.go:87", after := #[], guard := none }) (v := ?_) rfl (by kernel_rfl) (by kernel_rfl) (by kernel_rfl) (fun _ _ _ h => h) (Or.inl ⟨by rfl, ?_⟩) S0 ?_
  rotate_left
  focus (intro w' hSw; (try dsimp only at hSw); have k0 := row_cell (i := 0) hSw.2 rfl; have k1 := row_cell (i := 1) hSw.2 rfl; have k2 := row_cell (i := 2) hSw.2 rfl; have k3 := row_cell (i := 3) hSw.2 rfl; have k4 := row_cell (i := 4) hSw.2 rfl; have k5 := row_cell (i := 5) hSw.2 rfl; have k6 := row_cell (i := 6) hSw.2 rfl; go_simp; (try with_reducible rfl))
  simp only [Act.put, List.setIfInBounds_toArray, List.set_cons_zero, List.set_cons_succ]
  refine wpAnyH_ready (rs := [1]) (by kernel_rfl) (by simp) ?_
  refine AllReadyH.cons (o := { dst := some 4, op := Go.Op.call { callee := Go.Callee.value (Go.Operand.func 168), args := #[Go.Operand.tmp 3], argTypes := #[156] }, type := 49, pos := "part.go:87", after := #[{ on := 0, ground := Go.Ground.data }], guard := none }) rfl (fun K hK => ?_) ?_
  rotate_left
  exact AllReadyH.nil
  go_simp
  (go_at_call 168; (with_reducible refine (CS.out _).mono ?_); rintro e wa ⟨t, rfl, hr⟩)
  try go_wp2_with fail
  obtain ⟨pp, cp, rfl, -, -, hby, hnn⟩ := hr.at2
  have Ha := kbT H0 hr.2
  refine hK.out _ _ ⟨HB1.out.trans (Ha.mono HB1.out.size), (Ha.block _ HLX.out).trans HGX.out⟩ (fun Sa => ?_)
  clear hK K
  try simp only [Act.put, List.setIfInBounds_toArray, List.set_cons_zero, List.set_cons_succ]
  refine wpAnyH_ready (rs := [3]) (by kernel_rfl) (by simp) ?_
  refine AllReadyH.cons (o := { dst := some 6, op := Go.Op.call { callee := Go.Callee.value (Go.Operand.func 140), args := #[Go.Operand.tmp 5], argTypes := #[156] }, type := 39, pos := "part.go:87", after := #[{ on := 2, ground := Go.Ground.data }, { on := 1, ground := Go.Ground.chain }], guard := none }) rfl (fun K hK => ?_) ?_
  rotate_left
  exact AllReadyH.nil
  go_simp
  (go_at_call 140; (with_reducible refine (CT.out _ (kbT HB1.out Ha)).mono ?_); rintro e wb ⟨rfl, hb⟩)
  try go_wp2_with fail
  have Hb := kbT Ha hb
  have hby := bytesAt_below hby hb
  refine hK.out _ _ ⟨HB1.out.trans (Hb.mono HB1.out.size), (Hb.block _ HLX.out).trans HGX.out⟩ (fun Sb => ?_)
  clear hK K
  try simp only [Act.put, List.setIfInBounds_toArray, List.set_cons_zero, List.set_cons_succ]
  refine wpAnyH_ready (rs := [4]) (by kernel_rfl) (by simp) ?_
  refine AllReadyH.cons (o := { dst := some 7, op := Go.Op.call { callee := Go.Callee.value (Go.Operand.func 163), args := #[Go.Operand.tmp 6], argTypes := #[39] }, type := 49, pos := "part.go:87", after := #[{ on := 3, ground := Go.Ground.data }, { on := 3, ground := Go.Ground.chain }], guard := none }) rfl (fun K hK => ?_) ?_
  rotate_left
  exact AllReadyH.nil
  go_simp
  (go_at_call 163; (with_reducible refine (C4.out _).mono ?_); rintro e wc ⟨t2, rfl, hr2⟩)
  try go_wp2_with fail
  obtain ⟨p2, c2, rfl, -, -, hby2, hnn2⟩ := hr2.at2
  have Hc := kbT Hb hr2.2
  have hby := bytesAt_below hby hr2.2
  refine hK.out _ _ ⟨HB1.out.trans (Hc.mono HB1.out.size), (Hc.block _ HLX.out).trans HGX.out⟩ (fun Sc => ?_)
  clear hK K
  try simp only [Act.put, List.setIfInBounds_toArray, List.set_cons_zero, List.set_cons_succ]
  refine wpAnyH_ready (rs := [5]) (by kernel_rfl) (by simp) ?_
  refine AllReadyH.cons (o := { dst := some 8, op := Go.Op.buildSlice 230 2 #[(0, Go.Operand.tmp 4), (1, Go.Operand.tmp 7)], type := 230, pos := "part.go:87", after := #[{ on := 1, ground := Go.Ground.data }, { on := 4, ground := Go.Ground.data }], guard := none }) rfl (fun K hK => ?_) ?_
  rotate_left
  exact AllReadyH.nil
  go_simp
  obtain ⟨we, hwe⟩ : ∃ we, wc.alloc (.cells #[.slice pp lb.length cp, .slice p2 lf.length c2] 49) = we := ⟨_, rfl⟩
  have hbe : Below wc.heap.size wc we := by subst hwe; exact (Below.refl _ _).alloc (Nat.le_refl _) _
  have He := kbT Hc hbe
  rw [hwe]
  refine hK.out _ _ ⟨HB1.out.trans (He.mono HB1.out.size), (He.block _ HLX.out).trans HGX.out⟩ (fun Se => ?_)
  clear hK K
  try simp only [Act.put, List.setIfInBounds_toArray, List.set_cons_zero, List.set_cons_succ]
  refine wpAnyH_ready (rs := [6]) (by kernel_rfl) (by simp) ?_
  refine AllReadyH.cons (o := { dst := some 9, op := Go.Op.call { callee := Go.Callee.value (Go.Operand.func 165), args := #[Go.Operand.tmp 8], argTypes := #[230] }, type := 187, pos := "part.go:87", after := #[{ on := 5, ground := Go.Ground.data }, { on := 4, ground := Go.Ground.chain }], guard := none }) rfl (fun K hK => ?_) ?_
  rotate_left
  exact AllReadyH.nil
  go_simp
  have c54 := FT.out pp p2 cp c2 wc hby hby2 hnn hnn2
  rw [hwe] at c54
  (go_at_call 165; (with_reducible refine c54.mono ?_); rintro e wf ⟨rfl, hf⟩)
  try go_wp2_with fail
  have Hf := kbT Hc hf
  have HG2 := (Hf.block _ HLT.out).trans HGT.out
  refine hK.out _ _ ⟨HB1.out.trans (Hf.mono HB1.out.size), (Hf.block _ HLX.out).trans HGX.out⟩ (fun Sf => ?_)
  clear hK K
  try simp only [Act.put, List.setIfInBounds_toArray, List.set_cons_zero, List.set_cons_succ]
  refine wpAnyH_ready (rs := [7]) (by kernel_rfl) (by simp) ?_
  refine AllReadyH.cons (o := { dst := none, op := Go.Op.store 187 (Go.Operand.tmp 2) (Go.Operand.tmp 9), type := 0, pos := "part.go:87", after := #[{ on := 6, ground := Go.Ground.data }, { on := 6, ground := Go.Ground.chain }, { on := 0, ground := Go.Ground.phase }, { on := 1, ground := Go.Ground.phase }, { on := 2, ground := Go.Ground.phase }, { on := 3, ground := Go.Ground.phase }, { on := 4, ground := Go.Ground.phase }, { on := 5, ground := Go.Ground.phase }, { on := 6, ground := Go.Ground.phase }], guard := none }) rfl (fun K hK => ?_) ?_
  rotate_left
  exact AllReadyH.nil
  refine step_store_row rfl 187 (.tmp 2) (.tmp 9) rfl (w.heap.size + 1) (secA ls) rfl rfl 187 zs64 HG2 (by rw [secA_size, HSL.out]; kernel_rfl) (by rw [secA_size, HSL.out]; rfl) (secA_one _) ?_
  refine hK.out _ _ ⟨below_setRow Sf.1 (Nat.le_succ _) _, (setRow_other _ _ _ _ (by omega)).trans Sf.2⟩ (fun Sg => ?_)
  clear hK K
  try simp only [Act.put, List.setIfInBounds_toArray, List.set_cons_zero, List.set_cons_succ]
  refine wpAnyH_done (by kernel_rfl) ?_ _
  go_wp2_with fail
  exact bodyPost_ret (results_cell_row rfl _ _ _ _ _ _ _ rfl (setRow_heap _ _ _ _ _ _ HG2) Tryz.underlying187 rfl (by rw [secA_size, HSL.out]; kernel_rfl)) rfl ⟨rfl, Sg.1⟩
/-- Two lists of bytes, joined. -/
theorem concat_two (l m : List Nat) (p q : Option Addr) (c d : Nat) (w : World) (hs : l.length + m.length ≤ 100000) (hb : ∀ b ∈ l, b < 256) (hd : ∀ b ∈ m, b < 256) (hc : BytesAt w p l) (hq : BytesAt w q m) (n1 : p = none → c = 0) (n2 : q = none → d = 0) :
    Calls Tryz.prog 152 #[.slice (some ⟨w.heap.size, 0, none⟩) 2 2] (w.alloc (.cells #[.slice p l.length c, .slice q m.length d] 49)) fun r w' => ∃ t, r = .returned t ∧ RowB (w.alloc (.cells #[.slice p l.length c, .slice q m.length d] 49)) (l ++ m) t w' := by
  have e : flatL [(p, l, c), (q, m, d)] = l ++ m := by simp [flatL]
  have hB : Below w.heap.size w (w.alloc (.cells #[.slice p l.length c, .slice q m.length d] 49)) := (Below.refl _ _).alloc (Nat.le_refl _) _
  have h := concat_any [(p, l, c), (q, m, d)] (some ⟨w.heap.size, 0, none⟩) 2 (w.alloc (.cells #[.slice p l.length c, .slice q m.length d] 49)) (by simp)
    (Lib.hid (lists_two (by omega) (by omega) hb hd (by go_cell) (by go_cell) (bytesAt_below hc hB) (bytesAt_below hq hB)))
    (Lib.hid fun x hx => by
      simp only [List.mem_cons, List.not_mem_nil, or_false] at hx
      rcases hx with rfl | rfl
      · exact n1
      · exact n2) (by rw [e, List.length_append]; exact hs)
  rw [e] at h
  exact h
set_option maxRecDepth 100000 in
set_option maxHeartbeats 4000000 in
theorem encode_ok (E i p : Nat) (cm : Bool) (n k : Nat) (hE : E < 2 ^ 64) (hi : i < 4294967296) (hp : p < 4294967296) (hn : n < 4294967296) (hk : k < 4294967296) (q : Option Addr) (cap : Nat) (bs : List Nat) (hbl : bs.length = 512) (hbb : ∀ b ∈ bs, b < 256) (w : World) (hbs : BytesAt w q bs) (hnn : q = none → cap = 0) (hok : frameOk i p cm n 512 = true) :
    Calls Tryz.prog 126 #[.agg #[.int .u64 E, .int .i64 i, .int .i64 p, .bool cm, .int .i64 n, .int .u32 k, .slice q 512 cap]] w fun r w' => ∃ t, r = .returned (.tuple #[t, .int .i64 0]) ∧ RowB w (frameL E i p cm n k bs) t w' := by
  have CC := Lib.hid (checkFrame_any E i p cm n k q 512 cap)
  rw [if_pos hok] at CC
  unfold frameV at CC
  have CH := Lib.hid fun (w' : World) (h : Below w.heap.size w w') => frameSector_any E i p cm n k hE hi hp hn hk q cap bs hbl hbb w' (bytesAt_below hbs h)
  have HSL := Lib.hid (frameS_length E i p cm n k bs)
  have hsb := frameS_byte E i p cm n k bs
  have hfl : frameL E i p cm n k bs = frameS E i p cm n k bs ++ bs := rfl
  have HBS := Lib.hid fun (w' : World) (h : Below w.heap.size w w') => bytesAt_below hbs h
  generalize frameL E i p cm n k bs = fl at *
  generalize frameS E i p cm n k bs = ls at *
  have KT := Lib.hid fun p c (w : World) h1 h2 h3 => concat_two ls bs p q c cap w (by have := HSL.out; omega) hsb hbb h1 h2 h3 hnn
  rw [← hfl, HSL.out, hbl] at KT
  clear hok hsb hfl hE hi hp hn hk hbl hbb hbs hnn
  go_enter Tryz.func126, Tryz.ntmps126
  go_upto_region 1 with fail
  obtain ⟨w1, hw1⟩ : ∃ w1, w.alloc (.cells #[.int .u64 E, .int .i64 i, .int .i64 p, .bool cm, .int .i64 n, .int .u32 k, .slice q 512 cap] 156) = w1 := ⟨_, rfl⟩
  have HB1 : Hid (Below w.heap.size w w1) := Lib.hid (by subst hw1; exact (Below.refl _ _).alloc (Nat.le_refl _) _)
  have HCL : Hid (∀ w', Below w1.heap.size w1 w' → w'.cell? ⟨w.heap.size, 0, none⟩ = some (.int .u64 E) ∧ w'.cell? ⟨w.heap.size, 1, none⟩ = some (.int .i64 i) ∧ w'.cell? ⟨w.heap.size, 2, none⟩ = some (.int .i64 p) ∧ w'.cell? ⟨w.heap.size, 3, none⟩ = some (.bool cm) ∧ w'.cell? ⟨w.heap.size, 4, none⟩ = some (.int .i64 n) ∧ w'.cell? ⟨w.heap.size, 5, none⟩ = some (.int .u32 k) ∧ w'.cell? ⟨w.heap.size, 6, none⟩ = some (.slice q 512 cap)) := Lib.hid fun w' h => by
    have k0 : w1.cell? ⟨w.heap.size, 0, none⟩ = some (.int .u64 E) := by subst hw1; go_cell
    have k1 : w1.cell? ⟨w.heap.size, 1, none⟩ = some (.int .i64 i) := by subst hw1; go_cell
    have k2 : w1.cell? ⟨w.heap.size, 2, none⟩ = some (.int .i64 p) := by subst hw1; go_cell
    have k3 : w1.cell? ⟨w.heap.size, 3, none⟩ = some (.bool cm) := by subst hw1; go_cell
    have k4 : w1.cell? ⟨w.heap.size, 4, none⟩ = some (.int .i64 n) := by subst hw1; go_cell
    have k5 : w1.cell? ⟨w.heap.size, 5, none⟩ = some (.int .u32 k) := by subst hw1; go_cell
    have k6 : w1.cell? ⟨w.heap.size, 6, none⟩ = some (.slice q 512 cap) := by subst hw1; go_cell
    exact ⟨(h.cell (lt_of_cell_some k0)).trans k0, (h.cell (lt_of_cell_some k1)).trans k1, (h.cell (lt_of_cell_some k2)).trans k2, (h.cell (lt_of_cell_some k3)).trans k3, (h.cell (lt_of_cell_some k4)).trans k4, (h.cell (lt_of_cell_some k5)).trans k5, (h.cell (lt_of_cell_some k6)).trans k6⟩
  obtain ⟨k0, k1, k2, k3, k4, k5, k6⟩ := HCL.out _ (Below.refl _ _)
  rw [hw1]
  clear hw1
  go_upto_region 5 with (first
    | (go_at_call 138; (with_reducible refine (CC.out _).mono ?_); rintro e wb ⟨rfl, hb⟩; have HBB := Lib.hid hb; obtain ⟨k0, k1, k2, k3, k4, k5, k6⟩ := HCL.out _ hb; clear hb)
    | (go_at_call 139; (with_reducible refine (CH.out _ (kbT HB1.out HBB.out)).mono ?_); rintro e wc ⟨rfl, hb⟩; have HBC := Lib.hid (kbT HBB.out hb); clear hb)
    | (refine wpList_store_row rfl 187 _ _ rfl wc.heap.size (secA ls) rfl rfl 187 _ (heap_alloc_last wc _) (by rw [secA_size, HSL.out]; kernel_rfl) (by rw [secA_size, HSL.out]; rfl) (secA_one _) ?_; rw [World.setRow_alloc_new]))
  obtain ⟨wz, hwz⟩ : ∃ wz, wc.alloc (.cells (secA ls) 187) = wz := ⟨_, rfl⟩
  have HZ : Hid (Below w1.heap.size w1 wz) := Lib.hid (by subst hwz; exact HBC.out.alloc HBC.out.size _)
  have HBY : Hid (BytesAt wz (some ⟨wc.heap.size, 0, none⟩) ls) := Lib.hid (by subst hwz; exact bytes_sec wc ls 187)
  rw [hwz]
  clear hwz k0 k1 k2 k3 k4 k5 k6
  refine wp_region_held_drew (S := fun w' => Below wz.heap.size wz w') (by kernel_rfl) ((Below.refl _ _).drew) (fun H0 => ?_)
  obtain ⟨wd, hwd⟩ : ∃ wd, wz.drew = wd := ⟨_, rfl⟩
  rw [hwd] at H0 ⊢
  clear hwd
  refine wpAnyH_take (i := 0) (oi := { dst := some 13, op := Go.Op.slice 187 (Go.Operand.tmp 5) none none none, type := 49, pos := "frame.go:71", after := #[], guard := none }) (v := ?_) rfl (by kernel_rfl) (by kernel_rfl) (by kernel_rfl) (fun _ _ _ h => h) (Or.inl ⟨by rfl, ?_⟩) H0 ?_
  rotate_left
  focus (intro w' hSw; (try dsimp only at hSw); go_simp; (try with_reducible rfl))
  simp only [Act.put, List.setIfInBounds_toArray, List.set_cons_zero, List.set_cons_succ]
  refine wpAnyH_take (i := 1) (oi := { dst := some 14, op := Go.Op.fieldAddr 156 (Go.Operand.tmp 1) 6, type := 0, pos := "frame.go:71", after := #[], guard := none }) (v := ?_) rfl (by kernel_rfl) (by kernel_rfl) (by kernel_rfl) (fun _ _ _ h => h) (Or.inl ⟨by rfl, ?_⟩) H0 ?_
  rotate_left
  focus (intro w' hSw; (try dsimp only at hSw); go_simp; (try with_reducible rfl))
  simp only [Act.put, List.setIfInBounds_toArray, List.set_cons_zero, List.set_cons_succ]
  refine wpAnyH_take (i := 2) (oi := { dst := some 15, op := Go.Op.load 49 (Go.Operand.tmp 14), type := 49, pos := "frame.go:71", after := #[{ on := 1, ground := Go.Ground.data }], guard := none }) (v := ?_) rfl (by kernel_rfl) (by kernel_rfl) (by kernel_rfl) (fun _ _ _ h => h) (Or.inl ⟨by rfl, ?_⟩) H0 ?_
  rotate_left
  focus (intro w' hSw; (try dsimp only at hSw); obtain ⟨k0, k1, k2, k3, k4, k5, k6⟩ := HCL.out _ (kbT HZ.out hSw); go_simp; (try with_reducible rfl))
  simp only [Act.put, List.setIfInBounds_toArray, List.set_cons_zero, List.set_cons_succ]
  refine wpAnyH_ready (rs := [3]) (by kernel_rfl) (by simp) ?_
  refine AllReadyH.cons (o := { dst := some 16, op := Go.Op.buildSlice 230 2 #[(0, Go.Operand.tmp 13), (1, Go.Operand.tmp 15)], type := 230, pos := "frame.go:71", after := #[{ on := 0, ground := Go.Ground.data }, { on := 2, ground := Go.Ground.data }], guard := none }) rfl (fun K hK => ?_) ?_
  rotate_left
  exact AllReadyH.nil
  go_simp
  obtain ⟨wb, hwb⟩ : ∃ wb, wd.alloc (.cells #[.slice (some ⟨wc.heap.size, 0, none⟩) 64 64, .slice q 512 cap] 49) = wb := ⟨_, rfl⟩
  have hbw : Below wd.heap.size wd wb := by subst hwb; exact (Below.refl _ _).alloc (Nat.le_refl _) _
  rw [hwb]
  refine hK.out _ _ (kbT H0 hbw) (fun Hb => ?_)
  clear hK K
  try simp only [Act.put, List.setIfInBounds_toArray, List.set_cons_zero, List.set_cons_succ]
  refine wpAnyH_ready (rs := [4]) (by kernel_rfl) (by simp) ?_
  refine AllReadyH.cons (o := { dst := some 17, op := Go.Op.call { callee := Go.Callee.value (Go.Operand.func 152), args := #[Go.Operand.tmp 16], argTypes := #[230] }, type := 49, pos := "frame.go:71", after := #[{ on := 3, ground := Go.Ground.data }], guard := none }) rfl (fun K hK => ?_) ?_
  rotate_left
  exact AllReadyH.nil
  go_simp
  have c44 := KT.out (some ⟨wc.heap.size, 0, none⟩) 64 wd (bytesAt_below HBY.out H0) (HBS.out _ (kbT HB1.out (kbT HZ.out H0))) (fun h => nomatch h)
  rw [hwb] at c44
  (go_at_call 152; (with_reducible refine c44.mono ?_); rintro e we ⟨t, rfl, hr⟩)
  try go_wp2_with fail
  have hbe := kbT hbw (show Below wb.heap.size wb we from hr.2)
  refine hK.out _ _ (kbT H0 hbe) (fun He => ?_)
  clear hK K
  try simp only [Act.put, List.setIfInBounds_toArray, List.set_cons_zero, List.set_cons_succ]
  refine wpAnyH_take (i := 5) (oi := { dst := some 2, op := Go.Op.assign (Go.Operand.tmp 17), type := 49, pos := "frame.go:71", after := #[{ on := 4, ground := Go.Ground.data }, { on := 4, ground := Go.Ground.chain }, { on := 0, ground := Go.Ground.phase }, { on := 1, ground := Go.Ground.phase }, { on := 2, ground := Go.Ground.phase }, { on := 3, ground := Go.Ground.phase }, { on := 4, ground := Go.Ground.phase }], guard := none }) (v := ?_) rfl (by kernel_rfl) (by kernel_rfl) (by kernel_rfl) (fun _ _ _ h => h) (Or.inl ⟨by rfl, ?_⟩) He ?_
  rotate_left
  focus (intro w' hSw; (try dsimp only at hSw); go_simp; (try with_reducible rfl))
  simp only [Act.put, List.setIfInBounds_toArray, List.set_cons_zero, List.set_cons_succ]
  refine wpAnyH_take (i := 6) (oi := { dst := some 3, op := Go.Op.assign (Go.Operand.const (Go.Value.int Go.IntKind.i64 0)), type := 25, pos := "frame.go:71", after := #[{ on := 5, ground := Go.Ground.chain }, { on := 0, ground := Go.Ground.phase }, { on := 1, ground := Go.Ground.phase }, { on := 2, ground := Go.Ground.phase }, { on := 3, ground := Go.Ground.phase }, { on := 4, ground := Go.Ground.phase }, { on := 5, ground := Go.Ground.phase }], guard := none }) (v := ?_) rfl (by kernel_rfl) (by kernel_rfl) (by kernel_rfl) (fun _ _ _ h => h) (Or.inl ⟨by rfl, ?_⟩) He ?_
  rotate_left
  focus (intro w' hSw; (try dsimp only at hSw); go_simp; (try with_reducible rfl))
  simp only [Act.put, List.setIfInBounds_toArray, List.set_cons_zero, List.set_cons_succ]
  refine wpAnyH_done (by kernel_rfl) ?_ _
  go_wp2_with fail
  go_ret2
  exact ⟨_, rfl, hr.grow (kbT HB1.out (kbT HZ.out (kbT H0 hbw)))⟩
end Go.Proofs.YtdanigigjainjaaGreat
namespace Go.Proofs.YtdanigigjainjaaGreat
open Go.RowKit Go.Shelf
set_option maxRecDepth 100000
set_option maxHeartbeats 1000000

end Go.Proofs.YtdanigigjainjaaGreat
namespace Go.Proofs.YtdanigigjainjaaGreat
open Go.RowKit Go.Shelf
set_option maxRecDepth 100000
set_option maxHeartbeats 1000000

end Go.Proofs.YtdanigigjainjaaGreat
namespace Go.Proofs.YtdanigigjainjaaGreat
open Go.RowKit Go.Shelf
set_option maxRecDepth 100000
set_option maxHeartbeats 1000000

set_option maxRecDepth 100000 in
set_option maxHeartbeats 2000000 in
theorem fsum_ok (E i p : Nat) (cm : Bool) (n k : Nat) (hE : E < 2 ^ 64) (hi : i < 4294967296) (hp : p < 4294967296) (hn : n < 4294967296) (hk : k < 4294967296) (q : Option Addr) (cap : Nat) (bs : List Nat) (hbl : bs.length = 512) (hbb : ∀ b ∈ bs, b < 256) (w : World) (hbs : BytesAt w q bs) (hok : frameOk i p cm n 512 = true) :
    Calls Tryz.prog 122 #[frameV E i p cm n k q 512 cap] w fun r w' => r = .returned (.tuple #[.int .u32 (~~~ sumN (frameB E i p cm n k ++ bs)).toNat, .int .i64 0]) ∧ Below w.heap.size w w' := by
  have CC := Lib.hid (checkFrame_any E i p cm n k q 512 cap)
  rw [if_pos hok] at CC
  have CS := Lib.hid fun (w' : World) (h : Below w.heap.size w w') => frameSum_any E i p cm n k hE hi hp hn hk q cap bs hbl hbb w' (bytesAt_below hbs h)
  generalize (~~~ sumN (frameB E i p cm n k ++ bs)).toNat = sb at *
  unfold frameV at CC ⊢
  clear hok hE hi hp hn hk hbl hbb hbs
  go_enter Tryz.func122, Tryz.ntmps122
  go_upto_region 1 with fail
  obtain ⟨w1, hw1⟩ : ∃ w1, w.alloc (.cells #[.int .u64 E, .int .i64 i, .int .i64 p, .bool cm, .int .i64 n, .int .u32 k, .slice q 512 cap] 156) = w1 := ⟨_, rfl⟩
  have HB1 : Hid (Below w.heap.size w w1) := Lib.hid (by subst hw1; exact (Below.refl _ _).alloc (Nat.le_refl _) _)
  have HCL : Hid (∀ w', Below w1.heap.size w1 w' → w'.cell? ⟨w.heap.size, 0, none⟩ = some (.int .u64 E) ∧ w'.cell? ⟨w.heap.size, 1, none⟩ = some (.int .i64 i) ∧ w'.cell? ⟨w.heap.size, 2, none⟩ = some (.int .i64 p) ∧ w'.cell? ⟨w.heap.size, 3, none⟩ = some (.bool cm) ∧ w'.cell? ⟨w.heap.size, 4, none⟩ = some (.int .i64 n) ∧ w'.cell? ⟨w.heap.size, 5, none⟩ = some (.int .u32 k) ∧ w'.cell? ⟨w.heap.size, 6, none⟩ = some (.slice q 512 cap)) := Lib.hid fun w' h => by
    have k0 : w1.cell? ⟨w.heap.size, 0, none⟩ = some (.int .u64 E) := by subst hw1; go_cell
    have k1 : w1.cell? ⟨w.heap.size, 1, none⟩ = some (.int .i64 i) := by subst hw1; go_cell
    have k2 : w1.cell? ⟨w.heap.size, 2, none⟩ = some (.int .i64 p) := by subst hw1; go_cell
    have k3 : w1.cell? ⟨w.heap.size, 3, none⟩ = some (.bool cm) := by subst hw1; go_cell
    have k4 : w1.cell? ⟨w.heap.size, 4, none⟩ = some (.int .i64 n) := by subst hw1; go_cell
    have k5 : w1.cell? ⟨w.heap.size, 5, none⟩ = some (.int .u32 k) := by subst hw1; go_cell
    have k6 : w1.cell? ⟨w.heap.size, 6, none⟩ = some (.slice q 512 cap) := by subst hw1; go_cell
    exact ⟨(h.cell (lt_of_cell_some k0)).trans k0, (h.cell (lt_of_cell_some k1)).trans k1, (h.cell (lt_of_cell_some k2)).trans k2, (h.cell (lt_of_cell_some k3)).trans k3, (h.cell (lt_of_cell_some k4)).trans k4, (h.cell (lt_of_cell_some k5)).trans k5, (h.cell (lt_of_cell_some k6)).trans k6⟩
  obtain ⟨k0, k1, k2, k3, k4, k5, k6⟩ := HCL.out _ (Below.refl _ _)
  rw [hw1]
  clear hw1
  go_wp2_with (first
    | (go_at_call 138; (with_reducible refine (CC.out _).mono ?_); rintro e wa ⟨rfl, hb1⟩; have B1 := Lib.hid hb1; obtain ⟨k0, k1, k2, k3, k4, k5, k6⟩ := HCL.out _ hb1; clear hb1)
    | (go_at_call 140; (with_reducible refine (CS.out _ (kbT HB1.out B1.out)).mono ?_); rintro e wb ⟨rfl, hb2⟩; have B2 := Lib.hid (kbT (kbT HB1.out B1.out) hb2); clear hb2))
  go_ret2
  exact ⟨rfl, B2.out⟩
end Go.Proofs.YtdanigigjainjaaGreat
namespace Go.Proofs.YtdanigigjainjaaGreat
open Go.RowKit Go.Shelf
set_option maxRecDepth 100000
set_option maxHeartbeats 1000000

def fE (l : List Nat) : Nat := foldN (l.take 8)
def fI (l : List Nat) : Nat := foldN ((l.drop 8).take 4)
def fP (l : List Nat) : Nat := foldN ((l.drop 12).take 4)
def fM (l : List Nat) : Bool := decide (l.getD 16 0 = 1)
def fN (l : List Nat) : Nat := foldN ((l.drop 17).take 4)
def fK (l : List Nat) : Nat := foldN ((l.drop 21).take 4)
theorem take1_any (P : Nat) (p : Option Addr) (c : Nat) (v : List Nat) (w0 w : World) (h : 1 ≤ v.length) (hv : c ≤ 9223372036854775807) (hP : w0.heap.size ≤ P) (R : RestP (· < w0.heap.size) w P p c v) :
    Calls Tryz.prog 166 #[.pointer (some ⟨P, 0, none⟩), .int .i64 1] w fun r w' => r = .returned (.slice p 1 1) ∧ But P w w' ∧ ∃ p' c', c' ≤ c ∧ RestP (· < w0.heap.size) w' P p' c' (v.drop 1) := by
  refine (ftake_rest 1 P p c v w h hv R).mono ?_
  rintro e w' ⟨rfl, rfl⟩
  exact ⟨rfl, But.set P w _, _, _, Nat.sub_le _ _, R.next h⟩
set_option maxRecDepth 100000 in
set_option maxHeartbeats 8000000 in
theorem readFrame_any (l : List Nat) (B off : Nat) (cap : Nat) (w : World) (hl : l.length = 576) (hcap : 576 ≤ cap) (hc0 : cap ≤ 9223372036854775807) (hb : ∀ b ∈ l, b < 256) (hc : BytesAt w (some ⟨B, off, none⟩) l) :
    Calls Tryz.prog 137 #[.slice (some ⟨B, off, none⟩) 576 cap] w fun r w' => ∃ q c, r = .returned (.agg #[.int .u64 (fE l : Nat), .int .i64 (fI l : Nat), .int .i64 (fP l : Nat), .bool (fM l), .int .i64 (fN l : Nat), .int .u32 (fK l : Nat), .slice q 512 c]) ∧ Below w.heap.size w w' ∧ BytesAt w' q (l.drop 64) ∧ (q = none → c = 0) ∧ c ≤ maxLen ∧ 512 ≤ c ∧ ∀ a, q = some a → w.heap.size < a.block := by
  have HR := rest_start w (.cells #[.int .u64 0, .int .i64 0, .int .i64 0, .bool false, .int .i64 0, .int .u32 0, .slice none 0 0] 156) (some ⟨B, off, none⟩) cap l 210 (by omega) (by omega) hc
  rw [hl] at HR
  have db : ∀ k, ∀ b ∈ l.drop k, b < 256 := fun k b h => hb b (List.mem_of_mem_drop h)
  have C1 := Lib.hid fun w1 c' p' (hc' : c' ≤ cap) R => num8_any (w.heap.size + 1) p' c' l w w1 (by omega) (by omega) hb (by omega) R
  have C2 := Lib.hid fun w1 c' p' (hc' : c' ≤ cap) R => num4_any (w.heap.size + 1) p' c' (l.drop 8) w w1 (by rw [List.length_drop]; omega) (by omega) (db 8) (by omega) R
  have C3 := Lib.hid fun w1 c' p' (hc' : c' ≤ cap) R => num4_any (w.heap.size + 1) p' c' (l.drop 12) w w1 (by rw [List.length_drop]; omega) (by omega) (db 12) (by omega) R
  have C4 := Lib.hid fun w1 c' p' (hc' : c' ≤ cap) R => take1_any (w.heap.size + 1) p' c' (l.drop 16) w w1 (by rw [List.length_drop]; omega) (by omega) (by omega) R
  have C5 := Lib.hid fun w1 c' p' (hc' : c' ≤ cap) R => num4_any (w.heap.size + 1) p' c' (l.drop 17) w w1 (by rw [List.length_drop]; omega) (by omega) (db 17) (by omega) R
  have C6 := Lib.hid fun w1 c' p' (hc' : c' ≤ cap) R => num4u_any (w.heap.size + 1) p' c' (l.drop 21) w w1 (by rw [List.length_drop]; omega) (by omega) (db 21) (by omega) R
  simp only [List.drop_drop, Nat.reduceAdd] at C2 C3 C4 C5
  have CK := Lib.hid fun (w' : World) (h : Below w.heap.size w w') => clone_any (l.drop 64) (some ⟨B, off + 64, none⟩) (cap - 64) w' (by rw [List.length_drop]; omega) (by
    have h2 := bytesAt_from (bytesAt_below hc h) 64
    rwa [show (some (⟨B, off, none⟩ : Addr)).map (fun x => x.add 64) = some ⟨B, off + 64, none⟩ from congrArg some (addr_plain B off 64)] at h2)
  have hdl : (l.drop 64).length = 512 := by rw [List.length_drop, hl]
  rw [hdl] at CK
  have n64 : ¬ cap = 64 := by omega
  generalize l.drop 64 = dd at *
  have HDL := Lib.hid hdl
  have HL := Lib.hid hl
  change Hid (∀ w1 c' p', c' ≤ cap → _ → Calls Tryz.prog 157 _ w1 fun r w' => r = .returned (.int .u64 (fE l : Nat)) ∧ _) at C1
  change Hid (∀ w1 c' p', c' ≤ cap → _ → Calls Tryz.prog 159 _ w1 fun r w' => r = .returned (.int .i64 (fI l : Nat)) ∧ _) at C2
  change Hid (∀ w1 c' p', c' ≤ cap → _ → Calls Tryz.prog 159 _ w1 fun r w' => r = .returned (.int .i64 (fP l : Nat)) ∧ _) at C3
  change Hid (∀ w1 c' p', c' ≤ cap → _ → Calls Tryz.prog 159 _ w1 fun r w' => r = .returned (.int .i64 (fN l : Nat)) ∧ _) at C5
  change Hid (∀ w1 c' p', c' ≤ cap → _ → Calls Tryz.prog 167 _ w1 fun r w' => r = .returned (.int .u32 (fK l : Nat)) ∧ _) at C6
  have HR := Lib.hid HR
  have HB0 : Hid (Below w.heap.size w ((w.alloc (.cells #[.int .u64 0, .int .i64 0, .int .i64 0, .bool false, .int .i64 0, .int .u32 0, .slice none 0 0] 156)).alloc (.cells #[.slice (some ⟨B, off, none⟩) 576 cap] 210))) := Lib.hid (((Below.refl _ _).alloc (Nat.le_refl _) _).alloc (by simp) _)
  have HG0 : Hid (((w.alloc (.cells #[.int .u64 0, .int .i64 0, .int .i64 0, .bool false, .int .i64 0, .int .u32 0, .slice none 0 0] 156)).alloc (.cells #[.slice (some ⟨B, off, none⟩) 576 cap] 210)).heap[w.heap.size]? = some (.cells #[.int .u64 0, .int .i64 0, .int .i64 0, .bool false, .int .i64 0, .int .u32 0, .slice none 0 0] 156 (0, 0))) := Lib.hid ((((Below.refl _ _).alloc (Nat.le_refl _) _).block _ (by simp)).trans (heap_alloc_last w _))
  have HS0 : Hid (w.heap.size < ((w.alloc (.cells #[.int .u64 0, .int .i64 0, .int .i64 0, .bool false, .int .i64 0, .int .u32 0, .slice none 0 0] 156)).alloc (.cells #[.slice (some ⟨B, off, none⟩) 576 cap] 210)).heap.size) := Lib.hid (by simp; omega)
  have hfm : fM l = decide (l.getD 16 0 = 1) := rfl
  generalize fE l = x1 at *
  generalize fI l = x2 at *
  generalize fP l = x3 at *
  generalize fN l = x5 at *
  generalize fK l = x6 at *
  generalize fM l = xm at *
  have hcap0 : cap ≤ cap := Nat.le_refl _
  have HW : Hid (w.heap.size ≠ w.heap.size + 1) := Lib.hid (by omega)
  clear hl hb hc db hdl
  go_enter Tryz.func137, Tryz.ntmps137
  go_upto_region 2 with fail
  obtain ⟨w0, hw0⟩ : ∃ w0, (w.alloc (.cells #[.int .u64 0, .int .i64 0, .int .i64 0, .bool false, .int .i64 0, .int .u32 0, .slice none 0 0] 156)).alloc (.cells #[.slice (some ⟨B, off, none⟩) 576 cap] 210) = w0 := ⟨_, rfl⟩
  rw [hw0] at HR HB0 HG0 HS0 ⊢
  clear hw0
  refine wp_region_held_drew (S := fun w' => Below w.heap.size w w') (by kernel_rfl) HB0.out.drew (fun H0 => ?_)
  obtain ⟨wd, hwd⟩ : ∃ wd, w0.drew = wd := ⟨_, rfl⟩
  have HR0 := Lib.hid (HR.out.but (show Below w0.heap.size w0 wd by rw [← hwd]; exact (Below.refl _ _).drew))
  have HG := Lib.hid ((show Below w0.heap.size w0 wd by rw [← hwd]; exact (Below.refl _ _).drew).block _ HS0.out |>.trans HG0.out)
  rw [hwd] at H0 ⊢
  clear hwd
  refine wpAnyH_take (i := 0) (oi := { dst := some 8, op := Go.Op.move (Go.Operand.tmp 3), type := 206, pos := "reader.go:45", after := #[], guard := none }) (v := ?_) rfl (by kernel_rfl) (by kernel_rfl) (by kernel_rfl) (fun _ _ _ h => h) (Or.inl ⟨by rfl, ?_⟩) H0 ?_
  rotate_left
  focus (intro w' hSw; (try dsimp only at hSw); go_simp; (try with_reducible rfl))
  simp only [Act.put, List.setIfInBounds_toArray, List.set_cons_zero, List.set_cons_succ]
  refine wpAnyH_take (i := 2) (oi := { dst := some 10, op := Go.Op.move (Go.Operand.tmp 3), type := 206, pos := "reader.go:45", after := #[], guard := none }) (v := ?_) rfl (by kernel_rfl) (by kernel_rfl) (by kernel_rfl) (fun _ _ _ h => h) (Or.inl ⟨by rfl, ?_⟩) H0 ?_
  rotate_left
  focus (intro w' hSw; (try dsimp only at hSw); go_simp; (try with_reducible rfl))
  simp only [Act.put, List.setIfInBounds_toArray, List.set_cons_zero, List.set_cons_succ]
  refine wpAnyH_take (i := 4) (oi := { dst := some 12, op := Go.Op.move (Go.Operand.tmp 3), type := 206, pos := "reader.go:45", after := #[], guard := none }) (v := ?_) rfl (by kernel_rfl) (by kernel_rfl) (by kernel_rfl) (fun _ _ _ h => h) (Or.inl ⟨by rfl, ?_⟩) H0 ?_
  rotate_left
  focus (intro w' hSw; (try dsimp only at hSw); go_simp; (try with_reducible rfl))
  simp only [Act.put, List.setIfInBounds_toArray, List.set_cons_zero, List.set_cons_succ]
  refine wpAnyH_take (i := 6) (oi := { dst := some 14, op := Go.Op.move (Go.Operand.tmp 3), type := 206, pos := "reader.go:45", after := #[], guard := none }) (v := ?_) rfl (by kernel_rfl) (by kernel_rfl) (by kernel_rfl) (fun _ _ _ h => h) (Or.inl ⟨by rfl, ?_⟩) H0 ?_
  rotate_left
  focus (intro w' hSw; (try dsimp only at hSw); go_simp; (try with_reducible rfl))
  simp only [Act.put, List.setIfInBounds_toArray, List.set_cons_zero, List.set_cons_succ]
  refine wpAnyH_take (i := 7) (oi := { dst := some 15, op := Go.Op.nilCheck (Go.Operand.tmp 14), type := 0, pos := "reader.go:45", after := #[{ on := 6, ground := Go.Ground.data }], guard := none }) (v := ?_) rfl (by kernel_rfl) (by kernel_rfl) (by kernel_rfl) (fun _ _ _ h => h) (Or.inl ⟨by rfl, ?_⟩) H0 ?_
  rotate_left
  focus (intro w' hSw; (try dsimp only at hSw); go_simp; (try with_reducible rfl))
  simp only [Act.put, List.setIfInBounds_toArray, List.set_cons_zero, List.set_cons_succ]
  refine wpAnyH_take (i := 8) (oi := { dst := some 16, op := Go.Op.fieldAddr 210 (Go.Operand.tmp 15) 0, type := 0, pos := "reader.go:45", after := #[{ on := 7, ground := Go.Ground.data }], guard := none }) (v := ?_) rfl (by kernel_rfl) (by kernel_rfl) (by kernel_rfl) (fun _ _ _ h => h) (Or.inl ⟨by rfl, ?_⟩) H0 ?_
  rotate_left
  focus (intro w' hSw; (try dsimp only at hSw); go_simp; (try with_reducible rfl))
  simp only [Act.put, List.setIfInBounds_toArray, List.set_cons_zero, List.set_cons_succ]
  refine wpAnyH_take (i := 13) (oi := { dst := some 21, op := Go.Op.move (Go.Operand.tmp 3), type := 206, pos := "reader.go:45", after := #[], guard := none }) (v := ?_) rfl (by kernel_rfl) (by kernel_rfl) (by kernel_rfl) (fun _ _ _ h => h) (Or.inl ⟨by rfl, ?_⟩) H0 ?_
  rotate_left
  focus (intro w' hSw; (try dsimp only at hSw); go_simp; (try with_reducible rfl))
  simp only [Act.put, List.setIfInBounds_toArray, List.set_cons_zero, List.set_cons_succ]
  refine wpAnyH_take (i := 15) (oi := { dst := some 23, op := Go.Op.move (Go.Operand.tmp 3), type := 206, pos := "reader.go:45", after := #[], guard := none }) (v := ?_) rfl (by kernel_rfl) (by kernel_rfl) (by kernel_rfl) (fun _ _ _ h => h) (Or.inl ⟨by rfl, ?_⟩) H0 ?_
  rotate_left
  focus (intro w' hSw; (try dsimp only at hSw); go_simp; (try with_reducible rfl))
  simp only [Act.put, List.setIfInBounds_toArray, List.set_cons_zero, List.set_cons_succ]
  refine wpAnyH_take (i := 17) (oi := { dst := some 25, op := Go.Op.move (Go.Operand.tmp 0), type := 49, pos := "reader.go:45", after := #[], guard := none }) (v := ?_) rfl (by kernel_rfl) (by kernel_rfl) (by kernel_rfl) (fun _ _ _ h => h) (Or.inl ⟨by rfl, ?_⟩) H0 ?_
  rotate_left
  focus (intro w' hSw; (try dsimp only at hSw); go_simp; (try with_reducible rfl))
  simp only [Act.put, List.setIfInBounds_toArray, List.set_cons_zero, List.set_cons_succ]
  refine wpAnyH_take (i := 18) (oi := { dst := some 26, op := Go.Op.slice 49 (Go.Operand.tmp 25) (some (Go.Operand.const (Go.Value.int Go.IntKind.i64 64))) none none, type := 49, pos := "reader.go:45", after := #[{ on := 17, ground := Go.Ground.data }], guard := none }) (v := ?_) rfl (by kernel_rfl) (by kernel_rfl) (by kernel_rfl) (fun _ _ _ h => h) (Or.inl ⟨by rfl, ?_⟩) H0 ?_
  rotate_left
  focus (intro w' hSw; (try dsimp only at hSw); go_simp; (try with_reducible rfl))
  simp only [Act.put, List.setIfInBounds_toArray, List.set_cons_zero, List.set_cons_succ]
  refine wpAnyH_ready (rs := [1]) (by kernel_rfl) (by simp) ?_
  refine AllReadyH.cons (o := { dst := some 9, op := Go.Op.call { callee := Go.Callee.value (Go.Operand.func 157), args := #[Go.Operand.tmp 8, Go.Operand.const (Go.Value.int Go.IntKind.i64 8), Go.Operand.func 158], argTypes := #[206, 3, 212] }, type := 38, pos := "reader.go:46", after := #[{ on := 0, ground := Go.Ground.data }], guard := none }) rfl (fun K hK => ?_) ?_
  rotate_left
  exact AllReadyH.nil
  go_simp
  (go_at_call 157; (with_reducible refine (C1.out _ _ _ hcap0 HR0.out).mono ?_); rintro e w1 ⟨rfl, hbt, p1, c1, hc1', hr1⟩)
  try go_wp2_with fail
  have hc1 := Nat.le_trans hc1' hcap0
  have HR1 := Lib.hid hr1
  have HG := Lib.hid (hbt.row HG.out HW.out)
  have HB1 := hbt.below H0 (Nat.le_succ _)
  clear hr1 hbt
  refine hK.out _ _ HB1 (fun H1 => ?_)
  clear hK K
  try simp only [Act.put, List.setIfInBounds_toArray, List.set_cons_zero, List.set_cons_succ]
  refine wpAnyH_ready (rs := [3]) (by kernel_rfl) (by simp) ?_
  refine AllReadyH.cons (o := { dst := some 11, op := Go.Op.call { callee := Go.Callee.value (Go.Operand.func 159), args := #[Go.Operand.tmp 10, Go.Operand.const (Go.Value.int Go.IntKind.i64 4), Go.Operand.func 160], argTypes := #[206, 3, 214] }, type := 3, pos := "reader.go:47", after := #[{ on := 2, ground := Go.Ground.data }, { on := 1, ground := Go.Ground.chain }], guard := none }) rfl (fun K hK => ?_) ?_
  rotate_left
  exact AllReadyH.nil
  go_simp
  (go_at_call 159; (with_reducible refine (C2.out _ _ _ hc1 HR1.out).mono ?_); rintro e w2 ⟨rfl, hbt, p2, c2, hc2', hr2⟩)
  try go_wp2_with fail
  have hc2 := Nat.le_trans hc2' hc1
  have HR2 := Lib.hid hr2
  have HG := Lib.hid (hbt.row HG.out HW.out)
  have HB2 := hbt.below H1 (Nat.le_succ _)
  clear hr2 hbt
  refine hK.out _ _ HB2 (fun H2 => ?_)
  clear hK K
  try simp only [Act.put, List.setIfInBounds_toArray, List.set_cons_zero, List.set_cons_succ]
  refine wpAnyH_ready (rs := [5]) (by kernel_rfl) (by simp) ?_
  refine AllReadyH.cons (o := { dst := some 13, op := Go.Op.call { callee := Go.Callee.value (Go.Operand.func 159), args := #[Go.Operand.tmp 12, Go.Operand.const (Go.Value.int Go.IntKind.i64 4), Go.Operand.func 160], argTypes := #[206, 3, 214] }, type := 3, pos := "reader.go:48", after := #[{ on := 4, ground := Go.Ground.data }, { on := 3, ground := Go.Ground.chain }], guard := none }) rfl (fun K hK => ?_) ?_
  rotate_left
  exact AllReadyH.nil
  go_simp
  (go_at_call 159; (with_reducible refine (C3.out _ _ _ hc2 HR2.out).mono ?_); rintro e w3 ⟨rfl, hbt, p3, c3, hc3', hr3⟩)
  try go_wp2_with fail
  have hc3 := Nat.le_trans hc3' hc2
  have HR3 := Lib.hid hr3
  have HG := Lib.hid (hbt.row HG.out HW.out)
  have HB3 := hbt.below H2 (Nat.le_succ _)
  clear hr3 hbt
  refine hK.out _ _ HB3 (fun H3 => ?_)
  clear hK K
  try simp only [Act.put, List.setIfInBounds_toArray, List.set_cons_zero, List.set_cons_succ]
  obtain ⟨Bq, oq, hpq, hTq, hcq⟩ := HR3.out.bytes 0 (by rw [List.length_drop]; have := HL.out; omega)
  subst hpq
  have hq16 : (l.drop 16).getD 0 0 = l.getD 16 0 := by simp [List.getD_eq_getElem?_getD, List.getElem?_drop]
  rw [hq16, Nat.add_zero] at hcq
  have HCQ : Hid (∀ w', Below w.heap.size w w' → w'.cell? ⟨Bq, oq, none⟩ = some (.int .u8 (l.getD 16 0 : Nat))) := Lib.hid fun w' h => ((h.cell (p := ⟨Bq, oq, none⟩) hTq).trans (H3.cell (p := ⟨Bq, oq, none⟩) hTq).symm).trans hcq
  clear hcq hq16
  generalize l.getD 16 0 = b16 at *
  refine wpAnyH_ready (rs := [9]) (by kernel_rfl) (by simp) ?_
  refine AllReadyH.cons (o := { dst := some 17, op := Go.Op.call { callee := Go.Callee.value (Go.Operand.func 166), args := #[Go.Operand.tmp 16, Go.Operand.const (Go.Value.int Go.IntKind.i64 1)], argTypes := #[208, 3] }, type := 49, pos := "reader.go:49", after := #[{ on := 8, ground := Go.Ground.data }, { on := 5, ground := Go.Ground.chain }], guard := none }) rfl (fun K hK => ?_) ?_
  rotate_left
  exact AllReadyH.nil
  go_simp
  (go_at_call 166; (with_reducible refine (C4.out _ _ _ hc3 HR3.out).mono ?_); rintro e w4 ⟨rfl, hbt, p4, c4, hc4', hr4⟩)
  try go_wp2_with fail
  have hc4 := Nat.le_trans hc4' hc3
  have HR4 := Lib.hid hr4
  have HG := Lib.hid (hbt.row HG.out HW.out)
  have HB4 := hbt.below H3 (Nat.le_succ _)
  clear hr4 hbt
  refine hK.out _ _ HB4 (fun H4 => ?_)
  clear hK K
  try simp only [Act.put, List.setIfInBounds_toArray, List.set_cons_zero, List.set_cons_succ]
  refine wpAnyH_take (i := 10) (oi := { dst := some 18, op := Go.Op.indexAddr 49 (Go.Operand.tmp 17) (Go.Operand.const (Go.Value.int Go.IntKind.i64 0)), type := 0, pos := "reader.go:45", after := #[{ on := 9, ground := Go.Ground.data }], guard := none }) (v := ?_) rfl (by kernel_rfl) (by kernel_rfl) (by kernel_rfl) (fun _ _ _ h => h) (Or.inl ⟨by rfl, ?_⟩) H4 ?_
  rotate_left
  focus (intro w' hSw; (try dsimp only at hSw); go_simp; (try with_reducible rfl))
  simp only [Act.put, List.setIfInBounds_toArray, List.set_cons_zero, List.set_cons_succ]
  refine wpAnyH_take (i := 11) (oi := { dst := some 19, op := Go.Op.load 5 (Go.Operand.tmp 18), type := 5, pos := "reader.go:45", after := #[{ on := 10, ground := Go.Ground.data }], guard := none }) (v := ?_) rfl (by kernel_rfl) (by kernel_rfl) (by kernel_rfl) (fun _ _ _ h => h) (Or.inl ⟨by rfl, ?_⟩) H4 ?_
  rotate_left
  focus (intro w' hSw; (try dsimp only at hSw); have kq := HCQ.out _ hSw; go_simp; (try with_reducible rfl))
  simp only [Act.put, List.setIfInBounds_toArray, List.set_cons_zero, List.set_cons_succ]
  refine wpAnyH_take (i := 12) (oi := { dst := some 20, op := Go.Op.binOp Go.BinOp.eql 5 (Go.Operand.tmp 19) (Go.Operand.const (Go.Value.int Go.IntKind.u8 1)) 5, type := 4, pos := "reader.go:45", after := #[{ on := 11, ground := Go.Ground.data }], guard := none }) (v := ?_) rfl (by kernel_rfl) (by kernel_rfl) (by kernel_rfl) (fun _ _ _ h => h) (Or.inl ⟨by rfl, ?_⟩) H4 ?_
  rotate_left
  focus (intro w' hSw; (try dsimp only at hSw); go_simp; (try with_reducible rfl))
  simp only [Act.put, List.setIfInBounds_toArray, List.set_cons_zero, List.set_cons_succ]
  refine wpAnyH_ready (rs := [14]) (by kernel_rfl) (by simp) ?_
  refine AllReadyH.cons (o := { dst := some 22, op := Go.Op.call { callee := Go.Callee.value (Go.Operand.func 159), args := #[Go.Operand.tmp 21, Go.Operand.const (Go.Value.int Go.IntKind.i64 4), Go.Operand.func 160], argTypes := #[206, 3, 214] }, type := 3, pos := "reader.go:50", after := #[{ on := 13, ground := Go.Ground.data }, { on := 9, ground := Go.Ground.chain }], guard := none }) rfl (fun K hK => ?_) ?_
  rotate_left
  exact AllReadyH.nil
  go_simp
  (go_at_call 159; (with_reducible refine (C5.out _ _ _ hc4 HR4.out).mono ?_); rintro e w5 ⟨rfl, hbt, p5, c5, hc5', hr5⟩)
  try go_wp2_with fail
  have hc5 := Nat.le_trans hc5' hc4
  have HR5 := Lib.hid hr5
  have HG := Lib.hid (hbt.row HG.out HW.out)
  have HB5 := hbt.below H4 (Nat.le_succ _)
  clear hr5 hbt
  refine hK.out _ _ HB5 (fun H5 => ?_)
  clear hK K
  try simp only [Act.put, List.setIfInBounds_toArray, List.set_cons_zero, List.set_cons_succ]
  refine wpAnyH_ready (rs := [16]) (by kernel_rfl) (by simp) ?_
  refine AllReadyH.cons (o := { dst := some 24, op := Go.Op.call { callee := Go.Callee.value (Go.Operand.func 167), args := #[Go.Operand.tmp 23, Go.Operand.const (Go.Value.int Go.IntKind.i64 4), Go.Operand.func 160], argTypes := #[206, 3, 214] }, type := 39, pos := "reader.go:51", after := #[{ on := 15, ground := Go.Ground.data }, { on := 14, ground := Go.Ground.chain }], guard := none }) rfl (fun K hK => ?_) ?_
  rotate_left
  exact AllReadyH.nil
  go_simp
  (go_at_call 167; (with_reducible refine (C6.out _ _ _ hc5 HR5.out).mono ?_); rintro e w6 ⟨rfl, hbt, p6, c6, hc6', hr6⟩)
  try go_wp2_with fail
  have hc6 := Nat.le_trans hc6' hc5
  have HR6 := Lib.hid hr6
  have HG := Lib.hid (hbt.row HG.out HW.out)
  have HB6 := hbt.below H5 (Nat.le_succ _)
  clear hr6 hbt
  refine hK.out _ _ HB6 (fun H6 => ?_)
  clear hK K
  try simp only [Act.put, List.setIfInBounds_toArray, List.set_cons_zero, List.set_cons_succ]
  refine wpAnyH_ready (rs := [19]) (by kernel_rfl) (by simp) ?_
  refine AllReadyH.cons (o := { dst := some 27, op := Go.Op.call { callee := Go.Callee.value (Go.Operand.func 44), args := #[Go.Operand.tmp 26], argTypes := #[49] }, type := 49, pos := "reader.go:52", after := #[{ on := 18, ground := Go.Ground.data }, { on := 16, ground := Go.Ground.chain }], guard := none }) rfl (fun K hK => ?_) ?_
  rotate_left
  exact AllReadyH.nil
  go_simp
  (go_at_call 44; (with_reducible refine (CK.out _ H6).mono ?_); rintro e w7 ⟨t, rfl, hr⟩)
  try go_wp2_with fail
  obtain ⟨q, c7, rfl, hcq7, hcm7, hby, hn7⟩ := (Tell.of hr).at'
  have kz := row_cell (i := 0) HG.out rfl
  have HG := Lib.hid ((hr.2.block _ (Array.getElem?_eq_some_iff.1 HG.out).1).trans HG.out)
  refine hK.out _ _ (kbT H6 hr.2) (fun H7 => ?_)
  clear hK K
  try simp only [Act.put, List.setIfInBounds_toArray, List.set_cons_zero, List.set_cons_succ]
  refine wpAnyH_take (i := 20) (oi := { dst := some 28, op := Go.Op.build 156 #[(0, Go.Operand.tmp 9), (1, Go.Operand.tmp 11), (2, Go.Operand.tmp 13), (3, Go.Operand.tmp 20), (4, Go.Operand.tmp 22), (5, Go.Operand.tmp 24), (6, Go.Operand.tmp 27)], type := 156, pos := "reader.go:45", after := #[{ on := 1, ground := Go.Ground.data }, { on := 3, ground := Go.Ground.data }, { on := 5, ground := Go.Ground.data }, { on := 12, ground := Go.Ground.data }, { on := 14, ground := Go.Ground.data }, { on := 16, ground := Go.Ground.data }, { on := 19, ground := Go.Ground.data }], guard := none }) (v := ?_) rfl (by kernel_rfl) (by kernel_rfl) (by kernel_rfl) (fun _ _ _ h => h) (Or.inl ⟨by rfl, ?_⟩) H7 ?_
  rotate_left
  focus (intro w' hSw; (try dsimp only at hSw); go_simp; (try with_reducible rfl))
  simp only [Act.put, List.setIfInBounds_toArray, List.set_cons_zero, List.set_cons_succ]
  refine wpAnyH_ready (rs := [21]) (by kernel_rfl) (by simp) ?_
  refine AllReadyH.cons (o := { dst := none, op := Go.Op.store 156 (Go.Operand.tmp 2) (Go.Operand.tmp 28), type := 0, pos := "reader.go:45", after := #[{ on := 20, ground := Go.Ground.data }, { on := 19, ground := Go.Ground.chain }, { on := 0, ground := Go.Ground.phase }, { on := 1, ground := Go.Ground.phase }, { on := 2, ground := Go.Ground.phase }, { on := 3, ground := Go.Ground.phase }, { on := 4, ground := Go.Ground.phase }, { on := 5, ground := Go.Ground.phase }, { on := 6, ground := Go.Ground.phase }, { on := 7, ground := Go.Ground.phase }, { on := 8, ground := Go.Ground.phase }, { on := 9, ground := Go.Ground.phase }, { on := 10, ground := Go.Ground.phase }, { on := 11, ground := Go.Ground.phase }, { on := 12, ground := Go.Ground.phase }, { on := 13, ground := Go.Ground.phase }, { on := 14, ground := Go.Ground.phase }, { on := 15, ground := Go.Ground.phase }, { on := 16, ground := Go.Ground.phase }, { on := 17, ground := Go.Ground.phase }, { on := 18, ground := Go.Ground.phase }, { on := 19, ground := Go.Ground.phase }, { on := 20, ground := Go.Ground.phase }], guard := none }) rfl (fun K hK => ?_) ?_
  rotate_left
  exact AllReadyH.nil
  have k0 := row_cell (i := 0) HG.out rfl
  have k1 := row_cell (i := 1) HG.out rfl
  have k2 := row_cell (i := 2) HG.out rfl
  have k3 := row_cell (i := 3) HG.out rfl
  have k4 := row_cell (i := 4) HG.out rfl
  have k5 := row_cell (i := 5) HG.out rfl
  have k6 := row_cell (i := 6) HG.out rfl
  have f0 := row_frozen (i := 0) HG.out
  have f1 := row_frozen (i := 1) HG.out
  have f2 := row_frozen (i := 2) HG.out
  have f3 := row_frozen (i := 3) HG.out
  have f4 := row_frozen (i := 4) HG.out
  have f5 := row_frozen (i := 5) HG.out
  have f6 := row_frozen (i := 6) HG.out
  go_simp
  refine hK.out _ _ (((((((H7.setCell (Nat.le_refl _) _).setCell (Nat.le_refl _) _).setCell (Nat.le_refl _) _).setCell (Nat.le_refl _) _).setCell (Nat.le_refl _) _).setCell (Nat.le_refl _) _).setCell (Nat.le_refl _) _) (fun H8 => ?_)
  clear hK K
  try simp only [Act.put, List.setIfInBounds_toArray, List.set_cons_zero, List.set_cons_succ]
  refine wpAnyH_done (by kernel_rfl) ?_ _
  go_wp2_with fail
  refine bodyPost_ret (v := .agg #[.int .u64 x1, .int .i64 x2, .int .i64 x3, .bool (decide (b16 = 1)), .int .i64 x5, .int .u32 x6, .slice q 512 c7]) ?_ rfl ⟨q, c7, ?_, H8, ?_, hn7.1, hcm7, ?_, fun a ha => Nat.lt_of_lt_of_le (lt_of_cell_some kz) (hn7.2 a ha)⟩
  · have hbb : ((b16 : Int) == 1) = decide (b16 = 1) := by
      by_cases hq : b16 = 1
      · subst hq; rfl
      · rw [decide_eq_false hq]
        simp only [beq_eq_false_iff_ne, ne_eq]
        omega
    simp [results, Tryz.results137, go_sem, k0, k1, k2, k3, k4, k5, k6, hbb, HDL.out]
  · rw [hfm]
  · have hlt : w.heap.size < w6.heap.size := lt_of_cell_some kz
    intro i hi
    obtain ⟨Bz, oz, e, cz⟩ := hby i hi
    have hge := hn7.2 _ e
    exact ⟨Bz, oz, e, (((((((But.set' _ _ _ _).trans (But.set' _ _ _ _)).trans (But.set' _ _ _ _)).trans (But.set' _ _ _ _)).trans (But.set' _ _ _ _)).trans (But.set' _ _ _ _)).trans (But.set' _ _ _ _)).cell cz (by simp only at hge ⊢; omega)⟩
  · have := HDL.out; omega
end Go.Proofs.YtdanigigjainjaaGreat
