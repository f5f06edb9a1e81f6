/- The document's DecodeHead. -/
import Derived.Test.YthnllhfdbnnjhaaPN
namespace Go.Proofs.Ythnllhfdbnnjhaa
open Go.RowKit Go.Shelf

theorem strOf_inj {l m : List Nat} (hl : ∀ b ∈ l, b < 256) (hm : ∀ b ∈ m, b < 256) (h : strOf l = strOf m) : l = m := by
  unfold strOf at h
  injection h with h
  have h2 := congrArg Array.toList h
  simp only at h2
  have inj : ∀ (x y : List Nat), (∀ b ∈ x, b < 256) → (∀ b ∈ y, b < 256) → x.map UInt8.ofNat = y.map UInt8.ofNat → x = y := by
    intro x
    induction x with
    | nil => intro y _ _ e; cases y with
      | nil => rfl
      | cons b t => simp at e
    | cons a x ih =>
      intro y hx hy e
      cases y with
      | nil => simp at e
      | cons b y =>
        simp only [List.map_cons, List.cons.injEq] at e
        have h1 := congrArg UInt8.toNat e.1
        have ha := hx a (by simp)
        have hb := hy b (by simp)
        simp only [UInt8.toNat_ofNat'] at h1
        rw [Nat.mod_eq_of_lt ha, Nat.mod_eq_of_lt hb] at h1
        rw [h1, ih y (fun b hb => hx b (by simp [hb])) (fun b hb => hy b (by simp [hb])) e.2]
  exact inj l m hl hm (by simpa using h2)
theorem str_beq (s t : ByteArray) : (s.toList == t.toList) = decide (s = t) := by
  rw [ByteArray.toList_eq, ByteArray.toList_eq]
  by_cases h : s = t
  · subst h; simp
  · rw [decide_eq_false h]
    apply Bool.eq_false_iff.2
    intro e
    have e2 := eq_of_beq e
    apply h
    cases s; cases t
    simp only [ByteArray.mk.injEq]
    exact Array.toList_inj.1 e2
theorem readFixE_val {m : Nat} {l : List Nat} (h : m ≤ l.length) : readFixE m l = (foldN (l.take m), 0) := by
  unfold readFixE
  rw [if_neg (by omega)]
  rfl
/-- A fixed number is read from some place on. -/
theorem readAt_any (l : List Nat) (m k : Nat) (hm : m ≤ 8) (hk : k + m ≤ l.length) (B off cap : Nat) (w : World) (hl : l.length ≤ 100000) (hb : ∀ b ∈ l, b < 256) (hc : BytesAt w (some ⟨B, off, none⟩) l) :
    Calls Try.prog 41 #[.slice (some ⟨B, off + k, none⟩) (l.length - k) (cap - k), .int .i64 m] w fun r w' => r = .returned (.tuple #[.int .u64 (foldN ((l.drop k).take m) : Nat), .int .i64 0]) ∧ w = w' := by
  have h := bytesAt_from hc k
  rw [show (some (⟨B, off, none⟩ : Addr)).map (fun x => x.add k) = some ⟨B, off + k, none⟩ from congrArg some (addr_plain B off k)] at h
  have := refReadFixed_any (l.drop k) m hm (some ⟨B, off + k, none⟩) (cap - k) w (by rw [List.length_drop]; omega) (fun b hb' => hb b (List.mem_of_mem_drop hb')) (Lib.hid h)
  rw [readFixE_val (by rw [List.length_drop]; omega), List.length_drop] at this
  exact this
set_option maxRecDepth 100000 in
set_option maxHeartbeats 1000000 in
theorem refDecodeHead_long (l : List Nat) (p : Option Addr) (cap : Nat) (w : World) (hl : l.length ≠ 64) :
    Calls Try.prog 22 #[.slice p l.length cap] w fun r w' => r = .returned (.tuple #[headV 0 0 0 0, .int .i64 150]) ∧ Below w.heap.size w w' := by
  generalize l.length = L at *
  have hl2 : (L : Int) ≠ 64 := by omega
  have hl3 : ((L : Int) != 64) = true := by simp [hl2]
  clear hl hl2
  go_enter Try.func22, Try.ntmps22
  go_wp2
  refine bodyPost_ret (v := .tuple #[headV 0 0 0 0, .int .i64 150]) ?_ rfl ⟨rfl, ?_⟩
  · simp [results, Try.results22, go_sem, headV]
  · first | exact (Below.refl _ _).alloc (Nat.le_refl _) _ | exact ((((((Below.refl _ _).alloc (Nat.le_refl _) _).setCell (by simp) _).setCell (by simp) _).setCell (by simp) _).setCell (by simp) _)
set_option maxRecDepth 100000 in
set_option maxHeartbeats 4000000 in
theorem refDecodeHead_no (l : List Nat) (p : Option Addr) (cap : Nat) (w : World) (hl : l.length = 64) (hcap : 64 ≤ cap) (hc0 : cap ≤ 9223372036854775807) (hb : ∀ b ∈ l, b < 256) (hc : BytesAt w p l) (hh : headOk (hN l) (hC l) = false) :
    Calls Try.prog 22 #[.slice p 64 cap] w fun r w' => r = .returned (.tuple #[headV 0 0 0 0, .int .i64 150]) ∧ Below w.heap.size w w' := by
  obtain ⟨B, off, rfl, hcs⟩ := bytesAt_lt hc (fun h => by subst h; simp at hl)
  have R1 := Lib.hid fun (w' : World) (hb' : Below w.heap.size w w') => readAt_any l 8 0 (by omega) (by omega) B off cap w' (by omega) hb (bytesAt_below hc hb')
  have R2 := Lib.hid fun (w' : World) (hb' : Below w.heap.size w w') => readAt_any l 8 8 (by omega) (by omega) B off cap w' (by omega) hb (bytesAt_below hc hb')
  have R3 := Lib.hid fun (w' : World) (hb' : Below w.heap.size w w') => readAt_any l 4 16 (by omega) (by omega) B off cap w' (by omega) hb (bytesAt_below hc hb')
  have R4 := Lib.hid fun (w' : World) (hb' : Below w.heap.size w w') => readAt_any l 4 20 (by omega) (by omega) B off cap w' (by omega) hb (bytesAt_below hc hb')
  have CV := Lib.hid fun (w' : World) (hb' : Below w.heap.size w w') => conv_at w' (some ⟨B, off, none⟩) cap l hb (bytesAt_below hc hb')
  rw [hl] at R1 R2 R3 R4 CV
  simp only [Nat.reduceSub, Nat.add_zero, Nat.sub_zero, List.drop_zero] at R1 R2 R3 R4
  have y3 := foldN_lt' (k := 4) (fun b h => hb b (List.mem_of_mem_drop h)) (l := l.drop 16)
  have y4 := foldN_lt' (k := 4) (fun b h => hb b (List.mem_of_mem_drop h)) (l := l.drop 20)
  have C20 := Lib.hid (refEncodeHead_no (hS l) (hE l) (hN l) (hC l) hh)
  clear hh
  change Hid (∀ w', Below w.heap.size w w' → Calls Try.prog 41 #[.slice (some ⟨B, off, none⟩) 64 cap, .int .i64 8] w' fun r w2 => r = .returned (.tuple #[.int .u64 (hS l : Nat), .int .i64 0]) ∧ w' = w2) at R1
  change Hid (∀ w', Below w.heap.size w w' → Calls Try.prog 41 #[.slice (some ⟨B, off + 8, none⟩) 56 (cap - 8), .int .i64 8] w' fun r w2 => r = .returned (.tuple #[.int .u64 (hE l : Nat), .int .i64 0]) ∧ w' = w2) at R2
  change Hid (∀ w', Below w.heap.size w w' → Calls Try.prog 41 #[.slice (some ⟨B, off + 16, none⟩) 48 (cap - 16), .int .i64 4] w' fun r w2 => r = .returned (.tuple #[.int .u64 (hN l : Nat), .int .i64 0]) ∧ w' = w2) at R3
  change Hid (∀ w', Below w.heap.size w w' → Calls Try.prog 41 #[.slice (some ⟨B, off + 20, none⟩) 44 (cap - 20), .int .i64 4] w' fun r w2 => r = .returned (.tuple #[.int .u64 (hC l : Nat), .int .i64 0]) ∧ w' = w2) at R4
  change hN l < 256 ^ 4 at y3
  change hC l < 256 ^ 4 at y4
  generalize hS l = x1 at *
  generalize hE l = x2 at *
  generalize hN l = x3 at *
  generalize hC l = x4 at *
  simp only [Nat.reducePow] at y3 y4
  have u3 : IntKind.i64.wrap (x3 : Int) = (x3 : Int) := wrap_small (by omega) (by omega)
  have u4 : IntKind.i64.wrap (x4 : Int) = (x4 : Int) := wrap_small (by omega) (by omega)
  have n8 : ¬ cap = 8 := by omega
  have n16 : ¬ cap = 16 := by omega
  have n20 : ¬ cap = 20 := by omega
  clear hcs hb hc hl
  go_enter Try.func22, Try.ntmps22
  go_upto_region 3 with fail
  obtain ⟨w0, hw0⟩ : ∃ w0, w.alloc (.cells #[.int .u64 0, .int .u64 0, .int .i64 0, .int .i64 0] 38) = w0 := ⟨_, rfl⟩
  have HB0 : Hid (Below w.heap.size w w0) := Lib.hid (by subst hw0; exact (Below.refl _ _).alloc (Nat.le_refl _) _)
  have HG0 : Hid (w0.heap[w.heap.size]? = some (.cells #[.int .u64 0, .int .u64 0, .int .i64 0, .int .i64 0] 38 (0, 0))) := Lib.hid (by subst hw0; exact heap_alloc_last w _)
  have HS0 : Hid (w.heap.size < w0.heap.size) := Lib.hid (by subst hw0; simp)
  rw [hw0]
  clear hw0
  go_wp2_with (first
    | (go_at_call 41; (with_reducible refine (R1.out _ HB0.out).mono ?_); rintro e wn ⟨rfl, rfl⟩)
    | (go_at_call 41; (with_reducible refine (R2.out _ HB0.out).mono ?_); rintro e wn ⟨rfl, rfl⟩)
    | (go_at_call 41; (with_reducible refine (R3.out _ HB0.out).mono ?_); rintro e wn ⟨rfl, rfl⟩)
    | (go_at_call 41; (with_reducible refine (R4.out _ HB0.out).mono ?_); rintro e wn ⟨rfl, rfl⟩)
    | (go_at_call 20; (with_reducible refine (C20.out _).mono ?_); rintro e wa ⟨rfl, hb1⟩; have hg2 := (hb1.block _ (by simp; exact Nat.lt_succ_of_lt HS0.out)).trans ((((Below.refl w0.heap.size w0).alloc (Nat.le_refl _) (.cells #[.int .u64 x1, .int .u64 x2, .int .i64 x3, .int .i64 x4] 38)).block _ HS0.out).trans HG0.out); have z0 := row_cell (i := 0) hg2 rfl; have z1 := row_cell (i := 1) hg2 rfl; have z2 := row_cell (i := 2) hg2 rfl; have z3 := row_cell (i := 3) hg2 rfl; have f0 := row_frozen (i := 0) hg2; have f1 := row_frozen (i := 1) hg2; have f2 := row_frozen (i := 2) hg2; have f3 := row_frozen (i := 3) hg2; have m0 : wa.cell? ⟨w0.heap.size, 0, none⟩ = some (.int .u64 x1) := (hb1.cell (by simp)).trans (by go_cell); have m1 : wa.cell? ⟨w0.heap.size, 1, none⟩ = some (.int .u64 x2) := (hb1.cell (by simp)).trans (by go_cell); have m2 : wa.cell? ⟨w0.heap.size, 2, none⟩ = some (.int .i64 x3) := (hb1.cell (by simp)).trans (by go_cell); have m3 : wa.cell? ⟨w0.heap.size, 3, none⟩ = some (.int .i64 x4) := (hb1.cell (by simp)).trans (by go_cell); have HBA := Lib.hid (kbT HB0.out (kbA hb1)); clear hb1 hg2))
  refine bodyPost_ret (v := .tuple #[headV 0 0 0 0, .int .i64 150]) ?_ rfl ⟨rfl, ?_⟩
  · simp [results, Try.results22, go_sem, headV, z0, z1, z2, z3]
  · exact (((HBA.out.setCell (Nat.le_refl _) _).setCell (Nat.le_refl _) _).setCell (Nat.le_refl _) _).setCell (Nat.le_refl _) _
set_option maxRecDepth 100000 in
set_option maxHeartbeats 4000000 in
theorem refDecodeHead_other (l : List Nat) (p : Option Addr) (cap : Nat) (w : World) (hl : l.length = 64) (hcap : 64 ≤ cap) (hc0 : cap ≤ 9223372036854775807) (hb : ∀ b ∈ l, b < 256) (hc : BytesAt w p l) (hh : headOk (hN l) (hC l) = true) (hq : headL (hS l) (hE l) (hN l) (hC l) ≠ l) :
    Calls Try.prog 22 #[.slice p 64 cap] w fun r w' => r = .returned (.tuple #[headV 0 0 0 0, .int .i64 150]) ∧ Below w.heap.size w w' := by
  obtain ⟨B, off, rfl, hcs⟩ := bytesAt_lt hc (fun h => by subst h; simp at hl)
  have R1 := Lib.hid fun (w' : World) (hb' : Below w.heap.size w w') => readAt_any l 8 0 (by omega) (by omega) B off cap w' (by omega) hb (bytesAt_below hc hb')
  have R2 := Lib.hid fun (w' : World) (hb' : Below w.heap.size w w') => readAt_any l 8 8 (by omega) (by omega) B off cap w' (by omega) hb (bytesAt_below hc hb')
  have R3 := Lib.hid fun (w' : World) (hb' : Below w.heap.size w w') => readAt_any l 4 16 (by omega) (by omega) B off cap w' (by omega) hb (bytesAt_below hc hb')
  have R4 := Lib.hid fun (w' : World) (hb' : Below w.heap.size w w') => readAt_any l 4 20 (by omega) (by omega) B off cap w' (by omega) hb (bytesAt_below hc hb')
  have CV := Lib.hid fun (w' : World) (hb' : Below w.heap.size w w') => conv_at w' (some ⟨B, off, none⟩) cap l hb (bytesAt_below hc hb')
  rw [hl] at R1 R2 R3 R4 CV
  simp only [Nat.reduceSub, Nat.add_zero, Nat.sub_zero, List.drop_zero] at R1 R2 R3 R4
  have y3 := foldN_lt' (k := 4) (fun b h => hb b (List.mem_of_mem_drop h)) (l := l.drop 16)
  have y4 := foldN_lt' (k := 4) (fun b h => hb b (List.mem_of_mem_drop h)) (l := l.drop 20)
  have hbb := head_bounds hh
  have C20 := Lib.hid (refEncodeHead_ok (hS l) (hE l) (hN l) (hC l) (foldN_lt' hb) (foldN_lt' (fun b h => hb b (List.mem_of_mem_drop h))) hh)
  have hlb := headL_byte (hS l) (hE l) (hN l) (hC l)
  have hll := headL_length (hS l) (hE l) (hN l) (hC l)
  have hse : ((strOf (headL (hS l) (hE l) (hN l) (hC l))).toList == (strOf l).toList) = false := by
    rw [str_beq]
    exact decide_eq_false fun e => hq (strOf_inj hlb hb e)
  generalize headL (hS l) (hE l) (hN l) (hC l) = ll at *
  have HLB := Lib.hid hlb
  have HLL := Lib.hid hll
  generalize strOf l = sl at *
  obtain ⟨sll, hsl⟩ : ∃ s, s = strOf ll := ⟨_, rfl⟩
  rw [← hsl] at hse
  have HSL := Lib.hid hsl
  clear hh hbb hq hlb hll hsl
  change Hid (∀ w', Below w.heap.size w w' → Calls Try.prog 41 #[.slice (some ⟨B, off, none⟩) 64 cap, .int .i64 8] w' fun r w2 => r = .returned (.tuple #[.int .u64 (hS l : Nat), .int .i64 0]) ∧ w' = w2) at R1
  change Hid (∀ w', Below w.heap.size w w' → Calls Try.prog 41 #[.slice (some ⟨B, off + 8, none⟩) 56 (cap - 8), .int .i64 8] w' fun r w2 => r = .returned (.tuple #[.int .u64 (hE l : Nat), .int .i64 0]) ∧ w' = w2) at R2
  change Hid (∀ w', Below w.heap.size w w' → Calls Try.prog 41 #[.slice (some ⟨B, off + 16, none⟩) 48 (cap - 16), .int .i64 4] w' fun r w2 => r = .returned (.tuple #[.int .u64 (hN l : Nat), .int .i64 0]) ∧ w' = w2) at R3
  change Hid (∀ w', Below w.heap.size w w' → Calls Try.prog 41 #[.slice (some ⟨B, off + 20, none⟩) 44 (cap - 20), .int .i64 4] w' fun r w2 => r = .returned (.tuple #[.int .u64 (hC l : Nat), .int .i64 0]) ∧ w' = w2) at R4
  change hN l < 256 ^ 4 at y3
  change hC l < 256 ^ 4 at y4
  generalize hS l = x1 at *
  generalize hE l = x2 at *
  generalize hN l = x3 at *
  generalize hC l = x4 at *
  simp only [Nat.reducePow] at y3 y4
  have u3 : IntKind.i64.wrap (x3 : Int) = (x3 : Int) := wrap_small (by omega) (by omega)
  have u4 : IntKind.i64.wrap (x4 : Int) = (x4 : Int) := wrap_small (by omega) (by omega)
  have n8 : ¬ cap = 8 := by omega
  have n16 : ¬ cap = 16 := by omega
  have n20 : ¬ cap = 20 := by omega
  clear hcs hb hc hl
  go_enter Try.func22, Try.ntmps22
  go_upto_region 3 with fail
  obtain ⟨w0, hw0⟩ : ∃ w0, w.alloc (.cells #[.int .u64 0, .int .u64 0, .int .i64 0, .int .i64 0] 38) = w0 := ⟨_, rfl⟩
  have HB0 : Hid (Below w.heap.size w w0) := Lib.hid (by subst hw0; exact (Below.refl _ _).alloc (Nat.le_refl _) _)
  have HG0 : Hid (w0.heap[w.heap.size]? = some (.cells #[.int .u64 0, .int .u64 0, .int .i64 0, .int .i64 0] 38 (0, 0))) := Lib.hid (by subst hw0; exact heap_alloc_last w _)
  have HS0 : Hid (w.heap.size < w0.heap.size) := Lib.hid (by subst hw0; simp)
  rw [hw0]
  clear hw0
  go_wp2_with (first
    | (go_at_call 41; (with_reducible refine (R1.out _ HB0.out).mono ?_); rintro e wn ⟨rfl, rfl⟩)
    | (go_at_call 41; (with_reducible refine (R2.out _ HB0.out).mono ?_); rintro e wn ⟨rfl, rfl⟩)
    | (go_at_call 41; (with_reducible refine (R3.out _ HB0.out).mono ?_); rintro e wn ⟨rfl, rfl⟩)
    | (go_at_call 41; (with_reducible refine (R4.out _ HB0.out).mono ?_); rintro e wn ⟨rfl, rfl⟩)
    | (go_at_call 20; (with_reducible refine (C20.out _).mono ?_); rintro e wa ⟨t, rfl, hr⟩; obtain ⟨pt, ct, rfl, -, -, hby, -⟩ := hr.at2; have hcv := conv_at wa pt ct ll HLB.out hby; rw [← HSL.out] at hcv; have hb1 := hr.2; clear hr hby; have hg2 := (hb1.block _ (by simp; exact Nat.lt_succ_of_lt HS0.out)).trans ((((Below.refl w0.heap.size w0).alloc (Nat.le_refl _) (.cells #[.int .u64 x1, .int .u64 x2, .int .i64 x3, .int .i64 x4] 38)).block _ HS0.out).trans HG0.out); have z0 := row_cell (i := 0) hg2 rfl; have z1 := row_cell (i := 1) hg2 rfl; have z2 := row_cell (i := 2) hg2 rfl; have z3 := row_cell (i := 3) hg2 rfl; have f0 := row_frozen (i := 0) hg2; have f1 := row_frozen (i := 1) hg2; have f2 := row_frozen (i := 2) hg2; have f3 := row_frozen (i := 3) hg2; have m0 : wa.cell? ⟨w0.heap.size, 0, none⟩ = some (.int .u64 x1) := (hb1.cell (by simp)).trans (by go_cell); have m1 : wa.cell? ⟨w0.heap.size, 1, none⟩ = some (.int .u64 x2) := (hb1.cell (by simp)).trans (by go_cell); have m2 : wa.cell? ⟨w0.heap.size, 2, none⟩ = some (.int .i64 x3) := (hb1.cell (by simp)).trans (by go_cell); have m3 : wa.cell? ⟨w0.heap.size, 3, none⟩ = some (.int .i64 x4) := (hb1.cell (by simp)).trans (by go_cell); have HBA := Lib.hid (kbT HB0.out (kbA hb1)); clear hb1 hg2; have hcl := CV.out wa HBA.out))
  refine bodyPost_ret (v := .tuple #[headV 0 0 0 0, .int .i64 150]) ?_ rfl ⟨rfl, ?_⟩
  · simp [results, Try.results22, go_sem, headV, z0, z1, z2, z3]
  · exact (((HBA.out.setCell (Nat.le_refl _) _).setCell (Nat.le_refl _) _).setCell (Nat.le_refl _) _).setCell (Nat.le_refl _) _
set_option maxRecDepth 100000 in
set_option maxHeartbeats 4000000 in
theorem refDecodeHead_yes (l : List Nat) (p : Option Addr) (cap : Nat) (w : World) (hl : l.length = 64) (hcap : 64 ≤ cap) (hc0 : cap ≤ 9223372036854775807) (hb : ∀ b ∈ l, b < 256) (hc : BytesAt w p l) (hh : headOk (hN l) (hC l) = true) (hq : headL (hS l) (hE l) (hN l) (hC l) = l) :
    Calls Try.prog 22 #[.slice p 64 cap] w fun r w' => r = .returned (.tuple #[headV (hS l) (hE l) (hN l) (hC l), .int .i64 0]) ∧ Below w.heap.size w w' := by
  obtain ⟨B, off, rfl, hcs⟩ := bytesAt_lt hc (fun h => by subst h; simp at hl)
  have R1 := Lib.hid fun (w' : World) (hb' : Below w.heap.size w w') => readAt_any l 8 0 (by omega) (by omega) B off cap w' (by omega) hb (bytesAt_below hc hb')
  have R2 := Lib.hid fun (w' : World) (hb' : Below w.heap.size w w') => readAt_any l 8 8 (by omega) (by omega) B off cap w' (by omega) hb (bytesAt_below hc hb')
  have R3 := Lib.hid fun (w' : World) (hb' : Below w.heap.size w w') => readAt_any l 4 16 (by omega) (by omega) B off cap w' (by omega) hb (bytesAt_below hc hb')
  have R4 := Lib.hid fun (w' : World) (hb' : Below w.heap.size w w') => readAt_any l 4 20 (by omega) (by omega) B off cap w' (by omega) hb (bytesAt_below hc hb')
  have CV := Lib.hid fun (w' : World) (hb' : Below w.heap.size w w') => conv_at w' (some ⟨B, off, none⟩) cap l hb (bytesAt_below hc hb')
  rw [hl] at R1 R2 R3 R4 CV
  simp only [Nat.reduceSub, Nat.add_zero, Nat.sub_zero, List.drop_zero] at R1 R2 R3 R4
  have y3 := foldN_lt' (k := 4) (fun b h => hb b (List.mem_of_mem_drop h)) (l := l.drop 16)
  have y4 := foldN_lt' (k := 4) (fun b h => hb b (List.mem_of_mem_drop h)) (l := l.drop 20)
  have hbb := head_bounds hh
  have C20 := Lib.hid (refEncodeHead_ok (hS l) (hE l) (hN l) (hC l) (foldN_lt' hb) (foldN_lt' (fun b h => hb b (List.mem_of_mem_drop h))) hh)
  have hlb := headL_byte (hS l) (hE l) (hN l) (hC l)
  have hll := headL_length (hS l) (hE l) (hN l) (hC l)
  have hse : ((strOf (headL (hS l) (hE l) (hN l) (hC l))).toList == (strOf l).toList) = true := by
    rw [str_beq]
    rw [hq]; exact decide_eq_true rfl
  generalize headL (hS l) (hE l) (hN l) (hC l) = ll at *
  have HLB := Lib.hid hlb
  have HLL := Lib.hid hll
  generalize strOf l = sl at *
  obtain ⟨sll, hsl⟩ : ∃ s, s = strOf ll := ⟨_, rfl⟩
  rw [← hsl] at hse
  have HSL := Lib.hid hsl
  clear hh hbb hq hlb hll hsl
  change Hid (∀ w', Below w.heap.size w w' → Calls Try.prog 41 #[.slice (some ⟨B, off, none⟩) 64 cap, .int .i64 8] w' fun r w2 => r = .returned (.tuple #[.int .u64 (hS l : Nat), .int .i64 0]) ∧ w' = w2) at R1
  change Hid (∀ w', Below w.heap.size w w' → Calls Try.prog 41 #[.slice (some ⟨B, off + 8, none⟩) 56 (cap - 8), .int .i64 8] w' fun r w2 => r = .returned (.tuple #[.int .u64 (hE l : Nat), .int .i64 0]) ∧ w' = w2) at R2
  change Hid (∀ w', Below w.heap.size w w' → Calls Try.prog 41 #[.slice (some ⟨B, off + 16, none⟩) 48 (cap - 16), .int .i64 4] w' fun r w2 => r = .returned (.tuple #[.int .u64 (hN l : Nat), .int .i64 0]) ∧ w' = w2) at R3
  change Hid (∀ w', Below w.heap.size w w' → Calls Try.prog 41 #[.slice (some ⟨B, off + 20, none⟩) 44 (cap - 20), .int .i64 4] w' fun r w2 => r = .returned (.tuple #[.int .u64 (hC l : Nat), .int .i64 0]) ∧ w' = w2) at R4
  change hN l < 256 ^ 4 at y3
  change hC l < 256 ^ 4 at y4
  generalize hS l = x1 at *
  generalize hE l = x2 at *
  generalize hN l = x3 at *
  generalize hC l = x4 at *
  simp only [Nat.reducePow] at y3 y4
  have u3 : IntKind.i64.wrap (x3 : Int) = (x3 : Int) := wrap_small (by omega) (by omega)
  have u4 : IntKind.i64.wrap (x4 : Int) = (x4 : Int) := wrap_small (by omega) (by omega)
  have n8 : ¬ cap = 8 := by omega
  have n16 : ¬ cap = 16 := by omega
  have n20 : ¬ cap = 20 := by omega
  clear hcs hb hc hl
  go_enter Try.func22, Try.ntmps22
  go_upto_region 3 with fail
  obtain ⟨w0, hw0⟩ : ∃ w0, w.alloc (.cells #[.int .u64 0, .int .u64 0, .int .i64 0, .int .i64 0] 38) = w0 := ⟨_, rfl⟩
  have HB0 : Hid (Below w.heap.size w w0) := Lib.hid (by subst hw0; exact (Below.refl _ _).alloc (Nat.le_refl _) _)
  have HG0 : Hid (w0.heap[w.heap.size]? = some (.cells #[.int .u64 0, .int .u64 0, .int .i64 0, .int .i64 0] 38 (0, 0))) := Lib.hid (by subst hw0; exact heap_alloc_last w _)
  have HS0 : Hid (w.heap.size < w0.heap.size) := Lib.hid (by subst hw0; simp)
  rw [hw0]
  clear hw0
  go_wp2_with (first
    | (go_at_call 41; (with_reducible refine (R1.out _ HB0.out).mono ?_); rintro e wn ⟨rfl, rfl⟩)
    | (go_at_call 41; (with_reducible refine (R2.out _ HB0.out).mono ?_); rintro e wn ⟨rfl, rfl⟩)
    | (go_at_call 41; (with_reducible refine (R3.out _ HB0.out).mono ?_); rintro e wn ⟨rfl, rfl⟩)
    | (go_at_call 41; (with_reducible refine (R4.out _ HB0.out).mono ?_); rintro e wn ⟨rfl, rfl⟩)
    | (go_at_call 20; (with_reducible refine (C20.out _).mono ?_); rintro e wa ⟨t, rfl, hr⟩; obtain ⟨pt, ct, rfl, -, -, hby, -⟩ := hr.at2; have hcv := conv_at wa pt ct ll HLB.out hby; rw [← HSL.out] at hcv; have hb1 := hr.2; clear hr hby; have hg2 := (hb1.block _ (by simp; exact Nat.lt_succ_of_lt HS0.out)).trans ((((Below.refl w0.heap.size w0).alloc (Nat.le_refl _) (.cells #[.int .u64 x1, .int .u64 x2, .int .i64 x3, .int .i64 x4] 38)).block _ HS0.out).trans HG0.out); have z0 := row_cell (i := 0) hg2 rfl; have z1 := row_cell (i := 1) hg2 rfl; have z2 := row_cell (i := 2) hg2 rfl; have z3 := row_cell (i := 3) hg2 rfl; have f0 := row_frozen (i := 0) hg2; have f1 := row_frozen (i := 1) hg2; have f2 := row_frozen (i := 2) hg2; have f3 := row_frozen (i := 3) hg2; have m0 : wa.cell? ⟨w0.heap.size, 0, none⟩ = some (.int .u64 x1) := (hb1.cell (by simp)).trans (by go_cell); have m1 : wa.cell? ⟨w0.heap.size, 1, none⟩ = some (.int .u64 x2) := (hb1.cell (by simp)).trans (by go_cell); have m2 : wa.cell? ⟨w0.heap.size, 2, none⟩ = some (.int .i64 x3) := (hb1.cell (by simp)).trans (by go_cell); have m3 : wa.cell? ⟨w0.heap.size, 3, none⟩ = some (.int .i64 x4) := (hb1.cell (by simp)).trans (by go_cell); have HBA := Lib.hid (kbT HB0.out (kbA hb1)); clear hb1 hg2; have hcl := CV.out wa HBA.out))
  refine bodyPost_ret (v := .tuple #[headV x1 x2 x3 x4, .int .i64 0]) ?_ rfl ⟨rfl, ?_⟩
  · simp [results, Try.results22, go_sem, headV, z0, z1, z2, z3]
  · exact (((HBA.out.setCell (Nat.le_refl _) _).setCell (Nat.le_refl _) _).setCell (Nat.le_refl _) _).setCell (Nat.le_refl _) _
theorem refDecodeHead_any (l : List Nat) (p : Option Addr) (cap : Nat) (w : World) (hcap : l.length ≤ cap) (hc0 : cap ≤ 9223372036854775807) (hb : ∀ b ∈ l, b < 256) (hc : BytesAt w p l) :
    Calls Try.prog 22 #[.slice p l.length cap] w fun r w' => r = .returned (.tuple #[decV l, .int .i64 (decX l)]) ∧ Below w.heap.size w w' := by
  unfold decV decX isHead
  by_cases hl : l.length = 64
  · cases hh : headOk (hN l) (hC l) with
    | false =>
      simp only [hl, decide_true, Bool.true_and, Bool.false_and, Bool.false_eq_true, if_false]
      exact refDecodeHead_no l p cap w hl (by omega) hc0 hb hc hh
    | true =>
      by_cases hq : headL (hS l) (hE l) (hN l) (hC l) = l
      · simp only [hl, hq, decide_true, Bool.true_and, if_true]
        exact refDecodeHead_yes l p cap w hl (by omega) hc0 hb hc hh hq
      · simp only [hl, hq, decide_true, decide_false, Bool.true_and, Bool.false_eq_true, if_false]
        exact refDecodeHead_other l p cap w hl (by omega) hc0 hb hc hh hq
  · simp only [hl, decide_false, Bool.false_and, Bool.false_eq_true, if_false]
    exact refDecodeHead_long l p cap w hl
end Go.Proofs.Ythnllhfdbnnjhaa
