import Derived.Test.YthnllhfdbnnjhaaO21
namespace Go.Proofs.Ythnllhfdbnnjhaa
open Go.RowKit Go.Shelf

theorem and1_u32 (T : BitVec 32) : bits .and .u32 (T.toNat : Int) 1 = (T.toNat % 2 : Nat) := by
  show IntKind.u32.wrap ((BitVec.ofInt 32 T.toNat &&& BitVec.ofInt 32 1).toNat : Int) = _
  rw [show BitVec.ofInt 32 (T.toNat : Int) = T by simp, show BitVec.ofInt 32 (1 : Int) = 1#32 by rfl]
  rw [BitVec.toNat_and, show (1#32).toNat = 1 from rfl, Nat.and_one_is_mod]
  simp only [IntKind.wrap, IntKind.signed, IntKind.bits, Bool.false_and, Bool.false_eq_true, if_false]
  omega
theorem step_one (T : BitVec 32) (h : T.toNat % 2 = 1) : bits .xor .u32 ((T.toNat : Int) / 2) 3988292384 = (bitStep T).toNat := by
  have e : bitStep T = (T >>> 1) ^^^ 0xedb88320#32 := by unfold bitStep; rw [if_pos h]
  rw [e, ← xor_u32]
  congr 1
theorem step_nil (T : BitVec 32) (h : T.toNat % 2 = 0) : bits .xor .u32 ((T.toNat : Int) / 2) 0 = (bitStep T).toNat := by
  have e : bitStep T = T >>> 1 := by unfold bitStep; rw [if_neg (by omega)]
  have e2 : bits .xor .u32 (((T >>> 1).toNat : Int)) (((0#32 : BitVec 32)).toNat : Int) = ((T >>> 1) ^^^ 0#32).toNat := xor_u32 _ _
  rw [BitVec.xor_zero] at e2
  rw [e]
  have e3 : (T.toNat : Int) / (2 : Int) = ((T >>> 1).toNat : Int) := by
    rw [BitVec.toNat_ushiftRight, Nat.shiftRight_eq_div_pow]
    omega
  rw [e3]
  exact e2
set_option maxRecDepth 100000 in
set_option maxHeartbeats 1000000 in
theorem low_any (x : Nat) (hx : x < 16) (w : World) :
    Calls Try.prog 93 #[.int .i64 x] w fun r w' => r = .returned (.int .u32 (bitSteps 4 (BitVec.ofNat 32 x)).toNat) ∧ w = w' := by
  have hx0 : (x : Int) = ((BitVec.ofNat 32 x).toNat : Int) := by simp; omega
  obtain ⟨S, hS⟩ : ∃ S, S = BitVec.ofNat 32 x := ⟨_, rfl⟩
  rw [← hS] at hx0 ⊢
  have HX := Lib.hid hx0
  clear hx0 hS
  go_enter Try.func93, Try.ntmps93
  go_wp2
  go_loop [3, 6] (fun s i => ∃ k : Nat, k ≤ 4 ∧ i = .int .i64 k ∧ s = .int .u32 (bitSteps k S).toNat) (fun _ i => 4 - (intOf i).toNat)
  case atStart => exact ⟨0, Nat.zero_le _, rfl, congrArg (Value.int .u32) HX.out⟩
  case round =>
    obtain ⟨k, hk, rfl, rfl⟩ := hrel
    by_cases h4 : k < 4
    · have HJ := Lib.hid (bitSteps_next k S)
      generalize bitSteps k S = T at HJ ⊢
      have hT := T.isLt
      have hA := and1_u32 T
      by_cases ht : T.toNat % 2 = 1
      · have HE := Lib.hid (step_one T ht)
        rw [ht] at hA
        go_wp2
        exact ⟨⟨k + 1, by omega, by go_num, by rw [HJ.out, HE.out]⟩, by simp [intOf]; omega⟩
      · have ht0 : T.toNat % 2 = 0 := by omega
        have HE := Lib.hid (step_nil T ht0)
        rw [ht0] at hA
        go_wp2
        exact ⟨⟨k + 1, by omega, by go_num, by rw [HJ.out, HE.out]⟩, by simp [intOf]; omega⟩
    · obtain rfl : k = 4 := by omega
      go_wp2
      go_ret
      exact ⟨rfl, rfl⟩
/-- The sum's table, before it is made. -/
structure TabNew (W : World) (b : Nat) : Prop where
  c0 : W.cell? ⟨b, 0, none⟩ = some (.int .u32 0)
  c1 : W.cell? ⟨b, 1, none⟩ = some (.int .i32 0)
  c3 : W.cell? ⟨b, 3, none⟩ = some (.int .i64 0)
  c4 : W.cell? ⟨b, 4, none⟩ = some (.slice none 0 0)
  f0 : W.frozen? ⟨b, 0, none⟩ = false
  f1 : W.frozen? ⟨b, 1, none⟩ = false
  f3 : W.frozen? ⟨b, 3, none⟩ = false
  f4 : W.frozen? ⟨b, 4, none⟩ = false
/-- The sum's table, made. -/
structure TabFull (W : World) (b : Nat) : Prop where
  c0 : W.cell? ⟨b, 0, none⟩ = some (.int .u32 1)
  four : ∃ g, W.cell? ⟨b, 4, none⟩ = some (.slice (some ⟨g, 0, none⟩) 16 16) ∧ ∀ i, i < 16 → W.cell? ⟨g, i, none⟩ = some (.int .u32 (bitSteps 4 (BitVec.ofNat 32 i)).toNat)
set_option maxRecDepth 100000 in
set_option maxHeartbeats 1600000 in
theorem fill_any (b : Nat) (w : World) (h3 : w.cell? ⟨b, 3, none⟩ = some (.int .i64 0)) (h4 : w.cell? ⟨b, 4, none⟩ = some (.slice none 0 0)) (f3 : w.frozen? ⟨b, 3, none⟩ = false) (f4 : w.frozen? ⟨b, 4, none⟩ = false) :
    Calls Try.prog 80 #[.pointer (some ⟨b, 0, none⟩)] w fun r w' => r = .returned (.tuple #[]) ∧ ∃ w2, Below w.heap.size (w.setCell ⟨b, 3, none⟩ (.int .i64 1)) w2 ∧ w2.rowIs w.heap.size 49 16 (fun i => .int .u32 (bitSteps 4 (BitVec.ofNat 32 i)).toNat) ∧ w' = w2.setCell ⟨b, 4, none⟩ (.slice (some ⟨w.heap.size, 0, none⟩) 16 16) := by
  have hb := lt_of_cell_some h3
  simp only at hb
  have A := Lib.hid (int_add ⟨b, 3, none⟩ w h3 f3 ⟨b, 3, rfl⟩)
  have hs : (w.setCell ⟨b, 3, none⟩ (.int .i64 1)).heap.size = w.heap.size := by simp [World.setCell]
  have E := each0_any 16 (by omega) 93 (fun i => (bitSteps 4 (BitVec.ofNat 32 i)).toNat) (w.setCell ⟨b, 3, none⟩ (.int .i64 1)) (enters_of Try.func93 (by kernel_rfl) rfl) (Lib.hid fun i hi wr _ => low_any i hi wr)
  rw [hs] at E
  have HE := Lib.hid E
  clear E
  go_enter Try.func80, Try.ntmps80
  go_wp2_with (go_at_call 91; refine A.out.mono ?_; rintro e w' ⟨rfl, rfl⟩)
  refine HE.out.mono ?_
  rintro e w2 ⟨rfl, hr, hb2⟩
  have k4 := (hb2.cell (p := ⟨b, 4, none⟩) hb).trans ((World.cell?_setCell_other w ⟨b, 3, none⟩ ⟨b, 4, none⟩ (.int .i64 1) (by simp)).trans h4)
  have z4 := (hb2.frozen (p := ⟨b, 4, none⟩) hb).trans ((World.frozen?_setCell _ _ _ _).trans f4)
  have HR := Lib.hid hr
  have HB2 := Lib.hid hb2
  clear hr hb2
  go_wp2
  go_end0
  exact ⟨rfl, _, HB2.out, HR.out, rfl⟩
set_option maxRecDepth 100000 in
set_option maxHeartbeats 1600000 in
theorem slow_any (b : Nat) (w : World) (T : TabNew w b) :
    Calls Try.prog 90 #[.pointer (some ⟨b, 0, none⟩), .func (.func 80) #[.pointer (some ⟨b, 0, none⟩)] #[]] w fun r w' => r = .returned (.tuple #[]) ∧ TabFull w' b ∧ ∀ w0 : World, w0.heap.size ≤ b → Below w0.heap.size w0 w → Below w0.heap.size w0 w' := by
  obtain ⟨c0, c1, c3, c4, f0, f1, f3, f4⟩ := T
  have hb := lt_of_cell_some c0
  simp only at hb
  have hs : (w.setCell ⟨b, 1, none⟩ (.int .i32 1)).heap.size = w.heap.size := by simp [World.setCell]
  have L := Lib.hid (lock_free ⟨b, 1, none⟩ w c1 f1 ⟨b, 1, rfl⟩)
  have k0 : (w.setCell ⟨b, 1, none⟩ (.int .i32 1)).cell? ⟨b, 0, none⟩ = some (.int .u32 0) := (World.cell?_setCell_other _ _ _ _ (by simp)).trans c0
  have BL := Lib.hid (bool_load ⟨b, 0, none⟩ 0 (w.setCell ⟨b, 1, none⟩ (.int .i32 1)) k0 ⟨b, 0, rfl⟩)
  have FL := fill_any b (w.setCell ⟨b, 1, none⟩ (.int .i32 1)) ((World.cell?_setCell_other _ _ _ _ (by simp)).trans c3) ((World.cell?_setCell_other _ _ _ _ (by simp)).trans c4) ((World.frozen?_setCell _ _ _ _).trans f3) ((World.frozen?_setCell _ _ _ _).trans f4)
  rw [hs] at FL
  have HFL := Lib.hid FL
  clear FL
  have hen : ∀ (args : Array Value) (w : World), (callFunc 80 args).run Try.prog w = .ok (.enter 80 args) w := enters_of Try.func80 (by kernel_rfl) rfl
  go_enter_defers Try.func90, Try.ntmps90
  go_wp2_with (first
    | (go_at_call 95; refine L.out.mono ?_; rintro e w' ⟨rfl, rfl⟩)
    | (go_at_call 89; refine BL.out.mono ?_; rintro e w' ⟨rfl, rfl⟩))
  refine HFL.out.mono ?_
  rintro e w1 ⟨rfl, w2, hb2, hr, rfl⟩
  have q0 : w2.cell? ⟨b, 0, none⟩ = some (.int .u32 0) := (hb2.cell (p := ⟨b, 0, none⟩) hb).trans ((World.cell?_setCell_other _ ⟨b, 3, none⟩ ⟨b, 0, none⟩ _ (by simp)).trans k0)
  have q1 : w2.cell? ⟨b, 1, none⟩ = some (.int .i32 1) := (hb2.cell (p := ⟨b, 1, none⟩) hb).trans ((World.cell?_setCell_other _ ⟨b, 3, none⟩ ⟨b, 1, none⟩ _ (by simp)).trans (World.cell?_setCell_same _ _ _ c1))
  have q4 : w2.cell? ⟨b, 4, none⟩ = some (.slice none 0 0) := (hb2.cell (p := ⟨b, 4, none⟩) hb).trans ((World.cell?_setCell_other _ ⟨b, 3, none⟩ ⟨b, 4, none⟩ _ (by simp)).trans ((World.cell?_setCell_other _ ⟨b, 1, none⟩ ⟨b, 4, none⟩ _ (by simp)).trans c4))
  have z0 : w2.frozen? ⟨b, 0, none⟩ = false := (hb2.frozen (p := ⟨b, 0, none⟩) hb).trans ((World.frozen?_setCell _ _ _ _).trans ((World.frozen?_setCell _ _ _ _).trans f0))
  have z1 : w2.frozen? ⟨b, 1, none⟩ = false := (hb2.frozen (p := ⟨b, 1, none⟩) hb).trans ((World.frozen?_setCell _ _ _ _).trans ((World.frozen?_setCell _ _ _ _).trans f1))
  go_wp2
  try go_end0
  try go_wp2
  refine leaves_cons (f := 97) (args := #[.pointer (some ⟨b, 0, none⟩), .bool true]) (by simp) (by simp [go_sem]) ?_
  refine (bool_store ⟨b, 0, none⟩ (.int .u32 0) .returning _ ?_ (by simp [z0])).mono ?_
  · exact (World.cell?_setCell_other _ ⟨b, 4, none⟩ ⟨b, 0, none⟩ _ (by simp)).trans q0
  rintro e u' w'' ⟨rfl, rfl, rfl⟩
  refine leaves_cons (f := 96) (args := #[.pointer (some ⟨b, 1, none⟩)]) (by simp [settle]) (by simp [go_sem]) ?_
  refine (unlock_deferred ⟨b, 1, none⟩ _ _ ?_ (by simp [z1]) ⟨b, 1, rfl⟩).mono ?_
  · refine (World.cell?_setCell_other _ ⟨b, 0, none⟩ ⟨b, 1, none⟩ _ (by simp)).trans ?_
    rw [World.cell?_drew]
    exact (World.cell?_setCell_other _ ⟨b, 4, none⟩ ⟨b, 1, none⟩ _ (by simp)).trans q1
  rintro e u' w'' ⟨rfl, rfl, rfl⟩
  have fin : TabFull (((w2.setCell ⟨b, 4, none⟩ (.slice (some ⟨w.heap.size, 0, none⟩) 16 16)).drew.setCell ⟨b, 0, none⟩ (.int .u32 1)).setCell ⟨b, 1, none⟩ (.int .i32 0)) b := by
    have hne : ∀ i j, (⟨w.heap.size, i, none⟩ : Addr) ≠ ⟨b, j, none⟩ := fun i j h => by
      have := congrArg Addr.block h
      simp at this
      omega
    refine ⟨?_, w.heap.size, ?_, fun i hi => ?_⟩
    · rw [World.cell?_setCell_other _ ⟨b, 1, none⟩ ⟨b, 0, none⟩ _ (by simp)]
      have o0 : (w2.setCell ⟨b, 4, none⟩ (.slice (some ⟨w.heap.size, 0, none⟩) 16 16)).drew.cell? ⟨b, 0, none⟩ = some (.int .u32 0) := by
        rw [World.cell?_drew]
        exact (World.cell?_setCell_other _ ⟨b, 4, none⟩ ⟨b, 0, none⟩ _ (by simp)).trans q0
      exact World.cell?_setCell_same _ _ _ o0
    · rw [World.cell?_setCell_other _ ⟨b, 1, none⟩ ⟨b, 4, none⟩ _ (by simp), World.cell?_setCell_other _ ⟨b, 0, none⟩ ⟨b, 4, none⟩ _ (by simp), World.cell?_drew]
      exact World.cell?_setCell_same _ _ _ q4
    · rw [World.cell?_setCell_other _ _ _ _ (hne _ _).symm, World.cell?_setCell_other _ _ _ _ (hne _ _).symm, World.cell?_drew, World.cell?_setCell_other _ _ _ _ (hne _ _).symm]
      exact hr.cell hi
  have bel : ∀ w0 : World, w0.heap.size ≤ b → Below w0.heap.size w0 w → Below w0.heap.size w0 (((w2.setCell ⟨b, 4, none⟩ (.slice (some ⟨w.heap.size, 0, none⟩) 16 16)).drew.setCell ⟨b, 0, none⟩ (.int .u32 1)).setCell ⟨b, 1, none⟩ (.int .i32 0)) := fun w0 hw hB =>
    (((((((hB.setCell (p := ⟨b, 1, none⟩) hw _).setCell (p := ⟨b, 3, none⟩) hw _).trans (hb2.mono hB.size)).setCell (p := ⟨b, 4, none⟩) hw _).drew).setCell (p := ⟨b, 0, none⟩) hw _).setCell (p := ⟨b, 1, none⟩) hw _)
  have HF := Lib.hid fin
  have HBel := Lib.hid bel
  clear fin bel
  simp [Leaves, settle, results, Try.results90]
  exact ⟨HF.out, HBel.out⟩
set_option maxHeartbeats 1600000 in
theorem do_first (b : Nat) (w : World) (T : TabNew w b) :
    Calls Try.prog 79 #[.pointer (some ⟨b, 0, none⟩), .func (.func 80) #[.pointer (some ⟨b, 0, none⟩)] #[]] w fun r w' => r = .returned (.tuple #[]) ∧ TabFull w' b ∧ ∀ w0 : World, w0.heap.size ≤ b → Below w0.heap.size w0 w → Below w0.heap.size w0 w' := by
  have BL := Lib.hid (bool_load ⟨b, 0, none⟩ 0 w T.c0 ⟨b, 0, rfl⟩)
  have SL := Lib.hid (slow_any b w T)
  go_enter Try.func79, Try.ntmps79
  go_wp2_with (first
    | (go_at_call 89; refine BL.out.mono ?_; rintro e w' ⟨rfl, rfl⟩)
    | (go_at_call 90; refine SL.out.mono ?_; rintro e w' ⟨rfl, hT, hB⟩))
  go_end0
  exact ⟨rfl, hT, hB⟩
set_option maxHeartbeats 1600000 in
theorem do_done (b : Nat) (fv : Value) (w : World) (T : TabFull w b) :
    Calls Try.prog 79 #[.pointer (some ⟨b, 0, none⟩), fv] w fun r w' => r = .returned (.tuple #[]) ∧ w = w' := by
  have BL := Lib.hid (bool_load ⟨b, 0, none⟩ 1 w T.c0 ⟨b, 0, rfl⟩)
  go_enter Try.func79, Try.ntmps79
  go_wp2_with (go_at_call 89; refine BL.out.mono ?_; rintro e w' ⟨rfl, rfl⟩)
  go_end0
  exact ⟨rfl, rfl⟩
theorem and15_u32 (T : BitVec 32) : bits .and .u32 (T.toNat : Int) 15 = (T.toNat % 16 : Nat) := by
  show IntKind.u32.wrap ((BitVec.ofInt 32 T.toNat &&& BitVec.ofInt 32 15).toNat : Int) = _
  rw [show BitVec.ofInt 32 (T.toNat : Int) = T by simp, show BitVec.ofInt 32 (15 : Int) = 15#32 by rfl]
  rw [BitVec.toNat_and, show (15#32).toNat = 2 ^ 4 - 1 from rfl, Nat.and_two_pow_sub_one_eq_mod]
  simp only [IntKind.wrap, IntKind.signed, IntKind.bits, Bool.false_and, Bool.false_eq_true, if_false]
  omega
/-- Four bits at once. -/
theorem nibble_table (s : BitVec 32) : bits .xor .u32 ((s.toNat : Int) / (16 : Int)) ((bitSteps 4 (BitVec.ofNat 32 (s.toNat % 16))).toNat : Int) = (bitSteps 4 s).toNat := by
  have e : s = BitVec.ofNat 32 (s.toNat % 16) ^^^ ((s >>> 4) <<< 4) := by
    apply BitVec.eq_of_toNat_eq
    have h1 : ((s >>> 4) <<< 4).toNat = 2 ^ 4 * (s.toNat / 16) := by
      rw [BitVec.toNat_shiftLeft, BitVec.toNat_ushiftRight, Nat.shiftRight_eq_div_pow, Nat.shiftLeft_eq]
      have := s.isLt
      omega
    rw [BitVec.toNat_xor, h1, BitVec.toNat_ofNat, Nat.mod_eq_of_lt (by omega)]
    have h2 : s.toNat % 16 < 2 ^ 4 := by omega
    have h3 : 2 ^ 4 * (s.toNat / 16) + s.toNat % 16 = 2 ^ 4 * (s.toNat / 16) ||| s.toNat % 16 := Nat.two_pow_add_eq_or_of_lt h2 _
    have h4 : (s.toNat % 16) ^^^ 2 ^ 4 * (s.toNat / 16) = 2 ^ 4 * (s.toNat / 16) ||| s.toNat % 16 := by
      apply Nat.eq_of_testBit_eq
      intro i
      rw [Nat.testBit_xor, Nat.testBit_or, Nat.testBit_two_pow_mul]
      by_cases hi : 4 ≤ i
      · rw [Nat.testBit_lt_two_pow (Nat.lt_of_lt_of_le h2 (Nat.pow_le_pow_right (by decide) hi))]
        simp
      · simp [hi]
    rw [h4, ← h3]
    omega
  have e9 : ((s >>> 4) <<< 4).toNat % 2 ^ 4 = 0 := by
    rw [BitVec.toNat_shiftLeft, Nat.shiftLeft_eq]
    omega
  have e8 : (s >>> 4) <<< 4 >>> 4 = s >>> 4 := by
    apply BitVec.eq_of_toNat_eq
    rw [BitVec.toNat_ushiftRight, BitVec.toNat_shiftLeft, BitVec.toNat_ushiftRight, Nat.shiftRight_eq_div_pow, Nat.shiftRight_eq_div_pow, Nat.shiftLeft_eq]
    have := s.isLt
    omega
  have e10 := bitSteps_even 4 _ e9
  rw [e8] at e10
  have e11 := bitSteps_xor 4 (BitVec.ofNat 32 (s.toNat % 16)) ((s >>> 4) <<< 4)
  rw [← e, e10, BitVec.xor_comm] at e11
  rw [e11, ← xor_u32]
  congr 1
  rw [BitVec.toNat_ushiftRight, Nat.shiftRight_eq_div_pow]
  omega
set_option maxRecDepth 100000 in
set_option maxHeartbeats 1600000 in
theorem down_any (b : Nat) (s : BitVec 32) (w : World) (T : TabNew w b ∨ TabFull w b) :
    Calls Try.prog 72 #[.pointer (some ⟨b, 0, none⟩), .int .u32 s.toNat] w fun r w' => r = .returned (.int .u32 (bitSteps 4 s).toNat) ∧ TabFull w' b ∧ ∀ w0 : World, w0.heap.size ≤ b → Below w0.heap.size w0 w → Below w0.heap.size w0 w' := by
  have hmf : ∀ (fn : Fn) (first cap : Array Value) (w : World), (Instr.makeFunc fn first cap).run Try.prog w = .ok (.func fn first cap) w := fun _ _ _ _ => rfl
  have D : Hid (Calls Try.prog 79 #[.pointer (some ⟨b, 0, none⟩), .func (.func 80) #[.pointer (some ⟨b, 0, none⟩)] #[]] w fun r w' => r = .returned (.tuple #[]) ∧ TabFull w' b ∧ ∀ w0 : World, w0.heap.size ≤ b → Below w0.heap.size w0 w → Below w0.heap.size w0 w') := by
    refine Lib.hid ?_
    rcases T with T | T
    · exact do_first b w T
    · refine (do_done b _ w T).mono ?_
      rintro e w' ⟨rfl, rfl⟩
      exact ⟨rfl, T, fun w0 _ h => h⟩
  clear T
  have hS := s.isLt
  have hA := and15_u32 s
  have HN := Lib.hid (nibble_table s)
  go_enter Try.func72, Try.ntmps72
  go_wp2_with (go_at_call 79; refine D.out.mono ?_; rintro e w1 ⟨rfl, hT, hB⟩; obtain ⟨g, h4, hfour⟩ := hT.four; have hc := hfour (s.toNat % 16) (by omega); have HT := Lib.hid hT; have HB := Lib.hid hB; clear hT hB hfour)
  go_ret
  exact ⟨congrArg (fun z => Ending.returned (Value.int .u32 z)) HN.out, HT.out, HB.out⟩
end Go.Proofs.Ythnllhfdbnnjhaa
