import Derived.Test.YthnllhfdbnnjhaaO16
namespace Go.Proofs.Ythnllhfdbnnjhaa
open Go.RowKit Go.Shelf

theorem bytesAt_lt {w : World} {p : Option Addr} {l : List Nat} (hc : BytesAt w p l) (hne : l ≠ []) : ∃ B off, p = some ⟨B, off, none⟩ ∧ ∀ i, i < l.length → w.cell? ⟨B, off + i, none⟩ = some (.int .u8 (l.getD i 0 : Nat)) := by
  obtain ⟨B, off, rfl, -⟩ := hc 0 (List.length_pos_iff.2 hne)
  refine ⟨B, off, rfl, fun i hi => ?_⟩
  obtain ⟨B', off', e, c⟩ := hc i hi
  injection e with e
  injection e with e1 e2
  subst e1 e2
  exact c
theorem bytesAt_kept {w w' : World} {p : Option Addr} {l : List Nat} (hc : BytesAt w p l) (h : ∀ a v, w.cell? a = some v → w'.cell? a = w.cell? a) : BytesAt w' p l := by
  intro i hi
  obtain ⟨B, off, rfl, c⟩ := hc i hi
  exact ⟨B, off, rfl, (h _ _ c).trans c⟩
theorem bytesAt_below {w w' : World} {p : Option Addr} {l : List Nat} (hc : BytesAt w p l) (h : Below w.heap.size w w') : BytesAt w' p l :=
  bytesAt_kept hc fun _ _ c => h.cell (lt_of_cell_some c)

theorem join_u32 (n c : Nat) (hc : c < 256) (h : 256 * n + c < 2 ^ 32) : bits .or .u32 ((n : Int) * 256) (c : Int) = ((256 * n + c : Nat) : Int) := by
  have e : n * 256 ||| c = 256 * n + c := by
    rw [show n * 256 = 2 ^ 8 * n by omega]
    rw [← Nat.two_pow_add_eq_or_of_lt (show c < 2 ^ 8 by omega)]
  rw [show (n : Int) * 256 = ((n * 256 : Nat) : Int) from (Int.natCast_mul n 256).symm]
  have ha : n * 256 < 2 ^ 32 := by omega
  have hb : c < 2 ^ 32 := by omega
  rw [← e] at h ⊢
  generalize n * 256 = q at *
  show IntKind.u32.wrap ((BitVec.ofInt 32 q ||| BitVec.ofInt 32 c).toNat : Int) = _
  rw [show BitVec.ofInt 32 (q : Int) = BitVec.ofNat 32 q by simp, show BitVec.ofInt 32 (c : Int) = BitVec.ofNat 32 c by simp]
  rw [BitVec.toNat_or, BitVec.toNat_ofNat, BitVec.toNat_ofNat, Nat.mod_eq_of_lt ha, Nat.mod_eq_of_lt hb]
  simp only [IntKind.wrap, IntKind.signed, IntKind.bits, Bool.false_and, Bool.false_eq_true, if_false]
  omega
set_option maxHeartbeats 400000 in
theorem joinC_u32 (n c : Nat) (hc : c < 256) (h : 256 * n + c < 2 ^ 32) (w : World) :
    Calls Try.prog 76 #[.int .u32 n, .int .u8 c] w fun r w' => r = .returned (.int .u32 (256 * n + c : Nat)) ∧ w = w' := by
  have HJ := Lib.hid (join_u32 n c hc h)
  go_enter Try.func76, Try.ntmps76
  go_wp2
  go_ret
  exact ⟨congrArg (fun z => Ending.returned (Value.int .u32 z)) HJ.out, rfl⟩
theorem fold_small_u32 {k : Nat} (hk : k < 4) {x : Nat} (hx : x < 256 ^ k) : 256 * x + 255 < 2 ^ 32 := by
  have h2 : 256 ^ k ≤ 256 ^ (4 - 1) := Nat.pow_le_pow_right (by decide) (by omega)
  simp only [Nat.reducePow, Nat.reduceSub] at h2
  omega
set_option maxRecDepth 100000 in
set_option maxHeartbeats 1000000 in
theorem fixed_u32 (l : List Nat) (p : Option Addr) (cap : Nat) (w : World) (hl : l.length ≤ 100000) (hcap : l.length ≤ cap) (hc0 : cap ≤ 9223372036854775807) (hb : ∀ b ∈ l, b < 256) (hc : Hid (BytesAt w p l)) :
    Calls Try.prog 75 #[.slice p l.length cap, .int .u64 4, .func (.func 76) #[] #[]] w fun r w' => r = .returned (.tuple #[.int .u32 (readFixE 4 l).1, .int .i64 (readFixE 4 l).2]) ∧ Below w.heap.size w w' := by
  have HB := Lib.hid hb
  clear hb
  have hR := rest_new (· < w.heap.size) w p cap l 154 hcap hc.out (fun _ _ _ h => h) (Nat.lt_irrefl _)
  have B1 : Hid (Below w.heap.size w (w.alloc (.cells #[.slice p l.length cap] 154))) := Lib.hid ((Below.refl _ _).alloc (Nat.le_refl _) _)
  by_cases hlm : l.length < 4
  · have e : readFixE 4 l = (0, 130) := by unfold readFixE; rw [if_pos hlm]
    rw [e]
    have HCT := Lib.hid (take_more 4 w.heap.size p cap l _ hlm (by omega) hR)
    clear hR
    go_enter Try.func75, Try.ntmps75
    go_wp2_with (go_at_call 81; refine HCT.out.mono ?_; rintro e w' ⟨rfl, rfl⟩)
    go_ret2
    exact ⟨rfl, B1.out⟩
  · have e : readFixE 4 l = (foldN (l.take 4), 0) := by unfold readFixE; rw [if_neg hlm]; rfl
    rw [e]
    clear e
    have HCT := Lib.hid (take_rest 4 w.heap.size p cap l _ (by omega) hc0 hR)
    obtain ⟨B, off, rfl, hcs⟩ := bytesAt_lt (hR.taken 4 (Only.step .refl (.slice (restAt p cap 4) (l.length - 4) (cap - 4)))) (fun h => by
      have := congrArg List.length h
      rw [List.length_take, List.length_nil] at this
      omega)
    have HW : Hid (Below w.heap.size w ((w.alloc (.cells #[.slice (some ⟨B, off, none⟩) l.length cap] 154)).setCell ⟨w.heap.size, 0, none⟩ (.slice (restAt (some ⟨B, off, none⟩) cap 4) (l.length - 4) (cap - 4)))) := Lib.hid (B1.out.setCell (Nat.le_refl _) _)
    generalize ((w.alloc (.cells #[.slice (some ⟨B, off, none⟩) l.length cap] 154)).setCell ⟨w.heap.size, 0, none⟩ (.slice (restAt (some ⟨B, off, none⟩) cap 4) (l.length - 4) (cap - 4))) = W2 at HCT hcs HW
    have hlt4 : (l.take 4).length = 4 := by simp; omega
    have HS : Hid (∀ k, k < 4 → W2.cell? ⟨B, off + k, none⟩ = some (.int .u8 (l.getD k 0 : Nat))) := Lib.hid fun k hk => by
      have := hcs k (by omega)
      rw [this]
      simp [List.getD_eq_getElem?_getD, List.getElem?_take, hk]
    clear hcs hR hlt4 B1
    go_enter Try.func75, Try.ntmps75
    go_wp2_with (go_at_call 81; refine HCT.out.mono ?_; rintro e w' ⟨rfl, rfl⟩)
    go_loop [8, 13, 28] (fun n _ i => ∃ k x : Nat, k ≤ 4 ∧ i = .int .i64 k ∧ n = .int .u32 x ∧ Hid (x = foldN (l.take k))) (fun _ _ i => 4 - (intOf i).toNat)
    case atStart => exact ⟨0, 0, Nat.zero_le _, rfl, rfl, Lib.hid rfl⟩
    case round =>
      obtain ⟨k, x, hk, rfl, rfl, HX⟩ := hrel
      by_cases hlt : k < 4
      · have hkl : k < l.length := by omega
        have c := HS.out k hlt
        have hn := foldN_next hkl
        have hlt2 := foldN_lt HB.out k (by omega)
        rw [← HX.out] at hn hlt2
        obtain ⟨b, hbk⟩ : ∃ b, b = l.getD k 0 := ⟨_, rfl⟩
        have hb' := (byte_of HB.out hkl).1
        rw [← hbk] at c hb' hn
        have HN := Lib.hid hn
        have hs := fold_small_u32 hlt hlt2
        have hen : ∀ (args : Array Value) (w : World), (callFunc 76 args).run Try.prog w = .ok (.enter 76 args) w := enters_of Try.func76 (by kernel_rfl) rfl
        have HC := Lib.hid (joinC_u32 x b hb' (by omega))
        clear hbk hn hlt2
        go_wp2_with (with_reducible refine (HC.out _).mono ?_; rintro e w' ⟨rfl, rfl⟩)
        go_round
        case rel => exact ⟨k + 1, 256 * x + b, by omega, by go_num, by first | rfl | go_num, Lib.hid HN.out.symm⟩
        case measure => simp [intOf]; omega
      · obtain rfl : k = 4 := by omega
        go_wp2
        go_ret2
        exact ⟨by have hx := HX.out; subst hx; rfl, HW.out⟩
set_option maxHeartbeats 400000 in
theorem readFour_any (l : List Nat) (p : Option Addr) (cap : Nat) (w : World) (hl : l.length ≤ 100000) (hcap : l.length ≤ cap) (hc0 : cap ≤ 9223372036854775807) (hb : ∀ b ∈ l, b < 256) (hc : Hid (BytesAt w p l)) :
    Calls Try.prog 58 #[.slice p l.length cap] w fun r w' => r = .returned (.tuple #[.int .u32 (readFixE 4 l).1, .int .i64 (readFixE 4 l).2]) ∧ Below w.heap.size w w' := by
  have C := Lib.hid (fixed_u32 l p cap w hl hcap hc0 hb hc)
  generalize readFixE 4 l = R at C ⊢
  obtain ⟨x, e⟩ := R
  simp only at C
  go_enter Try.func58, Try.ntmps58
  go_wp2_with (go_at_call 75; refine C.out.mono ?_; rintro e w' ⟨rfl, hB⟩)
  go_ret2
  exact ⟨rfl, hB⟩

theorem join_u64 (n c : Nat) (hc : c < 256) (h : 256 * n + c < 2 ^ 64) : bits .or .u64 ((n : Int) * 256) (c : Int) = ((256 * n + c : Nat) : Int) := by
  have e : n * 256 ||| c = 256 * n + c := by
    rw [show n * 256 = 2 ^ 8 * n by omega]
    rw [← Nat.two_pow_add_eq_or_of_lt (show c < 2 ^ 8 by omega)]
  rw [show (n : Int) * 256 = ((n * 256 : Nat) : Int) from (Int.natCast_mul n 256).symm]
  have ha : n * 256 < 2 ^ 64 := by omega
  have hb : c < 2 ^ 64 := by omega
  rw [← e] at h ⊢
  generalize n * 256 = q at *
  show IntKind.u64.wrap ((BitVec.ofInt 64 q ||| BitVec.ofInt 64 c).toNat : Int) = _
  rw [show BitVec.ofInt 64 (q : Int) = BitVec.ofNat 64 q by simp, show BitVec.ofInt 64 (c : Int) = BitVec.ofNat 64 c by simp]
  rw [BitVec.toNat_or, BitVec.toNat_ofNat, BitVec.toNat_ofNat, Nat.mod_eq_of_lt ha, Nat.mod_eq_of_lt hb]
  simp only [IntKind.wrap, IntKind.signed, IntKind.bits, Bool.false_and, Bool.false_eq_true, if_false]
  omega
set_option maxHeartbeats 400000 in
theorem joinC_u64 (n c : Nat) (hc : c < 256) (h : 256 * n + c < 2 ^ 64) (w : World) :
    Calls Try.prog 74 #[.int .u64 n, .int .u8 c] w fun r w' => r = .returned (.int .u64 (256 * n + c : Nat)) ∧ w = w' := by
  have HJ := Lib.hid (join_u64 n c hc h)
  go_enter Try.func74, Try.ntmps74
  go_wp2
  go_ret
  exact ⟨congrArg (fun z => Ending.returned (Value.int .u64 z)) HJ.out, rfl⟩
theorem fold_small_u64 {k : Nat} (hk : k < 8) {x : Nat} (hx : x < 256 ^ k) : 256 * x + 255 < 2 ^ 64 := by
  have h2 : 256 ^ k ≤ 256 ^ (8 - 1) := Nat.pow_le_pow_right (by decide) (by omega)
  simp only [Nat.reducePow, Nat.reduceSub] at h2
  omega
set_option maxRecDepth 100000 in
set_option maxHeartbeats 1000000 in
theorem fixed_u64 (l : List Nat) (p : Option Addr) (cap : Nat) (w : World) (hl : l.length ≤ 100000) (hcap : l.length ≤ cap) (hc0 : cap ≤ 9223372036854775807) (hb : ∀ b ∈ l, b < 256) (hc : Hid (BytesAt w p l)) :
    Calls Try.prog 73 #[.slice p l.length cap, .int .u64 8, .func (.func 74) #[] #[]] w fun r w' => r = .returned (.tuple #[.int .u64 (readFixE 8 l).1, .int .i64 (readFixE 8 l).2]) ∧ Below w.heap.size w w' := by
  have HB := Lib.hid hb
  clear hb
  have hR := rest_new (· < w.heap.size) w p cap l 154 hcap hc.out (fun _ _ _ h => h) (Nat.lt_irrefl _)
  have B1 : Hid (Below w.heap.size w (w.alloc (.cells #[.slice p l.length cap] 154))) := Lib.hid ((Below.refl _ _).alloc (Nat.le_refl _) _)
  by_cases hlm : l.length < 8
  · have e : readFixE 8 l = (0, 130) := by unfold readFixE; rw [if_pos hlm]
    rw [e]
    have HCT := Lib.hid (take_more 8 w.heap.size p cap l _ hlm (by omega) hR)
    clear hR
    go_enter Try.func73, Try.ntmps73
    go_wp2_with (go_at_call 81; refine HCT.out.mono ?_; rintro e w' ⟨rfl, rfl⟩)
    go_ret2
    exact ⟨rfl, B1.out⟩
  · have e : readFixE 8 l = (foldN (l.take 8), 0) := by unfold readFixE; rw [if_neg hlm]; rfl
    rw [e]
    clear e
    have HCT := Lib.hid (take_rest 8 w.heap.size p cap l _ (by omega) hc0 hR)
    obtain ⟨B, off, rfl, hcs⟩ := bytesAt_lt (hR.taken 8 (Only.step .refl (.slice (restAt p cap 8) (l.length - 8) (cap - 8)))) (fun h => by
      have := congrArg List.length h
      rw [List.length_take, List.length_nil] at this
      omega)
    have HW : Hid (Below w.heap.size w ((w.alloc (.cells #[.slice (some ⟨B, off, none⟩) l.length cap] 154)).setCell ⟨w.heap.size, 0, none⟩ (.slice (restAt (some ⟨B, off, none⟩) cap 8) (l.length - 8) (cap - 8)))) := Lib.hid (B1.out.setCell (Nat.le_refl _) _)
    generalize ((w.alloc (.cells #[.slice (some ⟨B, off, none⟩) l.length cap] 154)).setCell ⟨w.heap.size, 0, none⟩ (.slice (restAt (some ⟨B, off, none⟩) cap 8) (l.length - 8) (cap - 8))) = W2 at HCT hcs HW
    have hlt4 : (l.take 8).length = 8 := by simp; omega
    have HS : Hid (∀ k, k < 8 → W2.cell? ⟨B, off + k, none⟩ = some (.int .u8 (l.getD k 0 : Nat))) := Lib.hid fun k hk => by
      have := hcs k (by omega)
      rw [this]
      simp [List.getD_eq_getElem?_getD, List.getElem?_take, hk]
    clear hcs hR hlt4 B1
    go_enter Try.func73, Try.ntmps73
    go_wp2_with (go_at_call 81; refine HCT.out.mono ?_; rintro e w' ⟨rfl, rfl⟩)
    go_loop [8, 13, 28] (fun n _ i => ∃ k x : Nat, k ≤ 8 ∧ i = .int .i64 k ∧ n = .int .u64 x ∧ Hid (x = foldN (l.take k))) (fun _ _ i => 8 - (intOf i).toNat)
    case atStart => exact ⟨0, 0, Nat.zero_le _, rfl, rfl, Lib.hid rfl⟩
    case round =>
      obtain ⟨k, x, hk, rfl, rfl, HX⟩ := hrel
      by_cases hlt : k < 8
      · have hkl : k < l.length := by omega
        have c := HS.out k hlt
        have hn := foldN_next hkl
        have hlt2 := foldN_lt HB.out k (by omega)
        rw [← HX.out] at hn hlt2
        obtain ⟨b, hbk⟩ : ∃ b, b = l.getD k 0 := ⟨_, rfl⟩
        have hb' := (byte_of HB.out hkl).1
        rw [← hbk] at c hb' hn
        have HN := Lib.hid hn
        have hs := fold_small_u64 hlt hlt2
        have hen : ∀ (args : Array Value) (w : World), (callFunc 74 args).run Try.prog w = .ok (.enter 74 args) w := enters_of Try.func74 (by kernel_rfl) rfl
        have HC := Lib.hid (joinC_u64 x b hb' (by omega))
        clear hbk hn hlt2
        go_wp2_with (with_reducible refine (HC.out _).mono ?_; rintro e w' ⟨rfl, rfl⟩)
        go_round
        case rel => exact ⟨k + 1, 256 * x + b, by omega, by go_num, by first | rfl | go_num, Lib.hid HN.out.symm⟩
        case measure => simp [intOf]; omega
      · obtain rfl : k = 8 := by omega
        go_wp2
        go_ret2
        exact ⟨by have hx := HX.out; subst hx; rfl, HW.out⟩
set_option maxHeartbeats 400000 in
theorem readEight_any (l : List Nat) (p : Option Addr) (cap : Nat) (w : World) (hl : l.length ≤ 100000) (hcap : l.length ≤ cap) (hc0 : cap ≤ 9223372036854775807) (hb : ∀ b ∈ l, b < 256) (hc : Hid (BytesAt w p l)) :
    Calls Try.prog 56 #[.slice p l.length cap] w fun r w' => r = .returned (.tuple #[.int .u64 (readFixE 8 l).1, .int .i64 (readFixE 8 l).2]) ∧ Below w.heap.size w w' := by
  have C := Lib.hid (fixed_u64 l p cap w hl hcap hc0 hb hc)
  generalize readFixE 8 l = R at C ⊢
  obtain ⟨x, e⟩ := R
  simp only at C
  go_enter Try.func56, Try.ntmps56
  go_wp2_with (go_at_call 73; refine C.out.mono ?_; rintro e w' ⟨rfl, hB⟩)
  go_ret2
  exact ⟨rfl, hB⟩
end Go.Proofs.Ythnllhfdbnnjhaa
