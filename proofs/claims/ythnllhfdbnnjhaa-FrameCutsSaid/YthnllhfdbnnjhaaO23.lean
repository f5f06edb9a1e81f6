import Derived.Test.YthnllhfdbnnjhaaO22
namespace Go.Proofs.Ythnllhfdbnnjhaa
open Go.RowKit Go.Shelf

def sumF (s : BitVec 32) (l : List Nat) : BitVec 32 := l.foldl (fun s b => byteStep s (BitVec.ofNat 8 b)) s
theorem sumF_next (s : BitVec 32) (l : List Nat) (k : Nat) (h : k < l.length) (b : Nat) (hb : b = l.getD k 0) : sumF s (l.take (k + 1)) = bitSteps 4 (bitSteps 4 (sumF s (l.take k) ^^^ (BitVec.ofNat 8 b).setWidth 32)) := by
  unfold sumF
  have e : b = l[k] := by rw [hb, List.getD_eq_getElem?_getD, List.getElem?_eq_getElem h]; rfl
  rw [List.take_succ_eq_append_getElem h, List.foldl_append, e]
  rfl
/-- Lists of bytes in a slice of slices. -/
structure ListsAt (w : World) (q : Option Addr) (L : List (Option Addr × List Nat × Nat)) : Prop where
  at' : ∀ i x, L[i]? = some x → ∃ B off, q = some ⟨B, off, none⟩ ∧ w.cell? ⟨B, off + i, none⟩ = some (.slice x.1 x.2.1.length x.2.2) ∧ BytesAt w x.1 x.2.1
  byte : ∀ x ∈ L, (∀ b ∈ x.2.1, b < 256) ∧ x.2.1.length ≤ 100000
def flatL (L : List (Option Addr × List Nat × Nat)) : List Nat := (L.map fun x => x.2.1).flatten
theorem flatL_next {L : List (Option Addr × List Nat × Nat)} {k : Nat} {x : Option Addr × List Nat × Nat} (h : L[k]? = some x) : flatL (L.take (k + 1)) = flatL (L.take k) ++ x.2.1 := by
  obtain ⟨hk, e⟩ := List.getElem?_eq_some_iff.1 h
  unfold flatL
  rw [List.take_succ_eq_append_getElem hk, e]
  simp
theorem sumN_app (l m : List Nat) : sumN (l ++ m) = sumF (sumN l) m := by
  unfold sumN sumF
  rw [List.foldl_append]
set_option maxRecDepth 100000 in
set_option maxHeartbeats 2000000 in
theorem sum_any (L : List (Option Addr × List Nat × Nat)) (q : Option Addr) (cap : Nat) (w : World) (hL : L.length ≤ 100) (hA : Hid (ListsAt w q L)) :
    Calls Try.prog 53 #[.slice q L.length cap] w fun r w' => r = .returned (.int .u32 (~~~ sumN (flatL L)).toNat) ∧ Below w.heap.size w w' := by
  have HD : Hid (∀ (s : BitVec 32) (w' : World), (TabNew w' w.heap.size ∨ TabFull w' w.heap.size) → Calls Try.prog 72 #[.pointer (some ⟨w.heap.size, 0, none⟩), .int .u32 s.toNat] w' fun r w2 => r = .returned (.int .u32 (bitSteps 4 s).toNat) ∧ TabFull w2 w.heap.size ∧ ∀ w0 : World, w0.heap.size ≤ w.heap.size → Below w0.heap.size w0 w' → Below w0.heap.size w0 w2) := Lib.hid fun s w' h => down_any w.heap.size s w' h
  go_enter Try.func53, Try.ntmps53
  go_wp2
  have T0 : TabNew (w.alloc (.cells #[.int .u32 0, .int .i32 0, .int .u32 0, .int .i64 0, .slice none 0 0] 141)) w.heap.size := by constructor <;> first | go_cell | go_simp
  have B0 : Below w.heap.size w (w.alloc (.cells #[.int .u32 0, .int .i32 0, .int .u32 0, .int .i64 0, .slice none 0 0] 141)) := (Below.refl _ _).alloc (Nat.le_refl _) _
  go_loopw [4, 13] (fun s i wr => ∃ k : Nat, k ≤ L.length ∧ i = .int .i64 k ∧ s = .int .u32 (sumN (flatL (L.take k))).toNat ∧ Hid (TabNew wr w.heap.size ∨ TabFull wr w.heap.size) ∧ Hid (Below w.heap.size w wr)) (fun _ i _ => L.length - (intOf i).toNat)
  case atStart => exact ⟨0, Nat.zero_le _, rfl, rfl, Lib.hid (.inl T0), Lib.hid B0⟩
  case round =>
    clear T0 B0
    obtain ⟨k, hk, rfl, rfl, HT, HB⟩ := hrel
    by_cases hlt : k < L.length
    · obtain ⟨x, hx⟩ : ∃ x, L[k]? = some x := ⟨_, List.getElem?_eq_getElem hlt⟩
      obtain ⟨B, off, rfl, c, hbs⟩ := hA.out.at' k x hx
      obtain ⟨hxb, hxl⟩ := hA.out.byte x (List.mem_of_getElem? hx)
      have HX := Lib.hid (flatL_next hx)
      have HXA := Lib.hid (sumN_app (flatL (L.take k)) x.2.1)
      generalize sumN (flatL (L.take k)) = S0 at HXA ⊢
      obtain ⟨p, l, cp⟩ := x
      simp only at c hbs hxb hxl HX HXA
      have HBS := Lib.hid hbs
      have HXB := Lib.hid hxb
      have c' := (HB.out.cell (lt_of_cell_some c)).trans c
      clear hbs hxb hx c
      go_wp2
      go_loopw [4, 19] (fun s i wr => ∃ j : Nat, j ≤ l.length ∧ i = .int .i64 j ∧ s = .int .u32 (sumF S0 (l.take j)).toNat ∧ Hid (TabNew wr w.heap.size ∨ TabFull wr w.heap.size) ∧ Hid (Below w.heap.size w wr)) (fun _ i _ => l.length - (intOf i).toNat)
      case atStart => exact ⟨0, Nat.zero_le _, rfl, rfl, HT, HB⟩
      case round =>
        clear HT HB c'
        obtain ⟨j, hj, rfl, rfl, HT, HB⟩ := hrel
        by_cases hjl : j < l.length
        · obtain ⟨B2, off2, rfl, c2⟩ := HBS.out j hjl
          have c3 := (HB.out.cell (lt_of_cell_some c2)).trans c2
          obtain ⟨b, hbk⟩ : ∃ b, b = l.getD j 0 := ⟨_, rfl⟩
          have hb' := (byte_of HXB.out hjl).1
          rw [← hbk] at c3 hb'
          have HN := Lib.hid (sumF_next S0 l j hjl b hbk)
          have e1 : bits .xor .u32 (sumF S0 (l.take j)).toNat b = (sumF S0 (l.take j) ^^^ (BitVec.ofNat 8 b).setWidth 32).toNat := by
            rw [← xor_u32]
            congr 1
            simp
            omega
          clear hbk c2
          generalize sumF S0 (l.take j) = S at e1 HN ⊢
          generalize S ^^^ (BitVec.ofNat 8 b).setWidth 32 = S1 at e1 HN
          have hD1 := Lib.hid (HD.out S1 _ HT.out)
          have hD2 := Lib.hid (fun w2 h => HD.out (bitSteps 4 S1) w2 (.inr h))
          go_wp2_with (first
            | (go_at_call 72; with_reducible refine hD1.out.mono ?_; rintro e w2 ⟨rfl, hT2, hB2⟩; have HB2 := Lib.hid (hB2 w (Nat.le_refl _) HB.out); have HT2 := Lib.hid hT2; clear hT2 hB2)
            | (go_at_call 72; with_reducible refine (hD2.out _ HT2.out).mono ?_; rintro e w3 ⟨rfl, hT3, hB3⟩; have HB3 := Lib.hid (hB3 w (Nat.le_refl _) HB2.out); have HT3 := Lib.hid hT3; clear hT3 hB3))
          exact ⟨⟨j + 1, by omega, by go_num, by rw [HN.out], Lib.hid (.inr HT3.out), HB3⟩, by simp [intOf]; omega⟩
        · obtain rfl : j = l.length := by omega
          rw [List.take_length, ← HXA.out, ← HX.out] at *
          go_wp2
          exact ⟨⟨k + 1, by omega, by go_num, rfl, HT, HB⟩, by simp [intOf]; omega⟩
    · obtain rfl : k = L.length := by omega
      rw [List.take_length]
      have e2 : bits .xor .u32 IntKind.u32.max (sumN (flatL L)).toNat = (~~~ sumN (flatL L)).toNat := by
        rw [show IntKind.u32.max = ((0xffffffff#32).toNat : Int) from rfl, xor_u32]
        rw [show 0xffffffff#32 = BitVec.allOnes 32 from rfl, BitVec.allOnes_xor]
      go_wp2
      go_ret
      exact ⟨rfl, HB.out⟩
end Go.Proofs.Ythnllhfdbnnjhaa
