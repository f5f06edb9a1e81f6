import Derived.Test.YtcngoffmkbobhaaGreatDoorT7
namespace Go.Proofs.YtcngoffmkbobhaaGreatDoor
open Go.RowKit

/-- The bytes of digits in pairs. -/
def unhex : List UInt8 → Option (List UInt8)
  | [] => some []
  | [_] => none
  | a :: b :: l => if dv a < 0 ∨ dv b < 0 then none else (unhex l).map (((16 * (dv a).toNat + (dv b).toNat).toUInt8) :: ·)

theorem nib_or : ∀ a b : Fin 16, bits .or .u8 (IntKind.u8.wrap ((a.val : Int) * 16)) (b.val : Int) = ((16 * a.val + b.val : Nat) : Int) := by decide +kernel

theorem idx_run (s : ByteArray) (k : Nat) (i : Int) (hi : i = k) (h : k < s.size) (w : World) : (Instr.index 9 (.string s) (.int .i64 i)).run Tryz.prog w = .ok (.int .u8 (s[k]'h).toNat) w := by
  subst hi
  rw [run_index_string w 9 _ .i64 _ Tryz.underlying9, dif_pos ⟨by omega, by omega⟩]
  simp only [Int.toNat_natCast]

set_option maxRecDepth 100000 in
set_option maxHeartbeats 1000000 in
theorem paired_ok (s : ByteArray) (out : List UInt8) (w : World) (hs : s.size ≤ 1000000) (hev : s.size % 2 = 0) (hc : Hid (unhex s.data.toList = some out)) :
    Calls Tryz.prog 69 #[.string s] w fun r w' => r = .returned (.string ⟨out.toArray⟩) ∧ Below w.heap.size w w' := by
  obtain ⟨j0, hi, hz0, hz1, hz2⟩ := info_parts info5
  go_enter Tryz.func69, Tryz.ntmps69
  go_wp2_with (first | (go_at_call 82; refine (need_ok _ _ (by first | rfl | assumption | (simp; omega)) _).mono ?_; rintro e w' ⟨rfl, rfl⟩) | (at_make; refine wpList_make_own _ rfl _ _ 91 rfl w.heap.size 5 j0 (.int .u8 0) 1 Tryz.underlying91 hi hz0 hz1 .i64 .i64 _ (s.size / 2) rfl rfl (by omega) (by rw [hz2]; omega) (by unfold maxLen; omega) (Nat.le_refl _) ?_; intro w0 hown0 hgrow0))
  go_loopw [3, 4] (fun v i wr => ∃ (j : Nat) (pre : List UInt8), j ≤ s.size ∧ i = .int .i64 j ∧ wr.ownsRow w.heap.size 5 1 v pre.length (Lib.byteCells pre) ∧ Below w.heap.size w wr ∧ Hid (j = 2 * pre.length ∧ ∃ rest, unhex (s.data.toList.drop j) = some rest ∧ pre ++ rest = out)) (fun _ i _ => s.size - (intOf i).toNat)
  case atStart => exact ⟨0, [], Nat.zero_le _, rfl, hown0, (Below.refl _ _).grown hgrow0 (Nat.le_refl _) (fun k e => by cases e), Lib.hid ⟨rfl, out, hc.out, rfl⟩⟩
  case round =>
    obtain ⟨j, pre, hj, rfl, hown, hbel, HQ⟩ := hrel
    by_cases hlt : j < s.size
    · have hlt2 : j + 1 < s.size := by have := HQ.out.1; omega
      have hpl : pre.length ≤ 1000000 := by have := HQ.out.1; omega
      have hl : j + 1 < s.data.toList.length := by simpa using hlt2
      obtain ⟨hj2, rest, hrest, hout⟩ := HQ.out
      have hd : s.data.toList.drop j = s[j] :: s[j + 1] :: s.data.toList.drop (j + 2) := by
        rw [List.drop_eq_getElem_cons (by omega), List.drop_eq_getElem_cons hl]
        rfl
      rw [hd] at hrest
      unfold unhex at hrest
      split at hrest
      · cases hrest
      rename_i hneg
      obtain ⟨rest', hr', hrr⟩ := Option.map_eq_some_iff.1 hrest
      have h1 := dv_lo s[j]
      have h2 := dv_lo s[j + 1]
      obtain ⟨d1, hd1⟩ : ∃ d1 : Nat, dv s[j] = d1 := ⟨(dv s[j]).toNat, by omega⟩
      obtain ⟨d2, hd2⟩ : ∃ d2 : Nat, dv s[j + 1] = d2 := ⟨(dv s[j + 1]).toNat, by omega⟩
      have l1 : d1 < 16 := by omega
      have l2 : d2 < 16 := by omega
      rw [hd1, hd2] at hrr
      have H1 := Lib.hid hd1
      have H2 := Lib.hid hd2
      have HR : Hid (j = 2 * pre.length ∧ unhex (s.data.toList.drop (j + 2)) = some rest' ∧ pre ++ ((16 * d1 + d2).toUInt8 :: rest') = out) := Lib.hid ⟨hj2, hr', by rw [← hout, ← hrr]; simp⟩
      clear hd1 hd2 hrest hout hd hneg hr' hrr h1 h2 hj2 HQ
      obtain ⟨v, hv⟩ : ∃ v : Nat, v = 16 * d1 + d2 := ⟨_, rfl⟩
      have hor : bits .or .u8 (IntKind.u8.wrap ((d1 : Int) * 16)) (d2 : Int) = (v : Int) := by rw [hv]; exact nib_or ⟨d1, l1⟩ ⟨d2, l2⟩
      rw [← hv] at HR
      have hv256 : v < 256 := by omega
      clear hv
      have hbs : w.heap.size ≤ (wr.alloc (.cells #[.int .u8 v] 5)).drew.heap.size := by have := hbel.size; simp; omega
      have hx1 : ∀ w, (Instr.index 9 (.string s) (.int .i64 (↑j + 1))).run Tryz.prog w = .ok (.int .u8 s[j + 1].toNat) w := idx_run s (j + 1) _ (by omega) hlt2
      go_wp2
      have hsum : IntKind.i64.wrap ((j : Int) + 1) = (j : Int) + 1 := IntWalk.i64_in _ (by omega)
      go_region_held3 (fun w' => True) (trivial) (first | (go_at_call 84; refine (digit_ok _ _ (by first | with_reducible exact H1 | with_reducible exact H2) (by assumption) _).mono ?_; rintro e w' ⟨rfl, rfl⟩) | ((refine step_append_lies _ (by rfl) _ _ 91 (by rfl) w.heap.size 5 j0 (.int .u8 0) 1 1 Tryz.underlying91 hi hz0 hz1 hz2 (by rfl) (by omega) u3 pre.length _ (by rfl) (hown.alloc _).drew ⟨wr.heap.size, 0, none⟩ 1 1 [.int .u8 v] (by rfl) (by rfl) (World.news_of_block (heap_alloc_new wr _)) (by simp [Value.oneCell']) (by omega) (by unfold maxLen; omega) (by omega) hbs (wr.heap.size + 1) (by simp) ?_); intro g cap w1 hown1 hgrow1 hat1 hlt1))
      all_goals
        clear hsum hor
        go_wp2
        have hbw : Below w.heap.size w w1 := (((hbel.alloc (by have := hbel.size; omega) _).drew).grown hgrow1 hbs (fun k hk => (hown.lt k hk).1))
        obtain ⟨hj2, hr', hout⟩ := HR.out
        refine ⟨⟨j + 2, pre ++ [v.toUInt8], by omega, by go_num, ?_, hbw, Lib.hid ⟨by simp; omega, rest', hr', by rw [← hout]; simp⟩⟩, by simp [intOf]; omega⟩
        have e1 : Lib.byteCells (pre ++ [v.toUInt8]) = Lib.byteCells pre ++ [Value.int .u8 v] := by simp [Lib.byteCells, Nat.mod_eq_of_lt hv256]
        rw [e1]
        simpa using hown1
    · obtain ⟨hj2, rest, hrest, hout⟩ := HQ.out
      rw [List.drop_eq_nil_of_le (by simp; omega)] at hrest
      have hrr : rest = [] := by simpa [unhex] using hrest.symm
      subst hrr
      have HO : Hid (pre = out) := by rw [← hout]; exact (List.append_nil _).symm
      clear hrest hout hj2 HQ
      rcases hown.2 with ⟨rfl, h0⟩ | ⟨g, cap, cur, rfl, -, -, -, -, -, -⟩
      · have hcv : ∀ w, (convert 91 9 (.slice none 0 0)).run Tryz.prog w = .ok (.string ⟨#[]⟩) w := fun _ => by kernel_rfl
        have HN : Hid (pre = []) := List.eq_nil_of_length_eq_zero (by omega)
        clear h0
        go_wp2
        go_ret
        exact ⟨ret_str (by rw [← HO.out, HN.out]), hbel⟩
      · have hcv := run_convert_bytes_back (P := Tryz.prog) wr 91 9 5 ⟨g, 0, none⟩ cap pre Tryz.underlying91 Tryz.underlying5 Tryz.underlying9 (fun j hj => hown.cells (g := g) rfl j _ (by simp [Lib.byteCells, hj]))
        go_wp2
        go_ret
        exact ⟨ret_str (by rw [← HO.out]), hbel⟩
end Go.Proofs.YtcngoffmkbobhaaGreatDoor
