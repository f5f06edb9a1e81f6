import Derived.Test.YtcngoffmkbobhaaGreatDoorT8
namespace Go.Proofs.YtcngoffmkbobhaaGreatDoor
open Go.RowKit

set_option maxRecDepth 100000 in
set_option maxHeartbeats 1000000 in
theorem paired_bad (s : ByteArray) (w : World) (hs : s.size ≤ 1000000) (hev : s.size % 2 = 0) (hc : Hid (unhex s.data.toList = none)) :
    Calls Tryz.prog 69 #[.string s] w fun r w' => r = gaveUp 110 ∧ Below w.heap.size w w' := by
  obtain ⟨j0, hi, hz0, hz1, hz2⟩ := info_parts info5
  go_enter Tryz.func69, Tryz.ntmps69
  go_wp2_with (first | (go_at_call 82; refine (need_ok _ _ (by first | rfl | assumption | (simp; omega)) _).mono ?_; rintro e w' ⟨rfl, rfl⟩) | (at_make; refine wpList_make_own _ rfl _ _ 91 rfl w.heap.size 5 j0 (.int .u8 0) 1 Tryz.underlying91 hi hz0 hz1 .i64 .i64 _ (s.size / 2) rfl rfl (by omega) (by rw [hz2]; omega) (by unfold maxLen; omega) (Nat.le_refl _) ?_; intro w0 hown0 hgrow0))
  go_loopw [3, 4] (fun v i wr => ∃ (j : Nat) (pre : List UInt8), j ≤ s.size ∧ i = .int .i64 j ∧ wr.ownsRow w.heap.size 5 1 v pre.length (Lib.byteCells pre) ∧ Below w.heap.size w wr ∧ Hid (j = 2 * pre.length ∧ unhex (s.data.toList.drop j) = none)) (fun _ i _ => s.size - (intOf i).toNat)
  case atStart => exact ⟨0, [], Nat.zero_le _, rfl, hown0, (Below.refl _ _).grown hgrow0 (Nat.le_refl _) (fun k e => by cases e), Lib.hid ⟨rfl, hc.out⟩⟩
  case round =>
    obtain ⟨j, pre, hj, rfl, hown, hbel, HQ⟩ := hrel
    by_cases hlt : j < s.size
    · have hlt2 : j + 1 < s.size := by have := HQ.out.1; omega
      have hpl : pre.length ≤ 1000000 := by have := HQ.out.1; omega
      have hl : j + 1 < s.data.toList.length := by simpa using hlt2
      obtain ⟨hj2, hrest⟩ := HQ.out
      have hd : s.data.toList.drop j = s[j] :: s[j + 1] :: s.data.toList.drop (j + 2) := by
        rw [List.drop_eq_getElem_cons (by omega), List.drop_eq_getElem_cons hl]
        rfl
      rw [hd] at hrest
      unfold unhex at hrest
      have h1 := dv_lo s[j]
      have h2 := dv_lo s[j + 1]
      have hx1 : ∀ w, (Instr.index 9 (.string s) (.int .i64 (↑j + 1))).run Tryz.prog w = .ok (.int .u8 s[j + 1].toNat) w := idx_run s (j + 1) _ (by omega) hlt2
      by_cases hd1 : dv s[j] = -1
      · have H1 := Lib.hid hd1
        clear hd1 hrest hd h1 h2 hj2 HQ
        go_wp2
        have hsum : IntKind.i64.wrap ((j : Int) + 1) = (j : Int) + 1 := IntWalk.i64_in _ (by omega)
        refine Code.wp_mono (Q := fun e a w' => e = Exit.panic [{ v := .iface 79 (.agg #[.int .i64 110]), recovered := false }] ∧ a.defers = [] ∧ Below w.heap.size w w') ?imp1 ?_
        case imp1 =>
          rintro e a w' ⟨rfl, ha, hb⟩
          exact ⟨ha, rfl, hb⟩
        have hbd : Below w.heap.size w wr.drew := hbel.drew
        refine wp_region_any (by kernel_rfl) ?_
        change wpAny _ _ _ _ _ _ _ (World.drew _)
        refine wpAny_take (i := 0) (v := ?_) rfl (by kernel_rfl) (by kernel_rfl) (by kernel_rfl) (fun _ _ _ h => h) (Or.inl ⟨by rfl, ?_⟩) ?_; rotate_left; focus ((intro w; go_simp); try (with_reducible rfl))
        refine wpAny_take (i := 1) (v := ?_) rfl (by kernel_rfl) (by kernel_rfl) (by kernel_rfl) (fun _ _ _ h => h) (Or.inl ⟨by rfl, ?_⟩) ?_; rotate_left; focus ((intro w; go_simp); try (with_reducible rfl))
        refine wpAny_take (i := 2) (v := ?_) rfl (by kernel_rfl) (by kernel_rfl) (by kernel_rfl) (fun _ _ _ h => h) (Or.inl ⟨by rfl, ?_⟩) ?_; rotate_left; focus ((intro w; go_simp); try (with_reducible rfl))
        refine wpAny_take (i := 6) (v := ?_) rfl (by kernel_rfl) (by kernel_rfl) (by kernel_rfl) (fun _ _ _ h => h) (Or.inl ⟨by rfl, ?_⟩) ?_; rotate_left; focus ((intro w; go_simp); try (with_reducible rfl))
        refine wpAny_take (i := 7) (v := ?_) rfl (by kernel_rfl) (by kernel_rfl) (by kernel_rfl) (fun _ _ _ h => h) (Or.inl ⟨by rfl, ?_⟩) ?_; rotate_left; focus ((intro w; go_simp); try (with_reducible rfl))
        refine wpAny_take (i := 8) (v := ?_) rfl (by kernel_rfl) (by kernel_rfl) (by kernel_rfl) (fun _ _ _ h => h) (Or.inl ⟨by rfl, ?_⟩) ?_; rotate_left; focus ((intro w; go_simp); try (with_reducible rfl))
        refine wpAny_take (i := 3) (v := ?_) rfl (by kernel_rfl) (by kernel_rfl) (by kernel_rfl) (fun _ _ _ h => h) (Or.inl ⟨by rfl, ?_⟩) ?_; rotate_left; focus ((intro w; go_simp); try (with_reducible rfl))
        refine wpAny_take (i := 9) (v := ?_) rfl (by kernel_rfl) (by kernel_rfl) (by kernel_rfl) (fun _ _ _ h => h) (Or.inl ⟨by rfl, ?_⟩) ?_; rotate_left; focus ((intro w; go_simp); try (with_reducible rfl))
        refine wpAny_ready (rs := [4]) (by kernel_rfl) (by simp) ?_
        refine AllReady.cons rfl (fun K hK => ?_) AllReady.nil
        go_simp
        go_wp2_with (go_at_call 84; refine (digit_no _ (by with_reducible exact H1.out) _).mono ?_; rintro e w' ⟨rfl, rfl⟩)
      by_cases hd2 : dv s[j + 1] = -1
      · obtain ⟨d1, hd1'⟩ : ∃ d1 : Nat, dv s[j] = d1 := ⟨(dv s[j]).toNat, by omega⟩
        have l1 : d1 < 16 := by omega
        have H1 := Lib.hid hd1'
        have H2 := Lib.hid hd2
        clear hd1 hd1' hd2 hrest hd h1 h2 hj2 HQ
        go_wp2
        have hsum : IntKind.i64.wrap ((j : Int) + 1) = (j : Int) + 1 := IntWalk.i64_in _ (by omega)
        refine Code.wp_mono (Q := fun e a w' => e = Exit.panic [{ v := .iface 79 (.agg #[.int .i64 110]), recovered := false }] ∧ a.defers = [] ∧ Below w.heap.size w w') ?imp2 ?_
        case imp2 =>
          rintro e a w' ⟨rfl, ha, hb⟩
          exact ⟨ha, rfl, hb⟩
        have hbd : Below w.heap.size w wr.drew := hbel.drew
        refine wp_region_any (by kernel_rfl) ?_
        change wpAny _ _ _ _ _ _ _ (World.drew _)
        refine wpAny_take (i := 0) (v := ?_) rfl (by kernel_rfl) (by kernel_rfl) (by kernel_rfl) (fun _ _ _ h => h) (Or.inl ⟨by rfl, ?_⟩) ?_; rotate_left; focus ((intro w; go_simp); try (with_reducible rfl))
        refine wpAny_take (i := 1) (v := ?_) rfl (by kernel_rfl) (by kernel_rfl) (by kernel_rfl) (fun _ _ _ h => h) (Or.inl ⟨by rfl, ?_⟩) ?_; rotate_left; focus ((intro w; go_simp); try (with_reducible rfl))
        refine wpAny_take (i := 2) (v := ?_) rfl (by kernel_rfl) (by kernel_rfl) (by kernel_rfl) (fun _ _ _ h => h) (Or.inl ⟨by rfl, ?_⟩) ?_; rotate_left; focus ((intro w; go_simp); try (with_reducible rfl))
        refine wpAny_take (i := 6) (v := ?_) rfl (by kernel_rfl) (by kernel_rfl) (by kernel_rfl) (fun _ _ _ h => h) (Or.inl ⟨by rfl, ?_⟩) ?_; rotate_left; focus ((intro w; go_simp); try (with_reducible rfl))
        refine wpAny_take (i := 7) (v := ?_) rfl (by kernel_rfl) (by kernel_rfl) (by kernel_rfl) (fun _ _ _ h => h) (Or.inl ⟨by rfl, ?_⟩) ?_; rotate_left; focus ((intro w; go_simp); try (with_reducible rfl))
        refine wpAny_take (i := 8) (v := ?_) rfl (by kernel_rfl) (by kernel_rfl) (by kernel_rfl) (fun _ _ _ h => h) (Or.inl ⟨by rfl, ?_⟩) ?_; rotate_left; focus ((intro w; go_simp); try (with_reducible rfl))
        refine wpAny_take (i := 3) (v := ?_) rfl (by kernel_rfl) (by kernel_rfl) (by kernel_rfl) (fun _ _ _ h => h) (Or.inl ⟨by rfl, ?_⟩) ?_; rotate_left; focus ((intro w; go_simp); try (with_reducible rfl))
        refine wpAny_take (i := 9) (v := ?_) rfl (by kernel_rfl) (by kernel_rfl) (by kernel_rfl) (fun _ _ _ h => h) (Or.inl ⟨by rfl, ?_⟩) ?_; rotate_left; focus ((intro w; go_simp); try (with_reducible rfl))
        refine wpAny_ready (rs := [4]) (by kernel_rfl) (by simp) ?_
        refine AllReady.cons rfl (fun K hK => ?_) AllReady.nil
        go_simp
        go_wp2_with (go_at_call 84; refine (digit_ok _ _ (by with_reducible exact H1) (by assumption) _).mono ?_; rintro e w' ⟨rfl, rfl⟩)
        refine wpAny_take (i := 5) (v := ?_) rfl (by kernel_rfl) (by kernel_rfl) (by kernel_rfl) (fun _ _ _ h => h) (Or.inl ⟨by rfl, ?_⟩) ?_; rotate_left; focus ((intro w; go_simp); try (with_reducible rfl))
        refine wpAny_ready (rs := [10]) (by kernel_rfl) (by simp) ?_
        refine AllReady.cons rfl (fun K hK => ?_) AllReady.nil
        go_simp
        go_wp2_with (go_at_call 84; refine (digit_no _ (by with_reducible exact H2.out) _).mono ?_; rintro e w' ⟨rfl, rfl⟩)
      have hneg : ¬ (dv s[j] < 0 ∨ dv s[j + 1] < 0) := by omega
      rw [if_neg hneg] at hrest
      have hr' : unhex (s.data.toList.drop (j + 2)) = none := by simpa using hrest
      obtain ⟨d1, hd1'⟩ : ∃ d1 : Nat, dv s[j] = d1 := ⟨(dv s[j]).toNat, by omega⟩
      obtain ⟨d2, hd2'⟩ : ∃ d2 : Nat, dv s[j + 1] = d2 := ⟨(dv s[j + 1]).toNat, by omega⟩
      have l1 : d1 < 16 := by omega
      have l2 : d2 < 16 := by omega
      have H1 := Lib.hid hd1'
      have H2 := Lib.hid hd2'
      have HR : Hid (j = 2 * pre.length ∧ unhex (s.data.toList.drop (j + 2)) = none) := Lib.hid ⟨hj2, hr'⟩
      clear hd1 hd2 hd1' hd2' hrest hd hneg hr' h1 h2 hj2 HQ hx1
      obtain ⟨v, hv⟩ : ∃ v : Nat, v = 16 * d1 + d2 := ⟨_, rfl⟩
      have hor : bits .or .u8 (IntKind.u8.wrap ((d1 : Int) * 16)) (d2 : Int) = (v : Int) := by rw [hv]; exact nib_or ⟨d1, l1⟩ ⟨d2, l2⟩
      have hv256 : v < 256 := by omega
      clear hv
      have hbs : w.heap.size ≤ (wr.alloc (.cells #[.int .u8 v] 5)).drew.heap.size := by have := hbel.size; simp; omega
      have hx1 : ∀ w, (Instr.index 9 (.string s) (.int .i64 (↑j + 1))).run Tryz.prog w = .ok (.int .u8 s[j + 1].toNat) w := idx_run s (j + 1) _ (by omega) hlt2
      go_wp2
      have hsum : IntKind.i64.wrap ((j : Int) + 1) = (j : Int) + 1 := IntWalk.i64_in _ (by omega)
      go_region_held3 (fun w' => True) (trivial) (first | (go_at_call 84; refine (digit_ok _ _ (by first | with_reducible exact H1 | with_reducible exact H2) (by assumption) _).mono ?_; rintro e w' ⟨rfl, rfl⟩) | ((refine step_append_lies _ (by rfl) _ _ 91 (by rfl) w.heap.size 5 j0 (.int .u8 0) 1 1 Tryz.underlying91 hi hz0 hz1 hz2 (by rfl) (by omega) u3 pre.length _ (by rfl) (hown.alloc _).drew ⟨wr.heap.size, 0, none⟩ 1 1 [.int .u8 v] (by rfl) (by rfl) (World.news_of_block (heap_alloc_new wr _)) (by simp [Value.oneCell']) (by omega) (by unfold maxLen; omega) (by omega) hbs (wr.heap.size + 1) (by simp) ?_); intro g cap w1 hown1 hgrow1 hat1 hlt1))
      all_goals
        clear hsum hor
        go_wp2
        have hbw : Below w.heap.size w w1 := (((hbel.alloc (by have := hbel.size; omega) _).drew).grown hgrow1 hbs (fun k hk => (hown.lt k hk).1))
        obtain ⟨hj2, hr'⟩ := HR.out
        refine ⟨⟨j + 2, pre ++ [v.toUInt8], by omega, by go_num, ?_, hbw, Lib.hid ⟨by simp; omega, hr'⟩⟩, by simp [intOf]; omega⟩
        have e1 : Lib.byteCells (pre ++ [v.toUInt8]) = Lib.byteCells pre ++ [Value.int .u8 v] := by simp [Lib.byteCells, Nat.mod_eq_of_lt hv256]
        rw [e1]
        simpa using hown1
    · have hrest := HQ.out.2
      rw [List.drop_eq_nil_of_le (by simp; omega)] at hrest
      cases hrest

set_option maxRecDepth 100000 in
set_option maxHeartbeats 400000 in
theorem paired_odd (s : ByteArray) (w : World) (hs : s.size ≤ 1000000) (hev : s.size % 2 = 1) :
    Calls Tryz.prog 69 #[.string s] w fun r w' => r = gaveUp 110 ∧ Below w.heap.size w w' := by
  go_enter Tryz.func69, Tryz.ntmps69
  go_wp2_with (first | (go_at_call 82; refine (need_no _ _ (by first | rfl | assumption | (simp; omega)) _).mono ?_; rintro e w' ⟨rfl, rfl⟩))
  exact ⟨rfl, rfl, Below.refl _ _⟩
end Go.Proofs.YtcngoffmkbobhaaGreatDoor
