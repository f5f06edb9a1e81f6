import Derived.Test.YtgadmbgnkccooaaO31
import Derived.Deep.DrawnRows
namespace Go.Proofs.Ytgadmbgnkccooaa
open Go.RowKit Go.Shelf
attribute [local go_sem ↓] Go.wp_at_zero Go.wp_at_succ

theorem bytesL_byte (s : ByteArray) : ∀ b ∈ bytesL s, b < 256 := fun b hb => by
  unfold bytesL at hb
  obtain ⟨u, -, rfl⟩ := List.mem_map.1 hb
  exact u.toNat_lt
theorem strOf_bytesL (s : ByteArray) : strOf (bytesL s) = s := by
  unfold strOf bytesL
  cases s with
  | mk d =>
    simp only [List.map_map, ByteArray.mk.injEq]
    have : (UInt8.ofNat ∘ UInt8.toNat) = id := by funext u; simp
    rw [this, List.map_id]
theorem numE_small {n : Nat} (h : n < 2 ^ 64) : (numE n).length ≤ 10 := numF_len 9 n
theorem RowB.convS {w w' : World} {l : List Nat} {t : Value} (h : RowB w l t w') (hb : ∀ b ∈ l, b < 256) :
    ∃ p cap, t = .slice p l.length cap ∧ l.length ≤ cap ∧ cap ≤ 9223372036854775807 ∧ (p = none → cap = 0) ∧ BytesAt w' p l ∧ (convert 23 9 (.slice p l.length cap)).run Try.prog w' = .ok (.string (strOf l)) w' ∧ Below w.heap.size w w' := by
  obtain ⟨p, cap, e, hc, hm, hba, -⟩ := h.at'
  refine ⟨p, cap, e, hc, hm, fun hp => ?_, hba, conv_at w' p cap l hb hba, h.2⟩
  subst hp
  rcases h.1.2 with ⟨e2, -⟩ | ⟨g, c2, cur, e2, -⟩
  · rw [e] at e2; injection e2
  · rw [e] at e2; injection e2 with e3; cases e3
theorem bytesAt_drop {w : World} {p : Option Addr} {l : List Nat} (h : BytesAt w p l) (k : Nat) : BytesAt w (p.map fun x => x.add k) (l.drop k) := by
  intro i hi
  rw [List.length_drop] at hi
  obtain ⟨B, off, rfl, c⟩ := h (k + i) (by omega)
  refine ⟨B, off + k, congrArg some (addr_plain B off k), ?_⟩
  rw [Nat.add_assoc, c]
  simp [List.getD_eq_getElem?_getD, List.getElem?_drop]
theorem readStrE_range (l : List Nat) (hb : ∀ b ∈ l, b < 256) : ∀ b ∈ (readStrE l).1, b < 256 := by
  unfold readStrE
  split
  · intro b hb; cases hb
  · exact fun b h => hb b (List.mem_of_mem_drop (List.mem_of_mem_take h))
theorem wpAnyH_turnS {P : Program} {md : Region.Mode} {ops : Array Oper} {Q : Exit → Act → World → Prop} {S S' : World → Prop} (hi : ∀ w, S' w → S w) : ∀ (fuel : Nat) (listed : Array Bool) (a : Act) (w : World), wpAnyH P md ops Q S' fuel listed a w → wpAnyH P md ops Q S fuel listed a w
  | 0, _, _, _, h => h
  | fuel + 1, _, _, _, h => ⟨h.1, fun i hm => wpOp_mono (fun a' w' h' => ⟨hi _ h'.1, wpAnyH_turnS hi fuel _ a' w' h'.2⟩) (h.2 i hm)⟩
theorem conv_laterS {w w' : World} {l : List Nat} {p : Option Addr} (h : BytesAt w p l) (hb : ∀ b ∈ l, b < 256) (hB : Below w.heap.size w w') (cap : Nat) :
    (convert 23 9 (.slice p l.length cap)).run Try.prog w' = .ok (.string (strOf l)) w' := conv_at w' p cap l hb (bytesAt_below h hB)
/-- A slice of bytes, cut in two. -/
theorem cut_two (p : Option Addr) (l : List Nat) (cap K : Nat) (hK : K ≤ l.length) (hcap : l.length ≤ cap) (hm : cap ≤ 9223372036854775807) :
    ∃ (q : Option Addr), (∀ w, (Instr.slice 23 (.slice p l.length cap) none (some (.int .i64 K)) none).run Try.prog w = .ok (.slice p K cap) w) ∧
      (∀ w, (Instr.slice 23 (.slice p l.length cap) (some (.int .i64 K)) none none).run Try.prog w = .ok (.slice q (l.length - K) (cap - K)) w) ∧
      ∀ w', BytesAt w' p l → BytesAt w' q (l.drop K) := by
  have hk : ¬ cap < K := by omega
  by_cases h : cap = K
  · refine ⟨p, fun w => by go_simp, fun w => by go_simp, fun w' _ i hi => ?_⟩
    rw [List.length_drop] at hi
    omega
  · exact ⟨p.map fun x => x.add K, fun w => by go_simp, fun w => by go_simp, fun w' hb => bytesAt_drop hb K⟩
set_option maxRecDepth 100000 in
set_option maxHeartbeats 40000000 in
theorem octetStrings_any (s : ByteArray) (l : List Nat) (p : Option Addr) (cap : Nat) (cut : Int) (w : World) (hss : s.size ≤ 9223372036854775807) (hcap : l.length ≤ cap) (hm : cap ≤ 9223372036854775807) (hp : p = none → cap = 0) (hb : ∀ b ∈ l, b < 256) (hc : Hid (BytesAt w p l)) :
    Calls Try.prog 5 #[.string s, .slice p l.length cap, .int .i64 cut] w fun r w' => r = .returned (.bool true) ∧ Below w.heap.size w w' := by
  have WK := Lib.hid works_any
  by_cases hgo : ¬ (s.size ≤ 300 ∧ l.length ≤ 300 ∧ 0 ≤ cut ∧ cut ≤ l.length)
  · rcases (show 300 < s.size ∨ (s.size ≤ 300 ∧ 300 < l.length) ∨ (s.size ≤ 300 ∧ l.length ≤ 300 ∧ cut < 0) ∨ (s.size ≤ 300 ∧ l.length ≤ 300 ∧ 0 ≤ cut ∧ (l.length : Int) < cut) by omega) with h | ⟨h, h2⟩ | ⟨h, h2, h3⟩ | ⟨h, h2, h3, h4⟩
    all_goals
      clear hgo
      go_enter Try.func5, Try.ntmps5
      go_wp2_with (go_at_call 7; refine (WK.out _).mono ?_; rintro e w7 ⟨rfl, hb7⟩; have HB7 := Lib.hid hb7; clear hb7)
      go_ret
      exact ⟨rfl, HB7.out⟩
  obtain ⟨hs3, hl, hcut0, hcut⟩ : s.size ≤ 300 ∧ l.length ≤ 300 ∧ 0 ≤ cut ∧ cut ≤ l.length := Decidable.not_not.1 hgo
  clear hgo
  obtain ⟨K, rfl⟩ := Int.eq_ofNat_of_zero_le hcut0
  have hKl : K ≤ l.length := by omega
  clear hcut hcut0
  have HB := Lib.hid hb
  have NM := Lib.hid num_any
  have hread : Hid (∀ w', Below w.heap.size w w' → Calls Try.prog 21 #[.slice p l.length cap] w' fun r w2 => r = .returned (.tuple #[.string (strOf (readStrE l).1), .int .i64 (readStrE l).2.1, .int .i64 (readStrE l).2.2]) ∧ Below w'.heap.size w' w2) := Lib.hid fun w' h =>
    readString_any l p cap w' (by omega) hcap hm hb (Lib.hid (bytesAt_below hc.out h))
  have href : Hid (∀ w', Below w.heap.size w w' → Calls Try.prog 22 #[.slice p l.length cap] w' fun r w2 => r = .returned (.tuple #[.string (strOf (readStrE l).1), .int .i64 (readStrE l).2.1, .int .i64 (readStrE l).2.2]) ∧ w' = w2) := Lib.hid fun w' h =>
    refReadString_any l p cap w' (by omega) hcap hb (Lib.hid (bytesAt_below hc.out h))
  generalize readStrE l = RS at hread href
  obtain ⟨rs, rk, re⟩ := RS
  simp only at hread href
  generalize strOf rs = rstr at hread href
  obtain ⟨E, hE⟩ : ∃ E, E = strE (bytesL s) := ⟨_, rfl⟩
  have hEb : ∀ b ∈ E, b < 256 := fun b hb => by
    rw [hE] at hb
    unfold strE at hb
    rcases List.mem_append.1 hb with hb | hb
    · exact numE_byte (n := (bytesL s).length) (by rw [bytesL_len]; omega) b hb
    · exact bytesL_byte s b hb
  have hEl : E.length ≤ 310 := by
    rw [hE]
    unfold strE
    have := numE_small (n := (bytesL s).length) (by rw [bytesL_len]; omega)
    rw [List.length_append, bytesL_len] at *
    omega
  have ST : Hid (∀ w, Calls Try.prog 20 #[.string s] w fun r w' => ∃ t, r = .returned t ∧ RowB w E t w') := Lib.hid fun w => by rw [hE]; exact string_any s (by omega) w
  have RT : Hid (∀ w, Calls Try.prog 23 #[.string s] w fun r w' => ∃ t, r = .returned t ∧ RowB w E t w') := Lib.hid fun w => by rw [hE]; exact refString_any s (by omega) w
  have hrs : readStrE (E ++ l) = (bytesL s, E.length, 0) := by rw [hE]; exact read_str (bytesL s) l (by rw [bytesL_len]; omega)
  have HEB := Lib.hid hEb
  clear hb hE hEb
  go_enter Try.func5, Try.ntmps5
  go_wp2_with fail
  refine (ST.out w).mono ?_
  rintro e w1 ⟨t1, rfl, hr1⟩
  obtain ⟨p1, c1, rfl, hc1, hm1, hp1, hb1, hv1, hB1⟩ := hr1.convS HEB.out
  have HB1 := Lib.hid hB1
  have H1 := Lib.hid hb1
  clear hr1 hB1 hb1 hv1
  have hEm : Hid (RowB w1 [] (.slice (some ⟨w1.heap.size, 0, none⟩) 0 0) (w1.alloc (.cells #[] 5))) := Lib.hid (rowB_empty w1)
  go_wp2_with (at_builtin; refine wpList_append_bytes rfl _ _ rfl (q := p1) (c := c1) (m := E) (l := []) rfl hEm.out rfl hp1 (bytesAt_below H1.out hEm.out.2) ?c1 ?_)
  case c1 => simp; omega
  intro t2 w2 hR2
  replace hR2 : RowB w1 E t2 w2 := hR2
  have HR2 := Lib.hid hR2
  have HB2 := Lib.hid (below_any HB1.out hR2.2)
  clear hR2
  go_wp2_with (at_builtin; refine wpList_append_bytes rfl _ _ rfl (q := p) (c := cap) (m := l) (l := E) rfl HR2.out rfl hp (bytesAt_below hc.out HB2.out) ?c1 ?_)
  case c1 => omega
  intro t3 w3 hR3
  replace hR3 : RowB w1 (E ++ l) t3 w3 := hR3
  have hbA : ∀ b ∈ E ++ l, b < 256 := fun b hb => by
    rcases List.mem_append.1 hb with hb | hb
    · exact HEB.out b hb
    · exact HB.out b hb
  obtain ⟨p3, c3, rfl, hc3, hm3, hp3, hb3, -, hB3⟩ := hR3.convS hbA
  have HB3 := Lib.hid (below_any HB1.out hB3)
  have H3 := Lib.hid (bytesAt_below H1.out hB3)
  have RD := readString_any (E ++ l) p3 c3 w3 (by rw [List.length_append]; omega) hc3 hm3 hbA (Lib.hid hb3)
  rw [hrs, strOf_bytesL] at RD
  have HRD := Lib.hid RD
  clear RD hR3 hb3 hB3 HB2 HR2 hEm hrs
  simp only [List.length_append] at HRD
  go_wp2_with fail
  refine HRD.out.mono ?_
  rintro e w4 ⟨rfl, hb4⟩
  have HB4 := Lib.hid (below_any HB3.out hb4)
  have H4 := Lib.hid (bytesAt_below H3.out hb4)
  clear hb4
  go_wp2_with fail
  refine (hread.out w4 HB4.out).mono ?_
  rintro e w5 ⟨rfl, hb5⟩
  have HB5 := Lib.hid (below_any HB4.out hb5)
  have H5 := Lib.hid (bytesAt_below H4.out hb5)
  clear hb5
  go_wp2_with fail
  refine (href.out w5 HB5.out).mono ?_
  rintro e w8 ⟨rfl, rfl⟩
  go_wp2_with fail
  rename World => w8
  have HX : Hid (Below w.heap.size w w8.drew) := Lib.hid (below_any HB5.out (Below.refl w8.heap.size w8).drew)
  have hq : ∀ (x : ByteArray), (x.toList == x.toList) = true := fun x => by simp
  have hlT : (l.take K).length = K := by simp; omega
  have hlD : (l.drop K).length = l.length - K := by simp
  obtain ⟨q, hsl1, hsl2, hq3⟩ := cut_two p l cap K hKl hcap hm
  obtain ⟨qc, hqc⟩ : ∃ qc, qc = cap - K := ⟨_, rfl⟩
  rw [← hqc] at hsl2
  obtain ⟨qn, hqn⟩ : ∃ qn, qn = l.length - K := ⟨_, rfl⟩
  rw [← hqn] at hsl2 hlD
  have SM : Hid (∀ w', Below w8.heap.size w8 w' → Calls Try.prog 24 #[.slice (some ⟨w'.heap.size, 0, none⟩) 2 2] (w'.alloc (.cells #[.slice p K cap, .slice q qn qc] 23)) fun r w2 => r = .returned (.int .u32 (~~~ sumN l).toNat) ∧ Below w'.heap.size w' w2) := Lib.hid fun w' h => by
    have hcw := bytesAt_below hc.out (below_any HB5.out h)
    have := sum_two (l.take K) (l.drop K) p q cap qc w' (by omega) (by omega) (fun b hb => HB.out b (List.mem_of_mem_take hb)) (fun b hb => HB.out b (List.mem_of_mem_drop hb)) (bytesAt_take hcw K) (hq3 w' hcw)
    rw [hlT, hlD, List.take_append_drop] at this
    refine this.mono ?_
    rintro e w2 ⟨rfl, hb2⟩
    exact ⟨rfl, (((Below.refl _ _).alloc (Nat.le_refl _) _).trans (hb2.mono (by omega)))⟩
  have RS : Hid (∀ w', Below w8.heap.size w8 w' → Calls Try.prog 25 #[.slice p l.length cap] w' fun r w2 => r = .returned (.int .u32 (~~~ sumN l).toNat) ∧ w' = w2) := Lib.hid fun w' h => refSum_any l p cap w' (by omega) HB.out (Lib.hid (bytesAt_below hc.out (below_any HB5.out h)))
  have hsu : (((~~~ sumN l).toNat : Int) == ((~~~ sumN l).toNat : Int)) = true := by simp
  clear hqc hqn
  clear hread href HRD H3 H4 HB1 HB3 HB4 H1 ST hc1 hm1 hp1 hc3 hm3 hp3 hlT hlD hq3 hEl hss hc hm hp hcap HB hbA
  generalize (~~~ sumN l).toNat = A1 at *
  refine wp_region_held_drew (S := fun w' => Below w8.heap.size w8 w') (by kernel_rfl) ((Below.refl _ _).drew) (fun H0 => ?_)
  refine wpAnyH_take (i := 0) (oi := { dst := some 60, op := Go.Op.move (Go.Operand.tmp 7), type := 23, pos := "law.go:76", after := #[], guard := none }) (v := ?_) rfl (by kernel_rfl) (by kernel_rfl) (by kernel_rfl) (fun _ _ _ h => h) (Or.inl ⟨by rfl, ?_⟩) H0 ?_
  rotate_left
  focus (intro w' hSw; (try dsimp only at hSw); go_simp; (try with_reducible rfl))
  simp only [Act.put, List.setIfInBounds_toArray, List.set_cons_zero, List.set_cons_succ]
  refine wpAnyH_take (i := 1) (oi := { dst := some 61, op := Go.Op.convert 23 9 (Go.Operand.tmp 60), type := 9, pos := "law.go:76", after := #[{ on := 0, ground := Go.Ground.data }], guard := none }) (v := ?_) rfl (by kernel_rfl) (by kernel_rfl) (by kernel_rfl) (fun _ _ _ h => h) (Or.inl ⟨by rfl, ?_⟩) H0 ?_
  rotate_left
  focus (intro w' hSw; (try dsimp only at hSw); have hv := conv_laterS H5.out HEB.out hSw c1; go_simp; (try with_reducible rfl))
  simp only [Act.put, List.setIfInBounds_toArray, List.set_cons_zero, List.set_cons_succ]
  refine wpAnyH_take (i := 2) (oi := { dst := some 62, op := Go.Op.move (Go.Operand.tmp 0), type := 9, pos := "law.go:76", after := #[], guard := none }) (v := ?_) rfl (by kernel_rfl) (by kernel_rfl) (by kernel_rfl) (fun _ _ _ h => h) (Or.inl ⟨by rfl, ?_⟩) H0 ?_
  rotate_left
  focus (intro w' hSw; (try dsimp only at hSw); go_simp; (try with_reducible rfl))
  simp only [Act.put, List.setIfInBounds_toArray, List.set_cons_zero, List.set_cons_succ]
  refine wpAnyH_ready (rs := [3]) (by kernel_rfl) (by simp) ?_
  refine AllReadyH.cons (o := { dst := some 63, op := Go.Op.call { callee := Go.Callee.value (Go.Operand.func 23), args := #[Go.Operand.tmp 62], argTypes := #[9] }, type := 23, pos := "law.go:76", after := #[{ on := 2, ground := Go.Ground.data }], guard := none }) rfl (fun K hK => ?_) ?_
  rotate_left
  exact AllReadyH.nil
  go_simp
  (go_at_call 23; (with_reducible refine (RT.out _).mono ?_); rintro e waa ⟨ta, rfl, hra⟩)
  try go_wp2_with fail
  refine hK.out _ _ (kbT H0 hra.2) (fun Ga => ?_)
  clear hK K
  try simp only [Act.put, List.setIfInBounds_toArray, List.set_cons_zero, List.set_cons_succ]
  have HX := Lib.hid (below_any HX.out hra.2)
  refine wpAnyH_turnS (S' := fun w' => Below waa.heap.size waa w') (fun w' h => kbT Ga h) _ _ _ _ ?_
  have Ha := Below.refl waa.heap.size waa
  clear Ga
  obtain ⟨pa, ca, rfl, -, -, -, hba, -, -⟩ := hra.convS HEB.out
  have Ba := Lib.hid hba
  have T0 := Lib.hid (below_any (Below.refl w8.heap.size w8).drew hra.2)
  clear hba H0 hra
  refine wpAnyH_take (i := 4) (oi := { dst := some 64, op := Go.Op.convert 23 9 (Go.Operand.tmp 63), type := 9, pos := "law.go:76", after := #[{ on := 3, ground := Go.Ground.data }], guard := none }) (v := ?_) rfl (by kernel_rfl) (by kernel_rfl) (by kernel_rfl) (fun _ _ _ h => h) (Or.inl ⟨by rfl, ?_⟩) Ha ?_
  rotate_left
  focus (intro w' hSw; (try dsimp only at hSw); have hv := conv_laterS Ba.out HEB.out hSw ca; go_simp; (try with_reducible rfl))
  simp only [Act.put, List.setIfInBounds_toArray, List.set_cons_zero, List.set_cons_succ]
  refine wpAnyH_take (i := 5) (oi := { dst := some 65, op := Go.Op.binOp Go.BinOp.eql 9 (Go.Operand.tmp 61) (Go.Operand.tmp 64) 9, type := 4, pos := "law.go:76", after := #[{ on := 1, ground := Go.Ground.data }, { on := 4, ground := Go.Ground.data }], guard := none }) (v := ?_) rfl (by kernel_rfl) (by kernel_rfl) (by kernel_rfl) (fun _ _ _ h => h) (Or.inl ⟨by rfl, ?_⟩) Ha ?_
  rotate_left
  focus (intro w' hSw; (try dsimp only at hSw); go_simp; (try with_reducible rfl))
  simp only [Act.put, List.setIfInBounds_toArray, List.set_cons_zero, List.set_cons_succ]
  refine wpAnyH_take (i := 6) (oi := { dst := some 66, op := Go.Op.move (Go.Operand.tmp 65), type := 4, pos := "law.go:76", after := #[{ on := 5, ground := Go.Ground.data }, { on := 3, ground := Go.Ground.chain }], guard := none }) (v := ?_) rfl (by kernel_rfl) (by kernel_rfl) (by kernel_rfl) (fun _ _ _ h => h) (Or.inl ⟨by rfl, ?_⟩) Ha ?_
  rotate_left
  focus (intro w' hSw; (try dsimp only at hSw); go_simp; (try with_reducible rfl))
  simp only [Act.put, List.setIfInBounds_toArray, List.set_cons_zero, List.set_cons_succ]
  refine wpAnyH_take (i := 7) (oi := { dst := some 67, op := Go.Op.move (Go.Operand.tmp 8), type := 9, pos := "law.go:76", after := #[{ on := 6, ground := Go.Ground.guard }], guard := some (6, true) }) (v := ?_) rfl (by kernel_rfl) (by kernel_rfl) (by kernel_rfl) (fun _ _ _ h => h) (Or.inl ⟨by rfl, ?_⟩) Ha ?_
  rotate_left
  focus (intro w' hSw; (try dsimp only at hSw); go_simp; (try with_reducible rfl))
  simp only [Act.put, List.setIfInBounds_toArray, List.set_cons_zero, List.set_cons_succ]
  refine wpAnyH_take (i := 8) (oi := { dst := some 68, op := Go.Op.move (Go.Operand.tmp 0), type := 9, pos := "law.go:76", after := #[{ on := 6, ground := Go.Ground.guard }], guard := some (6, true) }) (v := ?_) rfl (by kernel_rfl) (by kernel_rfl) (by kernel_rfl) (fun _ _ _ h => h) (Or.inl ⟨by rfl, ?_⟩) Ha ?_
  rotate_left
  focus (intro w' hSw; (try dsimp only at hSw); go_simp; (try with_reducible rfl))
  simp only [Act.put, List.setIfInBounds_toArray, List.set_cons_zero, List.set_cons_succ]
  refine wpAnyH_take (i := 9) (oi := { dst := some 69, op := Go.Op.binOp Go.BinOp.eql 9 (Go.Operand.tmp 67) (Go.Operand.tmp 68) 9, type := 4, pos := "law.go:76", after := #[{ on := 7, ground := Go.Ground.data }, { on := 8, ground := Go.Ground.data }, { on := 6, ground := Go.Ground.guard }], guard := some (6, true) }) (v := ?_) rfl (by kernel_rfl) (by kernel_rfl) (by kernel_rfl) (fun _ _ _ h => h) (Or.inl ⟨by rfl, ?_⟩) Ha ?_
  rotate_left
  focus (intro w' hSw; (try dsimp only at hSw); go_simp; (try with_reducible rfl))
  simp only [Act.put, List.setIfInBounds_toArray, List.set_cons_zero, List.set_cons_succ]
  refine wpAnyH_take (i := 10) (oi := { dst := some 70, op := Go.Op.pick (Go.Operand.tmp 66) (Go.Operand.tmp 69) (Go.Operand.const (Go.Value.bool false)), type := 4, pos := "law.go:76", after := #[{ on := 6, ground := Go.Ground.data }, { on := 9, ground := Go.Ground.data }], guard := none }) (v := ?_) rfl (by kernel_rfl) (by kernel_rfl) (by kernel_rfl) (fun _ _ _ h => h) (Or.inl ⟨by rfl, ?_⟩) Ha ?_
  rotate_left
  focus (intro w' hSw; (try dsimp only at hSw); go_simp; (try with_reducible rfl))
  simp only [Act.put, List.setIfInBounds_toArray, List.set_cons_zero, List.set_cons_succ]
  refine wpAnyH_take (i := 11) (oi := { dst := some 71, op := Go.Op.move (Go.Operand.tmp 70), type := 4, pos := "law.go:76", after := #[{ on := 10, ground := Go.Ground.data }, { on := 6, ground := Go.Ground.chain }], guard := none }) (v := ?_) rfl (by kernel_rfl) (by kernel_rfl) (by kernel_rfl) (fun _ _ _ h => h) (Or.inl ⟨by rfl, ?_⟩) Ha ?_
  rotate_left
  focus (intro w' hSw; (try dsimp only at hSw); go_simp; (try with_reducible rfl))
  simp only [Act.put, List.setIfInBounds_toArray, List.set_cons_zero, List.set_cons_succ]
  refine wpAnyH_take (i := 12) (oi := { dst := some 72, op := Go.Op.move (Go.Operand.tmp 9), type := 3, pos := "law.go:76", after := #[{ on := 11, ground := Go.Ground.guard }], guard := some (11, true) }) (v := ?_) rfl (by kernel_rfl) (by kernel_rfl) (by kernel_rfl) (fun _ _ _ h => h) (Or.inl ⟨by rfl, ?_⟩) Ha ?_
  rotate_left
  focus (intro w' hSw; (try dsimp only at hSw); go_simp; (try with_reducible rfl))
  simp only [Act.put, List.setIfInBounds_toArray, List.set_cons_zero, List.set_cons_succ]
  refine wpAnyH_take (i := 13) (oi := { dst := some 73, op := Go.Op.move (Go.Operand.tmp 7), type := 23, pos := "law.go:76", after := #[{ on := 11, ground := Go.Ground.guard }], guard := some (11, true) }) (v := ?_) rfl (by kernel_rfl) (by kernel_rfl) (by kernel_rfl) (fun _ _ _ h => h) (Or.inl ⟨by rfl, ?_⟩) Ha ?_
  rotate_left
  focus (intro w' hSw; (try dsimp only at hSw); go_simp; (try with_reducible rfl))
  simp only [Act.put, List.setIfInBounds_toArray, List.set_cons_zero, List.set_cons_succ]
  refine wpAnyH_take (i := 14) (oi := { dst := some 74, op := Go.Op.call { callee := Go.Callee.builtin Go.Builtin.len, args := #[Go.Operand.tmp 73], argTypes := #[23] }, type := 3, pos := "law.go:76", after := #[{ on := 13, ground := Go.Ground.data }, { on := 11, ground := Go.Ground.guard }], guard := some (11, true) }) (v := ?_) rfl (by kernel_rfl) (by kernel_rfl) (by kernel_rfl) (fun _ _ _ h => h) (Or.inl ⟨by rfl, ?_⟩) Ha ?_
  rotate_left
  focus (intro w' hSw; (try dsimp only at hSw); go_simp; (try with_reducible rfl))
  simp only [Act.put, List.setIfInBounds_toArray, List.set_cons_zero, List.set_cons_succ]
  refine wpAnyH_take (i := 15) (oi := { dst := some 75, op := Go.Op.binOp Go.BinOp.eql 3 (Go.Operand.tmp 72) (Go.Operand.tmp 74) 3, type := 4, pos := "law.go:76", after := #[{ on := 12, ground := Go.Ground.data }, { on := 14, ground := Go.Ground.data }, { on := 11, ground := Go.Ground.guard }], guard := some (11, true) }) (v := ?_) rfl (by kernel_rfl) (by kernel_rfl) (by kernel_rfl) (fun _ _ _ h => h) (Or.inl ⟨by rfl, ?_⟩) Ha ?_
  rotate_left
  focus (intro w' hSw; (try dsimp only at hSw); go_simp; (try with_reducible rfl))
  simp only [Act.put, List.setIfInBounds_toArray, List.set_cons_zero, List.set_cons_succ]
  refine wpAnyH_take (i := 16) (oi := { dst := some 76, op := Go.Op.pick (Go.Operand.tmp 71) (Go.Operand.tmp 75) (Go.Operand.const (Go.Value.bool false)), type := 4, pos := "law.go:76", after := #[{ on := 11, ground := Go.Ground.data }, { on := 15, ground := Go.Ground.data }], guard := none }) (v := ?_) rfl (by kernel_rfl) (by kernel_rfl) (by kernel_rfl) (fun _ _ _ h => h) (Or.inl ⟨by rfl, ?_⟩) Ha ?_
  rotate_left
  focus (intro w' hSw; (try dsimp only at hSw); go_simp; (try with_reducible rfl))
  simp only [Act.put, List.setIfInBounds_toArray, List.set_cons_zero, List.set_cons_succ]
  refine wpAnyH_take (i := 17) (oi := { dst := some 77, op := Go.Op.move (Go.Operand.tmp 76), type := 4, pos := "law.go:76", after := #[{ on := 16, ground := Go.Ground.data }, { on := 11, ground := Go.Ground.chain }], guard := none }) (v := ?_) rfl (by kernel_rfl) (by kernel_rfl) (by kernel_rfl) (fun _ _ _ h => h) (Or.inl ⟨by rfl, ?_⟩) Ha ?_
  rotate_left
  focus (intro w' hSw; (try dsimp only at hSw); go_simp; (try with_reducible rfl))
  simp only [Act.put, List.setIfInBounds_toArray, List.set_cons_zero, List.set_cons_succ]
  refine wpAnyH_take (i := 18) (oi := { dst := some 78, op := Go.Op.move (Go.Operand.tmp 10), type := 26, pos := "law.go:76", after := #[{ on := 17, ground := Go.Ground.guard }], guard := some (17, true) }) (v := ?_) rfl (by kernel_rfl) (by kernel_rfl) (by kernel_rfl) (fun _ _ _ h => h) (Or.inl ⟨by rfl, ?_⟩) Ha ?_
  rotate_left
  focus (intro w' hSw; (try dsimp only at hSw); go_simp; (try with_reducible rfl))
  simp only [Act.put, List.setIfInBounds_toArray, List.set_cons_zero, List.set_cons_succ]
  refine wpAnyH_ready (rs := [19]) (by kernel_rfl) (by simp) ?_
  refine AllReadyH.cons (o := { dst := some 79, op := Go.Op.call { callee := Go.Callee.value (Go.Operand.func 15), args := #[Go.Operand.tmp 78], argTypes := #[26] }, type := 3, pos := "law.go:76", after := #[{ on := 18, ground := Go.Ground.data }, { on := 17, ground := Go.Ground.chain }, { on := 17, ground := Go.Ground.guard }], guard := some (17, true) }) rfl (fun K hK => ?_) ?_
  rotate_left
  exact AllReadyH.nil
  go_simp
  (go_at_call 15; (with_reducible refine (NM.out _ _).mono ?_); rintro e wn ⟨rfl, rfl⟩)
  try go_wp2_with fail
  refine hK.out _ _ Ha (fun Hn => ?_)
  clear hK K
  try simp only [Act.put, List.setIfInBounds_toArray, List.set_cons_zero, List.set_cons_succ]
  clear Hn
  refine wpAnyH_take (i := 20) (oi := { dst := some 80, op := Go.Op.binOp Go.BinOp.eql 3 (Go.Operand.tmp 79) (Go.Operand.const (Go.Value.int Go.IntKind.i64 0)) 3, type := 4, pos := "law.go:76", after := #[{ on := 19, ground := Go.Ground.data }, { on := 17, ground := Go.Ground.guard }], guard := some (17, true) }) (v := ?_) rfl (by kernel_rfl) (by kernel_rfl) (by kernel_rfl) (fun _ _ _ h => h) (Or.inl ⟨by rfl, ?_⟩) Ha ?_
  rotate_left
  focus (intro w' hSw; (try dsimp only at hSw); go_simp; (try with_reducible rfl))
  simp only [Act.put, List.setIfInBounds_toArray, List.set_cons_zero, List.set_cons_succ]
  refine wpAnyH_take (i := 21) (oi := { dst := some 81, op := Go.Op.pick (Go.Operand.tmp 77) (Go.Operand.tmp 80) (Go.Operand.const (Go.Value.bool false)), type := 4, pos := "law.go:76", after := #[{ on := 17, ground := Go.Ground.data }, { on := 20, ground := Go.Ground.data }], guard := none }) (v := ?_) rfl (by kernel_rfl) (by kernel_rfl) (by kernel_rfl) (fun _ _ _ h => h) (Or.inl ⟨by rfl, ?_⟩) Ha ?_
  rotate_left
  focus (intro w' hSw; (try dsimp only at hSw); go_simp; (try with_reducible rfl))
  simp only [Act.put, List.setIfInBounds_toArray, List.set_cons_zero, List.set_cons_succ]
  refine wpAnyH_take (i := 22) (oi := { dst := some 82, op := Go.Op.move (Go.Operand.tmp 81), type := 4, pos := "law.go:76", after := #[{ on := 21, ground := Go.Ground.data }, { on := 19, ground := Go.Ground.chain }], guard := none }) (v := ?_) rfl (by kernel_rfl) (by kernel_rfl) (by kernel_rfl) (fun _ _ _ h => h) (Or.inl ⟨by rfl, ?_⟩) Ha ?_
  rotate_left
  focus (intro w' hSw; (try dsimp only at hSw); go_simp; (try with_reducible rfl))
  simp only [Act.put, List.setIfInBounds_toArray, List.set_cons_zero, List.set_cons_succ]
  refine wpAnyH_take (i := 23) (oi := { dst := some 83, op := Go.Op.move (Go.Operand.tmp 11), type := 9, pos := "law.go:76", after := #[{ on := 22, ground := Go.Ground.guard }], guard := some (22, true) }) (v := ?_) rfl (by kernel_rfl) (by kernel_rfl) (by kernel_rfl) (fun _ _ _ h => h) (Or.inl ⟨by rfl, ?_⟩) Ha ?_
  rotate_left
  focus (intro w' hSw; (try dsimp only at hSw); go_simp; (try with_reducible rfl))
  simp only [Act.put, List.setIfInBounds_toArray, List.set_cons_zero, List.set_cons_succ]
  refine wpAnyH_take (i := 24) (oi := { dst := some 84, op := Go.Op.move (Go.Operand.tmp 14), type := 9, pos := "law.go:76", after := #[{ on := 22, ground := Go.Ground.guard }], guard := some (22, true) }) (v := ?_) rfl (by kernel_rfl) (by kernel_rfl) (by kernel_rfl) (fun _ _ _ h => h) (Or.inl ⟨by rfl, ?_⟩) Ha ?_
  rotate_left
  focus (intro w' hSw; (try dsimp only at hSw); go_simp; (try with_reducible rfl))
  simp only [Act.put, List.setIfInBounds_toArray, List.set_cons_zero, List.set_cons_succ]
  refine wpAnyH_take (i := 25) (oi := { dst := some 85, op := Go.Op.binOp Go.BinOp.eql 9 (Go.Operand.tmp 83) (Go.Operand.tmp 84) 9, type := 4, pos := "law.go:76", after := #[{ on := 23, ground := Go.Ground.data }, { on := 24, ground := Go.Ground.data }, { on := 22, ground := Go.Ground.guard }], guard := some (22, true) }) (v := ?_) rfl (by kernel_rfl) (by kernel_rfl) (by kernel_rfl) (fun _ _ _ h => h) (Or.inl ⟨by rfl, ?_⟩) Ha ?_
  rotate_left
  focus (intro w' hSw; (try dsimp only at hSw); go_simp; (try with_reducible rfl))
  simp only [Act.put, List.setIfInBounds_toArray, List.set_cons_zero, List.set_cons_succ]
  refine wpAnyH_take (i := 26) (oi := { dst := some 86, op := Go.Op.pick (Go.Operand.tmp 82) (Go.Operand.tmp 85) (Go.Operand.const (Go.Value.bool false)), type := 4, pos := "law.go:76", after := #[{ on := 22, ground := Go.Ground.data }, { on := 25, ground := Go.Ground.data }], guard := none }) (v := ?_) rfl (by kernel_rfl) (by kernel_rfl) (by kernel_rfl) (fun _ _ _ h => h) (Or.inl ⟨by rfl, ?_⟩) Ha ?_
  rotate_left
  focus (intro w' hSw; (try dsimp only at hSw); go_simp; (try with_reducible rfl))
  simp only [Act.put, List.setIfInBounds_toArray, List.set_cons_zero, List.set_cons_succ]
  refine wpAnyH_take (i := 27) (oi := { dst := some 87, op := Go.Op.move (Go.Operand.tmp 86), type := 4, pos := "law.go:76", after := #[{ on := 26, ground := Go.Ground.data }, { on := 22, ground := Go.Ground.chain }], guard := none }) (v := ?_) rfl (by kernel_rfl) (by kernel_rfl) (by kernel_rfl) (fun _ _ _ h => h) (Or.inl ⟨by rfl, ?_⟩) Ha ?_
  rotate_left
  focus (intro w' hSw; (try dsimp only at hSw); go_simp; (try with_reducible rfl))
  simp only [Act.put, List.setIfInBounds_toArray, List.set_cons_zero, List.set_cons_succ]
  refine wpAnyH_take (i := 28) (oi := { dst := some 88, op := Go.Op.move (Go.Operand.tmp 12), type := 3, pos := "law.go:76", after := #[{ on := 27, ground := Go.Ground.guard }], guard := some (27, true) }) (v := ?_) rfl (by kernel_rfl) (by kernel_rfl) (by kernel_rfl) (fun _ _ _ h => h) (Or.inl ⟨by rfl, ?_⟩) Ha ?_
  rotate_left
  focus (intro w' hSw; (try dsimp only at hSw); go_simp; (try with_reducible rfl))
  simp only [Act.put, List.setIfInBounds_toArray, List.set_cons_zero, List.set_cons_succ]
  refine wpAnyH_take (i := 29) (oi := { dst := some 89, op := Go.Op.move (Go.Operand.tmp 15), type := 3, pos := "law.go:76", after := #[{ on := 27, ground := Go.Ground.guard }], guard := some (27, true) }) (v := ?_) rfl (by kernel_rfl) (by kernel_rfl) (by kernel_rfl) (fun _ _ _ h => h) (Or.inl ⟨by rfl, ?_⟩) Ha ?_
  rotate_left
  focus (intro w' hSw; (try dsimp only at hSw); go_simp; (try with_reducible rfl))
  simp only [Act.put, List.setIfInBounds_toArray, List.set_cons_zero, List.set_cons_succ]
  refine wpAnyH_take (i := 30) (oi := { dst := some 90, op := Go.Op.binOp Go.BinOp.eql 3 (Go.Operand.tmp 88) (Go.Operand.tmp 89) 3, type := 4, pos := "law.go:76", after := #[{ on := 28, ground := Go.Ground.data }, { on := 29, ground := Go.Ground.data }, { on := 27, ground := Go.Ground.guard }], guard := some (27, true) }) (v := ?_) rfl (by kernel_rfl) (by kernel_rfl) (by kernel_rfl) (fun _ _ _ h => h) (Or.inl ⟨by rfl, ?_⟩) Ha ?_
  rotate_left
  focus (intro w' hSw; (try dsimp only at hSw); go_simp; (try with_reducible rfl))
  simp only [Act.put, List.setIfInBounds_toArray, List.set_cons_zero, List.set_cons_succ]
  refine wpAnyH_take (i := 31) (oi := { dst := some 91, op := Go.Op.pick (Go.Operand.tmp 87) (Go.Operand.tmp 90) (Go.Operand.const (Go.Value.bool false)), type := 4, pos := "law.go:76", after := #[{ on := 27, ground := Go.Ground.data }, { on := 30, ground := Go.Ground.data }], guard := none }) (v := ?_) rfl (by kernel_rfl) (by kernel_rfl) (by kernel_rfl) (fun _ _ _ h => h) (Or.inl ⟨by rfl, ?_⟩) Ha ?_
  rotate_left
  focus (intro w' hSw; (try dsimp only at hSw); go_simp; (try with_reducible rfl))
  simp only [Act.put, List.setIfInBounds_toArray, List.set_cons_zero, List.set_cons_succ]
  refine wpAnyH_take (i := 32) (oi := { dst := some 92, op := Go.Op.move (Go.Operand.tmp 91), type := 4, pos := "law.go:76", after := #[{ on := 31, ground := Go.Ground.data }, { on := 27, ground := Go.Ground.chain }], guard := none }) (v := ?_) rfl (by kernel_rfl) (by kernel_rfl) (by kernel_rfl) (fun _ _ _ h => h) (Or.inl ⟨by rfl, ?_⟩) Ha ?_
  rotate_left
  focus (intro w' hSw; (try dsimp only at hSw); go_simp; (try with_reducible rfl))
  simp only [Act.put, List.setIfInBounds_toArray, List.set_cons_zero, List.set_cons_succ]
  refine wpAnyH_take (i := 33) (oi := { dst := some 93, op := Go.Op.move (Go.Operand.tmp 13), type := 26, pos := "law.go:76", after := #[{ on := 32, ground := Go.Ground.guard }], guard := some (32, true) }) (v := ?_) rfl (by kernel_rfl) (by kernel_rfl) (by kernel_rfl) (fun _ _ _ h => h) (Or.inl ⟨by rfl, ?_⟩) Ha ?_
  rotate_left
  focus (intro w' hSw; (try dsimp only at hSw); go_simp; (try with_reducible rfl))
  simp only [Act.put, List.setIfInBounds_toArray, List.set_cons_zero, List.set_cons_succ]
  refine wpAnyH_take (i := 35) (oi := { dst := some 95, op := Go.Op.move (Go.Operand.tmp 16), type := 3, pos := "law.go:76", after := #[{ on := 32, ground := Go.Ground.guard }], guard := some (32, true) }) (v := ?_) rfl (by kernel_rfl) (by kernel_rfl) (by kernel_rfl) (fun _ _ _ h => h) (Or.inl ⟨by rfl, ?_⟩) Ha ?_
  rotate_left
  focus (intro w' hSw; (try dsimp only at hSw); go_simp; (try with_reducible rfl))
  simp only [Act.put, List.setIfInBounds_toArray, List.set_cons_zero, List.set_cons_succ]
  refine wpAnyH_ready (rs := [34]) (by kernel_rfl) (by simp) ?_
  refine AllReadyH.cons (o := { dst := some 94, op := Go.Op.call { callee := Go.Callee.value (Go.Operand.func 15), args := #[Go.Operand.tmp 93], argTypes := #[26] }, type := 3, pos := "law.go:76", after := #[{ on := 33, ground := Go.Ground.data }, { on := 32, ground := Go.Ground.chain }, { on := 32, ground := Go.Ground.guard }], guard := some (32, true) }) rfl (fun K hK => ?_) ?_
  rotate_left
  exact AllReadyH.nil
  go_simp
  (go_at_call 15; (with_reducible refine (NM.out _ _).mono ?_); rintro e wn ⟨rfl, rfl⟩)
  try go_wp2_with fail
  refine hK.out _ _ Ha (fun Hn => ?_)
  clear hK K
  try simp only [Act.put, List.setIfInBounds_toArray, List.set_cons_zero, List.set_cons_succ]
  clear Hn
  refine wpAnyH_take (i := 36) (oi := { dst := some 96, op := Go.Op.binOp Go.BinOp.eql 3 (Go.Operand.tmp 94) (Go.Operand.tmp 95) 3, type := 4, pos := "law.go:76", after := #[{ on := 34, ground := Go.Ground.data }, { on := 35, ground := Go.Ground.data }, { on := 32, ground := Go.Ground.guard }], guard := some (32, true) }) (v := ?_) rfl (by kernel_rfl) (by kernel_rfl) (by kernel_rfl) (fun _ _ _ h => h) (Or.inl ⟨by rfl, ?_⟩) Ha ?_
  rotate_left
  focus (intro w' hSw; (try dsimp only at hSw); go_simp; (try with_reducible rfl))
  simp only [Act.put, List.setIfInBounds_toArray, List.set_cons_zero, List.set_cons_succ]
  refine wpAnyH_take (i := 37) (oi := { dst := some 97, op := Go.Op.pick (Go.Operand.tmp 92) (Go.Operand.tmp 96) (Go.Operand.const (Go.Value.bool false)), type := 4, pos := "law.go:76", after := #[{ on := 32, ground := Go.Ground.data }, { on := 36, ground := Go.Ground.data }], guard := none }) (v := ?_) rfl (by kernel_rfl) (by kernel_rfl) (by kernel_rfl) (fun _ _ _ h => h) (Or.inl ⟨by rfl, ?_⟩) Ha ?_
  rotate_left
  focus (intro w' hSw; (try dsimp only at hSw); go_simp; (try with_reducible rfl))
  simp only [Act.put, List.setIfInBounds_toArray, List.set_cons_zero, List.set_cons_succ]
  refine wpAnyH_take (i := 38) (oi := { dst := some 98, op := Go.Op.move (Go.Operand.tmp 97), type := 4, pos := "law.go:76", after := #[{ on := 37, ground := Go.Ground.data }, { on := 34, ground := Go.Ground.chain }], guard := none }) (v := ?_) rfl (by kernel_rfl) (by kernel_rfl) (by kernel_rfl) (fun _ _ _ h => h) (Or.inl ⟨by rfl, ?_⟩) Ha ?_
  rotate_left
  focus (intro w' hSw; (try dsimp only at hSw); go_simp; (try with_reducible rfl))
  simp only [Act.put, List.setIfInBounds_toArray, List.set_cons_zero, List.set_cons_succ]
  refine wpAnyH_take (i := 39) (oi := { dst := some 99, op := Go.Op.move (Go.Operand.tmp 1), type := 23, pos := "law.go:76", after := #[{ on := 38, ground := Go.Ground.guard }], guard := some (38, true) }) (v := ?_) rfl (by kernel_rfl) (by kernel_rfl) (by kernel_rfl) (fun _ _ _ h => h) (Or.inl ⟨by rfl, ?_⟩) Ha ?_
  rotate_left
  focus (intro w' hSw; (try dsimp only at hSw); go_simp; (try with_reducible rfl))
  simp only [Act.put, List.setIfInBounds_toArray, List.set_cons_zero, List.set_cons_succ]
  refine wpAnyH_take (i := 40) (oi := { dst := some 100, op := Go.Op.move (Go.Operand.tmp 2), type := 3, pos := "law.go:76", after := #[{ on := 38, ground := Go.Ground.guard }], guard := some (38, true) }) (v := ?_) rfl (by kernel_rfl) (by kernel_rfl) (by kernel_rfl) (fun _ _ _ h => h) (Or.inl ⟨by rfl, ?_⟩) Ha ?_
  rotate_left
  focus (intro w' hSw; (try dsimp only at hSw); go_simp; (try with_reducible rfl))
  simp only [Act.put, List.setIfInBounds_toArray, List.set_cons_zero, List.set_cons_succ]
  refine wpAnyH_take (i := 41) (oi := { dst := some 101, op := Go.Op.slice 23 (Go.Operand.tmp 99) none (some (Go.Operand.tmp 100)) none, type := 23, pos := "law.go:76", after := #[{ on := 39, ground := Go.Ground.data }, { on := 40, ground := Go.Ground.data }, { on := 38, ground := Go.Ground.guard }], guard := some (38, true) }) (v := ?_) rfl (by kernel_rfl) (by kernel_rfl) (by kernel_rfl) (fun _ _ _ h => h) (Or.inl ⟨by rfl, ?_⟩) Ha ?_
  rotate_left
  focus (intro w' hSw; (try dsimp only at hSw); go_simp; (try with_reducible rfl))
  simp only [Act.put, List.setIfInBounds_toArray, List.set_cons_zero, List.set_cons_succ]
  refine wpAnyH_take (i := 42) (oi := { dst := some 102, op := Go.Op.move (Go.Operand.tmp 1), type := 23, pos := "law.go:76", after := #[{ on := 38, ground := Go.Ground.guard }], guard := some (38, true) }) (v := ?_) rfl (by kernel_rfl) (by kernel_rfl) (by kernel_rfl) (fun _ _ _ h => h) (Or.inl ⟨by rfl, ?_⟩) Ha ?_
  rotate_left
  focus (intro w' hSw; (try dsimp only at hSw); go_simp; (try with_reducible rfl))
  simp only [Act.put, List.setIfInBounds_toArray, List.set_cons_zero, List.set_cons_succ]
  refine wpAnyH_take (i := 43) (oi := { dst := some 103, op := Go.Op.move (Go.Operand.tmp 2), type := 3, pos := "law.go:76", after := #[{ on := 38, ground := Go.Ground.guard }], guard := some (38, true) }) (v := ?_) rfl (by kernel_rfl) (by kernel_rfl) (by kernel_rfl) (fun _ _ _ h => h) (Or.inl ⟨by rfl, ?_⟩) Ha ?_
  rotate_left
  focus (intro w' hSw; (try dsimp only at hSw); go_simp; (try with_reducible rfl))
  simp only [Act.put, List.setIfInBounds_toArray, List.set_cons_zero, List.set_cons_succ]
  refine wpAnyH_take (i := 44) (oi := { dst := some 104, op := Go.Op.slice 23 (Go.Operand.tmp 102) (some (Go.Operand.tmp 103)) none none, type := 23, pos := "law.go:76", after := #[{ on := 42, ground := Go.Ground.data }, { on := 43, ground := Go.Ground.data }, { on := 38, ground := Go.Ground.guard }], guard := some (38, true) }) (v := ?_) rfl (by kernel_rfl) (by kernel_rfl) (by kernel_rfl) (fun _ _ _ h => h) (Or.inl ⟨by rfl, ?_⟩) Ha ?_
  rotate_left
  focus (intro w' hSw; (try dsimp only at hSw); go_simp; (try with_reducible rfl))
  simp only [Act.put, List.setIfInBounds_toArray, List.set_cons_zero, List.set_cons_succ]
  refine wpAnyH_take (i := 47) (oi := { dst := some 107, op := Go.Op.move (Go.Operand.tmp 1), type := 23, pos := "law.go:76", after := #[{ on := 38, ground := Go.Ground.guard }], guard := some (38, true) }) (v := ?_) rfl (by kernel_rfl) (by kernel_rfl) (by kernel_rfl) (fun _ _ _ h => h) (Or.inl ⟨by rfl, ?_⟩) Ha ?_
  rotate_left
  focus (intro w' hSw; (try dsimp only at hSw); go_simp; (try with_reducible rfl))
  simp only [Act.put, List.setIfInBounds_toArray, List.set_cons_zero, List.set_cons_succ]
  refine wpAnyH_ready (rs := [45]) (by kernel_rfl) (by simp) ?_
  refine AllReadyH.cons (o := { dst := some 105, op := Go.Op.buildSlice 71 2 #[(0, Go.Operand.tmp 101), (1, Go.Operand.tmp 104)], type := 71, pos := "law.go:76", after := #[{ on := 41, ground := Go.Ground.data }, { on := 44, ground := Go.Ground.data }, { on := 38, ground := Go.Ground.guard }], guard := some (38, true) }) rfl (fun K hK => ?_) ?_
  rotate_left
  exact AllReadyH.nil
  go_simp
  try go_wp2_with fail
  refine hK.out _ _ ((Below.refl _ _).alloc (Nat.le_refl _) _) (fun Hb => ?_)
  clear hK K
  try simp only [Act.put, List.setIfInBounds_toArray, List.set_cons_zero, List.set_cons_succ]
  refine wpAnyH_ready (rs := [46]) (by kernel_rfl) (by simp) ?_
  refine AllReadyH.cons (o := { dst := some 106, op := Go.Op.call { callee := Go.Callee.value (Go.Operand.func 24), args := #[Go.Operand.tmp 105], argTypes := #[71] }, type := 31, pos := "law.go:76", after := #[{ on := 45, ground := Go.Ground.data }, { on := 38, ground := Go.Ground.chain }, { on := 38, ground := Go.Ground.guard }], guard := some (38, true) }) rfl (fun K hK => ?_) ?_
  rotate_left
  exact AllReadyH.nil
  go_simp
  (go_at_call 24; (with_reducible refine (SM.out _ T0.out).mono ?_); rintro e wb ⟨rfl, hbb⟩)
  try go_wp2_with fail
  refine hK.out _ _ hbb (fun Hc => ?_)
  clear hK K Hb
  try simp only [Act.put, List.setIfInBounds_toArray, List.set_cons_zero, List.set_cons_succ]
  have T1 := Lib.hid (below_any T0.out hbb)
  have HX := Lib.hid (below_any HX.out hbb)
  refine wpAnyH_ready (rs := [48]) (by kernel_rfl) (by simp) ?_
  refine AllReadyH.cons (o := { dst := some 108, op := Go.Op.call { callee := Go.Callee.value (Go.Operand.func 25), args := #[Go.Operand.tmp 107], argTypes := #[23] }, type := 31, pos := "law.go:76", after := #[{ on := 47, ground := Go.Ground.data }, { on := 46, ground := Go.Ground.chain }, { on := 38, ground := Go.Ground.guard }], guard := some (38, true) }) rfl (fun K hK => ?_) ?_
  rotate_left
  exact AllReadyH.nil
  go_simp
  (go_at_call 25; (with_reducible refine (RS.out _ T1.out).mono ?_); rintro e wc ⟨rfl, rfl⟩)
  try go_wp2_with fail
  refine hK.out _ _ Hc (fun Hd => ?_)
  clear hK K
  try simp only [Act.put, List.setIfInBounds_toArray, List.set_cons_zero, List.set_cons_succ]
  refine wpAnyH_turnS (S' := fun w' => Below wb.heap.size wb w') (fun w' h => kbT Hd h) _ _ _ _ ?_
  have He := Below.refl wb.heap.size wb
  clear Hd
  refine wpAnyH_take (i := 49) (oi := { dst := some 109, op := Go.Op.binOp Go.BinOp.eql 31 (Go.Operand.tmp 106) (Go.Operand.tmp 108) 31, type := 4, pos := "law.go:76", after := #[{ on := 46, ground := Go.Ground.data }, { on := 48, ground := Go.Ground.data }, { on := 38, ground := Go.Ground.guard }], guard := some (38, true) }) (v := ?_) rfl (by kernel_rfl) (by kernel_rfl) (by kernel_rfl) (fun _ _ _ h => h) (Or.inl ⟨by rfl, ?_⟩) He ?_
  rotate_left
  focus (intro w' hSw; (try dsimp only at hSw); go_simp; (try with_reducible rfl))
  simp only [Act.put, List.setIfInBounds_toArray, List.set_cons_zero, List.set_cons_succ]
  refine wpAnyH_take (i := 50) (oi := { dst := some 110, op := Go.Op.pick (Go.Operand.tmp 98) (Go.Operand.tmp 109) (Go.Operand.const (Go.Value.bool false)), type := 4, pos := "law.go:76", after := #[{ on := 38, ground := Go.Ground.data }, { on := 49, ground := Go.Ground.data }], guard := none }) (v := ?_) rfl (by kernel_rfl) (by kernel_rfl) (by kernel_rfl) (fun _ _ _ h => h) (Or.inl ⟨by rfl, ?_⟩) He ?_
  rotate_left
  focus (intro w' hSw; (try dsimp only at hSw); go_simp; (try with_reducible rfl))
  simp only [Act.put, List.setIfInBounds_toArray, List.set_cons_zero, List.set_cons_succ]
  refine wpAnyH_take (i := 51) (oi := { dst := some 111, op := Go.Op.move (Go.Operand.tmp 110), type := 4, pos := "law.go:76", after := #[{ on := 50, ground := Go.Ground.data }, { on := 48, ground := Go.Ground.chain }], guard := none }) (v := ?_) rfl (by kernel_rfl) (by kernel_rfl) (by kernel_rfl) (fun _ _ _ h => h) (Or.inl ⟨by rfl, ?_⟩) He ?_
  rotate_left
  focus (intro w' hSw; (try dsimp only at hSw); go_simp; (try with_reducible rfl))
  simp only [Act.put, List.setIfInBounds_toArray, List.set_cons_zero, List.set_cons_succ]
  refine wpAnyH_ready (rs := [52]) (by kernel_rfl) (by simp) ?_
  refine AllReadyH.cons (o := { dst := some 112, op := Go.Op.call { callee := Go.Callee.value (Go.Operand.func 7), args := #[], argTypes := #[] }, type := 4, pos := "law.go:76", after := #[{ on := 51, ground := Go.Ground.chain }, { on := 51, ground := Go.Ground.guard }], guard := some (51, true) }) rfl (fun K hK => ?_) ?_
  rotate_left
  exact AllReadyH.nil
  go_simp
  (go_at_call 7; (with_reducible refine (WK.out _).mono ?_); rintro e wf ⟨rfl, hbf⟩)
  try go_wp2_with fail
  refine hK.out _ _ (kbT He hbf) (fun Gf => ?_)
  clear hK K
  try simp only [Act.put, List.setIfInBounds_toArray, List.set_cons_zero, List.set_cons_succ]
  have HX := Lib.hid (below_any HX.out hbf)
  refine wpAnyH_take (i := 53) (oi := { dst := some 113, op := Go.Op.pick (Go.Operand.tmp 111) (Go.Operand.tmp 112) (Go.Operand.const (Go.Value.bool false)), type := 4, pos := "law.go:76", after := #[{ on := 51, ground := Go.Ground.data }, { on := 52, ground := Go.Ground.data }], guard := none }) (v := ?_) rfl (by kernel_rfl) (by kernel_rfl) (by kernel_rfl) (fun _ _ _ h => h) (Or.inl ⟨by rfl, ?_⟩) Gf ?_
  rotate_left
  focus (intro w' hSw; (try dsimp only at hSw); go_simp; (try with_reducible rfl))
  simp only [Act.put, List.setIfInBounds_toArray, List.set_cons_zero, List.set_cons_succ]
  refine wpAnyH_take (i := 54) (oi := { dst := some 6, op := Go.Op.assign (Go.Operand.tmp 113), type := 4, pos := "law.go:76", after := #[{ on := 53, ground := Go.Ground.data }, { on := 52, ground := Go.Ground.chain }, { on := 0, ground := Go.Ground.phase }, { on := 1, ground := Go.Ground.phase }, { on := 2, ground := Go.Ground.phase }, { on := 3, ground := Go.Ground.phase }, { on := 4, ground := Go.Ground.phase }, { on := 5, ground := Go.Ground.phase }, { on := 6, ground := Go.Ground.phase }, { on := 7, ground := Go.Ground.phase }, { on := 8, ground := Go.Ground.phase }, { on := 9, ground := Go.Ground.phase }, { on := 10, ground := Go.Ground.phase }, { on := 11, ground := Go.Ground.phase }, { on := 12, ground := Go.Ground.phase }, { on := 13, ground := Go.Ground.phase }, { on := 14, ground := Go.Ground.phase }, { on := 15, ground := Go.Ground.phase }, { on := 16, ground := Go.Ground.phase }, { on := 17, ground := Go.Ground.phase }, { on := 18, ground := Go.Ground.phase }, { on := 19, ground := Go.Ground.phase }, { on := 20, ground := Go.Ground.phase }, { on := 21, ground := Go.Ground.phase }, { on := 22, ground := Go.Ground.phase }, { on := 23, ground := Go.Ground.phase }, { on := 24, ground := Go.Ground.phase }, { on := 25, ground := Go.Ground.phase }, { on := 26, ground := Go.Ground.phase }, { on := 27, ground := Go.Ground.phase }, { on := 28, ground := Go.Ground.phase }, { on := 29, ground := Go.Ground.phase }, { on := 30, ground := Go.Ground.phase }, { on := 31, ground := Go.Ground.phase }, { on := 32, ground := Go.Ground.phase }, { on := 33, ground := Go.Ground.phase }, { on := 34, ground := Go.Ground.phase }, { on := 35, ground := Go.Ground.phase }, { on := 36, ground := Go.Ground.phase }, { on := 37, ground := Go.Ground.phase }, { on := 38, ground := Go.Ground.phase }, { on := 39, ground := Go.Ground.phase }, { on := 40, ground := Go.Ground.phase }, { on := 41, ground := Go.Ground.phase }, { on := 42, ground := Go.Ground.phase }, { on := 43, ground := Go.Ground.phase }, { on := 44, ground := Go.Ground.phase }, { on := 45, ground := Go.Ground.phase }, { on := 46, ground := Go.Ground.phase }, { on := 47, ground := Go.Ground.phase }, { on := 48, ground := Go.Ground.phase }, { on := 49, ground := Go.Ground.phase }, { on := 50, ground := Go.Ground.phase }, { on := 51, ground := Go.Ground.phase }, { on := 52, ground := Go.Ground.phase }, { on := 53, ground := Go.Ground.phase }], guard := none }) (v := ?_) rfl (by kernel_rfl) (by kernel_rfl) (by kernel_rfl) (fun _ _ _ h => h) (Or.inl ⟨by rfl, ?_⟩) Gf ?_
  rotate_left
  focus (intro w' hSw; (try dsimp only at hSw); go_simp; (try with_reducible rfl))
  simp only [Act.put, List.setIfInBounds_toArray, List.set_cons_zero, List.set_cons_succ]
  refine wpAnyH_done (by kernel_rfl) ?_ _
  go_wp2_with fail
  go_ret
  exact ⟨rfl, HX.out⟩
end Go.Proofs.Ytgadmbgnkccooaa
