/- The document's EncodeHead. -/
import Derived.Test.YthnllhfdbnnjhaaPM
namespace Go.Proofs.Ythnllhfdbnnjhaa
open Go.RowKit Go.Shelf

theorem fix8 (x : Nat) (h : x < 2 ^ 64) (w : World) : Calls Try.prog 36 #[.int .u64 x, .int .i64 8] w fun r w' => r = .returned (.slice (some ⟨w.heap.size, 0, none⟩) 8 8) ∧ RowB w (fixE 8 x) (.slice (some ⟨w.heap.size, 0, none⟩) 8 8) w' :=
  (fixed_conv x 8 (by omega) h w).mono fun _ _ h => ⟨h.1, h.2.1⟩
theorem fix4 (x : Nat) (h : x < 2 ^ 64) (w : World) : Calls Try.prog 36 #[.int .u64 x, .int .i64 4] w fun r w' => r = .returned (.slice (some ⟨w.heap.size, 0, none⟩) 4 4) ∧ RowB w (fixE 4 x) (.slice (some ⟨w.heap.size, 0, none⟩) 4 4) w' :=
  (fixed_conv x 4 (by omega) h w).mono fun _ _ h => ⟨h.1, h.2.1⟩
theorem head_no {n c : Int} (h : ¬ (0 ≤ n ∧ n ≤ 2000 ∧ 0 ≤ c ∧ c ≤ 2000)) : headOk n c = false := by
  cases hp : headOk n c
  · rfl
  · exact absurd (head_bounds hp) h
set_option maxRecDepth 100000 in
theorem refEncodeHead_no (S E : Nat) (n c : Int) (hh : headOk n c = false) (w : World) :
    Calls Try.prog 20 #[.agg #[.int .u64 S, .int .u64 E, .int .i64 n, .int .i64 c]] w fun r w' => r = .returned (.tuple #[.slice none 0 0, .int .i64 2]) ∧ Below w.heap.size w w' := by
  by_cases h1 : n < 0
  · clear hh
    go_enter Try.func20, Try.ntmps20
    go_wp2
    go_ret2
    exact ⟨rfl, (Below.refl _ _).alloc (Nat.le_refl _) _⟩
  · by_cases h2 : n > 2000
    · clear hh
      go_enter Try.func20, Try.ntmps20
      go_wp2
      go_ret2
      exact ⟨rfl, (Below.refl _ _).alloc (Nat.le_refl _) _⟩
    · by_cases h3 : c < 0
      · clear hh
        go_enter Try.func20, Try.ntmps20
        go_wp2
        go_ret2
        exact ⟨rfl, (Below.refl _ _).alloc (Nat.le_refl _) _⟩
      · by_cases h4 : c > 2000
        · clear hh
          go_enter Try.func20, Try.ntmps20
          go_wp2
          go_ret2
          exact ⟨rfl, (Below.refl _ _).alloc (Nat.le_refl _) _⟩
        · simp [headOk] at hh
          omega
theorem headB_is (S E n c : Nat) : headB S E n c = fixE 8 S ++ fixE 8 E ++ fixE 4 n ++ fixE 4 c := by simp [headB, partsL, headPs]
theorem headL_is (S E n c : Nat) : headL S E n c = headC S E n c ++ headC S E n c ++ List.replicate 8 0 := by
  have h := headC_length S E n c
  unfold headL padL
  rw [List.length_append, h]
theorem RX (w : World) : Hid (RowB w [] (.slice (some ⟨w.heap.size, 0, none⟩) 0 0) (w.alloc (.cells #[] 5))) := Lib.hid (rowB_empty w)
/-- As wpList_append_bytes, where the length is told. -/
theorem wpList_append_at {ops : Array Oper} {rest : List Oper} {o : Oper} {a : Act} {w : World} {Q : Exit → Act → World → Prop} (hgd : o.guard = none) (s x : Operand)
    (ho : o.op = .call { callee := .builtin .append, args := #[s, x], argTypes := #[39, 39] })
    {w0 : World} {l m : List Nat} {v : Value} {q : Option Addr} {n c : Nat} (hs : a.eval s = v) (hR : RowB w0 l v w) (hn : m.length = n) (hx : a.eval x = .slice q n c) (hq : q = none → c = 0) (hm : BytesAt w q m) (hb : l.length + m.length ≤ 100000)
    (h : ∀ v' w', RowB w0 (l ++ m) v' w' → wpList Try.prog ops Q rest (a.put o.dst v') w') : wpList Try.prog ops Q (o :: rest) a w := by
  subst hn
  exact wpList_append_bytes hgd s x ho hs hR hx hq hm hb h
set_option maxRecDepth 100000 in
set_option maxHeartbeats 4000000 in
theorem refEncodeHead_ok (S E n c : Nat) (hS : S < 2 ^ 64) (hE : E < 2 ^ 64) (hh : headOk n c = true) (w : World) :
    Calls Try.prog 20 #[.agg #[.int .u64 S, .int .u64 E, .int .i64 n, .int .i64 c]] w fun r w' => ∃ t, r = .returned (.tuple #[t, .int .i64 0]) ∧ RowB w (headL S E n c) t w' := by
  obtain ⟨h1, h2, h3, h4⟩ := head_bounds hh
  have F1 := Lib.hid (fix8 S hS)
  have F2 := Lib.hid (fix8 E hE)
  have F3 := Lib.hid (fix4 n (by omega))
  have F4 := Lib.hid (fix4 c (by omega))
  have HB := Lib.hid (headB_is S E n c)
  have HC : Hid (headC S E n c = headB S E n c ++ fixE 4 (~~~ sumN (headB S E n c)).toNat) := Lib.hid rfl
  have HLL := Lib.hid (headL_is S E n c)
  have hbl := headB_length S E n c
  have hcl := headC_length S E n c
  have hbb := headB_byte S E n c
  generalize headB S E n c = lb at *
  generalize headC S E n c = lc at *
  generalize headL S E n c = ll at *
  have SU := Lib.hid fun p cap w h => refSum_any lb p cap w (by omega) hbb (Lib.hid h)
  have hsb : (~~~ sumN lb).toNat < 4294967296 := sumNot_lt _
  have F5 := Lib.hid (fix4 (~~~ sumN lb).toNat (by omega))
  have e8s : Hid ((fixE 8 E).length = 8) := Lib.hid (fixE_length _ _)
  have e4n : Hid ((fixE 4 n).length = 4) := Lib.hid (fixE_length _ _)
  have e4c : Hid ((fixE 4 c).length = 4) := Lib.hid (fixE_length _ _)
  have e4s : Hid ((fixE 4 (~~~ sumN lb).toNat).length = 4) := Lib.hid (fixE_length _ _)
  have s1 : Hid ((fixE 8 S).length + (fixE 8 E).length ≤ 100000) := Lib.hid (by simp [fixE_length])
  have s2 : Hid ((fixE 8 S ++ fixE 8 E).length + (fixE 4 n).length ≤ 100000) := Lib.hid (by simp [fixE_length])
  have s3 : Hid ((fixE 8 S ++ fixE 8 E ++ fixE 4 n).length + (fixE 4 c).length ≤ 100000) := Lib.hid (by simp [fixE_length])
  have s4 : Hid (lb.length + (fixE 4 (~~~ sumN lb).toNat).length ≤ 100000) := Lib.hid (by rw [fixE_length]; omega)
  have s5 : Hid (([] : List Nat).length + lc.length ≤ 100000) := Lib.hid (by simp; omega)
  have s6 : Hid (lc.length + lc.length ≤ 100000) := Lib.hid (by omega)
  have s7 : Hid ((lc ++ lc).length + 8 ≤ 100000) := Lib.hid (by rw [List.length_append]; omega)
  generalize fixE 4 (~~~ sumN lb).toNat = l5 at *
  generalize (~~~ sumN lb).toNat = sb at *
  generalize fixE 8 S = f1 at *
  generalize fixE 8 E = f2 at *
  generalize fixE 4 n = f3 at *
  generalize fixE 4 c = f4 at *
  have u1 : IntKind.u64.wrap (n : Int) = (n : Int) := wrap_u64 _ (by omega) (by omega)
  have u2 : IntKind.u64.wrap (c : Int) = (c : Int) := wrap_u64 _ (by omega) (by omega)
  have u3 : IntKind.u64.wrap (sb : Int) = (sb : Int) := wrap_u64 _ (by omega) (by omega)
  clear hbl hcl hbb hh
  go_enter Try.func20, Try.ntmps20
  go_upto_region 3 with fail
  obtain ⟨w1, hw1⟩ : ∃ w1, w.alloc (.cells #[.int .u64 S, .int .u64 E, .int .i64 n, .int .i64 c] 38) = w1 := ⟨_, rfl⟩
  have B1 : Hid (Below w.heap.size w w1) := Lib.hid (by subst hw1; exact (Below.refl _ _).alloc (Nat.le_refl _) _)
  have HCL : Hid (∀ w', Below w1.heap.size w1 w' → w'.cell? ⟨w.heap.size, 0, none⟩ = some (.int .u64 S) ∧ w'.cell? ⟨w.heap.size, 1, none⟩ = some (.int .u64 E) ∧ w'.cell? ⟨w.heap.size, 2, none⟩ = some (.int .i64 n) ∧ w'.cell? ⟨w.heap.size, 3, none⟩ = some (.int .i64 c)) := Lib.hid fun w' h => by
    have k0 : w1.cell? ⟨w.heap.size, 0, none⟩ = some (.int .u64 S) := by subst hw1; go_cell
    have k1 : w1.cell? ⟨w.heap.size, 1, none⟩ = some (.int .u64 E) := by subst hw1; go_cell
    have k2 : w1.cell? ⟨w.heap.size, 2, none⟩ = some (.int .i64 n) := by subst hw1; go_cell
    have k3 : w1.cell? ⟨w.heap.size, 3, none⟩ = some (.int .i64 c) := by subst hw1; go_cell
    exact ⟨(h.cell (lt_of_cell_some k0)).trans k0, (h.cell (lt_of_cell_some k1)).trans k1, (h.cell (lt_of_cell_some k2)).trans k2, (h.cell (lt_of_cell_some k3)).trans k3⟩
  rw [hw1]
  clear hw1
  go_cut [4] from 23 to 29 (fun s4 wx => ∃ w2, Hid (Below w1.heap.size w1 w2) ∧ Hid (RowB w2 (f1 ++ f2) s4 wx))
  case first =>
    refine wp_region_held_drew (S := fun w' => Below w1.heap.size w1 w') (by kernel_rfl) ((Below.refl _ _).drew) (fun H0 => ?_)
    obtain ⟨wd, hwd⟩ : ∃ wd, w1.drew = wd := ⟨_, rfl⟩
    rw [hwd] at H0 ⊢
    clear hwd
    refine wpAnyH_take (i := 0) (oi := { dst := some 23, op := Go.Op.fieldAddr 38 (Go.Operand.tmp 1) 0, type := 0, pos := "ref.go:35", after := #[], guard := none }) (v := ?_) rfl (by kernel_rfl) (by kernel_rfl) (by kernel_rfl) (fun _ _ _ h => h) (Or.inl ⟨by rfl, ?_⟩) H0 ?_
    rotate_left
    focus (intro w' hSw; (try dsimp only at hSw); go_simp; (try with_reducible rfl))
    simp only [Act.put, List.setIfInBounds_toArray, List.set_cons_zero, List.set_cons_succ]
    refine wpAnyH_take (i := 1) (oi := { dst := some 24, op := Go.Op.load 36 (Go.Operand.tmp 23), type := 36, pos := "ref.go:35", after := #[{ on := 0, ground := Go.Ground.data }], guard := none }) (v := ?_) rfl (by kernel_rfl) (by kernel_rfl) (by kernel_rfl) (fun _ _ _ h => h) (Or.inl ⟨by rfl, ?_⟩) H0 ?_
    rotate_left
    focus (intro w' hSw; (try dsimp only at hSw); obtain ⟨k0, k1, k2, k3⟩ := HCL.out _ hSw; go_simp; (try with_reducible rfl))
    simp only [Act.put, List.setIfInBounds_toArray, List.set_cons_zero, List.set_cons_succ]
    refine wpAnyH_take (i := 3) (oi := { dst := some 26, op := Go.Op.fieldAddr 38 (Go.Operand.tmp 1) 1, type := 0, pos := "ref.go:35", after := #[], guard := none }) (v := ?_) rfl (by kernel_rfl) (by kernel_rfl) (by kernel_rfl) (fun _ _ _ h => h) (Or.inl ⟨by rfl, ?_⟩) H0 ?_
    rotate_left
    focus (intro w' hSw; (try dsimp only at hSw); go_simp; (try with_reducible rfl))
    simp only [Act.put, List.setIfInBounds_toArray, List.set_cons_zero, List.set_cons_succ]
    refine wpAnyH_take (i := 4) (oi := { dst := some 27, op := Go.Op.load 36 (Go.Operand.tmp 26), type := 36, pos := "ref.go:35", after := #[{ on := 3, ground := Go.Ground.data }], guard := none }) (v := ?_) rfl (by kernel_rfl) (by kernel_rfl) (by kernel_rfl) (fun _ _ _ h => h) (Or.inl ⟨by rfl, ?_⟩) H0 ?_
    rotate_left
    focus (intro w' hSw; (try dsimp only at hSw); obtain ⟨k0, k1, k2, k3⟩ := HCL.out _ hSw; go_simp; (try with_reducible rfl))
    simp only [Act.put, List.setIfInBounds_toArray, List.set_cons_zero, List.set_cons_succ]
    refine wpAnyH_ready (rs := [2]) (by kernel_rfl) (by simp) ?_
    refine AllReadyH.cons (o := { dst := some 25, op := Go.Op.call { callee := Go.Callee.value (Go.Operand.func 36), args := #[Go.Operand.tmp 24, Go.Operand.const (Go.Value.int Go.IntKind.i64 8)], argTypes := #[36, 3] }, type := 39, pos := "ref.go:35", after := #[{ on := 1, ground := Go.Ground.data }], guard := none }) rfl (fun K hK => ?_) ?_
    rotate_left
    exact AllReadyH.nil
    go_simp
    (go_at_call 36; (with_reducible refine (F1.out _).mono ?_); rintro e wa ⟨rfl, r1⟩)
    try go_wp2_with fail
    refine hK.out _ _ (kbT H0 r1.2) (fun Ha => ?_)
    clear hK K
    try simp only [Act.put, List.setIfInBounds_toArray, List.set_cons_zero, List.set_cons_succ]
    refine wpAnyH_ready (rs := [5]) (by kernel_rfl) (by simp) ?_
    refine AllReadyH.cons (o := { dst := some 28, op := Go.Op.call { callee := Go.Callee.value (Go.Operand.func 36), args := #[Go.Operand.tmp 27, Go.Operand.const (Go.Value.int Go.IntKind.i64 8)], argTypes := #[36, 3] }, type := 39, pos := "ref.go:35", after := #[{ on := 4, ground := Go.Ground.data }, { on := 2, ground := Go.Ground.chain }], guard := none }) rfl (fun K hK => ?_) ?_
    rotate_left
    exact AllReadyH.nil
    go_simp
    (go_at_call 36; (with_reducible refine (F2.out _).mono ?_); rintro e wb ⟨rfl, r2⟩)
    try go_wp2_with fail
    have r1 := r1.later r2.2
    refine hK.out _ _ (kbT Ha r2.2) (fun Hb => ?_)
    clear hK K
    try simp only [Act.put, List.setIfInBounds_toArray, List.set_cons_zero, List.set_cons_succ]
    refine wpAnyH_ready (rs := [6]) (by kernel_rfl) (by simp) ?_
    refine AllReadyH.cons (o := { dst := some 29, op := Go.Op.call { callee := Go.Callee.builtin Go.Builtin.append, args := #[Go.Operand.tmp 25, Go.Operand.tmp 28], argTypes := #[39, 39] }, type := 39, pos := "ref.go:35", after := #[{ on := 2, ground := Go.Ground.data }, { on := 5, ground := Go.Ground.data }, { on := 5, ground := Go.Ground.chain }], guard := none }) rfl (fun K hK => ?_) ?_
    rotate_left
    exact AllReadyH.nil
    refine step_append_bytes rfl (.tmp 25) (.tmp 28) rfl rfl r1 e8s.out rfl (fun h => nomatch h) r2.bytes s1.out ?_
    intro v1 wc r3 _
    refine hK.out _ _ (kbT H0 r3.2) (fun Hc => ?_)
    clear hK K
    try simp only [Act.put, List.setIfInBounds_toArray, List.set_cons_zero, List.set_cons_succ]
    refine wpAnyH_take (i := 7) (oi := { dst := some 4, op := Go.Op.assign (Go.Operand.tmp 29), type := 39, pos := "ref.go:35", after := #[{ on := 6, ground := Go.Ground.data }, { on := 6, ground := Go.Ground.chain }, { on := 0, ground := Go.Ground.phase }, { on := 1, ground := Go.Ground.phase }, { on := 2, ground := Go.Ground.phase }, { on := 3, ground := Go.Ground.phase }, { on := 4, ground := Go.Ground.phase }, { on := 5, ground := Go.Ground.phase }, { on := 6, ground := Go.Ground.phase }], guard := none }) (v := ?_) rfl (by kernel_rfl) (by kernel_rfl) (by kernel_rfl) (fun _ _ _ h => h) (Or.inl ⟨by rfl, ?_⟩) Hc ?_
    rotate_left
    focus (intro w' hSw; (try dsimp only at hSw); go_simp; (try with_reducible rfl))
    simp only [Act.put, List.setIfInBounds_toArray, List.set_cons_zero, List.set_cons_succ]
    refine wpAnyH_done (by kernel_rfl) ?_ _
    go_wp2_with fail
    go_meet
    exact ⟨wd, Lib.hid H0, Lib.hid r3⟩
  case rest =>
    rename World => wv
    obtain ⟨w2, HB2, R4⟩ := hcut
    have HBV := Lib.hid (kbT HB2.out R4.out.2)
    go_upto_region 4 with fail
    go_cut [4] from 30 to 40 (fun s4 wx => ∃ w3, Hid (Below w1.heap.size w1 w3) ∧ Hid (RowB w3 (f1 ++ f2 ++ f3 ++ f4) s4 wx))
    case first =>
      refine wp_region_held_drew (S := fun w' => Below w1.heap.size w1 w') (by kernel_rfl) (HBV.out.drew) (fun H0 => ?_)
      obtain ⟨wd, hwd⟩ : ∃ wd, wv.drew = wd := ⟨_, rfl⟩
      have r4 := R4.out.later (show Below wv.heap.size wv wd by rw [← hwd]; exact (Below.refl _ _).drew)
      rw [hwd] at H0 ⊢
      clear hwd
      refine wpAnyH_take (i := 0) (oi := { dst := some 30, op := Go.Op.move (Go.Operand.tmp 4), type := 39, pos := "ref.go:36", after := #[], guard := none }) (v := ?_) rfl (by kernel_rfl) (by kernel_rfl) (by kernel_rfl) (fun _ _ _ h => h) (Or.inl ⟨by rfl, ?_⟩) H0 ?_
      rotate_left
      focus (intro w' hSw; (try dsimp only at hSw); go_simp; (try with_reducible rfl))
      simp only [Act.put, List.setIfInBounds_toArray, List.set_cons_zero, List.set_cons_succ]
      refine wpAnyH_take (i := 1) (oi := { dst := some 31, op := Go.Op.fieldAddr 38 (Go.Operand.tmp 1) 2, type := 0, pos := "ref.go:36", after := #[], guard := none }) (v := ?_) rfl (by kernel_rfl) (by kernel_rfl) (by kernel_rfl) (fun _ _ _ h => h) (Or.inl ⟨by rfl, ?_⟩) H0 ?_
      rotate_left
      focus (intro w' hSw; (try dsimp only at hSw); go_simp; (try with_reducible rfl))
      simp only [Act.put, List.setIfInBounds_toArray, List.set_cons_zero, List.set_cons_succ]
      refine wpAnyH_take (i := 2) (oi := { dst := some 32, op := Go.Op.load 3 (Go.Operand.tmp 31), type := 3, pos := "ref.go:36", after := #[{ on := 1, ground := Go.Ground.data }], guard := none }) (v := ?_) rfl (by kernel_rfl) (by kernel_rfl) (by kernel_rfl) (fun _ _ _ h => h) (Or.inl ⟨by rfl, ?_⟩) H0 ?_
      rotate_left
      focus (intro w' hSw; (try dsimp only at hSw); obtain ⟨k0, k1, k2, k3⟩ := HCL.out _ hSw; go_simp; (try with_reducible rfl))
      simp only [Act.put, List.setIfInBounds_toArray, List.set_cons_zero, List.set_cons_succ]
      refine wpAnyH_take (i := 3) (oi := { dst := some 33, op := Go.Op.convert 3 36 (Go.Operand.tmp 32), type := 36, pos := "ref.go:36", after := #[{ on := 2, ground := Go.Ground.data }], guard := none }) (v := ?_) rfl (by kernel_rfl) (by kernel_rfl) (by kernel_rfl) (fun _ _ _ h => h) (Or.inl ⟨by rfl, ?_⟩) H0 ?_
      rotate_left
      focus (intro w' hSw; (try dsimp only at hSw); go_simp; (try with_reducible rfl))
      simp only [Act.put, List.setIfInBounds_toArray, List.set_cons_zero, List.set_cons_succ]
      refine wpAnyH_take (i := 6) (oi := { dst := some 36, op := Go.Op.fieldAddr 38 (Go.Operand.tmp 1) 3, type := 0, pos := "ref.go:36", after := #[], guard := none }) (v := ?_) rfl (by kernel_rfl) (by kernel_rfl) (by kernel_rfl) (fun _ _ _ h => h) (Or.inl ⟨by rfl, ?_⟩) H0 ?_
      rotate_left
      focus (intro w' hSw; (try dsimp only at hSw); go_simp; (try with_reducible rfl))
      simp only [Act.put, List.setIfInBounds_toArray, List.set_cons_zero, List.set_cons_succ]
      refine wpAnyH_take (i := 7) (oi := { dst := some 37, op := Go.Op.load 3 (Go.Operand.tmp 36), type := 3, pos := "ref.go:36", after := #[{ on := 6, ground := Go.Ground.data }], guard := none }) (v := ?_) rfl (by kernel_rfl) (by kernel_rfl) (by kernel_rfl) (fun _ _ _ h => h) (Or.inl ⟨by rfl, ?_⟩) H0 ?_
      rotate_left
      focus (intro w' hSw; (try dsimp only at hSw); obtain ⟨k0, k1, k2, k3⟩ := HCL.out _ hSw; go_simp; (try with_reducible rfl))
      simp only [Act.put, List.setIfInBounds_toArray, List.set_cons_zero, List.set_cons_succ]
      refine wpAnyH_take (i := 8) (oi := { dst := some 38, op := Go.Op.convert 3 36 (Go.Operand.tmp 37), type := 36, pos := "ref.go:36", after := #[{ on := 7, ground := Go.Ground.data }], guard := none }) (v := ?_) rfl (by kernel_rfl) (by kernel_rfl) (by kernel_rfl) (fun _ _ _ h => h) (Or.inl ⟨by rfl, ?_⟩) H0 ?_
      rotate_left
      focus (intro w' hSw; (try dsimp only at hSw); go_simp; (try with_reducible rfl))
      simp only [Act.put, List.setIfInBounds_toArray, List.set_cons_zero, List.set_cons_succ]
      refine wpAnyH_ready (rs := [4]) (by kernel_rfl) (by simp) ?_
      refine AllReadyH.cons (o := { dst := some 34, op := Go.Op.call { callee := Go.Callee.value (Go.Operand.func 36), args := #[Go.Operand.tmp 33, Go.Operand.const (Go.Value.int Go.IntKind.i64 4)], argTypes := #[36, 3] }, type := 39, pos := "ref.go:36", after := #[{ on := 3, ground := Go.Ground.data }], guard := none }) rfl (fun K hK => ?_) ?_
      rotate_left
      exact AllReadyH.nil
      go_simp
      (go_at_call 36; (with_reducible refine (F3.out _).mono ?_); rintro e wa ⟨rfl, r5⟩)
      try go_wp2_with fail
      have r4 := r4.later r5.2
      refine hK.out _ _ (kbT H0 r5.2) (fun Ha => ?_)
      clear hK K
      try simp only [Act.put, List.setIfInBounds_toArray, List.set_cons_zero, List.set_cons_succ]
      refine wpAnyH_ready (rs := [5]) (by kernel_rfl) (by simp) ?_
      refine AllReadyH.cons (o := { dst := some 35, op := Go.Op.call { callee := Go.Callee.builtin Go.Builtin.append, args := #[Go.Operand.tmp 30, Go.Operand.tmp 34], argTypes := #[39, 39] }, type := 39, pos := "ref.go:36", after := #[{ on := 0, ground := Go.Ground.data }, { on := 4, ground := Go.Ground.data }, { on := 4, ground := Go.Ground.chain }], guard := none }) rfl (fun K hK => ?_) ?_
      rotate_left
      exact AllReadyH.nil
      refine step_append_bytes rfl (.tmp 30) (.tmp 34) rfl rfl r4 e4n.out rfl (fun h => nomatch h) r5.bytes s2.out ?_
      intro v6 wb r6 _
      refine hK.out _ _ (kbT HB2.out r6.2) (fun Hb => ?_)
      clear hK K
      try simp only [Act.put, List.setIfInBounds_toArray, List.set_cons_zero, List.set_cons_succ]
      refine wpAnyH_ready (rs := [9]) (by kernel_rfl) (by simp) ?_
      refine AllReadyH.cons (o := { dst := some 39, op := Go.Op.call { callee := Go.Callee.value (Go.Operand.func 36), args := #[Go.Operand.tmp 38, Go.Operand.const (Go.Value.int Go.IntKind.i64 4)], argTypes := #[36, 3] }, type := 39, pos := "ref.go:36", after := #[{ on := 8, ground := Go.Ground.data }, { on := 5, ground := Go.Ground.chain }], guard := none }) rfl (fun K hK => ?_) ?_
      rotate_left
      exact AllReadyH.nil
      go_simp
      (go_at_call 36; (with_reducible refine (F4.out _).mono ?_); rintro e wc ⟨rfl, r7⟩)
      try go_wp2_with fail
      have r6 := r6.later r7.2
      refine hK.out _ _ (kbT Hb r7.2) (fun Hc => ?_)
      clear hK K
      try simp only [Act.put, List.setIfInBounds_toArray, List.set_cons_zero, List.set_cons_succ]
      refine wpAnyH_ready (rs := [10]) (by kernel_rfl) (by simp) ?_
      refine AllReadyH.cons (o := { dst := some 40, op := Go.Op.call { callee := Go.Callee.builtin Go.Builtin.append, args := #[Go.Operand.tmp 35, Go.Operand.tmp 39], argTypes := #[39, 39] }, type := 39, pos := "ref.go:36", after := #[{ on := 5, ground := Go.Ground.data }, { on := 9, ground := Go.Ground.data }, { on := 9, ground := Go.Ground.chain }], guard := none }) rfl (fun K hK => ?_) ?_
      rotate_left
      exact AllReadyH.nil
      refine step_append_bytes rfl (.tmp 35) (.tmp 39) rfl rfl r6 e4c.out rfl (fun h => nomatch h) r7.bytes s3.out ?_
      intro v8 we r8 _
      refine hK.out _ _ (kbT HB2.out r8.2) (fun Hd => ?_)
      clear hK K
      try simp only [Act.put, List.setIfInBounds_toArray, List.set_cons_zero, List.set_cons_succ]
      refine wpAnyH_take (i := 11) (oi := { dst := some 4, op := Go.Op.assign (Go.Operand.tmp 40), type := 39, pos := "ref.go:36", after := #[{ on := 10, ground := Go.Ground.data }, { on := 10, ground := Go.Ground.chain }, { on := 0, ground := Go.Ground.phase }, { on := 1, ground := Go.Ground.phase }, { on := 2, ground := Go.Ground.phase }, { on := 3, ground := Go.Ground.phase }, { on := 4, ground := Go.Ground.phase }, { on := 5, ground := Go.Ground.phase }, { on := 6, ground := Go.Ground.phase }, { on := 7, ground := Go.Ground.phase }, { on := 8, ground := Go.Ground.phase }, { on := 9, ground := Go.Ground.phase }, { on := 10, ground := Go.Ground.phase }], guard := none }) (v := ?_) rfl (by kernel_rfl) (by kernel_rfl) (by kernel_rfl) (fun _ _ _ h => h) (Or.inl ⟨by rfl, ?_⟩) Hd ?_
      rotate_left
      focus (intro w' hSw; (try dsimp only at hSw); go_simp; (try with_reducible rfl))
      simp only [Act.put, List.setIfInBounds_toArray, List.set_cons_zero, List.set_cons_succ]
      refine wpAnyH_done (by kernel_rfl) ?_ _
      go_wp2_with fail
      go_meet
      exact ⟨w2, HB2, Lib.hid r8⟩
    case rest =>
      rename World => wu
      obtain ⟨w3, HB3, R5⟩ := hcut
      have R6 := R5.out
      rw [← HB.out] at R6
      obtain ⟨p, cp, rfl, -, -, hby, hnn⟩ := R6.at2
      have HBY := Lib.hid hby
      have HR := Lib.hid R6
      have HNN := Lib.hid hnn
      have HBL := Lib.hid (kbT HB3.out R6.2)
      clear R6 hby hnn R5
      go_wp2_with (first
        | (go_at_call 37; (with_reducible refine (SU.out _ _ _ HBY.out).mono ?_); rintro e wn ⟨rfl, rfl⟩)
        | (go_at_call 36; (with_reducible refine (F5.out _).mono ?_); rintro e wa ⟨rfl, r5⟩; have R7 := Lib.hid (HR.out.later r5.2); have BY5 := Lib.hid r5.bytes; clear r5)
        | (at_builtin; refine wpList_append_at rfl _ _ rfl rfl R7.out e4s.out rfl (fun h => nomatch h) BY5.out s4.out ?_; intro v9 wb r9; rw [← HC.out] at r9; obtain ⟨p2, c2, rfl, -, -, hby2, hnn2⟩ := r9.at2; have R9 := Lib.hid r9; have BY9 := Lib.hid hby2; have N9 := Lib.hid hnn2; clear r9 hby2 hnn2)
        | (at_builtin; refine wpList_append_bytes rfl _ _ rfl rfl (RX wb).out rfl N9.out (bytesAt_below BY9.out ((Below.refl _ _).alloc (Nat.le_refl _) _)) s5.out ?_; intro v10 wc r10; rw [List.nil_append] at r10; have R10 := Lib.hid r10; have BYA := Lib.hid (bytesAt_below BY9.out r10.2); clear r10)
        | (at_builtin; refine wpList_append_bytes rfl _ _ rfl rfl R10.out rfl N9.out BYA.out s6.out ?_; intro v11 wd r11; have R11 := Lib.hid r11; clear r11)
        | (at_builtin; refine wpList_append_zeros rfl _ _ rfl 8 (by omega) rfl R11.out rfl s7.out ?_; intro v12 we r12; rw [← HLL.out] at r12; have R12 := Lib.hid r12; clear r12))
      go_ret2
      exact ⟨_, rfl, R12.out.grow (kbT B1.out (kbT HB3.out R9.out.2))⟩
end Go.Proofs.Ythnllhfdbnnjhaa
