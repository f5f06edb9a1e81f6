/- Package frame: a head's sector. -/
import Derived.Test.YthnllhfdbnnjhaaP8
namespace Go.Proofs.Ythnllhfdbnnjhaa
open Go.RowKit Go.Shelf

theorem fixE_byte (k : Nat) : ∀ n, ∀ b ∈ fixE k n, b < 256 := by
  induction k with
  | zero => intro n b hb; cases hb
  | succ k ih =>
    intro n b hb
    simp only [fixE, List.mem_append, List.mem_singleton] at hb
    rcases hb with h | h
    · exact ih _ b h
    · omega
def headOk (n c : Int) : Bool := decide (0 ≤ n) && decide (n ≤ 2000) && decide (0 ≤ c) && decide (c ≤ 2000)
theorem refuse_head (n c : Int) : refuseE 2 [(n, 0, 2000), (c, 0, 2000)] = if headOk n c then 0 else 2 := by
  unfold refuseE headOk spanOk
  simp only [List.all_cons, List.all_nil, Bool.and_true, Bool.and_assoc]
set_option maxRecDepth 100000 in
theorem checkHead_any (S E n c : Int) (w : World) : Calls Try.prog 38 #[.agg #[.int .u64 S, .int .u64 E, .int .i64 n, .int .i64 c]] w fun r w' => r = .returned (.int .i64 (if headOk n c then 0 else 2)) ∧ Below w.heap.size w w' := by
  have C := Lib.hid fun (q : Nat) (w : World) h => refusal_any 2 [(n, 0, 2000), (c, 0, 2000)] q 2 w (by simp) h
  rw [refuse_head] at C
  generalize (if headOk n c then (0 : Int) else 2) = R at *
  go_enter Try.func38, Try.ntmps38
  go_wp2_with (go_at_call 35; refine (C.out _ _ (Lib.hid (spans_two (by go_cell) (by go_cell) (by go_cell) (by go_cell) (by go_cell) (by go_cell)))).mono ?_; rintro e w' ⟨rfl, hb⟩)
  go_ret
  exact ⟨rfl, (((Below.refl _ _).alloc (Nat.le_refl _) _).alloc (by simp) _).trans (hb.mono (by simp; omega))⟩
/-- A head's first bytes: what its sum is made of. -/
def headB (S E n c : Nat) : List Nat := partsL (headPs S E n c)
/-- One of a head's two copies. -/
def headC (S E n c : Nat) : List Nat := headB S E n c ++ fixE 4 (~~~ sumN (headB S E n c)).toNat
/-- A head's bytes. -/
def headL (S E n c : Nat) : List Nat := padL (headC S E n c ++ headC S E n c)
theorem headB_length (S E n c : Nat) : (headB S E n c).length = 24 := by simp [headB, partsL, headPs, fixE_length]
theorem headC_length (S E n c : Nat) : (headC S E n c).length = 28 := by simp [headC, headB_length, fixE_length]
theorem headL_length (S E n c : Nat) : (headL S E n c).length = 64 := padL_length (by simp [headC_length])
theorem headB_byte (S E n c : Nat) : ∀ b ∈ headB S E n c, b < 256 := by
  intro b hb
  simp only [headB, partsL, headPs, List.map_cons, List.map_nil, List.flatten_cons, List.flatten_nil, List.append_nil, List.mem_append] at hb
  rcases hb with h | h | h | h <;> exact fixE_byte _ _ b h
theorem headC_byte (S E n c : Nat) : ∀ b ∈ headC S E n c, b < 256 := by
  intro b hb
  rcases List.mem_append.1 hb with h | h
  · exact headB_byte S E n c b h
  · exact fixE_byte _ _ b h
theorem padL_byte {l : List Nat} (h : ∀ b ∈ l, b < 256) : ∀ b ∈ padL l, b < 256 := by
  intro b hb
  rcases List.mem_append.1 hb with h1 | h1
  · exact h b h1
  · rw [List.mem_replicate] at h1; omega
theorem headL_byte (S E n c : Nat) : ∀ b ∈ headL S E n c, b < 256 := padL_byte fun b hb => by
  rcases List.mem_append.1 hb with h | h <;> exact headC_byte S E n c b h
theorem lists_two {l m : List Nat} {p q : Option Addr} {c d : Nat} {w : World} (hl : l.length ≤ 100000) (hm : m.length ≤ 100000) (hb : ∀ b ∈ l, b < 256) (hd : ∀ b ∈ m, b < 256) {B : Nat}
    (c0 : w.cell? ⟨B, 0, none⟩ = some (.slice p l.length c)) (c1 : w.cell? ⟨B, 1, none⟩ = some (.slice q m.length d)) (hc : BytesAt w p l) (hq : BytesAt w q m) : ListsAt w (some ⟨B, 0, none⟩) [(p, l, c), (q, m, d)] :=
  ⟨fun i x hx => by
    match i with
    | 0 =>
      simp only [List.getElem?_cons_zero, Option.some.injEq] at hx
      subst hx
      exact ⟨_, _, rfl, c0, hc⟩
    | 1 =>
      simp only [List.getElem?_cons_succ, List.getElem?_cons_zero, Option.some.injEq] at hx
      subst hx
      exact ⟨_, _, rfl, c1, hq⟩
    | i + 2 => simp at hx, fun x hx => by
      simp only [List.mem_cons, List.not_mem_nil, or_false] at hx
      rcases hx with rfl | rfl
      · exact ⟨hb, hl⟩
      · exact ⟨hd, hm⟩⟩
theorem names4 {w : World} {q : Nat} {a b c d : Nat × Nat × List Nat} (h0 : w.cell? ⟨q, 0, none⟩ = some (.int .i64 (a.1 : Int))) (h1 : w.cell? ⟨q, 1, none⟩ = some (.int .i64 (b.1 : Int))) (h2 : w.cell? ⟨q, 2, none⟩ = some (.int .i64 (c.1 : Int))) (h3 : w.cell? ⟨q, 3, none⟩ = some (.int .i64 (d.1 : Int))) : NamesAt w q [a, b, c, d] := by
  intro k x hx
  match k with
  | 0 => injection hx with hx; subst hx; exact h0
  | 1 => injection hx with hx; subst hx; exact h1
  | 2 => injection hx with hx; subst hx; exact h2
  | 3 => injection hx with hx; subst hx; exact h3
  | k + 4 => simp at hx
theorem sumNot_lt (x : BitVec 32) : (~~~ x).toNat < 4294967296 := (~~~ x).isLt
theorem filled_two (l m : List Nat) (p q : Option Addr) (c d : Nat) (w : World) (hs : l.length + m.length ≤ 64) (hb : ∀ b ∈ l, b < 256) (hd : ∀ b ∈ m, b < 256) (hc : BytesAt w p l) (hq : BytesAt w q m) (n1 : p = none → c = 0) (n2 : q = none → d = 0) :
    Calls Try.prog 54 #[.slice (some ⟨w.heap.size, 0, none⟩) 2 2] (w.alloc (.cells #[.slice p l.length c, .slice q m.length d] 39)) fun r w' => r = .returned (.agg (secA (padL (l ++ m)))) ∧ Below w.heap.size w w' := by
  have e : flatL [(p, l, c), (q, m, d)] = l ++ m := by simp [flatL]
  have hB : Below w.heap.size w (w.alloc (.cells #[.slice p l.length c, .slice q m.length d] 39)) := (Below.refl _ _).alloc (Nat.le_refl _) _
  have h := filled_any [(p, l, c), (q, m, d)] (some ⟨w.heap.size, 0, none⟩) 2 (w.alloc (.cells #[.slice p l.length c, .slice q m.length d] 39)) (by simp)
    (Lib.hid (lists_two (by omega) (by omega) hb hd (by go_cell) (by go_cell) (bytesAt_below hc hB) (bytesAt_below hq hB)))
    (Lib.hid fun x hx => by
      simp only [List.mem_cons, List.not_mem_nil, or_false] at hx
      rcases hx with rfl | rfl
      · exact n1
      · exact n2) (by rw [e, List.length_append]; exact hs)
  rw [e] at h
  refine h.mono ?_
  rintro r w' ⟨rfl, hb'⟩
  exact ⟨rfl, hB.trans (hb'.mono hB.size)⟩
theorem PartsOk.below {w w' : World} {M A : Nat} {ps : List (Nat × Nat × List Nat)} (h : PartsOk w M A ps) (hb : Below w.heap.size w w') : PartsOk w' M A ps :=
  ⟨fun x hx wr h2 => h.look x hx wr (kbT hb h2), fun x hx wr h2 => h.call x hx wr (kbT hb h2), h.en, h.few⟩
theorem headParts_made (S E n c : Nat) (hS : S < 2 ^ 64) (hE : E < 2 ^ 64) (hn : n < 4294967296) (hc : c < 4294967296) (w : World) :
    Calls Try.prog 50 #[.agg #[.int .u64 S, .int .u64 E, .int .i64 n, .int .i64 c]] w fun r w' => r = .returned (.map (some (w.heap.size + 1))) ∧ Below w.heap.size w w' ∧ PartsOk w' (w.heap.size + 1) w.heap.size (headPs S E n c) := by
  refine (headParts_any S E n c w).mono ?_
  rintro e w' ⟨rfl, rfl⟩
  refine ⟨rfl, ((Below.refl _ _).alloc (Nat.le_refl _) _).alloc (by simp) _, headParts_ok S E n c hS hE hn hc _ _ _ (by go_cell) (by go_cell) (by go_cell) (by go_cell) ?_⟩
  have := heap_alloc_last (w.alloc (.cells #[.int .u64 S, .int .u64 E, .int .i64 n, .int .i64 c] 38)) (.map (headE4 w.heap.size) 4)
  rw [World.size_alloc] at this
  exact this
theorem kbO {w w1 : World} {o : Obj} (h : Below (w.heap.size + 1) (w.alloc o) w1) : Below w.heap.size w w1 := ((Below.refl _ _).alloc (Nat.le_refl _) o).trans (h.mono (by simp))
set_option maxRecDepth 100000 in
set_option maxHeartbeats 2000000 in
theorem headSector_any (S E n c : Nat) (hS : S < 2 ^ 64) (hE : E < 2 ^ 64) (hn : n < 4294967296) (hc : c < 4294967296) (w : World) :
    Calls Try.prog 39 #[.agg #[.int .u64 S, .int .u64 E, .int .i64 n, .int .i64 c]] w fun r w' => r = .returned (.agg (secA (headL S E n c))) ∧ Below w.heap.size w w' := by
  have CP := Lib.hid (headParts_made S E n c hS hE hn hc)
  have hlen := headB_length S E n c
  have hlen2 := headC_length S E n c
  have hby := headB_byte S E n c
  have hby2 := headC_byte S E n c
  have LA := Lib.hid fun M A q cap w => laid_any (headPs S E n c) M A q cap w (by simp [headPs])
  have HLN : Hid ((headPs S E n c).length = 4) := Lib.hid rfl
  have HPS : Hid (∀ (w : World) (q : Nat), w.cell? ⟨q, 0, none⟩ = some (.int .i64 0) → w.cell? ⟨q, 1, none⟩ = some (.int .i64 1) → w.cell? ⟨q, 2, none⟩ = some (.int .i64 5) → w.cell? ⟨q, 3, none⟩ = some (.int .i64 6) → NamesAt w q (headPs S E n c)) := Lib.hid fun w q h0 h1 h2 h3 => names4 h0 h1 h2 h3
  have HL : Hid (headL S E n c = padL (headC S E n c ++ headC S E n c)) := Lib.hid rfl
  have HC : Hid (headC S E n c = headB S E n c ++ fixE 4 (~~~ sumN (headB S E n c)).toNat) := Lib.hid rfl
  have HLL : Hid ((headL S E n c).length = 64) := Lib.hid (headL_length S E n c)
  change Hid (∀ M A q cap w, _ → _ → Calls Try.prog 51 #[.map (some M), .slice (some ⟨q, 0, none⟩) 4 cap] w fun r w' => ∃ t, r = .returned t ∧ RowB w (headB S E n c) t w') at LA
  generalize headB S E n c = lb at *
  generalize headC S E n c = lc at *
  generalize headL S E n c = ll at *
  have C4 := Lib.hid fun w => four_any (~~~ sumN lb).toNat w (sumNot_lt _)
  have HLF : Hid ((fixE 4 (~~~ sumN lb).toNat).length = 4) := Lib.hid (fixE_length _ _)
  have CS := Lib.hid fun p cp w => sum_one lb p cp w (by omega) hby
  generalize fixE 4 (~~~ sumN lb).toNat = lf at *
  generalize (~~~ sumN lb).toNat = sb at *
  have HBY := Lib.hid hby
  have HBY2 := Lib.hid hby2
  have HLEN := Lib.hid hlen
  have HLEN2 := Lib.hid hlen2
  clear hby hby2 hlen hlen2
  go_enter Try.func39, Try.ntmps39
  go_upto_region 1 with fail
  change Code.wp Try.prog _ _ _ ((w.alloc (.cells #[.int .u64 S, .int .u64 E, .int .i64 n, .int .i64 c] 38)).alloc (.cells zs64 84))
  obtain ⟨w0, hw0⟩ : ∃ w0, (w.alloc (.cells #[.int .u64 S, .int .u64 E, .int .i64 n, .int .i64 c] 38)).alloc (.cells zs64 84) = w0 := ⟨_, rfl⟩
  have B0 : Hid (Below w.heap.size w w0) := Lib.hid (by subst hw0; exact ((Below.refl _ _).alloc (Nat.le_refl _) _).alloc (by simp) _)
  have G0 : Hid (w0.heap[w.heap.size + 1]? = some (.cells zs64 84 (0, 0))) := Lib.hid (by subst hw0; have := heap_alloc_last (w.alloc (.cells #[.int .u64 S, .int .u64 E, .int .i64 n, .int .i64 c] 38)) (.cells zs64 84); rw [World.size_alloc] at this; exact this)
  have HS0 : Hid (w.heap.size + 1 < w0.heap.size) := Lib.hid (by subst hw0; simp)
  have c0 : w0.cell? ⟨w.heap.size, 0, none⟩ = some (.int .u64 S) := by subst hw0; go_cell
  have c1 : w0.cell? ⟨w.heap.size, 1, none⟩ = some (.int .u64 E) := by subst hw0; go_cell
  have c2 : w0.cell? ⟨w.heap.size, 2, none⟩ = some (.int .i64 n) := by subst hw0; go_cell
  have c3 : w0.cell? ⟨w.heap.size, 3, none⟩ = some (.int .i64 c) := by subst hw0; go_cell
  rw [hw0]
  clear hw0
  go_wp2_with (first
    | (go_at_call 50; refine (CP.out _).mono ?_; rintro e wa ⟨rfl, hb1, hpo⟩; have B1 := Lib.hid hb1; have HPO := Lib.hid hpo; clear hb1 hpo)
    | (go_at_call 51; refine (LA.out _ _ _ _ _ (Lib.hid (HPO.out.below ((Below.refl _ _).alloc (Nat.le_refl _) _))) (Lib.hid (HPS.out _ _ (by go_cell) (by go_cell) (by go_cell) (by go_cell)))).mono ?_; rintro e wb ⟨t, rfl, hr⟩; obtain ⟨p, cp, rfl, -, -, hby, hnn⟩ := hr.at2; have HR := Lib.hid hr; have HBA := Lib.hid hby; have B2 := Lib.hid (kbT B1.out (kbA hr.2)); clear hr hby hnn)
    | (go_at_call 53; refine (CS.out p cp wb HBA.out).mono ?_; rintro e wd ⟨rfl, hb3⟩; have B3 := Lib.hid (kbO hb3); clear hb3)
    | (go_at_call 52; refine (C4.out _).mono ?_; rintro e we ⟨t2, rfl, hr2⟩; obtain ⟨p2, cp2, rfl, -, -, hby2, hnn2⟩ := hr2.at2; have HB2 := Lib.hid hby2; have HN2 := Lib.hid hnn2; have HR2 := Lib.hid ((HR.out.later B3.out).later hr2.2); have B4 := Lib.hid hr2.2; clear hr2 hby2 hnn2)
    | (at_builtin; refine wpList_append_bytes rfl _ _ rfl rfl HR2.out rfl HN2.out HB2.out (by have := HLEN.out; have := HLF.out; omega) ?_; intro v' wf hr3; rw [← HC.out] at hr3; have B45 := Lib.hid (kbT B1.out (kbA hr3.2)); obtain ⟨p3, cp3, rfl, -, -, hby3, hnn3⟩ := hr3.at2; have HR3 := Lib.hid hr3; have HB3 := Lib.hid hby3; have HN3 := Lib.hid hnn3; clear hr3 hby3 hnn3)
    | (go_at_call 54; refine (filled_two lc lc p3 p3 cp3 cp3 wf (by have := HLEN2.out; omega) HBY2.out HBY2.out HB3.out HB3.out HN3.out HN3.out).mono ?_; rintro e wg ⟨rfl, hb5⟩; rw [← HL.out]; have B6 := Lib.hid (kbT B45.out hb5); have HG5 : Hid (wg.heap[w.heap.size + 1]? = some (.cells zs64 84 (0, 0))) := Lib.hid ((B6.out.block _ HS0.out).trans G0.out); clear hb5)
    | (refine wpList_store_row rfl 84 _ _ rfl (w.heap.size + 1) (secA ll) rfl rfl 84 zs64 HG5.out (by rw [secA_size, HLL.out]; kernel_rfl) (by rw [secA_size, HLL.out]; rfl) (secA_one _) ?_))
  exact bodyPost_ret (results_cell_row rfl _ _ _ _ _ _ _ rfl (setRow_heap _ _ _ _ _ _ HG5.out) Try.underlying84 rfl (by rw [secA_size, HLL.out]; kernel_rfl)) rfl ⟨rfl, below_setRow (B0.out.trans (B6.out.mono B0.out.size)) (Nat.le_succ _) _⟩
end Go.Proofs.Ythnllhfdbnnjhaa
