/- Parts: P9 PA PB PG PH PI PK. -/
import Derived.Test.YthnllhfdbnnjhaaMB1
namespace Go.Proofs.Ythnllhfdbnnjhaa
open Go.RowKit Go.Shelf

theorem fixE_byte (k : Nat) : ∀ n, ∀ b ∈ fixE k n, b < 256 := by
  induction k with
  | zero => intro n b hb; cases hb
  | succ k ih =>
    intro n b hb
    simp only [fixE, List.mem_append, List.mem_singleton] at hb
    rcases hb with h | h
    · exact ih _ b h
    · omega
def headOk (n c : Int) : Bool := decide (0 ≤ n) && decide (n ≤ 2000) && decide (0 ≤ c) && decide (c ≤ 2000)
theorem refuse_head (n c : Int) : refuseE 2 [(n, 0, 2000), (c, 0, 2000)] = if headOk n c then 0 else 2 := by
  unfold refuseE headOk spanOk
  simp only [List.all_cons, List.all_nil, Bool.and_true, Bool.and_assoc]
set_option maxRecDepth 100000 in
theorem checkHead_any (S E n c : Int) (w : World) : Calls Try.prog 38 #[.agg #[.int .u64 S, .int .u64 E, .int .i64 n, .int .i64 c]] w fun r w' => r = .returned (.int .i64 (if headOk n c then 0 else 2)) ∧ Below w.heap.size w w' := by
  have C := Lib.hid fun (q : Nat) (w : World) h => refusal_any 2 [(n, 0, 2000), (c, 0, 2000)] q 2 w (by simp) h
  rw [refuse_head] at C
  generalize (if headOk n c then (0 : Int) else 2) = R at *
  go_enter Try.func38, Try.ntmps38
  go_wp2_with (go_at_call 35; refine (C.out _ _ (Lib.hid (spans_two (by go_cell) (by go_cell) (by go_cell) (by go_cell) (by go_cell) (by go_cell)))).mono ?_; rintro e w' ⟨rfl, hb⟩)
  go_ret
  exact ⟨rfl, (((Below.refl _ _).alloc (Nat.le_refl _) _).alloc (by simp) _).trans (hb.mono (by simp; omega))⟩
/-- A head's first bytes: what its sum is made of. -/
def headB (S E n c : Nat) : List Nat := partsL (headPs S E n c)
/-- One of a head's two copies. -/
def headC (S E n c : Nat) : List Nat := headB S E n c ++ fixE 4 (~~~ sumN (headB S E n c)).toNat
/-- A head's bytes. -/
def headL (S E n c : Nat) : List Nat := padL (headC S E n c ++ headC S E n c)
theorem headB_length (S E n c : Nat) : (headB S E n c).length = 24 := by simp [headB, partsL, headPs, fixE_length]
theorem headC_length (S E n c : Nat) : (headC S E n c).length = 28 := by simp [headC, headB_length, fixE_length]
theorem headL_length (S E n c : Nat) : (headL S E n c).length = 64 := padL_length (by simp [headC_length])
theorem headB_byte (S E n c : Nat) : ∀ b ∈ headB S E n c, b < 256 := by
  intro b hb
  simp only [headB, partsL, headPs, List.map_cons, List.map_nil, List.flatten_cons, List.flatten_nil, List.append_nil, List.mem_append] at hb
  rcases hb with h | h | h | h <;> exact fixE_byte _ _ b h
theorem headC_byte (S E n c : Nat) : ∀ b ∈ headC S E n c, b < 256 := by
  intro b hb
  rcases List.mem_append.1 hb with h | h
  · exact headB_byte S E n c b h
  · exact fixE_byte _ _ b h
theorem padL_byte {l : List Nat} (h : ∀ b ∈ l, b < 256) : ∀ b ∈ padL l, b < 256 := by
  intro b hb
  rcases List.mem_append.1 hb with h1 | h1
  · exact h b h1
  · rw [List.mem_replicate] at h1; omega
theorem headL_byte (S E n c : Nat) : ∀ b ∈ headL S E n c, b < 256 := padL_byte fun b hb => by
  rcases List.mem_append.1 hb with h | h <;> exact headC_byte S E n c b h
theorem lists_two {l m : List Nat} {p q : Option Addr} {c d : Nat} {w : World} (hl : l.length ≤ 100000) (hm : m.length ≤ 100000) (hb : ∀ b ∈ l, b < 256) (hd : ∀ b ∈ m, b < 256) {B : Nat}
    (c0 : w.cell? ⟨B, 0, none⟩ = some (.slice p l.length c)) (c1 : w.cell? ⟨B, 1, none⟩ = some (.slice q m.length d)) (hc : BytesAt w p l) (hq : BytesAt w q m) : ListsAt w (some ⟨B, 0, none⟩) [(p, l, c), (q, m, d)] :=
  ⟨fun i x hx => by
    match i with
    | 0 =>
      simp only [List.getElem?_cons_zero, Option.some.injEq] at hx
      subst hx
      exact ⟨_, _, rfl, c0, hc⟩
    | 1 =>
      simp only [List.getElem?_cons_succ, List.getElem?_cons_zero, Option.some.injEq] at hx
      subst hx
      exact ⟨_, _, rfl, c1, hq⟩
    | i + 2 => simp at hx, fun x hx => by
      simp only [List.mem_cons, List.not_mem_nil, or_false] at hx
      rcases hx with rfl | rfl
      · exact ⟨hb, hl⟩
      · exact ⟨hd, hm⟩⟩
theorem names4 {w : World} {q : Nat} {a b c d : Nat × Nat × List Nat} (h0 : w.cell? ⟨q, 0, none⟩ = some (.int .i64 (a.1 : Int))) (h1 : w.cell? ⟨q, 1, none⟩ = some (.int .i64 (b.1 : Int))) (h2 : w.cell? ⟨q, 2, none⟩ = some (.int .i64 (c.1 : Int))) (h3 : w.cell? ⟨q, 3, none⟩ = some (.int .i64 (d.1 : Int))) : NamesAt w q [a, b, c, d] := by
  intro k x hx
  match k with
  | 0 => injection hx with hx; subst hx; exact h0
  | 1 => injection hx with hx; subst hx; exact h1
  | 2 => injection hx with hx; subst hx; exact h2
  | 3 => injection hx with hx; subst hx; exact h3
  | k + 4 => simp at hx
theorem sumNot_lt (x : BitVec 32) : (~~~ x).toNat < 4294967296 := (~~~ x).isLt
theorem filled_two (l m : List Nat) (p q : Option Addr) (c d : Nat) (w : World) (hs : l.length + m.length ≤ 64) (hb : ∀ b ∈ l, b < 256) (hd : ∀ b ∈ m, b < 256) (hc : BytesAt w p l) (hq : BytesAt w q m) (n1 : p = none → c = 0) (n2 : q = none → d = 0) :
    Calls Try.prog 54 #[.slice (some ⟨w.heap.size, 0, none⟩) 2 2] (w.alloc (.cells #[.slice p l.length c, .slice q m.length d] 39)) fun r w' => r = .returned (.agg (secA (padL (l ++ m)))) ∧ Below w.heap.size w w' := by
  have e : flatL [(p, l, c), (q, m, d)] = l ++ m := by simp [flatL]
  have hB : Below w.heap.size w (w.alloc (.cells #[.slice p l.length c, .slice q m.length d] 39)) := (Below.refl _ _).alloc (Nat.le_refl _) _
  have h := filled_any [(p, l, c), (q, m, d)] (some ⟨w.heap.size, 0, none⟩) 2 (w.alloc (.cells #[.slice p l.length c, .slice q m.length d] 39)) (by simp)
    (Lib.hid (lists_two (by omega) (by omega) hb hd (by go_cell) (by go_cell) (bytesAt_below hc hB) (bytesAt_below hq hB)))
    (Lib.hid fun x hx => by
      simp only [List.mem_cons, List.not_mem_nil, or_false] at hx
      rcases hx with rfl | rfl
      · exact n1
      · exact n2) (by rw [e, List.length_append]; exact hs)
  rw [e] at h
  refine h.mono ?_
  rintro r w' ⟨rfl, hb'⟩
  exact ⟨rfl, hB.trans (hb'.mono hB.size)⟩
theorem PartsOk.below {w w' : World} {M A : Nat} {ps : List (Nat × Nat × List Nat)} (h : PartsOk w M A ps) (hb : Below w.heap.size w w') : PartsOk w' M A ps :=
  ⟨fun x hx wr h2 => h.look x hx wr (kbT hb h2), fun x hx wr h2 => h.call x hx wr (kbT hb h2), h.en, h.few⟩
theorem headParts_made (S E n c : Nat) (hS : S < 2 ^ 64) (hE : E < 2 ^ 64) (hn : n < 4294967296) (hc : c < 4294967296) (w : World) :
    Calls Try.prog 50 #[.agg #[.int .u64 S, .int .u64 E, .int .i64 n, .int .i64 c]] w fun r w' => r = .returned (.map (some (w.heap.size + 1))) ∧ Below w.heap.size w w' ∧ PartsOk w' (w.heap.size + 1) w.heap.size (headPs S E n c) := by
  refine (headParts_any S E n c w).mono ?_
  rintro e w' ⟨rfl, rfl⟩
  refine ⟨rfl, ((Below.refl _ _).alloc (Nat.le_refl _) _).alloc (by simp) _, headParts_ok S E n c hS hE hn hc _ _ _ (by go_cell) (by go_cell) (by go_cell) (by go_cell) ?_⟩
  have := heap_alloc_last (w.alloc (.cells #[.int .u64 S, .int .u64 E, .int .i64 n, .int .i64 c] 38)) (.map (headE4 w.heap.size) 4)
  rw [World.size_alloc] at this
  exact this
theorem kbO {w w1 : World} {o : Obj} (h : Below (w.heap.size + 1) (w.alloc o) w1) : Below w.heap.size w w1 := ((Below.refl _ _).alloc (Nat.le_refl _) o).trans (h.mono (by simp))
set_option maxRecDepth 100000 in
set_option maxHeartbeats 2000000 in
theorem headSector_any (S E n c : Nat) (hS : S < 2 ^ 64) (hE : E < 2 ^ 64) (hn : n < 4294967296) (hc : c < 4294967296) (w : World) :
    Calls Try.prog 39 #[.agg #[.int .u64 S, .int .u64 E, .int .i64 n, .int .i64 c]] w fun r w' => r = .returned (.agg (secA (headL S E n c))) ∧ Below w.heap.size w w' := by
  have CP := Lib.hid (headParts_made S E n c hS hE hn hc)
  have hlen := headB_length S E n c
  have hlen2 := headC_length S E n c
  have hby := headB_byte S E n c
  have hby2 := headC_byte S E n c
  have LA := Lib.hid fun M A q cap w => laid_any (headPs S E n c) M A q cap w (by simp [headPs])
  have HLN : Hid ((headPs S E n c).length = 4) := Lib.hid rfl
  have HPS : Hid (∀ (w : World) (q : Nat), w.cell? ⟨q, 0, none⟩ = some (.int .i64 0) → w.cell? ⟨q, 1, none⟩ = some (.int .i64 1) → w.cell? ⟨q, 2, none⟩ = some (.int .i64 5) → w.cell? ⟨q, 3, none⟩ = some (.int .i64 6) → NamesAt w q (headPs S E n c)) := Lib.hid fun w q h0 h1 h2 h3 => names4 h0 h1 h2 h3
  have HL : Hid (headL S E n c = padL (headC S E n c ++ headC S E n c)) := Lib.hid rfl
  have HC : Hid (headC S E n c = headB S E n c ++ fixE 4 (~~~ sumN (headB S E n c)).toNat) := Lib.hid rfl
  have HLL : Hid ((headL S E n c).length = 64) := Lib.hid (headL_length S E n c)
  change Hid (∀ M A q cap w, _ → _ → Calls Try.prog 51 #[.map (some M), .slice (some ⟨q, 0, none⟩) 4 cap] w fun r w' => ∃ t, r = .returned t ∧ RowB w (headB S E n c) t w') at LA
  generalize headB S E n c = lb at *
  generalize headC S E n c = lc at *
  generalize headL S E n c = ll at *
  have C4 := Lib.hid fun w => four_any (~~~ sumN lb).toNat w (sumNot_lt _)
  have HLF : Hid ((fixE 4 (~~~ sumN lb).toNat).length = 4) := Lib.hid (fixE_length _ _)
  have CS := Lib.hid fun p cp w => sum_one lb p cp w (by omega) hby
  generalize fixE 4 (~~~ sumN lb).toNat = lf at *
  generalize (~~~ sumN lb).toNat = sb at *
  have HBY := Lib.hid hby
  have HBY2 := Lib.hid hby2
  have HLEN := Lib.hid hlen
  have HLEN2 := Lib.hid hlen2
  clear hby hby2 hlen hlen2
  go_enter Try.func39, Try.ntmps39
  go_upto_region 1 with fail
  change Code.wp Try.prog _ _ _ ((w.alloc (.cells #[.int .u64 S, .int .u64 E, .int .i64 n, .int .i64 c] 38)).alloc (.cells zs64 84))
  obtain ⟨w0, hw0⟩ : ∃ w0, (w.alloc (.cells #[.int .u64 S, .int .u64 E, .int .i64 n, .int .i64 c] 38)).alloc (.cells zs64 84) = w0 := ⟨_, rfl⟩
  have B0 : Hid (Below w.heap.size w w0) := Lib.hid (by subst hw0; exact ((Below.refl _ _).alloc (Nat.le_refl _) _).alloc (by simp) _)
  have G0 : Hid (w0.heap[w.heap.size + 1]? = some (.cells zs64 84 (0, 0))) := Lib.hid (by subst hw0; have := heap_alloc_last (w.alloc (.cells #[.int .u64 S, .int .u64 E, .int .i64 n, .int .i64 c] 38)) (.cells zs64 84); rw [World.size_alloc] at this; exact this)
  have HS0 : Hid (w.heap.size + 1 < w0.heap.size) := Lib.hid (by subst hw0; simp)
  have c0 : w0.cell? ⟨w.heap.size, 0, none⟩ = some (.int .u64 S) := by subst hw0; go_cell
  have c1 : w0.cell? ⟨w.heap.size, 1, none⟩ = some (.int .u64 E) := by subst hw0; go_cell
  have c2 : w0.cell? ⟨w.heap.size, 2, none⟩ = some (.int .i64 n) := by subst hw0; go_cell
  have c3 : w0.cell? ⟨w.heap.size, 3, none⟩ = some (.int .i64 c) := by subst hw0; go_cell
  rw [hw0]
  clear hw0
  go_wp2_with (first
    | (go_at_call 50; refine (CP.out _).mono ?_; rintro e wa ⟨rfl, hb1, hpo⟩; have B1 := Lib.hid hb1; have HPO := Lib.hid hpo; clear hb1 hpo)
    | (go_at_call 51; refine (LA.out _ _ _ _ _ (Lib.hid (HPO.out.below ((Below.refl _ _).alloc (Nat.le_refl _) _))) (Lib.hid (HPS.out _ _ (by go_cell) (by go_cell) (by go_cell) (by go_cell)))).mono ?_; rintro e wb ⟨t, rfl, hr⟩; obtain ⟨p, cp, rfl, -, -, hby, hnn⟩ := hr.at2; have HR := Lib.hid hr; have HBA := Lib.hid hby; have B2 := Lib.hid (kbT B1.out (kbA hr.2)); clear hr hby hnn)
    | (go_at_call 53; refine (CS.out p cp wb HBA.out).mono ?_; rintro e wd ⟨rfl, hb3⟩; have B3 := Lib.hid (kbO hb3); clear hb3)
    | (go_at_call 52; refine (C4.out _).mono ?_; rintro e we ⟨t2, rfl, hr2⟩; obtain ⟨p2, cp2, rfl, -, -, hby2, hnn2⟩ := hr2.at2; have HB2 := Lib.hid hby2; have HN2 := Lib.hid hnn2; have HR2 := Lib.hid ((HR.out.later B3.out).later hr2.2); have B4 := Lib.hid hr2.2; clear hr2 hby2 hnn2)
    | (at_builtin; refine wpList_append_bytes rfl _ _ rfl rfl HR2.out rfl HN2.out HB2.out (by have := HLEN.out; have := HLF.out; omega) ?_; intro v' wf hr3; rw [← HC.out] at hr3; have B45 := Lib.hid (kbT B1.out (kbA hr3.2)); obtain ⟨p3, cp3, rfl, -, -, hby3, hnn3⟩ := hr3.at2; have HR3 := Lib.hid hr3; have HB3 := Lib.hid hby3; have HN3 := Lib.hid hnn3; clear hr3 hby3 hnn3)
    | (go_at_call 54; refine (filled_two lc lc p3 p3 cp3 cp3 wf (by have := HLEN2.out; omega) HBY2.out HBY2.out HB3.out HB3.out HN3.out HN3.out).mono ?_; rintro e wg ⟨rfl, hb5⟩; rw [← HL.out]; have B6 := Lib.hid (kbT B45.out hb5); have HG5 : Hid (wg.heap[w.heap.size + 1]? = some (.cells zs64 84 (0, 0))) := Lib.hid ((B6.out.block _ HS0.out).trans G0.out); clear hb5)
    | (refine wpList_store_row rfl 84 _ _ rfl (w.heap.size + 1) (secA ll) rfl rfl 84 zs64 HG5.out (by rw [secA_size, HLL.out]; kernel_rfl) (by rw [secA_size, HLL.out]; rfl) (secA_one _) ?_))
  exact bodyPost_ret (results_cell_row rfl _ _ _ _ _ _ _ rfl (setRow_heap _ _ _ _ _ _ HG5.out) Try.underlying84 rfl (by rw [secA_size, HLL.out]; kernel_rfl)) rfl ⟨rfl, below_setRow (B0.out.trans (B6.out.mono B0.out.size)) (Nat.le_succ _) _⟩
end Go.Proofs.Ythnllhfdbnnjhaa
namespace Go.Proofs.Ythnllhfdbnnjhaa
open Go.RowKit Go.Shelf

/-- Bytes that a call tells, in memory of its own. -/
structure Tell (w0 : World) (l : List Nat) (t : Value) (w : World) : Prop where
  at' : ∃ p cap, t = .slice p l.length cap ∧ l.length ≤ cap ∧ cap ≤ maxLen ∧ BytesAt w p l ∧ (p = none → cap = 0) ∧ ∀ a, p = some a → w0.heap.size ≤ a.block
  below : Below w0.heap.size w0 w
theorem Tell.of {w0 w : World} {l : List Nat} {t : Value} (h : RowB w0 l t w) : Tell w0 l t w := by
  obtain ⟨p, cap, e, h1, h2, h3, h4⟩ := h.at'
  obtain ⟨p', cap', e', -, -, -, h5⟩ := h.at2
  subst e
  injection e' with e1 _ e3
  subst e1 e3
  exact ⟨⟨p, cap, rfl, h1, h2, h3, h5, h4⟩, h.2⟩
theorem Tell.grow {w w1 w' : World} {l : List Nat} {t : Value} (h : Tell w1 l t w') (b : Below w.heap.size w w1) : Tell w l t w' := by
  obtain ⟨⟨p, cap, e, h1, h2, h3, h4, h5⟩, h6⟩ := h
  exact ⟨⟨p, cap, e, h1, h2, h3, h4, fun a ha => Nat.le_trans b.size (h5 a ha)⟩, kbT b h6⟩
theorem Tell.later {w w1 w2 : World} {l : List Nat} {t : Value} (h : Tell w l t w1) (hb : Below w1.heap.size w1 w2) : Tell w l t w2 := by
  obtain ⟨⟨p, cap, e, h1, h2, h3, h4, h5⟩, h6⟩ := h
  exact ⟨⟨p, cap, e, h1, h2, bytesAt_below h3 hb, h4, h5⟩, kbT h6 hb⟩
theorem Tell.nil (w : World) : Tell w [] (.slice none 0 0) w := ⟨⟨none, 0, rfl, Nat.le_refl _, by unfold maxLen; omega, fun i hi => absurd hi (Nat.not_lt_zero i), fun _ => rfl, fun a h => by cases h⟩, Below.refl _ _⟩
/-- A sector of the call's own, as bytes. -/
theorem tell_sec {l : List Nat} {n : Nat} (hn : l.length = n) (hn2 : n ≤ 100000) (w : World) (t : TypeId) : Tell w l (.slice (some ⟨w.heap.size, 0, none⟩) n n) (w.alloc (.cells (secA l) t)) := by
  subst hn
  refine ⟨⟨_, _, rfl, Nat.le_refl _, (by unfold maxLen; omega), fun i hi => ⟨w.heap.size, 0, rfl, ?_⟩, (fun h => nomatch h), fun a h => (by injection h with h; subst h; exact Nat.le_refl _)⟩, (Below.refl _ _).alloc (Nat.le_refl _) _⟩
  have := heap_alloc_last w (.cells (secA l) t)
  unfold World.cell?
  simp only [Nat.zero_add]
  rw [this]
  simp [secA, u8s, List.getD_eq_getElem?_getD, hi]
def encHead (S E : Nat) (n c : Int) : List Nat := if headOk n c then headL S E n.toNat c.toNat else []
def encX (n c : Int) : Int := if headOk n c then 0 else 2
theorem head_bounds {n c : Int} (h : headOk n c = true) : 0 ≤ n ∧ n ≤ 2000 ∧ 0 ≤ c ∧ c ≤ 2000 := by
  simp only [headOk, Bool.and_eq_true, decide_eq_true_eq] at h
  omega
theorem bytes_sec (w : World) (l : List Nat) (t : TypeId) : BytesAt (w.alloc (.cells (secA l) t)) (some ⟨w.heap.size, 0, none⟩) l := fun i hi => by
  refine ⟨w.heap.size, 0, rfl, ?_⟩
  have := heap_alloc_last w (.cells (secA l) t)
  unfold World.cell?
  simp only [Nat.zero_add]
  rw [this]
  simp [secA, u8s, List.getD_eq_getElem?_getD, hi]
set_option maxRecDepth 100000 in
set_option maxHeartbeats 1000000 in
theorem encodeHead_ok (S E n c : Nat) (hS : S < 2 ^ 64) (hE : E < 2 ^ 64) (hh : headOk n c = true) (w : World) :
    Calls Try.prog 19 #[.agg #[.int .u64 S, .int .u64 E, .int .i64 n, .int .i64 c]] w fun r w' => ∃ g, r = .returned (.tuple #[.slice (some ⟨g, 0, none⟩) 64 64, .int .i64 0]) ∧ BytesAt w' (some ⟨g, 0, none⟩) (headL S E n c) ∧ w.heap.size ≤ g ∧ Below w.heap.size w w' := by
  have CC := Lib.hid (checkHead_any S E n c)
  rw [if_pos hh] at CC
  obtain ⟨h1, h2, h3, h4⟩ := head_bounds hh
  have CH := Lib.hid (headSector_any S E n c hS hE (by omega) (by omega))
  have HLL := Lib.hid (headL_length S E n c)
  generalize headL S E n c = ll at *
  clear hh
  go_enter Try.func19, Try.ntmps19
  go_wp2_with (first
    | (go_at_call 38; refine (CC.out _).mono ?_; rintro e wa ⟨rfl, hb1⟩; have B1 := Lib.hid (kbA hb1); have c0 : wa.cell? ⟨w.heap.size, 0, none⟩ = some (.int .u64 S) := (hb1.cell (by simp)).trans (by go_cell); have c1 : wa.cell? ⟨w.heap.size, 1, none⟩ = some (.int .u64 E) := (hb1.cell (by simp)).trans (by go_cell); have c2 : wa.cell? ⟨w.heap.size, 2, none⟩ = some (.int .i64 n) := (hb1.cell (by simp)).trans (by go_cell); have c3 : wa.cell? ⟨w.heap.size, 3, none⟩ = some (.int .i64 c) := (hb1.cell (by simp)).trans (by go_cell); clear hb1)
    | (go_at_call 39; refine (CH.out _).mono ?_; rintro e wb ⟨rfl, hb2⟩; have B2 := Lib.hid (kbT B1.out hb2); clear hb2)
    | (refine wpList_store_row rfl 84 _ _ rfl wb.heap.size (secA ll) rfl rfl 84 _ (heap_alloc_last wb _) (by rw [secA_size, HLL.out]; kernel_rfl) (by rw [secA_size, HLL.out]; rfl) (secA_one _) ?_; rw [World.setRow_alloc_new]))
  go_ret2
  exact ⟨_, rfl, bytes_sec wb ll 84, B2.out.size, B2.out.alloc B2.out.size _⟩
set_option maxRecDepth 100000 in
set_option maxHeartbeats 1000000 in
theorem encodeHead_no (S E : Nat) (n c : Int) (hh : headOk n c = false) (w : World) :
    Calls Try.prog 19 #[.agg #[.int .u64 S, .int .u64 E, .int .i64 n, .int .i64 c]] w fun r w' => r = .returned (.tuple #[.slice none 0 0, .int .i64 2]) ∧ Below w.heap.size w w' := by
  have CC := Lib.hid (checkHead_any S E n c)
  rw [if_neg (by simp [hh])] at CC
  go_enter Try.func19, Try.ntmps19
  go_wp2_with (go_at_call 38; refine (CC.out _).mono ?_; rintro e wa ⟨rfl, hb1⟩; have B1 := Lib.hid (kbA hb1); clear hb1)
  go_ret2
  exact ⟨rfl, B1.out⟩
theorem encodeHead_any (S E : Nat) (n c : Int) (hS : S < 2 ^ 64) (hE : E < 2 ^ 64) (w : World) :
    Calls Try.prog 19 #[.agg #[.int .u64 S, .int .u64 E, .int .i64 n, .int .i64 c]] w fun r w' => ∃ t, r = .returned (.tuple #[t, .int .i64 (encX n c)]) ∧ Tell w (encHead S E n c) t w' := by
  unfold encHead encX
  cases hh : headOk n c with
  | true =>
    obtain ⟨h1, h2, h3, h4⟩ := head_bounds hh
    obtain ⟨n, rfl⟩ : ∃ k : Nat, n = k := ⟨n.toNat, by omega⟩
    obtain ⟨c, rfl⟩ : ∃ k : Nat, c = k := ⟨c.toNat, by omega⟩
    simp only [if_true, Int.toNat_natCast]
    refine (encodeHead_ok S E n c hS hE hh w).mono ?_
    rintro e w' ⟨g, rfl, h5, h6, h7⟩
    refine ⟨_, rfl, ⟨some ⟨g, 0, none⟩, 64, by rw [headL_length], by rw [headL_length]; exact Nat.le_refl _, by unfold maxLen; omega, h5, (fun h => nomatch h), fun a h => by injection h with h; subst h; exact h6⟩, h7⟩
  | false =>
    refine (encodeHead_no S E n c hh w).mono ?_
    rintro e w' ⟨rfl, hb⟩
    exact ⟨_, rfl, (Tell.nil w').grow hb⟩
/-- What stands in a head's bytes. -/
theorem headL_take (S E n c : Nat) : (headL S E n c).take 24 = headB S E n c := by
  have := headB_length S E n c
  simp only [headL, headC, padL, List.append_assoc]
  rw [List.take_append_of_le_length (by omega), List.take_of_length_le (by omega)]
theorem headL_sum (S E n c : Nat) : ((headL S E n c).drop 24).take 4 = fixE 4 (~~~ sumN (headB S E n c)).toNat := by
  have := headB_length S E n c
  have h4 := fixE_length 4 (~~~ sumN (headB S E n c)).toNat
  simp only [headL, headC, padL, List.append_assoc]
  rw [List.drop_append_of_le_length (by omega), List.drop_of_length_le (by omega), List.nil_append, List.take_append_of_le_length (by omega), List.take_of_length_le (by omega)]
theorem head12 : (headL 1 2 0 0).getD 7 0 = 1 ∧ (headL 1 2 0 0).getD 15 0 = 2 := by decide +kernel
end Go.Proofs.Ythnllhfdbnnjhaa
namespace Go.Proofs.Ythnllhfdbnnjhaa
open Go.RowKit Go.Shelf

theorem num_any (n : Int) (w : World) : Calls Try.prog 13 #[.int .i64 n] w fun r w' => r = .returned (.int .i64 n) ∧ w = w' := by
  go_enter Try.func13, Try.ntmps13
  go_wp2
  go_ret
  exact ⟨rfl, rfl⟩
set_option maxRecDepth 100000 in
theorem fixed_conv (N m : Nat) (hm : m ≤ 8) (hN : N < 18446744073709551616) (w : World) : Calls Try.prog 36 #[.int .u64 N, .int .i64 m] w fun r w' => r = .returned (.slice (some ⟨w.heap.size, 0, none⟩) m m) ∧ RowB w (fixE m N) (.slice (some ⟨w.heap.size, 0, none⟩) m m) w' ∧ (convert 39 9 (.slice (some ⟨w.heap.size, 0, none⟩) m m)).run Try.prog w' = .ok (.string (strOf (fixE m N))) w' := by
  refine (refFixed_any N m hm w hN).mono ?_
  rintro e w' ⟨rfl, hr, hb⟩
  have hR := rowB_of_is hr (fixE_length m N) (by unfold maxLen; omega) (fun i hi => by unfold fixRow; rw [if_neg (Nat.not_lt_zero i)]) hb
  refine ⟨rfl, hR, ?_⟩
  obtain ⟨p, cp, e, -, -, hby, -⟩ := hR.at2
  injection e with e1 _ e3
  subst e1 e3
  have := conv_at w' (some ⟨w.heap.size, 0, none⟩) m (fixE m N) (fixE_byte m N) hby
  rw [fixE_length] at this
  exact this
theorem bytesAt_sub {w : World} {g : Nat} {l : List Nat} (h : BytesAt w (some ⟨g, 0, none⟩) l) (k : Nat) : BytesAt w (some ⟨g, k, none⟩) (l.drop k) := by
  have := bytesAt_from h k
  rwa [show (some (⟨g, 0, none⟩ : Addr)).map (fun x => x.add k) = some ⟨g, k, none⟩ from congrArg some (by show (⟨g, 0, none⟩ : Addr).add k = _; rw [addr_plain, Nat.zero_add])] at this
theorem bytesAt_take {w : World} {p : Option Addr} {l : List Nat} (h : BytesAt w p l) (k : Nat) : BytesAt w p (l.take k) := by
  intro i hi
  rw [List.length_take] at hi
  obtain ⟨B, off, rfl, c⟩ := h i (by omega)
  refine ⟨B, off, rfl, ?_⟩
  rw [c]
  simp [List.getD_eq_getElem?_getD, List.getElem?_take, show i < k by omega]
theorem wpAnyH_turn {P : Program} {md : Region.Mode} {ops : Array Oper} {Q : Exit → Act → World → Prop} {S S' : World → Prop} (hi : ∀ w, S' w → S w) : ∀ (fuel : Nat) (listed : Array Bool) (a : Act) (w : World), wpAnyH P md ops Q S' fuel listed a w → wpAnyH P md ops Q S fuel listed a w
  | 0, _, _, _, h => h
  | fuel + 1, _, _, _, h => ⟨h.1, fun i hm => wpOp_mono (fun a' w' h' => ⟨hi _ h'.1, wpAnyH_turn hi fuel _ a' w' h'.2⟩) (h.2 i hm)⟩
theorem wrap_u64 (n : Int) (h0 : 0 ≤ n) (h : n < 18446744073709551616) : IntKind.u64.wrap n = n := by
  simp [IntKind.wrap, IntKind.signed, IntKind.bits]; omega
theorem wrap_u32 (n : Int) : IntKind.u32.wrap n = n % 4294967296 := by
  simp [IntKind.wrap, IntKind.signed, IntKind.bits]
theorem conv_later {w w' : World} {l : List Nat} {p : Option Addr} (h : BytesAt w p l) (hb : ∀ b ∈ l, b < 256) (hB : Below w.heap.size w w') (cap : Nat) :
    (convert 39 9 (.slice p l.length cap)).run Try.prog w' = .ok (.string (strOf l)) w' := conv_at w' p cap l hb (bytesAt_below h hB)
theorem RowB.bytes {w w' : World} {l : List Nat} {p : Option Addr} {n c : Nat} (h : RowB w l (.slice p n c) w') : BytesAt w' p l := by
  obtain ⟨p', c', e, -, -, hb, -⟩ := h.at2
  injection e with e1
  subst e1
  exact hb
theorem e61 : secsE 3 4 = 61 ∧ planE 3 4 = 0 := by decide
theorem e20 : frameAtE 3 4 2 = 20 ∧ frameAtX 3 4 2 = 0 := by decide
theorem e29 : pageAtE 3 4 0 = 29 ∧ pageAtX 3 4 0 = 0 := by decide
theorem e04 : pageAtE 3 4 4 = 0 ∧ pageAtX 3 4 4 = 4 := by decide
theorem w9 (w : World) : Calls Try.prog 9 #[.agg #[.int .i64 3, .int .i64 4]] w fun r w' => r = .returned (.tuple #[.int .i64 61, .int .i64 0]) ∧ Below w.heap.size w w' := by
  have h := sectors_any 3 4 w
  rw [e61.1, e61.2] at h
  exact h
theorem w10 (w : World) : Calls Try.prog 10 #[.agg #[.int .i64 3, .int .i64 4], .int .i64 2] w fun r w' => r = .returned (.tuple #[.int .i64 20, .int .i64 0]) ∧ Below w.heap.size w w' := by
  have h := frameAt_any 3 4 2 w
  rw [e20.1, e20.2] at h
  exact h
theorem w11 (w : World) : Calls Try.prog 11 #[.agg #[.int .i64 3, .int .i64 4], .int .i64 0] w fun r w' => r = .returned (.tuple #[.int .i64 29, .int .i64 0]) ∧ Below w.heap.size w w' := by
  have h := pageAt_any 3 4 0 w
  rw [e29.1, e29.2] at h
  exact h
theorem w12 (w : World) : Calls Try.prog 11 #[.agg #[.int .i64 3, .int .i64 4], .int .i64 4] w fun r w' => r = .returned (.tuple #[.int .i64 0, .int .i64 4]) ∧ Below w.heap.size w w' := by
  have h := pageAt_any 3 4 4 w
  rw [e04.1, e04.2] at h
  exact h
theorem w19 (w : World) : Calls Try.prog 19 #[.agg #[.int .u64 1, .int .u64 2, .int .i64 0, .int .i64 0]] w fun r w' => ∃ g, r = .returned (.tuple #[.slice (some ⟨g, 0, none⟩) 64 64, .int .i64 0]) ∧ BytesAt w' (some ⟨g, 0, none⟩) (headL 1 2 0 0) ∧ w.heap.size ≤ g ∧ Below w.heap.size w w' :=
  encodeHead_ok 1 2 0 0 (by omega) (by omega) (by decide) w
theorem works_data : ∃ (ll lb lf : List Nat) (sb : Nat),
    (∀ w, Calls Try.prog 19 #[.agg #[.int .u64 1, .int .u64 2, .int .i64 0, .int .i64 0]] w fun r w' => ∃ g, r = .returned (.tuple #[.slice (some ⟨g, 0, none⟩) 64 64, .int .i64 0]) ∧ BytesAt w' (some ⟨g, 0, none⟩) ll ∧ w.heap.size ≤ g ∧ Below w.heap.size w w') ∧
    ll.take 24 = lb ∧ (ll.drop 24).take 4 = lf ∧ ll.getD 7 0 = 1 ∧ ll.getD 15 0 = 2 ∧ ll.length = 64 ∧ (∀ b ∈ ll, b < 256) ∧ lb.length = 24 ∧ (∀ b ∈ lb, b < 256) ∧ (~~~ sumN lb).toNat = sb ∧ fixE 4 sb = lf ∧ sb < 4294967296 :=
  ⟨headL 1 2 0 0, headB 1 2 0 0, _, _, w19, headL_take 1 2 0 0, headL_sum 1 2 0 0, head12.1, head12.2, headL_length 1 2 0 0, headL_byte 1 2 0 0, headB_length 1 2 0 0, headB_byte 1 2 0 0, rfl, rfl, sumNot_lt _⟩
set_option maxRecDepth 100000 in
set_option maxHeartbeats 4000000 in
theorem works_any (w : World) : Calls Try.prog 15 #[] w fun r w' => r = .returned (.bool true) ∧ Below w.heap.size w w' := by
  have C9 := Lib.hid w9
  have C10 := Lib.hid w10
  have C11 := Lib.hid w11
  have C12 := Lib.hid w12
  obtain ⟨ll, lb, lf, sb, d1, d2, d3, d4, d5, d6, d7, d8, d9, d10, d11, hsb⟩ := works_data
  have HlfN : Hid (lf.length = 4) := Lib.hid (by rw [← d11, fixE_length])
  have HlfB : Hid (∀ b ∈ lf, b < 256) := Lib.hid (by rw [← d11]; exact fixE_byte 4 sb)
  have C19 := Lib.hid d1
  have HT := Lib.hid d2
  have HSU := Lib.hid d3
  have H7 := Lib.hid d4
  have H15 := Lib.hid d5
  have HLN := Lib.hid d6
  have HLB := Lib.hid d7
  have HBN := Lib.hid d8
  have HBB := Lib.hid d9
  have NM := Lib.hid num_any
  have FX : Hid (∀ w, Calls Try.prog 36 #[.int .u64 sb, .int .i64 4] w fun r w' => r = .returned (.slice (some ⟨w.heap.size, 0, none⟩) 4 4) ∧ RowB w (fixE 4 sb) (.slice (some ⟨w.heap.size, 0, none⟩) 4 4) w' ∧ (convert 39 9 (.slice (some ⟨w.heap.size, 0, none⟩) 4 4)).run Try.prog w' = .ok (.string (strOf (fixE 4 sb))) w') := Lib.hid fun w => fixed_conv sb 4 (by omega) (by omega) w
  rw [d11] at FX
  have RS := Lib.hid fun p cap w h => refSum_any lb p cap w (by omega) HBB.out (Lib.hid h)
  rw [d8, d10] at RS
  clear d1 d2 d3 d4 d5 d6 d7 d8 d9 d10 d11
  go_enter Try.func15, Try.ntmps15
  go_upto_region 7 with (first
    | (go_at_call 9; refine (C9.out _).mono ?_; rintro e wa ⟨rfl, hb⟩; have B1 := Lib.hid (kbA hb); have c0 : wa.cell? ⟨w.heap.size, 0, none⟩ = some (.int .i64 3) := (hb.cell (by simp)).trans (by go_cell); have c1 : wa.cell? ⟨w.heap.size, 1, none⟩ = some (.int .i64 4) := (hb.cell (by simp)).trans (by go_cell); clear hb)
    | (go_at_call 10; refine (C10.out _).mono ?_; rintro e wb ⟨rfl, hb⟩; have c0 := (hb.cell (lt_of_cell_some c0)).trans c0; have c1 := (hb.cell (lt_of_cell_some c1)).trans c1; have B1 := Lib.hid (kbT B1.out hb); clear hb)
    | (go_at_call 11; (with_reducible refine (C11.out _).mono ?_); rintro e wc ⟨rfl, hb⟩; have c0 := (hb.cell (lt_of_cell_some c0)).trans c0; have c1 := (hb.cell (lt_of_cell_some c1)).trans c1; have B1 := Lib.hid (kbT B1.out hb); clear hb)
    | (go_at_call 11; refine (C12.out _).mono ?_; rintro e wd ⟨rfl, hb⟩; have c0 := (hb.cell (lt_of_cell_some c0)).trans c0; have c1 := (hb.cell (lt_of_cell_some c1)).trans c1; have B1 := Lib.hid (kbT B1.out hb); clear hb)
    | (go_at_call 19; refine (C19.out _).mono ?_; rintro e we ⟨g, rfl, hby, hg, hb⟩; have B1 := Lib.hid (kbT B1.out hb); have HBY := Lib.hid hby; clear hb hby c0 c1))
  have WK : Hid (∀ w', Below we.heap.size we w' → w'.cell? ⟨g, 7, none⟩ = some (.int .u8 1) ∧ w'.cell? ⟨g, 15, none⟩ = some (.int .u8 2) ∧ (convert 39 9 (.slice (some ⟨g, 24, none⟩) 4 40)).run Try.prog w' = .ok (.string (strOf lf)) w' ∧ Below we.heap.size we w') := Lib.hid fun w' hb => by
    have h1 := bytesAt_below HBY.out hb
    have hl := HLN.out
    refine ⟨?_, ?_, ?_, hb⟩
    · obtain ⟨B, off, e, c⟩ := h1 7 (by omega)
      injection e with e
      injection e with e1 e2
      subst e1 e2
      rw [H7.out] at c
      simpa using c
    · obtain ⟨B, off, e, c⟩ := h1 15 (by omega)
      injection e with e
      injection e with e1 e2
      subst e1 e2
      rw [H15.out] at c
      simpa using c
    · have h2 := conv_at w' (some ⟨g, 24, none⟩) 40 ((ll.drop 24).take 4) (fun b hb => HLB.out b (List.mem_of_mem_drop (List.mem_of_mem_take hb))) (bytesAt_take (bytesAt_sub h1 24) 4)
      rw [HSU.out] at h2
      have h3 : lf.length = 4 := by rw [← HSU.out, List.length_take, List.length_drop]; omega
      rw [h3] at h2
      exact h2
  have RS2 : Hid (∀ w', Below we.heap.size we w' → Calls Try.prog 37 #[.slice (some ⟨g, 0, none⟩) 24 64] w' fun r w2 => r = .returned (.int .u32 sb) ∧ w' = w2) := Lib.hid fun w' hb => RS.out _ _ w' (by
    have h1 := bytesAt_take (bytesAt_below HBY.out hb) 24
    rwa [HT.out] at h1)
  clear RS HT HSU H7 H15 HLN HLB HBN HBB C9 C10 C11 C12 C19
  have hw1 : IntKind.u64.wrap (sb : Int) = (sb : Int) := wrap_u64 _ (by omega) (by omega)
  have hw0 : IntKind.i64.wrap 0 = 0 := wrap_small (by omega) (by omega)
  have hq : ((strOf lf).toList == (strOf lf).toList) = true := by simp
  refine wp_region_held_drew (S := fun w' => Below we.heap.size we w') (by kernel_rfl) ((Below.refl _ _).drew) (fun H0 => ?_)
  refine wpAnyH_take (i := 0) (oi := { dst := some 38, op := Go.Op.move (Go.Operand.tmp 3), type := 24, pos := "law.go:22", after := #[], guard := none }) (v := ?_) rfl (by kernel_rfl) (by kernel_rfl) (by kernel_rfl) (fun _ _ _ h => h) (Or.inl ⟨by rfl, ?_⟩) H0 ?_
  rotate_left
  focus (intro w' hSw; (try dsimp only at hSw); go_simp; (try with_reducible rfl))
  simp only [Act.put, List.setIfInBounds_toArray, List.set_cons_zero, List.set_cons_succ]
  refine wpAnyH_take (i := 2) (oi := { dst := some 40, op := Go.Op.move (Go.Operand.tmp 5), type := 24, pos := "law.go:22", after := #[], guard := none }) (v := ?_) rfl (by kernel_rfl) (by kernel_rfl) (by kernel_rfl) (fun _ _ _ h => h) (Or.inl ⟨by rfl, ?_⟩) H0 ?_
  rotate_left
  focus (intro w' hSw; (try dsimp only at hSw); go_simp; (try with_reducible rfl))
  simp only [Act.put, List.setIfInBounds_toArray, List.set_cons_zero, List.set_cons_succ]
  refine wpAnyH_take (i := 5) (oi := { dst := some 43, op := Go.Op.move (Go.Operand.tmp 7), type := 24, pos := "law.go:22", after := #[], guard := none }) (v := ?_) rfl (by kernel_rfl) (by kernel_rfl) (by kernel_rfl) (fun _ _ _ h => h) (Or.inl ⟨by rfl, ?_⟩) H0 ?_
  rotate_left
  focus (intro w' hSw; (try dsimp only at hSw); go_simp; (try with_reducible rfl))
  simp only [Act.put, List.setIfInBounds_toArray, List.set_cons_zero, List.set_cons_succ]
  refine wpAnyH_take (i := 8) (oi := { dst := some 46, op := Go.Op.move (Go.Operand.tmp 11), type := 24, pos := "law.go:22", after := #[], guard := none }) (v := ?_) rfl (by kernel_rfl) (by kernel_rfl) (by kernel_rfl) (fun _ _ _ h => h) (Or.inl ⟨by rfl, ?_⟩) H0 ?_
  rotate_left
  focus (intro w' hSw; (try dsimp only at hSw); go_simp; (try with_reducible rfl))
  simp only [Act.put, List.setIfInBounds_toArray, List.set_cons_zero, List.set_cons_succ]
  refine wpAnyH_ready (rs := [1]) (by kernel_rfl) (by simp) ?_
  refine AllReadyH.cons (o := { dst := some 39, op := Go.Op.call { callee := Go.Callee.value (Go.Operand.func 13), args := #[Go.Operand.tmp 38], argTypes := #[24] }, type := 3, pos := "law.go:22", after := #[{ on := 0, ground := Go.Ground.data }], guard := none }) rfl (fun K hK => ?_) ?_
  rotate_left
  exact AllReadyH.nil
  go_simp
  (go_at_call 13; (with_reducible refine (NM.out _ _).mono ?_); rintro e wn ⟨rfl, rfl⟩)
  try go_wp2_with fail
  refine hK.out _ _ H0 (fun Hn => ?_)
  clear hK K
  try simp only [Act.put, List.setIfInBounds_toArray, List.set_cons_zero, List.set_cons_succ]
  clear Hn
  refine wpAnyH_ready (rs := [3]) (by kernel_rfl) (by simp) ?_
  refine AllReadyH.cons (o := { dst := some 41, op := Go.Op.call { callee := Go.Callee.value (Go.Operand.func 13), args := #[Go.Operand.tmp 40], argTypes := #[24] }, type := 3, pos := "law.go:22", after := #[{ on := 2, ground := Go.Ground.data }, { on := 1, ground := Go.Ground.chain }], guard := none }) rfl (fun K hK => ?_) ?_
  rotate_left
  exact AllReadyH.nil
  go_simp
  (go_at_call 13; (with_reducible refine (NM.out _ _).mono ?_); rintro e wn ⟨rfl, rfl⟩)
  try go_wp2_with fail
  refine hK.out _ _ H0 (fun Hn => ?_)
  clear hK K
  try simp only [Act.put, List.setIfInBounds_toArray, List.set_cons_zero, List.set_cons_succ]
  clear Hn
  refine wpAnyH_take (i := 4) (oi := { dst := some 42, op := Go.Op.binOp Go.BinOp.add 3 (Go.Operand.tmp 39) (Go.Operand.tmp 41) 3, type := 3, pos := "law.go:22", after := #[{ on := 1, ground := Go.Ground.data }, { on := 3, ground := Go.Ground.data }], guard := none }) (v := ?_) rfl (by kernel_rfl) (by kernel_rfl) (by kernel_rfl) (fun _ _ _ h => h) (Or.inl ⟨by rfl, ?_⟩) H0 ?_
  rotate_left
  focus (intro w' hSw; (try dsimp only at hSw); go_simp; (try with_reducible rfl))
  simp only [Act.put, List.setIfInBounds_toArray, List.set_cons_zero, List.set_cons_succ]
  refine wpAnyH_ready (rs := [6]) (by kernel_rfl) (by simp) ?_
  refine AllReadyH.cons (o := { dst := some 44, op := Go.Op.call { callee := Go.Callee.value (Go.Operand.func 13), args := #[Go.Operand.tmp 43], argTypes := #[24] }, type := 3, pos := "law.go:22", after := #[{ on := 5, ground := Go.Ground.data }, { on := 3, ground := Go.Ground.chain }], guard := none }) rfl (fun K hK => ?_) ?_
  rotate_left
  exact AllReadyH.nil
  go_simp
  (go_at_call 13; (with_reducible refine (NM.out _ _).mono ?_); rintro e wn ⟨rfl, rfl⟩)
  try go_wp2_with fail
  refine hK.out _ _ H0 (fun Hn => ?_)
  clear hK K
  try simp only [Act.put, List.setIfInBounds_toArray, List.set_cons_zero, List.set_cons_succ]
  clear Hn
  refine wpAnyH_take (i := 7) (oi := { dst := some 45, op := Go.Op.binOp Go.BinOp.add 3 (Go.Operand.tmp 42) (Go.Operand.tmp 44) 3, type := 3, pos := "law.go:22", after := #[{ on := 4, ground := Go.Ground.data }, { on := 6, ground := Go.Ground.data }], guard := none }) (v := ?_) rfl (by kernel_rfl) (by kernel_rfl) (by kernel_rfl) (fun _ _ _ h => h) (Or.inl ⟨by rfl, ?_⟩) H0 ?_
  rotate_left
  focus (intro w' hSw; (try dsimp only at hSw); go_simp; (try with_reducible rfl))
  simp only [Act.put, List.setIfInBounds_toArray, List.set_cons_zero, List.set_cons_succ]
  refine wpAnyH_ready (rs := [9]) (by kernel_rfl) (by simp) ?_
  refine AllReadyH.cons (o := { dst := some 47, op := Go.Op.call { callee := Go.Callee.value (Go.Operand.func 13), args := #[Go.Operand.tmp 46], argTypes := #[24] }, type := 3, pos := "law.go:22", after := #[{ on := 8, ground := Go.Ground.data }, { on := 6, ground := Go.Ground.chain }], guard := none }) rfl (fun K hK => ?_) ?_
  rotate_left
  exact AllReadyH.nil
  go_simp
  (go_at_call 13; (with_reducible refine (NM.out _ _).mono ?_); rintro e wn ⟨rfl, rfl⟩)
  try go_wp2_with fail
  refine hK.out _ _ H0 (fun Hn => ?_)
  clear hK K
  try simp only [Act.put, List.setIfInBounds_toArray, List.set_cons_zero, List.set_cons_succ]
  clear Hn
  refine wpAnyH_take (i := 10) (oi := { dst := some 48, op := Go.Op.binOp Go.BinOp.add 3 (Go.Operand.tmp 45) (Go.Operand.tmp 47) 3, type := 3, pos := "law.go:22", after := #[{ on := 7, ground := Go.Ground.data }, { on := 9, ground := Go.Ground.data }], guard := none }) (v := ?_) rfl (by kernel_rfl) (by kernel_rfl) (by kernel_rfl) (fun _ _ _ h => h) (Or.inl ⟨by rfl, ?_⟩) H0 ?_
  rotate_left
  focus (intro w' hSw; (try dsimp only at hSw); go_simp; (try with_reducible rfl))
  simp only [Act.put, List.setIfInBounds_toArray, List.set_cons_zero, List.set_cons_succ]
  refine wpAnyH_take (i := 11) (oi := { dst := some 49, op := Go.Op.binOp Go.BinOp.eql 3 (Go.Operand.tmp 48) (Go.Operand.const (Go.Value.int Go.IntKind.i64 0)) 3, type := 4, pos := "law.go:22", after := #[{ on := 10, ground := Go.Ground.data }], guard := none }) (v := ?_) rfl (by kernel_rfl) (by kernel_rfl) (by kernel_rfl) (fun _ _ _ h => h) (Or.inl ⟨by rfl, ?_⟩) H0 ?_
  rotate_left
  focus (intro w' hSw; (try dsimp only at hSw); go_simp; (try with_reducible rfl))
  simp only [Act.put, List.setIfInBounds_toArray, List.set_cons_zero, List.set_cons_succ]
  refine wpAnyH_take (i := 12) (oi := { dst := some 50, op := Go.Op.move (Go.Operand.tmp 49), type := 4, pos := "law.go:22", after := #[{ on := 11, ground := Go.Ground.data }, { on := 9, ground := Go.Ground.chain }], guard := none }) (v := ?_) rfl (by kernel_rfl) (by kernel_rfl) (by kernel_rfl) (fun _ _ _ h => h) (Or.inl ⟨by rfl, ?_⟩) H0 ?_
  rotate_left
  focus (intro w' hSw; (try dsimp only at hSw); go_simp; (try with_reducible rfl))
  simp only [Act.put, List.setIfInBounds_toArray, List.set_cons_zero, List.set_cons_succ]
  refine wpAnyH_take (i := 13) (oi := { dst := some 51, op := Go.Op.move (Go.Operand.tmp 2), type := 3, pos := "law.go:22", after := #[{ on := 12, ground := Go.Ground.guard }], guard := some (12, true) }) (v := ?_) rfl (by kernel_rfl) (by kernel_rfl) (by kernel_rfl) (fun _ _ _ h => h) (Or.inl ⟨by rfl, ?_⟩) H0 ?_
  rotate_left
  focus (intro w' hSw; (try dsimp only at hSw); go_simp; (try with_reducible rfl))
  simp only [Act.put, List.setIfInBounds_toArray, List.set_cons_zero, List.set_cons_succ]
  refine wpAnyH_take (i := 14) (oi := { dst := some 52, op := Go.Op.binOp Go.BinOp.eql 3 (Go.Operand.tmp 51) (Go.Operand.const (Go.Value.int Go.IntKind.i64 61)) 3, type := 4, pos := "law.go:22", after := #[{ on := 13, ground := Go.Ground.data }, { on := 12, ground := Go.Ground.guard }], guard := some (12, true) }) (v := ?_) rfl (by kernel_rfl) (by kernel_rfl) (by kernel_rfl) (fun _ _ _ h => h) (Or.inl ⟨by rfl, ?_⟩) H0 ?_
  rotate_left
  focus (intro w' hSw; (try dsimp only at hSw); go_simp; (try with_reducible rfl))
  simp only [Act.put, List.setIfInBounds_toArray, List.set_cons_zero, List.set_cons_succ]
  refine wpAnyH_take (i := 15) (oi := { dst := some 53, op := Go.Op.pick (Go.Operand.tmp 50) (Go.Operand.tmp 52) (Go.Operand.const (Go.Value.bool false)), type := 4, pos := "law.go:22", after := #[{ on := 12, ground := Go.Ground.data }, { on := 14, ground := Go.Ground.data }], guard := none }) (v := ?_) rfl (by kernel_rfl) (by kernel_rfl) (by kernel_rfl) (fun _ _ _ h => h) (Or.inl ⟨by rfl, ?_⟩) H0 ?_
  rotate_left
  focus (intro w' hSw; (try dsimp only at hSw); go_simp; (try with_reducible rfl))
  simp only [Act.put, List.setIfInBounds_toArray, List.set_cons_zero, List.set_cons_succ]
  refine wpAnyH_take (i := 16) (oi := { dst := some 54, op := Go.Op.move (Go.Operand.tmp 53), type := 4, pos := "law.go:22", after := #[{ on := 15, ground := Go.Ground.data }, { on := 12, ground := Go.Ground.chain }], guard := none }) (v := ?_) rfl (by kernel_rfl) (by kernel_rfl) (by kernel_rfl) (fun _ _ _ h => h) (Or.inl ⟨by rfl, ?_⟩) H0 ?_
  rotate_left
  focus (intro w' hSw; (try dsimp only at hSw); go_simp; (try with_reducible rfl))
  simp only [Act.put, List.setIfInBounds_toArray, List.set_cons_zero, List.set_cons_succ]
  refine wpAnyH_take (i := 17) (oi := { dst := some 55, op := Go.Op.move (Go.Operand.tmp 4), type := 3, pos := "law.go:22", after := #[{ on := 16, ground := Go.Ground.guard }], guard := some (16, true) }) (v := ?_) rfl (by kernel_rfl) (by kernel_rfl) (by kernel_rfl) (fun _ _ _ h => h) (Or.inl ⟨by rfl, ?_⟩) H0 ?_
  rotate_left
  focus (intro w' hSw; (try dsimp only at hSw); go_simp; (try with_reducible rfl))
  simp only [Act.put, List.setIfInBounds_toArray, List.set_cons_zero, List.set_cons_succ]
  refine wpAnyH_take (i := 18) (oi := { dst := some 56, op := Go.Op.binOp Go.BinOp.eql 3 (Go.Operand.tmp 55) (Go.Operand.const (Go.Value.int Go.IntKind.i64 20)) 3, type := 4, pos := "law.go:22", after := #[{ on := 17, ground := Go.Ground.data }, { on := 16, ground := Go.Ground.guard }], guard := some (16, true) }) (v := ?_) rfl (by kernel_rfl) (by kernel_rfl) (by kernel_rfl) (fun _ _ _ h => h) (Or.inl ⟨by rfl, ?_⟩) H0 ?_
  rotate_left
  focus (intro w' hSw; (try dsimp only at hSw); go_simp; (try with_reducible rfl))
  simp only [Act.put, List.setIfInBounds_toArray, List.set_cons_zero, List.set_cons_succ]
  refine wpAnyH_take (i := 19) (oi := { dst := some 57, op := Go.Op.pick (Go.Operand.tmp 54) (Go.Operand.tmp 56) (Go.Operand.const (Go.Value.bool false)), type := 4, pos := "law.go:22", after := #[{ on := 16, ground := Go.Ground.data }, { on := 18, ground := Go.Ground.data }], guard := none }) (v := ?_) rfl (by kernel_rfl) (by kernel_rfl) (by kernel_rfl) (fun _ _ _ h => h) (Or.inl ⟨by rfl, ?_⟩) H0 ?_
  rotate_left
  focus (intro w' hSw; (try dsimp only at hSw); go_simp; (try with_reducible rfl))
  simp only [Act.put, List.setIfInBounds_toArray, List.set_cons_zero, List.set_cons_succ]
  refine wpAnyH_take (i := 20) (oi := { dst := some 58, op := Go.Op.move (Go.Operand.tmp 57), type := 4, pos := "law.go:22", after := #[{ on := 19, ground := Go.Ground.data }, { on := 16, ground := Go.Ground.chain }], guard := none }) (v := ?_) rfl (by kernel_rfl) (by kernel_rfl) (by kernel_rfl) (fun _ _ _ h => h) (Or.inl ⟨by rfl, ?_⟩) H0 ?_
  rotate_left
  focus (intro w' hSw; (try dsimp only at hSw); go_simp; (try with_reducible rfl))
  simp only [Act.put, List.setIfInBounds_toArray, List.set_cons_zero, List.set_cons_succ]
  refine wpAnyH_take (i := 21) (oi := { dst := some 59, op := Go.Op.move (Go.Operand.tmp 6), type := 3, pos := "law.go:22", after := #[{ on := 20, ground := Go.Ground.guard }], guard := some (20, true) }) (v := ?_) rfl (by kernel_rfl) (by kernel_rfl) (by kernel_rfl) (fun _ _ _ h => h) (Or.inl ⟨by rfl, ?_⟩) H0 ?_
  rotate_left
  focus (intro w' hSw; (try dsimp only at hSw); go_simp; (try with_reducible rfl))
  simp only [Act.put, List.setIfInBounds_toArray, List.set_cons_zero, List.set_cons_succ]
  refine wpAnyH_take (i := 22) (oi := { dst := some 60, op := Go.Op.binOp Go.BinOp.eql 3 (Go.Operand.tmp 59) (Go.Operand.const (Go.Value.int Go.IntKind.i64 29)) 3, type := 4, pos := "law.go:22", after := #[{ on := 21, ground := Go.Ground.data }, { on := 20, ground := Go.Ground.guard }], guard := some (20, true) }) (v := ?_) rfl (by kernel_rfl) (by kernel_rfl) (by kernel_rfl) (fun _ _ _ h => h) (Or.inl ⟨by rfl, ?_⟩) H0 ?_
  rotate_left
  focus (intro w' hSw; (try dsimp only at hSw); go_simp; (try with_reducible rfl))
  simp only [Act.put, List.setIfInBounds_toArray, List.set_cons_zero, List.set_cons_succ]
  refine wpAnyH_take (i := 23) (oi := { dst := some 61, op := Go.Op.pick (Go.Operand.tmp 58) (Go.Operand.tmp 60) (Go.Operand.const (Go.Value.bool false)), type := 4, pos := "law.go:22", after := #[{ on := 20, ground := Go.Ground.data }, { on := 22, ground := Go.Ground.data }], guard := none }) (v := ?_) rfl (by kernel_rfl) (by kernel_rfl) (by kernel_rfl) (fun _ _ _ h => h) (Or.inl ⟨by rfl, ?_⟩) H0 ?_
  rotate_left
  focus (intro w' hSw; (try dsimp only at hSw); go_simp; (try with_reducible rfl))
  simp only [Act.put, List.setIfInBounds_toArray, List.set_cons_zero, List.set_cons_succ]
  refine wpAnyH_take (i := 24) (oi := { dst := some 62, op := Go.Op.move (Go.Operand.tmp 61), type := 4, pos := "law.go:22", after := #[{ on := 23, ground := Go.Ground.data }, { on := 20, ground := Go.Ground.chain }], guard := none }) (v := ?_) rfl (by kernel_rfl) (by kernel_rfl) (by kernel_rfl) (fun _ _ _ h => h) (Or.inl ⟨by rfl, ?_⟩) H0 ?_
  rotate_left
  focus (intro w' hSw; (try dsimp only at hSw); go_simp; (try with_reducible rfl))
  simp only [Act.put, List.setIfInBounds_toArray, List.set_cons_zero, List.set_cons_succ]
  refine wpAnyH_take (i := 25) (oi := { dst := some 63, op := Go.Op.move (Go.Operand.tmp 9), type := 24, pos := "law.go:22", after := #[{ on := 24, ground := Go.Ground.guard }], guard := some (24, true) }) (v := ?_) rfl (by kernel_rfl) (by kernel_rfl) (by kernel_rfl) (fun _ _ _ h => h) (Or.inl ⟨by rfl, ?_⟩) H0 ?_
  rotate_left
  focus (intro w' hSw; (try dsimp only at hSw); go_simp; (try with_reducible rfl))
  simp only [Act.put, List.setIfInBounds_toArray, List.set_cons_zero, List.set_cons_succ]
  refine wpAnyH_ready (rs := [26]) (by kernel_rfl) (by simp) ?_
  refine AllReadyH.cons (o := { dst := some 64, op := Go.Op.call { callee := Go.Callee.value (Go.Operand.func 13), args := #[Go.Operand.tmp 63], argTypes := #[24] }, type := 3, pos := "law.go:22", after := #[{ on := 25, ground := Go.Ground.data }, { on := 24, ground := Go.Ground.chain }, { on := 24, ground := Go.Ground.guard }], guard := some (24, true) }) rfl (fun K hK => ?_) ?_
  rotate_left
  exact AllReadyH.nil
  go_simp
  (go_at_call 13; (with_reducible refine (NM.out _ _).mono ?_); rintro e wn ⟨rfl, rfl⟩)
  try go_wp2_with fail
  refine hK.out _ _ H0 (fun Hn => ?_)
  clear hK K
  try simp only [Act.put, List.setIfInBounds_toArray, List.set_cons_zero, List.set_cons_succ]
  clear Hn
  refine wpAnyH_take (i := 27) (oi := { dst := some 65, op := Go.Op.binOp Go.BinOp.eql 3 (Go.Operand.tmp 64) (Go.Operand.const (Go.Value.int Go.IntKind.i64 4)) 3, type := 4, pos := "law.go:22", after := #[{ on := 26, ground := Go.Ground.data }, { on := 24, ground := Go.Ground.guard }], guard := some (24, true) }) (v := ?_) rfl (by kernel_rfl) (by kernel_rfl) (by kernel_rfl) (fun _ _ _ h => h) (Or.inl ⟨by rfl, ?_⟩) H0 ?_
  rotate_left
  focus (intro w' hSw; (try dsimp only at hSw); go_simp; (try with_reducible rfl))
  simp only [Act.put, List.setIfInBounds_toArray, List.set_cons_zero, List.set_cons_succ]
  refine wpAnyH_take (i := 28) (oi := { dst := some 66, op := Go.Op.pick (Go.Operand.tmp 62) (Go.Operand.tmp 65) (Go.Operand.const (Go.Value.bool false)), type := 4, pos := "law.go:22", after := #[{ on := 24, ground := Go.Ground.data }, { on := 27, ground := Go.Ground.data }], guard := none }) (v := ?_) rfl (by kernel_rfl) (by kernel_rfl) (by kernel_rfl) (fun _ _ _ h => h) (Or.inl ⟨by rfl, ?_⟩) H0 ?_
  rotate_left
  focus (intro w' hSw; (try dsimp only at hSw); go_simp; (try with_reducible rfl))
  simp only [Act.put, List.setIfInBounds_toArray, List.set_cons_zero, List.set_cons_succ]
  refine wpAnyH_take (i := 29) (oi := { dst := some 67, op := Go.Op.move (Go.Operand.tmp 66), type := 4, pos := "law.go:22", after := #[{ on := 28, ground := Go.Ground.data }, { on := 26, ground := Go.Ground.chain }], guard := none }) (v := ?_) rfl (by kernel_rfl) (by kernel_rfl) (by kernel_rfl) (fun _ _ _ h => h) (Or.inl ⟨by rfl, ?_⟩) H0 ?_
  rotate_left
  focus (intro w' hSw; (try dsimp only at hSw); go_simp; (try with_reducible rfl))
  simp only [Act.put, List.setIfInBounds_toArray, List.set_cons_zero, List.set_cons_succ]
  refine wpAnyH_take (i := 30) (oi := { dst := some 68, op := Go.Op.move (Go.Operand.tmp 10), type := 39, pos := "law.go:22", after := #[{ on := 29, ground := Go.Ground.guard }], guard := some (29, true) }) (v := ?_) rfl (by kernel_rfl) (by kernel_rfl) (by kernel_rfl) (fun _ _ _ h => h) (Or.inl ⟨by rfl, ?_⟩) H0 ?_
  rotate_left
  focus (intro w' hSw; (try dsimp only at hSw); go_simp; (try with_reducible rfl))
  simp only [Act.put, List.setIfInBounds_toArray, List.set_cons_zero, List.set_cons_succ]
  refine wpAnyH_take (i := 31) (oi := { dst := some 69, op := Go.Op.call { callee := Go.Callee.builtin Go.Builtin.len, args := #[Go.Operand.tmp 68], argTypes := #[39] }, type := 3, pos := "law.go:22", after := #[{ on := 30, ground := Go.Ground.data }, { on := 29, ground := Go.Ground.guard }], guard := some (29, true) }) (v := ?_) rfl (by kernel_rfl) (by kernel_rfl) (by kernel_rfl) (fun _ _ _ h => h) (Or.inl ⟨by rfl, ?_⟩) H0 ?_
  rotate_left
  focus (intro w' hSw; (try dsimp only at hSw); go_simp; (try with_reducible rfl))
  simp only [Act.put, List.setIfInBounds_toArray, List.set_cons_zero, List.set_cons_succ]
  refine wpAnyH_take (i := 32) (oi := { dst := some 70, op := Go.Op.binOp Go.BinOp.eql 3 (Go.Operand.tmp 69) (Go.Operand.const (Go.Value.int Go.IntKind.i64 64)) 3, type := 4, pos := "law.go:22", after := #[{ on := 31, ground := Go.Ground.data }, { on := 29, ground := Go.Ground.guard }], guard := some (29, true) }) (v := ?_) rfl (by kernel_rfl) (by kernel_rfl) (by kernel_rfl) (fun _ _ _ h => h) (Or.inl ⟨by rfl, ?_⟩) H0 ?_
  rotate_left
  focus (intro w' hSw; (try dsimp only at hSw); go_simp; (try with_reducible rfl))
  simp only [Act.put, List.setIfInBounds_toArray, List.set_cons_zero, List.set_cons_succ]
  refine wpAnyH_take (i := 33) (oi := { dst := some 71, op := Go.Op.pick (Go.Operand.tmp 67) (Go.Operand.tmp 70) (Go.Operand.const (Go.Value.bool false)), type := 4, pos := "law.go:22", after := #[{ on := 29, ground := Go.Ground.data }, { on := 32, ground := Go.Ground.data }], guard := none }) (v := ?_) rfl (by kernel_rfl) (by kernel_rfl) (by kernel_rfl) (fun _ _ _ h => h) (Or.inl ⟨by rfl, ?_⟩) H0 ?_
  rotate_left
  focus (intro w' hSw; (try dsimp only at hSw); go_simp; (try with_reducible rfl))
  simp only [Act.put, List.setIfInBounds_toArray, List.set_cons_zero, List.set_cons_succ]
  refine wpAnyH_take (i := 34) (oi := { dst := some 72, op := Go.Op.move (Go.Operand.tmp 71), type := 4, pos := "law.go:22", after := #[{ on := 33, ground := Go.Ground.data }, { on := 29, ground := Go.Ground.chain }], guard := none }) (v := ?_) rfl (by kernel_rfl) (by kernel_rfl) (by kernel_rfl) (fun _ _ _ h => h) (Or.inl ⟨by rfl, ?_⟩) H0 ?_
  rotate_left
  focus (intro w' hSw; (try dsimp only at hSw); go_simp; (try with_reducible rfl))
  simp only [Act.put, List.setIfInBounds_toArray, List.set_cons_zero, List.set_cons_succ]
  refine wpAnyH_take (i := 35) (oi := { dst := some 73, op := Go.Op.move (Go.Operand.tmp 10), type := 39, pos := "law.go:22", after := #[{ on := 34, ground := Go.Ground.guard }], guard := some (34, true) }) (v := ?_) rfl (by kernel_rfl) (by kernel_rfl) (by kernel_rfl) (fun _ _ _ h => h) (Or.inl ⟨by rfl, ?_⟩) H0 ?_
  rotate_left
  focus (intro w' hSw; (try dsimp only at hSw); go_simp; (try with_reducible rfl))
  simp only [Act.put, List.setIfInBounds_toArray, List.set_cons_zero, List.set_cons_succ]
  refine wpAnyH_take (i := 36) (oi := { dst := some 74, op := Go.Op.indexAddr 39 (Go.Operand.tmp 73) (Go.Operand.const (Go.Value.int Go.IntKind.i64 7)), type := 0, pos := "law.go:22", after := #[{ on := 35, ground := Go.Ground.data }, { on := 34, ground := Go.Ground.guard }], guard := some (34, true) }) (v := ?_) rfl (by kernel_rfl) (by kernel_rfl) (by kernel_rfl) (fun _ _ _ h => h) (Or.inl ⟨by rfl, ?_⟩) H0 ?_
  rotate_left
  focus (intro w' hSw; (try dsimp only at hSw); go_simp; (try with_reducible rfl))
  simp only [Act.put, List.setIfInBounds_toArray, List.set_cons_zero, List.set_cons_succ]
  refine wpAnyH_take (i := 37) (oi := { dst := some 75, op := Go.Op.load 5 (Go.Operand.tmp 74), type := 5, pos := "law.go:22", after := #[{ on := 36, ground := Go.Ground.data }, { on := 34, ground := Go.Ground.guard }], guard := some (34, true) }) (v := ?_) rfl (by kernel_rfl) (by kernel_rfl) (by kernel_rfl) (fun _ _ _ h => h) (Or.inl ⟨by rfl, ?_⟩) H0 ?_
  rotate_left
  focus (intro w' hSw; (try dsimp only at hSw); obtain ⟨k7, k15, k24, -⟩ := WK.out _ hSw; go_simp; (try with_reducible rfl))
  simp only [Act.put, List.setIfInBounds_toArray, List.set_cons_zero, List.set_cons_succ]
  refine wpAnyH_take (i := 38) (oi := { dst := some 76, op := Go.Op.binOp Go.BinOp.eql 5 (Go.Operand.tmp 75) (Go.Operand.const (Go.Value.int Go.IntKind.u8 1)) 5, type := 4, pos := "law.go:22", after := #[{ on := 37, ground := Go.Ground.data }, { on := 34, ground := Go.Ground.guard }], guard := some (34, true) }) (v := ?_) rfl (by kernel_rfl) (by kernel_rfl) (by kernel_rfl) (fun _ _ _ h => h) (Or.inl ⟨by rfl, ?_⟩) H0 ?_
  rotate_left
  focus (intro w' hSw; (try dsimp only at hSw); go_simp; (try with_reducible rfl))
  simp only [Act.put, List.setIfInBounds_toArray, List.set_cons_zero, List.set_cons_succ]
  refine wpAnyH_take (i := 39) (oi := { dst := some 77, op := Go.Op.pick (Go.Operand.tmp 72) (Go.Operand.tmp 76) (Go.Operand.const (Go.Value.bool false)), type := 4, pos := "law.go:22", after := #[{ on := 34, ground := Go.Ground.data }, { on := 38, ground := Go.Ground.data }], guard := none }) (v := ?_) rfl (by kernel_rfl) (by kernel_rfl) (by kernel_rfl) (fun _ _ _ h => h) (Or.inl ⟨by rfl, ?_⟩) H0 ?_
  rotate_left
  focus (intro w' hSw; (try dsimp only at hSw); go_simp; (try with_reducible rfl))
  simp only [Act.put, List.setIfInBounds_toArray, List.set_cons_zero, List.set_cons_succ]
  refine wpAnyH_take (i := 40) (oi := { dst := some 78, op := Go.Op.move (Go.Operand.tmp 77), type := 4, pos := "law.go:22", after := #[{ on := 39, ground := Go.Ground.data }, { on := 34, ground := Go.Ground.chain }], guard := none }) (v := ?_) rfl (by kernel_rfl) (by kernel_rfl) (by kernel_rfl) (fun _ _ _ h => h) (Or.inl ⟨by rfl, ?_⟩) H0 ?_
  rotate_left
  focus (intro w' hSw; (try dsimp only at hSw); go_simp; (try with_reducible rfl))
  simp only [Act.put, List.setIfInBounds_toArray, List.set_cons_zero, List.set_cons_succ]
  refine wpAnyH_take (i := 41) (oi := { dst := some 79, op := Go.Op.move (Go.Operand.tmp 10), type := 39, pos := "law.go:22", after := #[{ on := 40, ground := Go.Ground.guard }], guard := some (40, true) }) (v := ?_) rfl (by kernel_rfl) (by kernel_rfl) (by kernel_rfl) (fun _ _ _ h => h) (Or.inl ⟨by rfl, ?_⟩) H0 ?_
  rotate_left
  focus (intro w' hSw; (try dsimp only at hSw); go_simp; (try with_reducible rfl))
  simp only [Act.put, List.setIfInBounds_toArray, List.set_cons_zero, List.set_cons_succ]
  refine wpAnyH_take (i := 42) (oi := { dst := some 80, op := Go.Op.indexAddr 39 (Go.Operand.tmp 79) (Go.Operand.const (Go.Value.int Go.IntKind.i64 15)), type := 0, pos := "law.go:22", after := #[{ on := 41, ground := Go.Ground.data }, { on := 40, ground := Go.Ground.guard }], guard := some (40, true) }) (v := ?_) rfl (by kernel_rfl) (by kernel_rfl) (by kernel_rfl) (fun _ _ _ h => h) (Or.inl ⟨by rfl, ?_⟩) H0 ?_
  rotate_left
  focus (intro w' hSw; (try dsimp only at hSw); go_simp; (try with_reducible rfl))
  simp only [Act.put, List.setIfInBounds_toArray, List.set_cons_zero, List.set_cons_succ]
  refine wpAnyH_take (i := 43) (oi := { dst := some 81, op := Go.Op.load 5 (Go.Operand.tmp 80), type := 5, pos := "law.go:22", after := #[{ on := 42, ground := Go.Ground.data }, { on := 40, ground := Go.Ground.guard }], guard := some (40, true) }) (v := ?_) rfl (by kernel_rfl) (by kernel_rfl) (by kernel_rfl) (fun _ _ _ h => h) (Or.inl ⟨by rfl, ?_⟩) H0 ?_
  rotate_left
  focus (intro w' hSw; (try dsimp only at hSw); obtain ⟨k7, k15, k24, -⟩ := WK.out _ hSw; go_simp; (try with_reducible rfl))
  simp only [Act.put, List.setIfInBounds_toArray, List.set_cons_zero, List.set_cons_succ]
  refine wpAnyH_take (i := 44) (oi := { dst := some 82, op := Go.Op.binOp Go.BinOp.eql 5 (Go.Operand.tmp 81) (Go.Operand.const (Go.Value.int Go.IntKind.u8 2)) 5, type := 4, pos := "law.go:22", after := #[{ on := 43, ground := Go.Ground.data }, { on := 40, ground := Go.Ground.guard }], guard := some (40, true) }) (v := ?_) rfl (by kernel_rfl) (by kernel_rfl) (by kernel_rfl) (fun _ _ _ h => h) (Or.inl ⟨by rfl, ?_⟩) H0 ?_
  rotate_left
  focus (intro w' hSw; (try dsimp only at hSw); go_simp; (try with_reducible rfl))
  simp only [Act.put, List.setIfInBounds_toArray, List.set_cons_zero, List.set_cons_succ]
  refine wpAnyH_take (i := 45) (oi := { dst := some 83, op := Go.Op.pick (Go.Operand.tmp 78) (Go.Operand.tmp 82) (Go.Operand.const (Go.Value.bool false)), type := 4, pos := "law.go:22", after := #[{ on := 40, ground := Go.Ground.data }, { on := 44, ground := Go.Ground.data }], guard := none }) (v := ?_) rfl (by kernel_rfl) (by kernel_rfl) (by kernel_rfl) (fun _ _ _ h => h) (Or.inl ⟨by rfl, ?_⟩) H0 ?_
  rotate_left
  focus (intro w' hSw; (try dsimp only at hSw); go_simp; (try with_reducible rfl))
  simp only [Act.put, List.setIfInBounds_toArray, List.set_cons_zero, List.set_cons_succ]
  refine wpAnyH_take (i := 46) (oi := { dst := some 84, op := Go.Op.move (Go.Operand.tmp 83), type := 4, pos := "law.go:22", after := #[{ on := 45, ground := Go.Ground.data }, { on := 40, ground := Go.Ground.chain }], guard := none }) (v := ?_) rfl (by kernel_rfl) (by kernel_rfl) (by kernel_rfl) (fun _ _ _ h => h) (Or.inl ⟨by rfl, ?_⟩) H0 ?_
  rotate_left
  focus (intro w' hSw; (try dsimp only at hSw); go_simp; (try with_reducible rfl))
  simp only [Act.put, List.setIfInBounds_toArray, List.set_cons_zero, List.set_cons_succ]
  refine wpAnyH_take (i := 47) (oi := { dst := some 85, op := Go.Op.move (Go.Operand.tmp 10), type := 39, pos := "law.go:22", after := #[{ on := 46, ground := Go.Ground.guard }], guard := some (46, true) }) (v := ?_) rfl (by kernel_rfl) (by kernel_rfl) (by kernel_rfl) (fun _ _ _ h => h) (Or.inl ⟨by rfl, ?_⟩) H0 ?_
  rotate_left
  focus (intro w' hSw; (try dsimp only at hSw); go_simp; (try with_reducible rfl))
  simp only [Act.put, List.setIfInBounds_toArray, List.set_cons_zero, List.set_cons_succ]
  refine wpAnyH_take (i := 48) (oi := { dst := some 86, op := Go.Op.slice 39 (Go.Operand.tmp 85) (some (Go.Operand.const (Go.Value.int Go.IntKind.i64 24))) (some (Go.Operand.const (Go.Value.int Go.IntKind.i64 28))) none, type := 39, pos := "law.go:22", after := #[{ on := 47, ground := Go.Ground.data }, { on := 46, ground := Go.Ground.guard }], guard := some (46, true) }) (v := ?_) rfl (by kernel_rfl) (by kernel_rfl) (by kernel_rfl) (fun _ _ _ h => h) (Or.inl ⟨by rfl, ?_⟩) H0 ?_
  rotate_left
  focus (intro w' hSw; (try dsimp only at hSw); go_simp; (try with_reducible rfl))
  simp only [Act.put, List.setIfInBounds_toArray, List.set_cons_zero, List.set_cons_succ]
  refine wpAnyH_take (i := 49) (oi := { dst := some 87, op := Go.Op.convert 39 9 (Go.Operand.tmp 86), type := 9, pos := "law.go:22", after := #[{ on := 48, ground := Go.Ground.data }, { on := 46, ground := Go.Ground.guard }], guard := some (46, true) }) (v := ?_) rfl (by kernel_rfl) (by kernel_rfl) (by kernel_rfl) (fun _ _ _ h => h) (Or.inl ⟨by rfl, ?_⟩) H0 ?_
  rotate_left
  focus (intro w' hSw; (try dsimp only at hSw); obtain ⟨k7, k15, k24, -⟩ := WK.out _ hSw; go_simp; (try with_reducible rfl))
  simp only [Act.put, List.setIfInBounds_toArray, List.set_cons_zero, List.set_cons_succ]
  refine wpAnyH_take (i := 50) (oi := { dst := some 88, op := Go.Op.move (Go.Operand.tmp 10), type := 39, pos := "law.go:22", after := #[{ on := 46, ground := Go.Ground.guard }], guard := some (46, true) }) (v := ?_) rfl (by kernel_rfl) (by kernel_rfl) (by kernel_rfl) (fun _ _ _ h => h) (Or.inl ⟨by rfl, ?_⟩) H0 ?_
  rotate_left
  focus (intro w' hSw; (try dsimp only at hSw); go_simp; (try with_reducible rfl))
  simp only [Act.put, List.setIfInBounds_toArray, List.set_cons_zero, List.set_cons_succ]
  refine wpAnyH_take (i := 51) (oi := { dst := some 89, op := Go.Op.slice 39 (Go.Operand.tmp 88) none (some (Go.Operand.const (Go.Value.int Go.IntKind.i64 24))) none, type := 39, pos := "law.go:22", after := #[{ on := 50, ground := Go.Ground.data }, { on := 46, ground := Go.Ground.guard }], guard := some (46, true) }) (v := ?_) rfl (by kernel_rfl) (by kernel_rfl) (by kernel_rfl) (fun _ _ _ h => h) (Or.inl ⟨by rfl, ?_⟩) H0 ?_
  rotate_left
  focus (intro w' hSw; (try dsimp only at hSw); go_simp; (try with_reducible rfl))
  simp only [Act.put, List.setIfInBounds_toArray, List.set_cons_zero, List.set_cons_succ]
  refine wpAnyH_ready (rs := [52]) (by kernel_rfl) (by simp) ?_
  refine AllReadyH.cons (o := { dst := some 90, op := Go.Op.call { callee := Go.Callee.value (Go.Operand.func 37), args := #[Go.Operand.tmp 89], argTypes := #[39] }, type := 49, pos := "law.go:22", after := #[{ on := 51, ground := Go.Ground.data }, { on := 46, ground := Go.Ground.chain }, { on := 46, ground := Go.Ground.guard }], guard := some (46, true) }) rfl (fun K hK => ?_) ?_
  rotate_left
  exact AllReadyH.nil
  go_simp
  (go_at_call 37; (with_reducible refine (RS2.out _ H0).mono ?_); rintro e wn ⟨rfl, rfl⟩)
  try go_wp2_with fail
  refine hK.out _ _ H0 (fun Hn => ?_)
  clear hK K
  try simp only [Act.put, List.setIfInBounds_toArray, List.set_cons_zero, List.set_cons_succ]
  clear Hn
  refine wpAnyH_take (i := 53) (oi := { dst := some 91, op := Go.Op.convert 49 36 (Go.Operand.tmp 90), type := 36, pos := "law.go:22", after := #[{ on := 52, ground := Go.Ground.data }, { on := 46, ground := Go.Ground.guard }], guard := some (46, true) }) (v := ?_) rfl (by kernel_rfl) (by kernel_rfl) (by kernel_rfl) (fun _ _ _ h => h) (Or.inl ⟨by rfl, ?_⟩) H0 ?_
  rotate_left
  focus (intro w' hSw; (try dsimp only at hSw); obtain ⟨k7, k15, k24, -⟩ := WK.out _ hSw; go_simp; (try with_reducible rfl))
  simp only [Act.put, List.setIfInBounds_toArray, List.set_cons_zero, List.set_cons_succ]
  refine wpAnyH_ready (rs := [54]) (by kernel_rfl) (by simp) ?_
  refine AllReadyH.cons (o := { dst := some 92, op := Go.Op.call { callee := Go.Callee.value (Go.Operand.func 36), args := #[Go.Operand.tmp 91, Go.Operand.const (Go.Value.int Go.IntKind.i64 4)], argTypes := #[36, 3] }, type := 39, pos := "law.go:22", after := #[{ on := 53, ground := Go.Ground.data }, { on := 52, ground := Go.Ground.chain }, { on := 46, ground := Go.Ground.guard }], guard := some (46, true) }) rfl (fun K hK => ?_) ?_
  rotate_left
  exact AllReadyH.nil
  go_simp
  (go_at_call 36; (with_reducible refine (FX.out _).mono ?_); rintro e wy ⟨rfl, hr, hcv⟩)
  try go_wp2_with fail
  refine hK.out _ _ (kbT H0 hr.2) (fun Hy => ?_)
  clear hK K
  try simp only [Act.put, List.setIfInBounds_toArray, List.set_cons_zero, List.set_cons_succ]
  have HX := Lib.hid Hy
  have HcY := Lib.hid (RowB.bytes hr)
  refine wpAnyH_turn (S' := fun w' => Below wy.heap.size wy w') (fun w' h => kbT HX.out h) _ _ _ _ ?_
  have Hz := Below.refl wy.heap.size wy
  refine wpAnyH_take (i := 55) (oi := { dst := some 93, op := Go.Op.convert 39 9 (Go.Operand.tmp 92), type := 9, pos := "law.go:22", after := #[{ on := 54, ground := Go.Ground.data }, { on := 46, ground := Go.Ground.guard }], guard := some (46, true) }) (v := ?_) rfl (by kernel_rfl) (by kernel_rfl) (by kernel_rfl) (fun _ _ _ h => h) (Or.inl ⟨by rfl, ?_⟩) Hz ?_
  rotate_left
  focus (intro w' hSw; (try dsimp only at hSw); have hcy : (convert 39 9 (.slice (some ⟨we.heap.size, 0, none⟩) 4 4)).run Try.prog w' = .ok (.string (strOf lf)) w' := (by have hx := conv_later HcY.out HlfB.out hSw 4; rw [HlfN.out] at hx; exact hx); go_simp; (try with_reducible rfl))
  simp only [Act.put, List.setIfInBounds_toArray, List.set_cons_zero, List.set_cons_succ]
  refine wpAnyH_take (i := 56) (oi := { dst := some 94, op := Go.Op.binOp Go.BinOp.eql 9 (Go.Operand.tmp 87) (Go.Operand.tmp 93) 9, type := 4, pos := "law.go:22", after := #[{ on := 49, ground := Go.Ground.data }, { on := 55, ground := Go.Ground.data }, { on := 46, ground := Go.Ground.guard }], guard := some (46, true) }) (v := ?_) rfl (by kernel_rfl) (by kernel_rfl) (by kernel_rfl) (fun _ _ _ h => h) (Or.inl ⟨by rfl, ?_⟩) Hz ?_
  rotate_left
  focus (intro w' hSw; (try dsimp only at hSw); go_simp; (try with_reducible rfl))
  simp only [Act.put, List.setIfInBounds_toArray, List.set_cons_zero, List.set_cons_succ]
  refine wpAnyH_take (i := 57) (oi := { dst := some 95, op := Go.Op.pick (Go.Operand.tmp 84) (Go.Operand.tmp 94) (Go.Operand.const (Go.Value.bool false)), type := 4, pos := "law.go:22", after := #[{ on := 46, ground := Go.Ground.data }, { on := 56, ground := Go.Ground.data }], guard := none }) (v := ?_) rfl (by kernel_rfl) (by kernel_rfl) (by kernel_rfl) (fun _ _ _ h => h) (Or.inl ⟨by rfl, ?_⟩) Hz ?_
  rotate_left
  focus (intro w' hSw; (try dsimp only at hSw); go_simp; (try with_reducible rfl))
  simp only [Act.put, List.setIfInBounds_toArray, List.set_cons_zero, List.set_cons_succ]
  refine wpAnyH_take (i := 58) (oi := { dst := some 0, op := Go.Op.assign (Go.Operand.tmp 95), type := 4, pos := "law.go:22", after := #[{ on := 57, ground := Go.Ground.data }, { on := 54, ground := Go.Ground.chain }, { on := 0, ground := Go.Ground.phase }, { on := 1, ground := Go.Ground.phase }, { on := 2, ground := Go.Ground.phase }, { on := 3, ground := Go.Ground.phase }, { on := 4, ground := Go.Ground.phase }, { on := 5, ground := Go.Ground.phase }, { on := 6, ground := Go.Ground.phase }, { on := 7, ground := Go.Ground.phase }, { on := 8, ground := Go.Ground.phase }, { on := 9, ground := Go.Ground.phase }, { on := 10, ground := Go.Ground.phase }, { on := 11, ground := Go.Ground.phase }, { on := 12, ground := Go.Ground.phase }, { on := 13, ground := Go.Ground.phase }, { on := 14, ground := Go.Ground.phase }, { on := 15, ground := Go.Ground.phase }, { on := 16, ground := Go.Ground.phase }, { on := 17, ground := Go.Ground.phase }, { on := 18, ground := Go.Ground.phase }, { on := 19, ground := Go.Ground.phase }, { on := 20, ground := Go.Ground.phase }, { on := 21, ground := Go.Ground.phase }, { on := 22, ground := Go.Ground.phase }, { on := 23, ground := Go.Ground.phase }, { on := 24, ground := Go.Ground.phase }, { on := 25, ground := Go.Ground.phase }, { on := 26, ground := Go.Ground.phase }, { on := 27, ground := Go.Ground.phase }, { on := 28, ground := Go.Ground.phase }, { on := 29, ground := Go.Ground.phase }, { on := 30, ground := Go.Ground.phase }, { on := 31, ground := Go.Ground.phase }, { on := 32, ground := Go.Ground.phase }, { on := 33, ground := Go.Ground.phase }, { on := 34, ground := Go.Ground.phase }, { on := 35, ground := Go.Ground.phase }, { on := 36, ground := Go.Ground.phase }, { on := 37, ground := Go.Ground.phase }, { on := 38, ground := Go.Ground.phase }, { on := 39, ground := Go.Ground.phase }, { on := 40, ground := Go.Ground.phase }, { on := 41, ground := Go.Ground.phase }, { on := 42, ground := Go.Ground.phase }, { on := 43, ground := Go.Ground.phase }, { on := 44, ground := Go.Ground.phase }, { on := 45, ground := Go.Ground.phase }, { on := 46, ground := Go.Ground.phase }, { on := 47, ground := Go.Ground.phase }, { on := 48, ground := Go.Ground.phase }, { on := 49, ground := Go.Ground.phase }, { on := 50, ground := Go.Ground.phase }, { on := 51, ground := Go.Ground.phase }, { on := 52, ground := Go.Ground.phase }, { on := 53, ground := Go.Ground.phase }, { on := 54, ground := Go.Ground.phase }, { on := 55, ground := Go.Ground.phase }, { on := 56, ground := Go.Ground.phase }, { on := 57, ground := Go.Ground.phase }], guard := none }) (v := ?_) rfl (by kernel_rfl) (by kernel_rfl) (by kernel_rfl) (fun _ _ _ h => h) (Or.inl ⟨by rfl, ?_⟩) Hz ?_
  rotate_left
  focus (intro w' hSw; (try dsimp only at hSw); go_simp; (try with_reducible rfl))
  simp only [Act.put, List.setIfInBounds_toArray, List.set_cons_zero, List.set_cons_succ]
  refine wpAnyH_done (by kernel_rfl) ?_ _
  go_wp2_with fail
  go_ret
  exact ⟨rfl, kbT B1.out HX.out⟩
end Go.Proofs.Ythnllhfdbnnjhaa
namespace Go.Proofs.Ythnllhfdbnnjhaa
open Go.RowKit Go.Shelf

/-- All blocks but one are as they were. -/
structure But (P : Nat) (w w' : World) : Prop where
  size : w.heap.size ≤ w'.heap.size
  block : ∀ k, k < w.heap.size → k ≠ P → w'.heap[k]? = w.heap[k]?
  os : w'.os = w.os
  tape : w'.tape = w.tape
  output : w'.output = w.output
theorem But.refl (P : Nat) (w : World) : But P w w := ⟨Nat.le_refl _, fun _ _ _ => rfl, rfl, rfl, rfl⟩
theorem But.trans {P : Nat} {a b c : World} (h : But P a b) (k : But P b c) : But P a c :=
  ⟨Nat.le_trans h.size k.size, fun i hi hn => (k.block i (Nat.lt_of_lt_of_le hi h.size) hn).trans (h.block i hi hn), k.os.trans h.os, k.tape.trans h.tape, k.output.trans h.output⟩
theorem But.of {P : Nat} {w w' : World} (h : Below w.heap.size w w') : But P w w' := ⟨h.size, fun k hk _ => h.block k hk, h.os, h.tape, h.output⟩
theorem But.set (P : Nat) (w : World) (v : Value) : But P w (w.setCell ⟨P, 0, none⟩ v) := by
  have h : Below P w (w.setCell ⟨P, 0, none⟩ v) := (Below.refl P w).setCell (Nat.le_refl P) v
  refine ⟨by simp [World.setCell], fun k hk hn => ?_, h.os, h.tape, h.output⟩
  simp only [World.setCell, Array.getElem?_modify]
  rw [if_neg (fun e => hn e.symm)]
theorem But.below {P : Nat} {w0 w w' : World} (h : But P w w') (hb : Below w0.heap.size w0 w) (hP : w0.heap.size ≤ P) : Below w0.heap.size w0 w' :=
  ⟨h.os.trans hb.os, h.tape.trans hb.tape, h.output.trans hb.output, Nat.le_trans hb.size h.size, fun k hk => (h.block k (Nat.lt_of_lt_of_le hk hb.size) (by omega)).trans (hb.block k hk)⟩
theorem But.cell {P : Nat} {w w' : World} (h : But P w w') {a : Addr} {v : Value} (hc : w.cell? a = some v) (hn : a.block ≠ P) : w'.cell? a = some v := by
  have := h.block a.block (lt_of_cell_some hc) hn
  unfold World.cell? at hc ⊢
  rw [this]
  exact hc
theorem RestP.but {T : Nat → Prop} {w w' : World} {P : Nat} {p : Option Addr} {c : Nat} {v : List Nat} (R : RestP T w P p c v) (hb : Below w.heap.size w w') : RestP T w' P p c v := by
  have hP := lt_of_cell_some R.cell
  refine ⟨(hb.cell hP).trans R.cell, R.cap, (hb.frozen hP).trans R.fz, R.ne, fun i hi => ?_⟩
  obtain ⟨B, off, e, hT, hc⟩ := R.bytes i hi
  exact ⟨B, off, e, hT, (hb.cell (lt_of_cell_some hc)).trans hc⟩
theorem min_cast (m L : Nat) (h : m ≤ L) : min (m : Int) (L : Int) = (m : Int) := by omega
set_option maxRecDepth 100000 in
set_option maxHeartbeats 400000 in
theorem ftake_rest {T : Nat → Prop} (m : Nat) (P : Nat) (p : Option Addr) (c : Nat) (v : List Nat) (w : World) (h : m ≤ v.length) (hv : c ≤ 9223372036854775807) (R : RestP T w P p c v) :
    Calls Try.prog 61 #[.pointer (some ⟨P, 0, none⟩), .int .i64 m] w fun r w' => r = .returned (.slice p m m) ∧ w' = w.setCell ⟨P, 0, none⟩ (.slice (restAt p c m) (v.length - m) (c - m)) := by
  have hc := R.cell
  have hcap := R.cap
  have hfz := R.fz
  generalize v.length = L at h hc hcap
  unfold restAt
  go_enter Try.func61, Try.ntmps61
  go_upto_region 2 with fail
  rw [min_cast m L h]
  go_wp2
  all_goals go_ret
  all_goals exact ⟨rfl, rfl⟩
/-- Fewer bytes are left than are asked for: all of them are taken. -/
theorem ftake_all {T : Nat → Prop} (n : Nat) (P : Nat) (p : Option Addr) (c : Nat) (v : List Nat) (w : World) (h : v.length ≤ n) (hv : c ≤ 9223372036854775807) (R : RestP T w P p c v) :
    Calls Try.prog 61 #[.pointer (some ⟨P, 0, none⟩), .int .i64 n] w fun r w' => r = .returned (.slice p v.length v.length) ∧ w' = w.setCell ⟨P, 0, none⟩ (.slice (restAt p c v.length) 0 (c - v.length)) := by
  have hc := R.cell
  have hcap := R.cap
  have hfz := R.fz
  generalize v.length = L at h hc hcap ⊢
  have hm : min (n : Int) (L : Int) = (L : Int) := by omega
  unfold restAt
  go_enter Try.func61, Try.ntmps61
  go_upto_region 2 with fail
  go_wp2
  all_goals go_ret
  all_goals exact ⟨rfl, rfl⟩
set_option maxRecDepth 100000 in
set_option maxHeartbeats 1000000 in
theorem num8_any (P : Nat) (p : Option Addr) (c : Nat) (v : List Nat) (w0 w : World) (h : 8 ≤ v.length) (hv : c ≤ 9223372036854775807) (hb : ∀ b ∈ v, b < 256) (hP : w0.heap.size ≤ P) (R : RestP (· < w0.heap.size) w P p c v) :
    Calls Try.prog 55 #[.pointer (some ⟨P, 0, none⟩), .int .i64 8, .func (.func 56) #[] #[]] w fun r w' => r = .returned (.int .u64 (foldN (v.take 8) : Nat)) ∧ But P w w' ∧ ∃ p' c', c' ≤ c ∧ RestP (· < w0.heap.size) w' P p' c' (v.drop 8) := by
  have hl : (v.take 8).length = 8 := by rw [List.length_take]; omega
  have CT := Lib.hid (ftake_rest 8 P p c v w h hv R)
  have R1 := R.next h
  have hby := R.taken 8 (Only.step .refl (.slice (restAt p c 8) (v.length - 8) (c - 8)))
  obtain ⟨w1, hw1⟩ : ∃ w1, w.setCell ⟨P, 0, none⟩ (.slice (restAt p c 8) (v.length - 8) (c - 8)) = w1 := ⟨_, rfl⟩
  rw [hw1] at CT R1 hby
  have HB1 : Hid (But P w w1) := Lib.hid (by subst hw1; exact But.set P w _)
  have CR := readEight_any (v.take 8) p 8 w1 (by omega) (by omega) (by omega) (fun b hb' => hb b (List.mem_of_mem_take hb')) (Lib.hid hby)
  have e : (readFixE 8 (v.take 8)).1 = foldN (v.take 8) := by
    unfold readFixE
    rw [if_neg (by omega)]
    simp only [foldN, List.take_take, Nat.min_self]
  have hlt : foldN (v.take 8) < 256 ^ 8 := by
    have := foldN_lt (l := v.take 8) (fun b hb' => hb b (List.mem_of_mem_take hb')) 8 (by omega)
    rwa [List.take_take, Nat.min_self] at this
  rw [e, hl] at CR
  have CR := Lib.hid CR
  have HR1 := Lib.hid R1
  generalize foldN (v.take 8) = x at *
  simp only [Nat.reducePow] at hlt
  clear hw1 e hl hby R1 R hb h
  go_enter Try.func55, Try.ntmps55
  go_wp2_with (first
    | (go_at_call 61; refine CT.out.mono ?_; rintro e w' ⟨rfl, rfl⟩)
    | (go_at_call 56; refine CR.out.mono ?_; rintro e w2 ⟨rfl, hb2⟩; have HB2 := Lib.hid (HB1.out.trans (But.of hb2)); have HR2 := Lib.hid (HR1.out.but hb2); clear hb2))
  go_ret
  exact ⟨rfl, HB2.out, _, _, Nat.sub_le _ _, HR2.out⟩
set_option maxRecDepth 100000 in
set_option maxHeartbeats 1000000 in
theorem num4_any (P : Nat) (p : Option Addr) (c : Nat) (v : List Nat) (w0 w : World) (h : 4 ≤ v.length) (hv : c ≤ 9223372036854775807) (hb : ∀ b ∈ v, b < 256) (hP : w0.heap.size ≤ P) (R : RestP (· < w0.heap.size) w P p c v) :
    Calls Try.prog 57 #[.pointer (some ⟨P, 0, none⟩), .int .i64 4, .func (.func 58) #[] #[]] w fun r w' => r = .returned (.int .i64 (foldN (v.take 4) : Nat)) ∧ But P w w' ∧ ∃ p' c', c' ≤ c ∧ RestP (· < w0.heap.size) w' P p' c' (v.drop 4) := by
  have hl : (v.take 4).length = 4 := by rw [List.length_take]; omega
  have CT := Lib.hid (ftake_rest 4 P p c v w h hv R)
  have R1 := R.next h
  have hby := R.taken 4 (Only.step .refl (.slice (restAt p c 4) (v.length - 4) (c - 4)))
  obtain ⟨w1, hw1⟩ : ∃ w1, w.setCell ⟨P, 0, none⟩ (.slice (restAt p c 4) (v.length - 4) (c - 4)) = w1 := ⟨_, rfl⟩
  rw [hw1] at CT R1 hby
  have HB1 : Hid (But P w w1) := Lib.hid (by subst hw1; exact But.set P w _)
  have CR := readFour_any (v.take 4) p 4 w1 (by omega) (by omega) (by omega) (fun b hb' => hb b (List.mem_of_mem_take hb')) (Lib.hid hby)
  have e : (readFixE 4 (v.take 4)).1 = foldN (v.take 4) := by
    unfold readFixE
    rw [if_neg (by omega)]
    simp only [foldN, List.take_take, Nat.min_self]
  have hlt : foldN (v.take 4) < 256 ^ 4 := by
    have := foldN_lt (l := v.take 4) (fun b hb' => hb b (List.mem_of_mem_take hb')) 4 (by omega)
    rwa [List.take_take, Nat.min_self] at this
  rw [e, hl] at CR
  have CR := Lib.hid CR
  have HR1 := Lib.hid R1
  generalize foldN (v.take 4) = x at *
  simp only [Nat.reducePow] at hlt
  clear hw1 e hl hby R1 R hb h
  go_enter Try.func57, Try.ntmps57
  go_wp2_with (first
    | (go_at_call 61; refine CT.out.mono ?_; rintro e w' ⟨rfl, rfl⟩)
    | (go_at_call 58; refine CR.out.mono ?_; rintro e w2 ⟨rfl, hb2⟩; have HB2 := Lib.hid (HB1.out.trans (But.of hb2)); have HR2 := Lib.hid (HR1.out.but hb2); clear hb2))
  go_ret
  exact ⟨rfl, HB2.out, _, _, Nat.sub_le _ _, HR2.out⟩
set_option maxRecDepth 100000 in
set_option maxHeartbeats 1000000 in
theorem num4u_any (P : Nat) (p : Option Addr) (c : Nat) (v : List Nat) (w0 w : World) (h : 4 ≤ v.length) (hv : c ≤ 9223372036854775807) (hb : ∀ b ∈ v, b < 256) (hP : w0.heap.size ≤ P) (R : RestP (· < w0.heap.size) w P p c v) :
    Calls Try.prog 62 #[.pointer (some ⟨P, 0, none⟩), .int .i64 4, .func (.func 58) #[] #[]] w fun r w' => r = .returned (.int .u32 (foldN (v.take 4) : Nat)) ∧ But P w w' ∧ ∃ p' c', c' ≤ c ∧ RestP (· < w0.heap.size) w' P p' c' (v.drop 4) := by
  have hl : (v.take 4).length = 4 := by rw [List.length_take]; omega
  have CT := Lib.hid (ftake_rest 4 P p c v w h hv R)
  have R1 := R.next h
  have hby := R.taken 4 (Only.step .refl (.slice (restAt p c 4) (v.length - 4) (c - 4)))
  obtain ⟨w1, hw1⟩ : ∃ w1, w.setCell ⟨P, 0, none⟩ (.slice (restAt p c 4) (v.length - 4) (c - 4)) = w1 := ⟨_, rfl⟩
  rw [hw1] at CT R1 hby
  have HB1 : Hid (But P w w1) := Lib.hid (by subst hw1; exact But.set P w _)
  have CR := readFour_any (v.take 4) p 4 w1 (by omega) (by omega) (by omega) (fun b hb' => hb b (List.mem_of_mem_take hb')) (Lib.hid hby)
  have e : (readFixE 4 (v.take 4)).1 = foldN (v.take 4) := by
    unfold readFixE
    rw [if_neg (by omega)]
    simp only [foldN, List.take_take, Nat.min_self]
  have hlt : foldN (v.take 4) < 256 ^ 4 := by
    have := foldN_lt (l := v.take 4) (fun b hb' => hb b (List.mem_of_mem_take hb')) 4 (by omega)
    rwa [List.take_take, Nat.min_self] at this
  rw [e, hl] at CR
  have CR := Lib.hid CR
  have HR1 := Lib.hid R1
  generalize foldN (v.take 4) = x at *
  simp only [Nat.reducePow] at hlt
  clear hw1 e hl hby R1 R hb h
  go_enter Try.func62, Try.ntmps62
  go_wp2_with (first
    | (go_at_call 61; refine CT.out.mono ?_; rintro e w' ⟨rfl, rfl⟩)
    | (go_at_call 58; refine CR.out.mono ?_; rintro e w2 ⟨rfl, hb2⟩; have HB2 := Lib.hid (HB1.out.trans (But.of hb2)); have HR2 := Lib.hid (HR1.out.but hb2); clear hb2))
  go_ret
  exact ⟨rfl, HB2.out, _, _, Nat.sub_le _ _, HR2.out⟩
end Go.Proofs.Ythnllhfdbnnjhaa
namespace Go.Proofs.Ythnllhfdbnnjhaa
open Go.RowKit Go.Shelf

theorem But.row {P : Nat} {w w' : World} (h : But P w w') {k : Nat} {o : Obj} (hk : w.heap[k]? = some o) (hn : k ≠ P) : w'.heap[k]? = some o := (h.block k (Array.getElem?_eq_some_iff.1 hk).1 hn).trans hk
theorem row_cell {w : World} {g i : Nat} {cs : Array Value} {t : TypeId} {v : Value} (h : w.heap[g]? = some (.cells cs t (0, 0))) (hi : cs[i]? = some v) : w.cell? ⟨g, i, none⟩ = some v := by
  unfold World.cell?
  simp only [h]
  exact hi
theorem row_frozen {w : World} {g i : Nat} {cs : Array Value} {t : TypeId} (h : w.heap[g]? = some (.cells cs t (0, 0))) : w.frozen? ⟨g, i, none⟩ = false := by simp [World.frozen?, h]
/-- A reader that begins, behind a block that the call made. -/
theorem rest_start (w : World) (o : Obj) (p : Option Addr) (cap : Nat) (l : List Nat) (t : TypeId) (hcap : l.length ≤ cap) (hne : 0 < l.length) (hc : BytesAt w p l) :
    RestP (· < w.heap.size) ((w.alloc o).alloc (.cells #[.slice p l.length cap] t)) (w.heap.size + 1) p cap l := by
  have hb : Below w.heap.size w (w.alloc o) := (Below.refl _ _).alloc (Nat.le_refl _) _
  have := rest_new (· < w.heap.size) (w.alloc o) p cap l t hcap (bytesAt_below hc hb) (fun B off e _ => by
    obtain ⟨B', off', e', c⟩ := hc 0 hne
    rw [e] at e'
    injection e' with e'
    injection e' with e1 e2
    subst e1
    exact lt_of_cell_some c) (by simp)
  rwa [World.size_alloc] at this
set_option maxRecDepth 100000 in
set_option maxHeartbeats 2000000 in
theorem readHead_any (l : List Nat) (p : Option Addr) (cap : Nat) (w : World) (hl : l.length = 64) (hcap : 64 ≤ cap) (hc0 : cap ≤ 9223372036854775807) (hb : ∀ b ∈ l, b < 256) (hc : BytesAt w p l) :
    Calls Try.prog 40 #[.slice p 64 cap] w fun r w' => r = .returned (.agg #[.int .u64 (foldN (l.take 8) : Nat), .int .u64 (foldN ((l.drop 8).take 8) : Nat), .int .i64 (foldN ((l.drop 16).take 4) : Nat), .int .i64 (foldN ((l.drop 20).take 4) : Nat)]) ∧ Below w.heap.size w w' := by
  have HR := rest_start w (.cells #[.int .u64 0, .int .u64 0, .int .i64 0, .int .i64 0] 38) p cap l 109 (by omega) (by omega) hc
  rw [hl] at HR
  have C1 := Lib.hid fun w1 c' p' (hc' : c' ≤ cap) R => num8_any (w.heap.size + 1) p' c' l w w1 (by omega) (by omega) hb (by omega) R
  have C2 := Lib.hid fun w1 c' p' (hc' : c' ≤ cap) R => num8_any (w.heap.size + 1) p' c' (l.drop 8) w w1 (by rw [List.length_drop]; omega) (by omega) (fun b h => hb b (List.mem_of_mem_drop h)) (by omega) R
  have C3 := Lib.hid fun w1 c' p' (hc' : c' ≤ cap) R => num4_any (w.heap.size + 1) p' c' (l.drop 16) w w1 (by rw [List.length_drop]; omega) (by omega) (fun b h => hb b (List.mem_of_mem_drop h)) (by omega) R
  have C4 := Lib.hid fun w1 c' p' (hc' : c' ≤ cap) R => num4_any (w.heap.size + 1) p' c' (l.drop 20) w w1 (by rw [List.length_drop]; omega) (by omega) (fun b h => hb b (List.mem_of_mem_drop h)) (by omega) R
  simp only [List.drop_drop, Nat.reduceAdd] at C2 C3
  have HR := Lib.hid HR
  have HB0 : Hid (Below w.heap.size w ((w.alloc (.cells #[.int .u64 0, .int .u64 0, .int .i64 0, .int .i64 0] 38)).alloc (.cells #[.slice p 64 cap] 109))) := Lib.hid (((Below.refl _ _).alloc (Nat.le_refl _) _).alloc (by simp) _)
  have HG0 : Hid (((w.alloc (.cells #[.int .u64 0, .int .u64 0, .int .i64 0, .int .i64 0] 38)).alloc (.cells #[.slice p 64 cap] 109)).heap[w.heap.size]? = some (.cells #[.int .u64 0, .int .u64 0, .int .i64 0, .int .i64 0] 38 (0, 0))) := Lib.hid ((((Below.refl _ _).alloc (Nat.le_refl _) _).block _ (by simp)).trans (heap_alloc_last w _))
  generalize foldN (l.take 8) = x1 at *
  generalize foldN ((l.drop 8).take 8) = x2 at *
  generalize foldN ((l.drop 16).take 4) = x3 at *
  generalize foldN ((l.drop 20).take 4) = x4 at *
  have hcap0 : cap ≤ cap := Nat.le_refl _
  have HW : Hid (w.heap.size ≠ w.heap.size + 1) := Lib.hid (by omega)
  clear hl hb hc
  go_enter Try.func40, Try.ntmps40
  go_upto_region 2 with fail
  obtain ⟨w0, hw0⟩ : ∃ w0, (w.alloc (.cells #[.int .u64 0, .int .u64 0, .int .i64 0, .int .i64 0] 38)).alloc (.cells #[.slice p 64 cap] 109) = w0 := ⟨_, rfl⟩
  rw [hw0] at HR HB0 HG0 ⊢
  clear hw0
  go_wp2_with (first
    | (go_at_call 55; (with_reducible refine (C1.out _ _ _ hcap0 HR.out).mono ?_); rintro e wa ⟨rfl, hbt, p1, c1, hc1, hr1⟩; have HR1 := Lib.hid hr1; have HB1 := Lib.hid (hbt.below HB0.out (Nat.le_succ _)); have HG1 := Lib.hid (hbt.row HG0.out HW.out); clear hr1 hbt)
    | (go_at_call 55; (with_reducible refine (C2.out _ _ _ hc1 HR1.out).mono ?_); rintro e wb ⟨rfl, hbt, p2, c2, hc2', hr2⟩; have hc2 := Nat.le_trans hc2' hc1; have HR2 := Lib.hid hr2; have HB2 := Lib.hid (hbt.below HB1.out (Nat.le_succ _)); have HG2 := Lib.hid (hbt.row HG1.out HW.out); clear hr2 hbt)
    | (go_at_call 57; (with_reducible refine (C3.out _ _ _ hc2 HR2.out).mono ?_); rintro e wd ⟨rfl, hbt, p3, c3, hc3', hr3⟩; have hc3 := Nat.le_trans hc3' hc2; have HR3 := Lib.hid hr3; have HB3 := Lib.hid (hbt.below HB2.out (Nat.le_succ _)); have HG3 := Lib.hid (hbt.row HG2.out HW.out); clear hr3 hbt)
    | (go_at_call 57; (with_reducible refine (C4.out _ _ _ hc3 HR3.out).mono ?_); rintro e we ⟨rfl, hbt, p4, c4, hc4', hr4⟩; have HB4 := Lib.hid (hbt.below HB3.out (Nat.le_succ _)); have hg4 := hbt.row HG3.out HW.out; have k0 := row_cell (i := 0) hg4 rfl; have k1 := row_cell (i := 1) hg4 rfl; have k2 := row_cell (i := 2) hg4 rfl; have k3 := row_cell (i := 3) hg4 rfl; have f0 := row_frozen (i := 0) hg4; have f1 := row_frozen (i := 1) hg4; have f2 := row_frozen (i := 2) hg4; have f3 := row_frozen (i := 3) hg4; clear hr4 hbt hg4))
  refine bodyPost_ret (v := .agg #[.int .u64 x1, .int .u64 x2, .int .i64 x3, .int .i64 x4]) ?_ rfl ⟨rfl, (((HB4.out.setCell (Nat.le_refl _) _).setCell (Nat.le_refl _) _).setCell (Nat.le_refl _) _).setCell (Nat.le_refl _) _⟩
  simp [results, Try.results40, go_sem, k0, k1, k2, k3]
end Go.Proofs.Ythnllhfdbnnjhaa
namespace Go.Proofs.Ythnllhfdbnnjhaa
open Go.RowKit Go.Shelf

theorem u8s_bytes {l : List Nat} (hb : ∀ b ∈ l, b < 256) : u8s l = (l.map UInt8.ofNat).map fun (c : UInt8) => Value.int .u8 (c.toNat : Int) := by
  simp only [u8s, List.map_map]
  refine List.map_congr_left fun x hx => ?_
  have := hb x hx
  simp [Nat.mod_eq_of_lt this]
theorem u8s_inj {a b : List Nat} (h : u8s a = u8s b) : a = b := by
  refine List.map_inj_right (f := fun (v : Nat) => Value.int .u8 (v : Int)) ?_ |>.1 h
  intro x y e
  simp only [Value.int.injEq, true_and] at e
  exact_mod_cast e
/-- Sectors are held against each other. -/
theorem eqi_sec {a b : List Nat} (ha : a.length = 64) (hb : b.length = 64) (ha2 : ∀ x ∈ a, x < 256) (hb2 : ∀ x ∈ b, x < 256) (w : World) : (Op.equalIn 10000 84 (.agg (secA a)) (.agg (secA b))).run Try.prog w = .ok (decide (a = b)) w := by
  have e := run_equalIn_bytes (P := Try.prog) w 9998 84 5 64 Try.underlying84 Try.underlying5 Try.sizeOf5 (a.map UInt8.ofNat) (b.map UInt8.ofNat) (by simpa using ha) (by simpa using hb)
  rw [show (a.map UInt8.ofNat).map Extern.Stop.cell = u8s a from (u8s_bytes ha2).symm, show (b.map UInt8.ofNat).map Extern.Stop.cell = u8s b from (u8s_bytes hb2).symm] at e
  have e2 : (a.map UInt8.ofNat == b.map UInt8.ofNat) = decide (a = b) := by
    by_cases h : a = b
    · subst h; simp
    · rw [decide_eq_false h]
      apply Bool.eq_false_iff.2
      intro e
      apply h
      apply u8s_inj
      rw [u8s_bytes ha2, u8s_bytes hb2, eq_of_beq e]
  rw [e2] at e
  exact e
theorem eqg_sec (a b : List Nat) (x y : Operand) (op : BinOp) (w : World) : (eqGuard op 84 x y (.agg (secA a)) (.agg (secA b))).run Try.prog w = .ok () w :=
  GuardAt.agg (P := Try.prog) (T := 84) secA (by kernel_rfl) op x y a b w
theorem run_load_sec {w : World} {g off : Nat} {l : List Nat} (hb : l.length = 64) (hc : ∀ i, i < l.length → w.cell? ⟨g, off + i, none⟩ = some (.int .u8 (l.getD i 0 : Nat))) : (loadCellsFrom ⟨g, off, none⟩ 0 64 #[]).run Try.prog w = .ok (secA l) w := by
  have := run_loadCells_list (P := Try.prog) w ⟨g, off, none⟩ (u8s l) (news_u8 hc)
  rw [u8s_length, hb] at this
  exact this
theorem run_loadVar_at {w : World} {g off n : Nat} {ty : TypeId} {cs : Array Value} (ha : (isAgg ty).run Try.prog w = .ok true w) (hs : (sizeOf ty).run Try.prog w = .ok n w) (h : (loadCellsFrom ⟨g, off, none⟩ 0 n #[]).run Try.prog w = .ok cs w) : (loadVar ty ⟨g, off, none⟩).run Try.prog w = .ok (.agg cs) w := by
  simp [loadVar, Sem.run_bind, ha, hs, loadCells, h]
theorem exec_load_sec {o : Oper} {a : Act} {w : World} {x : Operand} (ho : o.op = .load 84 x) {g off : Nat} (hx : a.eval x = .pointer (some ⟨g, off, none⟩)) {l : List Nat} (hb : l.length = 64) (hc : ∀ i, i < l.length → w.cell? ⟨g, off + i, none⟩ = some (.int .u8 (l.getD i 0 : Nat))) :
    (execOp a.eval o).run Try.prog w = .ok (.value (.agg (secA l))) w := by
  unfold execOp
  simp only [ho, hx, Instr.loadAt, Instr.sureAddr, Sem.run_bind, Sem.run_pure, Result.andThen_ok, run_loadVar_at (Try.isAgg84 w) (Try.sizeOf84 w) (run_load_sec hb hc)]
def hS (l : List Nat) : Nat := foldN (l.take 8)
def hE (l : List Nat) : Nat := foldN ((l.drop 8).take 8)
def hN (l : List Nat) : Nat := foldN ((l.drop 16).take 4)
def hC (l : List Nat) : Nat := foldN ((l.drop 20).take 4)
/-- Are these the bytes of a head? -/
def isHead (l : List Nat) : Bool := decide (l.length = 64) && headOk (hN l) (hC l) && decide (headL (hS l) (hE l) (hN l) (hC l) = l)
def headV (S E n c : Int) : Value := .agg #[.int .u64 S, .int .u64 E, .int .i64 n, .int .i64 c]
/-- The head that bytes have, or the zero one. -/
def decV (l : List Nat) : Value := if isHead l then headV (hS l) (hE l) (hN l) (hC l) else headV 0 0 0 0
def decX (l : List Nat) : Int := if isHead l then 0 else 150
theorem foldN_lt' {l : List Nat} {k : Nat} (hb : ∀ b ∈ l, b < 256) : foldN (l.take k) < 256 ^ k := by
  rcases Nat.le_total k l.length with h | h
  · exact foldN_lt hb k h
  · rw [List.take_of_length_le h]
    have := foldN_lt hb l.length (Nat.le_refl _)
    rw [List.take_length] at this
    exact Nat.lt_of_lt_of_le this (Nat.pow_le_pow_right (by decide) h)
theorem zeroHead : Try.prog.built 38 [] = some #[.int .u64 0, .int .u64 0, .int .i64 0, .int .i64 0] := by kernel_rfl
set_option maxRecDepth 100000 in
set_option maxHeartbeats 1000000 in
theorem decodeHead_long (l : List Nat) (p : Option Addr) (cap : Nat) (w : World) (hl : l.length ≠ 64) :
    Calls Try.prog 21 #[.slice p l.length cap] w fun r w' => r = .returned (.tuple #[headV 0 0 0 0, .int .i64 150]) ∧ Below w.heap.size w w' := by
  generalize l.length = L at *
  have hl2 : (L : Int) ≠ 64 := by omega
  have hl3 : ((L : Int) != 64) = true := by simp [hl2]
  have HL := Lib.hid hl
  clear hl hl2
  go_enter Try.func21, Try.ntmps21
  go_wp2
  refine wp_scope_fwd 0 rfl fun J HJ => ?_
  go_wp2
  go_step3
  refine ⟨rfl, HJ.out _ _ ?_⟩
  go_wp2
  simp only [Exit.noGoto_ret]
  refine bodyPost_ret (v := .tuple #[headV 0 0 0 0, .int .i64 150]) ?_ rfl ⟨rfl, ?_⟩
  · simp [results, Try.results21, go_sem, headV]
  · exact ((Below.refl _ _).alloc (Nat.le_refl _) _).alloc (by simp) _
theorem run_arrayAt (B off cap : Nat) (w : World) : (Instr.arrayAt 84 (.slice (some ⟨B, off, none⟩) 64 cap)).run Try.prog w = .ok (.pointer (some ⟨B, off, none⟩)) w := by
  simp [Instr.arrayAt, run_underlying Try.underlying84, Result.andThen]
theorem But.set' (P i : Nat) (w : World) (v : Value) : But P w (w.setCell ⟨P, i, none⟩ v) := by
  have h : Below P w (w.setCell ⟨P, i, none⟩ v) := (Below.refl P w).setCell (Nat.le_refl P) v
  refine ⟨by simp [World.setCell], fun k hk hn => ?_, h.os, h.tape, h.output⟩
  simp only [World.setCell, Array.getElem?_modify]
  rw [if_neg (fun e => hn e.symm)]
set_option maxRecDepth 100000 in
set_option maxHeartbeats 4000000 in
theorem decodeHead_no (l : List Nat) (p : Option Addr) (cap : Nat) (w : World) (hl : l.length = 64) (hcap : 64 ≤ cap) (hc0 : cap ≤ 9223372036854775807) (hb : ∀ b ∈ l, b < 256) (hc : BytesAt w p l) (hh : headOk (hN l) (hC l) = false) :
    Calls Try.prog 21 #[.slice p 64 cap] w fun r w' => r = .returned (.tuple #[headV 0 0 0 0, .int .i64 150]) ∧ Below w.heap.size w w' := by
  have CR := Lib.hid fun (w' : World) (hb' : Below w.heap.size w w') => readHead_any l p cap w' hl hcap hc0 hb (bytesAt_below hc hb')
  have CC := Lib.hid (checkHead_any (hS l) (hE l) (hN l) (hC l))
  rw [hh] at CC
  simp only [Bool.false_eq_true, if_false] at CC
  clear hh
  change Hid (∀ w', Below w.heap.size w w' → Calls Try.prog 40 #[.slice p 64 cap] w' fun r w2 => r = .returned (.agg #[.int .u64 (hS l : Nat), .int .u64 (hE l : Nat), .int .i64 (hN l : Nat), .int .i64 (hC l : Nat)]) ∧ Below w'.heap.size w' w2) at CR
  generalize hS l = x1 at *
  generalize hE l = x2 at *
  generalize hN l = x3 at *
  generalize hC l = x4 at *
  obtain ⟨B, off, rfl, hcs⟩ := bytesAt_lt hc (fun h => by subst h; simp at hl)
  have HCS := Lib.hid hcs
  have HL := Lib.hid hl
  clear hcs hb hc hl
  go_enter Try.func21, Try.ntmps21
  go_wp2
  refine wp_scope_fwd 0 rfl fun J HJ => ?_
  go_upto_region 3 with fail
  obtain ⟨w0, hw0⟩ : ∃ w0, (w.alloc (.cells #[.int .u64 0, .int .u64 0, .int .i64 0, .int .i64 0] 38)).alloc (.cells #[.int .u64 0, .int .u64 0, .int .i64 0, .int .i64 0] 38) = w0 := ⟨_, rfl⟩
  have HB0 : Hid (Below w.heap.size w w0) := Lib.hid (by subst hw0; exact ((Below.refl _ _).alloc (Nat.le_refl _) _).alloc (by simp) _)
  have HG0 : Hid (w0.heap[w.heap.size]? = some (.cells #[.int .u64 0, .int .u64 0, .int .i64 0, .int .i64 0] 38 (0, 0))) := Lib.hid (by subst hw0; exact (((Below.refl _ _).alloc (Nat.le_refl _) _).block _ (by simp)).trans (heap_alloc_last w _))
  have HG1 : Hid (w0.heap[w.heap.size + 1]? = some (.cells #[.int .u64 0, .int .u64 0, .int .i64 0, .int .i64 0] 38 (0, 0))) := Lib.hid (by subst hw0; have := heap_alloc_last (w.alloc (.cells #[.int .u64 0, .int .u64 0, .int .i64 0, .int .i64 0] 38)) (.cells #[.int .u64 0, .int .u64 0, .int .i64 0, .int .i64 0] 38); rw [World.size_alloc] at this; exact this)
  have HS0 : Hid (w0.heap.size = w.heap.size + 2) := Lib.hid (by subst hw0; simp)
  rw [hw0]
  clear hw0
  go_upto_region 4 with (go_at_call 40; refine (CR.out _ HB0.out).mono ?_; rintro e wa ⟨rfl, hba⟩; have HBA := Lib.hid hba; have hg0 := (hba.block _ (by rw [HS0.out]; omega)).trans HG0.out; have hg1 := (hba.block _ (by rw [HS0.out]; omega)).trans HG1.out; have k0 := row_cell (i := 0) hg1 rfl; have k1 := row_cell (i := 1) hg1 rfl; have k2 := row_cell (i := 2) hg1 rfl; have k3 := row_cell (i := 3) hg1 rfl; have f0 := row_frozen (i := 0) hg1; have f1 := row_frozen (i := 1) hg1; have f2 := row_frozen (i := 2) hg1; have f3 := row_frozen (i := 3) hg1; have HGA := Lib.hid hg0; have HSA := Lib.hid hba.size; clear hg0 hg1 hba)
  obtain ⟨wb, hwb⟩ : ∃ wb, (((wa.setCell ⟨w.heap.size + 1, 0, none⟩ (.int .u64 x1)).setCell ⟨w.heap.size + 1, 1, none⟩ (.int .u64 x2)).setCell ⟨w.heap.size + 1, 2, none⟩ (.int .i64 x3)).setCell ⟨w.heap.size + 1, 3, none⟩ (.int .i64 x4) = wb := ⟨_, rfl⟩
  have m0 : Hid (wb.cell? ⟨w.heap.size + 1, 0, none⟩ = some (.int .u64 x1)) := Lib.hid (by subst hwb; go_cell)
  have m1 : Hid (wb.cell? ⟨w.heap.size + 1, 1, none⟩ = some (.int .u64 x2)) := Lib.hid (by subst hwb; go_cell)
  have m2 : Hid (wb.cell? ⟨w.heap.size + 1, 2, none⟩ = some (.int .i64 x3)) := Lib.hid (by subst hwb; go_cell)
  have m3 : Hid (wb.cell? ⟨w.heap.size + 1, 3, none⟩ = some (.int .i64 x4)) := Lib.hid (by subst hwb; go_cell)
  have HBB : Hid (Below w.heap.size w wb) := Lib.hid (by subst hwb; exact ((((HB0.out.trans (HBA.out.mono (by rw [HS0.out]; omega))).setCell (Nat.le_succ _) _).setCell (Nat.le_succ _) _).setCell (Nat.le_succ _) _).setCell (Nat.le_succ _) _)
  have HGB : Hid (wb.heap[w.heap.size]? = some (.cells #[.int .u64 0, .int .u64 0, .int .i64 0, .int .i64 0] 38 (0, 0))) := Lib.hid (by subst hwb; exact (((((But.set' _ _ _ _).trans (But.set' _ _ _ _)).trans (But.set' _ _ _ _)).trans (But.set' _ _ _ _)).row HGA.out (by omega)))
  have HSB : Hid (w.heap.size + 1 < wb.heap.size) := Lib.hid (lt_of_cell_some m0.out)
  rw [hwb]
  clear hwb k0 k1 k2 k3 f0 f1 f2 f3
  have WK : Hid (∀ w', Below wb.heap.size wb w' → (w'.cell? ⟨w.heap.size + 1, 0, none⟩ = some (.int .u64 x1) ∧ w'.cell? ⟨w.heap.size + 1, 1, none⟩ = some (.int .u64 x2) ∧ w'.cell? ⟨w.heap.size + 1, 2, none⟩ = some (.int .i64 x3) ∧ w'.cell? ⟨w.heap.size + 1, 3, none⟩ = some (.int .i64 x4)) ∧ (∀ i, i < l.length → w'.cell? ⟨B, off + i, none⟩ = some (.int .u8 (l.getD i 0 : Nat))) ∧ w'.heap[w.heap.size]? = some (.cells #[.int .u64 0, .int .u64 0, .int .i64 0, .int .i64 0] 38 (0, 0)) ∧ Below w.heap.size w w') := Lib.hid fun w' h =>
    ⟨⟨(h.cell (lt_of_cell_some m0.out)).trans m0.out, (h.cell (lt_of_cell_some m1.out)).trans m1.out, (h.cell (lt_of_cell_some m2.out)).trans m2.out, (h.cell (lt_of_cell_some m3.out)).trans m3.out⟩, fun i hi => (((kbT HBB.out h)).cell (lt_of_cell_some (HCS.out i hi))).trans (HCS.out i hi), (h.block _ (by have := HSB.out; omega)).trans HGB.out, kbT HBB.out h⟩
  refine wp_region_held_drew (S := fun w' => Below wb.heap.size wb w') (by kernel_rfl) ((Below.refl _ _).drew) (fun H0 => ?_)
  refine wpAnyH_take (i := 0) (oi := { dst := some 10, op := Go.Op.load 38 (Go.Operand.tmp 4), type := 38, pos := "frame.go:57", after := #[], guard := none }) (v := ?_) rfl (by kernel_rfl) (by kernel_rfl) (by kernel_rfl) (fun _ _ _ h => h) (Or.inl ⟨by rfl, ?_⟩) H0 ?_
  rotate_left
  focus (intro w' hSw; (try dsimp only at hSw); obtain ⟨⟨q0, q1, q2, q3⟩, -, -, -⟩ := WK.out _ hSw; go_simp; (try with_reducible rfl))
  simp only [Act.put, List.setIfInBounds_toArray, List.set_cons_zero, List.set_cons_succ]
  refine wpAnyH_ready (rs := [1]) (by kernel_rfl) (by simp) ?_
  refine AllReadyH.cons (o := { dst := some 11, op := Go.Op.call { callee := Go.Callee.value (Go.Operand.func 38), args := #[Go.Operand.tmp 10], argTypes := #[38] }, type := 24, pos := "frame.go:57", after := #[{ on := 0, ground := Go.Ground.data }], guard := none }) rfl (fun K hK => ?_) ?_
  rotate_left
  exact AllReadyH.nil
  go_simp
  (go_at_call 38; (with_reducible refine (CC.out _).mono ?_); rintro e wd ⟨rfl, hd⟩)
  try go_wp2_with fail
  refine hK.out _ _ (kbT H0 hd) (fun Hd => ?_)
  clear hK K
  try simp only [Act.put, List.setIfInBounds_toArray, List.set_cons_zero, List.set_cons_succ]
  refine wpAnyH_take (i := 2) (oi := { dst := some 12, op := Go.Op.binOp Go.BinOp.neq 24 (Go.Operand.tmp 11) (Go.Operand.const (Go.Value.int Go.IntKind.i64 0)) 24, type := 4, pos := "frame.go:57", after := #[{ on := 1, ground := Go.Ground.data }], guard := none }) (v := ?_) rfl (by kernel_rfl) (by kernel_rfl) (by kernel_rfl) (fun _ _ _ h => h) (Or.inl ⟨by rfl, ?_⟩) Hd ?_
  rotate_left
  focus (intro w' hSw; (try dsimp only at hSw); go_simp; (try with_reducible rfl))
  simp only [Act.put, List.setIfInBounds_toArray, List.set_cons_zero, List.set_cons_succ]
  refine wpAnyH_take (i := 3) (oi := { dst := some 13, op := Go.Op.move (Go.Operand.tmp 12), type := 4, pos := "frame.go:57", after := #[{ on := 2, ground := Go.Ground.data }, { on := 1, ground := Go.Ground.chain }], guard := none }) (v := ?_) rfl (by kernel_rfl) (by kernel_rfl) (by kernel_rfl) (fun _ _ _ h => h) (Or.inl ⟨by rfl, ?_⟩) Hd ?_
  rotate_left
  focus (intro w' hSw; (try dsimp only at hSw); go_simp; (try with_reducible rfl))
  simp only [Act.put, List.setIfInBounds_toArray, List.set_cons_zero, List.set_cons_succ]
  refine wpAnyH_take (i := 4) (oi := { dst := some 14, op := Go.Op.load 38 (Go.Operand.tmp 4), type := 38, pos := "frame.go:57", after := #[{ on := 3, ground := Go.Ground.guard }], guard := some (3, false) }) (v := undef) rfl (by kernel_rfl) (by kernel_rfl) (by kernel_rfl) (fun _ _ _ h => h) (Or.inr ⟨by rfl, rfl⟩) Hd ?_
  simp only [Act.put, List.setIfInBounds_toArray, List.set_cons_zero, List.set_cons_succ]
  refine wpAnyH_take (i := 5) (oi := { dst := some 15, op := Go.Op.call { callee := Go.Callee.value (Go.Operand.func 39), args := #[Go.Operand.tmp 14], argTypes := #[38] }, type := 84, pos := "frame.go:57", after := #[{ on := 4, ground := Go.Ground.data }, { on := 3, ground := Go.Ground.chain }, { on := 3, ground := Go.Ground.guard }], guard := some (3, false) }) (v := undef) rfl (by kernel_rfl) (by kernel_rfl) (by kernel_rfl) (fun _ _ _ h => h) (Or.inr ⟨by rfl, rfl⟩) Hd ?_
  simp only [Act.put, List.setIfInBounds_toArray, List.set_cons_zero, List.set_cons_succ]
  refine wpAnyH_take (i := 6) (oi := { dst := some 16, op := Go.Op.move (Go.Operand.tmp 0), type := 39, pos := "frame.go:57", after := #[{ on := 3, ground := Go.Ground.guard }], guard := some (3, false) }) (v := undef) rfl (by kernel_rfl) (by kernel_rfl) (by kernel_rfl) (fun _ _ _ h => h) (Or.inr ⟨by rfl, rfl⟩) Hd ?_
  simp only [Act.put, List.setIfInBounds_toArray, List.set_cons_zero, List.set_cons_succ]
  refine wpAnyH_take (i := 7) (oi := { dst := some 17, op := Go.Op.sliceToArrayPointer 84 (Go.Operand.tmp 16), type := 0, pos := "frame.go:57", after := #[{ on := 6, ground := Go.Ground.data }, { on := 3, ground := Go.Ground.guard }], guard := some (3, false) }) (v := undef) rfl (by kernel_rfl) (by kernel_rfl) (by kernel_rfl) (fun _ _ _ h => h) (Or.inr ⟨by rfl, rfl⟩) Hd ?_
  simp only [Act.put, List.setIfInBounds_toArray, List.set_cons_zero, List.set_cons_succ]
  refine wpAnyH_take (i := 8) (oi := { dst := some 18, op := Go.Op.load 84 (Go.Operand.tmp 17), type := 84, pos := "frame.go:57", after := #[{ on := 7, ground := Go.Ground.data }, { on := 3, ground := Go.Ground.guard }], guard := some (3, false) }) (v := undef) rfl (by kernel_rfl) (by kernel_rfl) (by kernel_rfl) (fun _ _ _ h => h) (Or.inr ⟨by rfl, rfl⟩) Hd ?_
  simp only [Act.put, List.setIfInBounds_toArray, List.set_cons_zero, List.set_cons_succ]
  refine wpAnyH_take (i := 9) (oi := { dst := some 19, op := Go.Op.binOp Go.BinOp.neq 84 (Go.Operand.tmp 15) (Go.Operand.tmp 18) 84, type := 4, pos := "frame.go:57", after := #[{ on := 5, ground := Go.Ground.data }, { on := 8, ground := Go.Ground.data }, { on := 3, ground := Go.Ground.guard }], guard := some (3, false) }) (v := undef) rfl (by kernel_rfl) (by kernel_rfl) (by kernel_rfl) (fun _ _ _ h => h) (Or.inr ⟨by rfl, rfl⟩) Hd ?_
  simp only [Act.put, List.setIfInBounds_toArray, List.set_cons_zero, List.set_cons_succ]
  refine wpAnyH_take (i := 10) (oi := { dst := some 20, op := Go.Op.pick (Go.Operand.tmp 13) (Go.Operand.const (Go.Value.bool true)) (Go.Operand.tmp 19), type := 4, pos := "frame.go:57", after := #[{ on := 3, ground := Go.Ground.data }, { on := 9, ground := Go.Ground.data }], guard := none }) (v := ?_) rfl (by kernel_rfl) (by kernel_rfl) (by kernel_rfl) (fun _ _ _ h => h) (Or.inl ⟨by rfl, ?_⟩) Hd ?_
  rotate_left
  focus (intro w' hSw; (try dsimp only at hSw); go_simp; (try with_reducible rfl))
  simp only [Act.put, List.setIfInBounds_toArray, List.set_cons_zero, List.set_cons_succ]
  refine wpAnyH_done (by kernel_rfl) ?_ _
  have hg2 := (WK.out _ Hd).2.2.1
  have HX := Lib.hid (WK.out _ Hd).2.2.2
  have z0 := row_cell (i := 0) hg2 rfl
  have z1 := row_cell (i := 1) hg2 rfl
  have z2 := row_cell (i := 2) hg2 rfl
  have z3 := row_cell (i := 3) hg2 rfl
  have y0 := row_frozen (i := 0) hg2
  have y1 := row_frozen (i := 1) hg2
  have y2 := row_frozen (i := 2) hg2
  have y3 := row_frozen (i := 3) hg2
  clear hg2
  go_wp2
  go_step3
  refine ⟨rfl, HJ.out _ _ ?_⟩
  go_wp2
  simp only [Exit.noGoto_ret]
  refine bodyPost_ret (v := .tuple #[headV 0 0 0 0, .int .i64 150]) ?_ rfl ⟨rfl, ?_⟩
  · simp [results, Try.results21, go_sem, headV, z0, z1, z2, z3]
  · exact (((HX.out.setCell (Nat.le_refl _) _).setCell (Nat.le_refl _) _).setCell (Nat.le_refl _) _).setCell (Nat.le_refl _) _
set_option maxRecDepth 100000 in
set_option maxHeartbeats 4000000 in
theorem decodeHead_other (l : List Nat) (p : Option Addr) (cap : Nat) (w : World) (hl : l.length = 64) (hcap : 64 ≤ cap) (hc0 : cap ≤ 9223372036854775807) (hb : ∀ b ∈ l, b < 256) (hc : BytesAt w p l) (hh : headOk (hN l) (hC l) = true) (hq : headL (hS l) (hE l) (hN l) (hC l) ≠ l) :
    Calls Try.prog 21 #[.slice p 64 cap] w fun r w' => r = .returned (.tuple #[headV 0 0 0 0, .int .i64 150]) ∧ Below w.heap.size w w' := by
  have CR := Lib.hid fun (w' : World) (hb' : Below w.heap.size w w') => readHead_any l p cap w' hl hcap hc0 hb (bytesAt_below hc hb')
  have CC := Lib.hid (checkHead_any (hS l) (hE l) (hN l) (hC l))
  rw [hh] at CC
  simp only [if_true] at CC
  have hbb := head_bounds hh
  have CH := Lib.hid (headSector_any (hS l) (hE l) (hN l) (hC l) (foldN_lt' hb) (foldN_lt' (fun b h => hb b (List.mem_of_mem_drop h))) (by omega) (by omega))
  have hle := eqi_sec (headL_length (hS l) (hE l) (hN l) (hC l)) hl (headL_byte (hS l) (hE l) (hN l) (hC l)) hb
  rw [decide_eq_false hq] at hle
  generalize headL (hS l) (hE l) (hN l) (hC l) = ll at *
  have hle2 := fun x y w => eqg_sec ll l x y .neq w
  clear hh hbb hq
  change Hid (∀ w', Below w.heap.size w w' → Calls Try.prog 40 #[.slice p 64 cap] w' fun r w2 => r = .returned (.agg #[.int .u64 (hS l : Nat), .int .u64 (hE l : Nat), .int .i64 (hN l : Nat), .int .i64 (hC l : Nat)]) ∧ Below w'.heap.size w' w2) at CR
  generalize hS l = x1 at *
  generalize hE l = x2 at *
  generalize hN l = x3 at *
  generalize hC l = x4 at *
  obtain ⟨B, off, rfl, hcs⟩ := bytesAt_lt hc (fun h => by subst h; simp at hl)
  have HCS := Lib.hid hcs
  have HL := Lib.hid hl
  clear hcs hb hc hl
  go_enter Try.func21, Try.ntmps21
  go_wp2
  refine wp_scope_fwd 0 rfl fun J HJ => ?_
  go_upto_region 3 with fail
  obtain ⟨w0, hw0⟩ : ∃ w0, (w.alloc (.cells #[.int .u64 0, .int .u64 0, .int .i64 0, .int .i64 0] 38)).alloc (.cells #[.int .u64 0, .int .u64 0, .int .i64 0, .int .i64 0] 38) = w0 := ⟨_, rfl⟩
  have HB0 : Hid (Below w.heap.size w w0) := Lib.hid (by subst hw0; exact ((Below.refl _ _).alloc (Nat.le_refl _) _).alloc (by simp) _)
  have HG0 : Hid (w0.heap[w.heap.size]? = some (.cells #[.int .u64 0, .int .u64 0, .int .i64 0, .int .i64 0] 38 (0, 0))) := Lib.hid (by subst hw0; exact (((Below.refl _ _).alloc (Nat.le_refl _) _).block _ (by simp)).trans (heap_alloc_last w _))
  have HG1 : Hid (w0.heap[w.heap.size + 1]? = some (.cells #[.int .u64 0, .int .u64 0, .int .i64 0, .int .i64 0] 38 (0, 0))) := Lib.hid (by subst hw0; have := heap_alloc_last (w.alloc (.cells #[.int .u64 0, .int .u64 0, .int .i64 0, .int .i64 0] 38)) (.cells #[.int .u64 0, .int .u64 0, .int .i64 0, .int .i64 0] 38); rw [World.size_alloc] at this; exact this)
  have HS0 : Hid (w0.heap.size = w.heap.size + 2) := Lib.hid (by subst hw0; simp)
  rw [hw0]
  clear hw0
  go_upto_region 4 with (go_at_call 40; refine (CR.out _ HB0.out).mono ?_; rintro e wa ⟨rfl, hba⟩; have HBA := Lib.hid hba; have hg0 := (hba.block _ (by rw [HS0.out]; omega)).trans HG0.out; have hg1 := (hba.block _ (by rw [HS0.out]; omega)).trans HG1.out; have k0 := row_cell (i := 0) hg1 rfl; have k1 := row_cell (i := 1) hg1 rfl; have k2 := row_cell (i := 2) hg1 rfl; have k3 := row_cell (i := 3) hg1 rfl; have f0 := row_frozen (i := 0) hg1; have f1 := row_frozen (i := 1) hg1; have f2 := row_frozen (i := 2) hg1; have f3 := row_frozen (i := 3) hg1; have HGA := Lib.hid hg0; have HSA := Lib.hid hba.size; clear hg0 hg1 hba)
  obtain ⟨wb, hwb⟩ : ∃ wb, (((wa.setCell ⟨w.heap.size + 1, 0, none⟩ (.int .u64 x1)).setCell ⟨w.heap.size + 1, 1, none⟩ (.int .u64 x2)).setCell ⟨w.heap.size + 1, 2, none⟩ (.int .i64 x3)).setCell ⟨w.heap.size + 1, 3, none⟩ (.int .i64 x4) = wb := ⟨_, rfl⟩
  have m0 : Hid (wb.cell? ⟨w.heap.size + 1, 0, none⟩ = some (.int .u64 x1)) := Lib.hid (by subst hwb; go_cell)
  have m1 : Hid (wb.cell? ⟨w.heap.size + 1, 1, none⟩ = some (.int .u64 x2)) := Lib.hid (by subst hwb; go_cell)
  have m2 : Hid (wb.cell? ⟨w.heap.size + 1, 2, none⟩ = some (.int .i64 x3)) := Lib.hid (by subst hwb; go_cell)
  have m3 : Hid (wb.cell? ⟨w.heap.size + 1, 3, none⟩ = some (.int .i64 x4)) := Lib.hid (by subst hwb; go_cell)
  have HBB : Hid (Below w.heap.size w wb) := Lib.hid (by subst hwb; exact ((((HB0.out.trans (HBA.out.mono (by rw [HS0.out]; omega))).setCell (Nat.le_succ _) _).setCell (Nat.le_succ _) _).setCell (Nat.le_succ _) _).setCell (Nat.le_succ _) _)
  have HGB : Hid (wb.heap[w.heap.size]? = some (.cells #[.int .u64 0, .int .u64 0, .int .i64 0, .int .i64 0] 38 (0, 0))) := Lib.hid (by subst hwb; exact (((((But.set' _ _ _ _).trans (But.set' _ _ _ _)).trans (But.set' _ _ _ _)).trans (But.set' _ _ _ _)).row HGA.out (by omega)))
  have HSB : Hid (w.heap.size + 1 < wb.heap.size) := Lib.hid (lt_of_cell_some m0.out)
  rw [hwb]
  clear hwb k0 k1 k2 k3 f0 f1 f2 f3
  have WK : Hid (∀ w', Below wb.heap.size wb w' → (w'.cell? ⟨w.heap.size + 1, 0, none⟩ = some (.int .u64 x1) ∧ w'.cell? ⟨w.heap.size + 1, 1, none⟩ = some (.int .u64 x2) ∧ w'.cell? ⟨w.heap.size + 1, 2, none⟩ = some (.int .i64 x3) ∧ w'.cell? ⟨w.heap.size + 1, 3, none⟩ = some (.int .i64 x4)) ∧ (∀ i, i < l.length → w'.cell? ⟨B, off + i, none⟩ = some (.int .u8 (l.getD i 0 : Nat))) ∧ w'.heap[w.heap.size]? = some (.cells #[.int .u64 0, .int .u64 0, .int .i64 0, .int .i64 0] 38 (0, 0)) ∧ Below w.heap.size w w') := Lib.hid fun w' h =>
    ⟨⟨(h.cell (lt_of_cell_some m0.out)).trans m0.out, (h.cell (lt_of_cell_some m1.out)).trans m1.out, (h.cell (lt_of_cell_some m2.out)).trans m2.out, (h.cell (lt_of_cell_some m3.out)).trans m3.out⟩, fun i hi => (((kbT HBB.out h)).cell (lt_of_cell_some (HCS.out i hi))).trans (HCS.out i hi), (h.block _ (by have := HSB.out; omega)).trans HGB.out, kbT HBB.out h⟩
  have hap := run_arrayAt B off cap
  refine wp_region_held_drew (S := fun w' => Below wb.heap.size wb w') (by kernel_rfl) ((Below.refl _ _).drew) (fun H0 => ?_)
  refine wpAnyH_take (i := 0) (oi := { dst := some 10, op := Go.Op.load 38 (Go.Operand.tmp 4), type := 38, pos := "frame.go:57", after := #[], guard := none }) (v := ?_) rfl (by kernel_rfl) (by kernel_rfl) (by kernel_rfl) (fun _ _ _ h => h) (Or.inl ⟨by rfl, ?_⟩) H0 ?_
  rotate_left
  focus (intro w' hSw; (try dsimp only at hSw); obtain ⟨⟨q0, q1, q2, q3⟩, -, -, -⟩ := WK.out _ hSw; go_simp; (try with_reducible rfl))
  simp only [Act.put, List.setIfInBounds_toArray, List.set_cons_zero, List.set_cons_succ]
  refine wpAnyH_ready (rs := [1]) (by kernel_rfl) (by simp) ?_
  refine AllReadyH.cons (o := { dst := some 11, op := Go.Op.call { callee := Go.Callee.value (Go.Operand.func 38), args := #[Go.Operand.tmp 10], argTypes := #[38] }, type := 24, pos := "frame.go:57", after := #[{ on := 0, ground := Go.Ground.data }], guard := none }) rfl (fun K hK => ?_) ?_
  rotate_left
  exact AllReadyH.nil
  go_simp
  (go_at_call 38; (with_reducible refine (CC.out _).mono ?_); rintro e wd ⟨rfl, hd⟩)
  try go_wp2_with fail
  refine hK.out _ _ (kbT H0 hd) (fun Hd => ?_)
  clear hK K
  try simp only [Act.put, List.setIfInBounds_toArray, List.set_cons_zero, List.set_cons_succ]
  refine wpAnyH_take (i := 2) (oi := { dst := some 12, op := Go.Op.binOp Go.BinOp.neq 24 (Go.Operand.tmp 11) (Go.Operand.const (Go.Value.int Go.IntKind.i64 0)) 24, type := 4, pos := "frame.go:57", after := #[{ on := 1, ground := Go.Ground.data }], guard := none }) (v := ?_) rfl (by kernel_rfl) (by kernel_rfl) (by kernel_rfl) (fun _ _ _ h => h) (Or.inl ⟨by rfl, ?_⟩) Hd ?_
  rotate_left
  focus (intro w' hSw; (try dsimp only at hSw); go_simp; (try with_reducible rfl))
  simp only [Act.put, List.setIfInBounds_toArray, List.set_cons_zero, List.set_cons_succ]
  refine wpAnyH_take (i := 3) (oi := { dst := some 13, op := Go.Op.move (Go.Operand.tmp 12), type := 4, pos := "frame.go:57", after := #[{ on := 2, ground := Go.Ground.data }, { on := 1, ground := Go.Ground.chain }], guard := none }) (v := ?_) rfl (by kernel_rfl) (by kernel_rfl) (by kernel_rfl) (fun _ _ _ h => h) (Or.inl ⟨by rfl, ?_⟩) Hd ?_
  rotate_left
  focus (intro w' hSw; (try dsimp only at hSw); go_simp; (try with_reducible rfl))
  simp only [Act.put, List.setIfInBounds_toArray, List.set_cons_zero, List.set_cons_succ]
  refine wpAnyH_take (i := 4) (oi := { dst := some 14, op := Go.Op.load 38 (Go.Operand.tmp 4), type := 38, pos := "frame.go:57", after := #[{ on := 3, ground := Go.Ground.guard }], guard := some (3, false) }) (v := ?_) rfl (by kernel_rfl) (by kernel_rfl) (by kernel_rfl) (fun _ _ _ h => h) (Or.inl ⟨by rfl, ?_⟩) Hd ?_
  rotate_left
  focus (intro w' hSw; (try dsimp only at hSw); obtain ⟨⟨q0, q1, q2, q3⟩, -, -, -⟩ := WK.out _ hSw; go_simp; (try with_reducible rfl))
  simp only [Act.put, List.setIfInBounds_toArray, List.set_cons_zero, List.set_cons_succ]
  refine wpAnyH_take (i := 6) (oi := { dst := some 16, op := Go.Op.move (Go.Operand.tmp 0), type := 39, pos := "frame.go:57", after := #[{ on := 3, ground := Go.Ground.guard }], guard := some (3, false) }) (v := ?_) rfl (by kernel_rfl) (by kernel_rfl) (by kernel_rfl) (fun _ _ _ h => h) (Or.inl ⟨by rfl, ?_⟩) Hd ?_
  rotate_left
  focus (intro w' hSw; (try dsimp only at hSw); go_simp; (try with_reducible rfl))
  simp only [Act.put, List.setIfInBounds_toArray, List.set_cons_zero, List.set_cons_succ]
  refine wpAnyH_take (i := 7) (oi := { dst := some 17, op := Go.Op.sliceToArrayPointer 84 (Go.Operand.tmp 16), type := 0, pos := "frame.go:57", after := #[{ on := 6, ground := Go.Ground.data }, { on := 3, ground := Go.Ground.guard }], guard := some (3, false) }) (v := ?_) rfl (by kernel_rfl) (by kernel_rfl) (by kernel_rfl) (fun _ _ _ h => h) (Or.inl ⟨by rfl, ?_⟩) Hd ?_
  rotate_left
  focus (intro w' hSw; (try dsimp only at hSw); go_simp; (try with_reducible rfl))
  simp only [Act.put, List.setIfInBounds_toArray, List.set_cons_zero, List.set_cons_succ]
  refine wpAnyH_take (i := 8) (oi := { dst := some 18, op := Go.Op.load 84 (Go.Operand.tmp 17), type := 84, pos := "frame.go:57", after := #[{ on := 7, ground := Go.Ground.data }, { on := 3, ground := Go.Ground.guard }], guard := some (3, false) }) (v := .agg (secA l)) rfl (by kernel_rfl) (by kernel_rfl) (by kernel_rfl) (fun _ _ _ h => h) (Or.inl ⟨by rfl, fun w' hSw => exec_load_sec (x := .tmp 17) rfl rfl HL.out (WK.out _ hSw).2.1⟩) Hd ?_
  simp only [Act.put, List.setIfInBounds_toArray, List.set_cons_zero, List.set_cons_succ]
  refine wpAnyH_ready (rs := [5]) (by kernel_rfl) (by simp) ?_
  refine AllReadyH.cons (o := { dst := some 15, op := Go.Op.call { callee := Go.Callee.value (Go.Operand.func 39), args := #[Go.Operand.tmp 14], argTypes := #[38] }, type := 84, pos := "frame.go:57", after := #[{ on := 4, ground := Go.Ground.data }, { on := 3, ground := Go.Ground.chain }, { on := 3, ground := Go.Ground.guard }], guard := some (3, false) }) rfl (fun K hK => ?_) ?_
  rotate_left
  exact AllReadyH.nil
  go_simp
  (go_at_call 39; (with_reducible refine (CH.out _).mono ?_); rintro e we ⟨rfl, he'⟩)
  try go_wp2_with fail
  refine hK.out _ _ (kbT Hd he') (fun He => ?_)
  clear hK K
  try simp only [Act.put, List.setIfInBounds_toArray, List.set_cons_zero, List.set_cons_succ]
  refine wpAnyH_take (i := 9) (oi := { dst := some 19, op := Go.Op.binOp Go.BinOp.neq 84 (Go.Operand.tmp 15) (Go.Operand.tmp 18) 84, type := 4, pos := "frame.go:57", after := #[{ on := 5, ground := Go.Ground.data }, { on := 8, ground := Go.Ground.data }, { on := 3, ground := Go.Ground.guard }], guard := some (3, false) }) (v := ?_) rfl (by kernel_rfl) (by kernel_rfl) (by kernel_rfl) (fun _ _ _ h => h) (Or.inl ⟨by rfl, ?_⟩) He ?_
  rotate_left
  focus (intro w' hSw; (try dsimp only at hSw); go_simp; (try with_reducible rfl))
  simp only [Act.put, List.setIfInBounds_toArray, List.set_cons_zero, List.set_cons_succ]
  refine wpAnyH_take (i := 10) (oi := { dst := some 20, op := Go.Op.pick (Go.Operand.tmp 13) (Go.Operand.const (Go.Value.bool true)) (Go.Operand.tmp 19), type := 4, pos := "frame.go:57", after := #[{ on := 3, ground := Go.Ground.data }, { on := 9, ground := Go.Ground.data }], guard := none }) (v := ?_) rfl (by kernel_rfl) (by kernel_rfl) (by kernel_rfl) (fun _ _ _ h => h) (Or.inl ⟨by rfl, ?_⟩) He ?_
  rotate_left
  focus (intro w' hSw; (try dsimp only at hSw); go_simp; (try with_reducible rfl))
  simp only [Act.put, List.setIfInBounds_toArray, List.set_cons_zero, List.set_cons_succ]
  refine wpAnyH_done (by kernel_rfl) ?_ _
  have hg2 := (WK.out _ He).2.2.1
  have HX := Lib.hid (WK.out _ He).2.2.2
  have z0 := row_cell (i := 0) hg2 rfl
  have z1 := row_cell (i := 1) hg2 rfl
  have z2 := row_cell (i := 2) hg2 rfl
  have z3 := row_cell (i := 3) hg2 rfl
  have y0 := row_frozen (i := 0) hg2
  have y1 := row_frozen (i := 1) hg2
  have y2 := row_frozen (i := 2) hg2
  have y3 := row_frozen (i := 3) hg2
  clear hg2
  go_wp2
  go_step3
  refine ⟨rfl, HJ.out _ _ ?_⟩
  go_wp2
  simp only [Exit.noGoto_ret]
  refine bodyPost_ret (v := .tuple #[headV 0 0 0 0, .int .i64 150]) ?_ rfl ⟨rfl, ?_⟩
  · simp [results, Try.results21, go_sem, headV, z0, z1, z2, z3]
  · exact (((HX.out.setCell (Nat.le_refl _) _).setCell (Nat.le_refl _) _).setCell (Nat.le_refl _) _).setCell (Nat.le_refl _) _
set_option maxRecDepth 100000 in
set_option maxHeartbeats 4000000 in
theorem decodeHead_yes (l : List Nat) (p : Option Addr) (cap : Nat) (w : World) (hl : l.length = 64) (hcap : 64 ≤ cap) (hc0 : cap ≤ 9223372036854775807) (hb : ∀ b ∈ l, b < 256) (hc : BytesAt w p l) (hh : headOk (hN l) (hC l) = true) (hq : headL (hS l) (hE l) (hN l) (hC l) = l) :
    Calls Try.prog 21 #[.slice p 64 cap] w fun r w' => r = .returned (.tuple #[headV (hS l) (hE l) (hN l) (hC l), .int .i64 0]) ∧ Below w.heap.size w w' := by
  have CR := Lib.hid fun (w' : World) (hb' : Below w.heap.size w w') => readHead_any l p cap w' hl hcap hc0 hb (bytesAt_below hc hb')
  have CC := Lib.hid (checkHead_any (hS l) (hE l) (hN l) (hC l))
  rw [hh] at CC
  simp only [if_true] at CC
  have hbb := head_bounds hh
  have CH := Lib.hid (headSector_any (hS l) (hE l) (hN l) (hC l) (foldN_lt' hb) (foldN_lt' (fun b h => hb b (List.mem_of_mem_drop h))) (by omega) (by omega))
  have hle := eqi_sec (headL_length (hS l) (hE l) (hN l) (hC l)) hl (headL_byte (hS l) (hE l) (hN l) (hC l)) hb
  rw [decide_eq_true hq] at hle
  generalize headL (hS l) (hE l) (hN l) (hC l) = ll at *
  have hle2 := fun x y w => eqg_sec ll l x y .neq w
  clear hh hbb hq
  change Hid (∀ w', Below w.heap.size w w' → Calls Try.prog 40 #[.slice p 64 cap] w' fun r w2 => r = .returned (.agg #[.int .u64 (hS l : Nat), .int .u64 (hE l : Nat), .int .i64 (hN l : Nat), .int .i64 (hC l : Nat)]) ∧ Below w'.heap.size w' w2) at CR
  generalize hS l = x1 at *
  generalize hE l = x2 at *
  generalize hN l = x3 at *
  generalize hC l = x4 at *
  obtain ⟨B, off, rfl, hcs⟩ := bytesAt_lt hc (fun h => by subst h; simp at hl)
  have HCS := Lib.hid hcs
  have HL := Lib.hid hl
  clear hcs hb hc hl
  go_enter Try.func21, Try.ntmps21
  go_wp2
  refine wp_scope_fwd 0 rfl fun J HJ => ?_
  go_upto_region 3 with fail
  obtain ⟨w0, hw0⟩ : ∃ w0, (w.alloc (.cells #[.int .u64 0, .int .u64 0, .int .i64 0, .int .i64 0] 38)).alloc (.cells #[.int .u64 0, .int .u64 0, .int .i64 0, .int .i64 0] 38) = w0 := ⟨_, rfl⟩
  have HB0 : Hid (Below w.heap.size w w0) := Lib.hid (by subst hw0; exact ((Below.refl _ _).alloc (Nat.le_refl _) _).alloc (by simp) _)
  have HG0 : Hid (w0.heap[w.heap.size]? = some (.cells #[.int .u64 0, .int .u64 0, .int .i64 0, .int .i64 0] 38 (0, 0))) := Lib.hid (by subst hw0; exact (((Below.refl _ _).alloc (Nat.le_refl _) _).block _ (by simp)).trans (heap_alloc_last w _))
  have HG1 : Hid (w0.heap[w.heap.size + 1]? = some (.cells #[.int .u64 0, .int .u64 0, .int .i64 0, .int .i64 0] 38 (0, 0))) := Lib.hid (by subst hw0; have := heap_alloc_last (w.alloc (.cells #[.int .u64 0, .int .u64 0, .int .i64 0, .int .i64 0] 38)) (.cells #[.int .u64 0, .int .u64 0, .int .i64 0, .int .i64 0] 38); rw [World.size_alloc] at this; exact this)
  have HS0 : Hid (w0.heap.size = w.heap.size + 2) := Lib.hid (by subst hw0; simp)
  rw [hw0]
  clear hw0
  go_upto_region 4 with (go_at_call 40; refine (CR.out _ HB0.out).mono ?_; rintro e wa ⟨rfl, hba⟩; have HBA := Lib.hid hba; have hg0 := (hba.block _ (by rw [HS0.out]; omega)).trans HG0.out; have hg1 := (hba.block _ (by rw [HS0.out]; omega)).trans HG1.out; have k0 := row_cell (i := 0) hg1 rfl; have k1 := row_cell (i := 1) hg1 rfl; have k2 := row_cell (i := 2) hg1 rfl; have k3 := row_cell (i := 3) hg1 rfl; have f0 := row_frozen (i := 0) hg1; have f1 := row_frozen (i := 1) hg1; have f2 := row_frozen (i := 2) hg1; have f3 := row_frozen (i := 3) hg1; have HGA := Lib.hid hg0; have HSA := Lib.hid hba.size; clear hg0 hg1 hba)
  obtain ⟨wb, hwb⟩ : ∃ wb, (((wa.setCell ⟨w.heap.size + 1, 0, none⟩ (.int .u64 x1)).setCell ⟨w.heap.size + 1, 1, none⟩ (.int .u64 x2)).setCell ⟨w.heap.size + 1, 2, none⟩ (.int .i64 x3)).setCell ⟨w.heap.size + 1, 3, none⟩ (.int .i64 x4) = wb := ⟨_, rfl⟩
  have m0 : Hid (wb.cell? ⟨w.heap.size + 1, 0, none⟩ = some (.int .u64 x1)) := Lib.hid (by subst hwb; go_cell)
  have m1 : Hid (wb.cell? ⟨w.heap.size + 1, 1, none⟩ = some (.int .u64 x2)) := Lib.hid (by subst hwb; go_cell)
  have m2 : Hid (wb.cell? ⟨w.heap.size + 1, 2, none⟩ = some (.int .i64 x3)) := Lib.hid (by subst hwb; go_cell)
  have m3 : Hid (wb.cell? ⟨w.heap.size + 1, 3, none⟩ = some (.int .i64 x4)) := Lib.hid (by subst hwb; go_cell)
  have HBB : Hid (Below w.heap.size w wb) := Lib.hid (by subst hwb; exact ((((HB0.out.trans (HBA.out.mono (by rw [HS0.out]; omega))).setCell (Nat.le_succ _) _).setCell (Nat.le_succ _) _).setCell (Nat.le_succ _) _).setCell (Nat.le_succ _) _)
  have HGB : Hid (wb.heap[w.heap.size]? = some (.cells #[.int .u64 0, .int .u64 0, .int .i64 0, .int .i64 0] 38 (0, 0))) := Lib.hid (by subst hwb; exact (((((But.set' _ _ _ _).trans (But.set' _ _ _ _)).trans (But.set' _ _ _ _)).trans (But.set' _ _ _ _)).row HGA.out (by omega)))
  have HSB : Hid (w.heap.size + 1 < wb.heap.size) := Lib.hid (lt_of_cell_some m0.out)
  rw [hwb]
  clear hwb k0 k1 k2 k3 f0 f1 f2 f3
  have WK : Hid (∀ w', Below wb.heap.size wb w' → (w'.cell? ⟨w.heap.size + 1, 0, none⟩ = some (.int .u64 x1) ∧ w'.cell? ⟨w.heap.size + 1, 1, none⟩ = some (.int .u64 x2) ∧ w'.cell? ⟨w.heap.size + 1, 2, none⟩ = some (.int .i64 x3) ∧ w'.cell? ⟨w.heap.size + 1, 3, none⟩ = some (.int .i64 x4)) ∧ (∀ i, i < l.length → w'.cell? ⟨B, off + i, none⟩ = some (.int .u8 (l.getD i 0 : Nat))) ∧ w'.heap[w.heap.size]? = some (.cells #[.int .u64 0, .int .u64 0, .int .i64 0, .int .i64 0] 38 (0, 0)) ∧ Below w.heap.size w w') := Lib.hid fun w' h =>
    ⟨⟨(h.cell (lt_of_cell_some m0.out)).trans m0.out, (h.cell (lt_of_cell_some m1.out)).trans m1.out, (h.cell (lt_of_cell_some m2.out)).trans m2.out, (h.cell (lt_of_cell_some m3.out)).trans m3.out⟩, fun i hi => (((kbT HBB.out h)).cell (lt_of_cell_some (HCS.out i hi))).trans (HCS.out i hi), (h.block _ (by have := HSB.out; omega)).trans HGB.out, kbT HBB.out h⟩
  have hap := run_arrayAt B off cap
  refine wp_region_held_drew (S := fun w' => Below wb.heap.size wb w') (by kernel_rfl) ((Below.refl _ _).drew) (fun H0 => ?_)
  refine wpAnyH_take (i := 0) (oi := { dst := some 10, op := Go.Op.load 38 (Go.Operand.tmp 4), type := 38, pos := "frame.go:57", after := #[], guard := none }) (v := ?_) rfl (by kernel_rfl) (by kernel_rfl) (by kernel_rfl) (fun _ _ _ h => h) (Or.inl ⟨by rfl, ?_⟩) H0 ?_
  rotate_left
  focus (intro w' hSw; (try dsimp only at hSw); obtain ⟨⟨q0, q1, q2, q3⟩, -, -, -⟩ := WK.out _ hSw; go_simp; (try with_reducible rfl))
  simp only [Act.put, List.setIfInBounds_toArray, List.set_cons_zero, List.set_cons_succ]
  refine wpAnyH_ready (rs := [1]) (by kernel_rfl) (by simp) ?_
  refine AllReadyH.cons (o := { dst := some 11, op := Go.Op.call { callee := Go.Callee.value (Go.Operand.func 38), args := #[Go.Operand.tmp 10], argTypes := #[38] }, type := 24, pos := "frame.go:57", after := #[{ on := 0, ground := Go.Ground.data }], guard := none }) rfl (fun K hK => ?_) ?_
  rotate_left
  exact AllReadyH.nil
  go_simp
  (go_at_call 38; (with_reducible refine (CC.out _).mono ?_); rintro e wd ⟨rfl, hd⟩)
  try go_wp2_with fail
  refine hK.out _ _ (kbT H0 hd) (fun Hd => ?_)
  clear hK K
  try simp only [Act.put, List.setIfInBounds_toArray, List.set_cons_zero, List.set_cons_succ]
  refine wpAnyH_take (i := 2) (oi := { dst := some 12, op := Go.Op.binOp Go.BinOp.neq 24 (Go.Operand.tmp 11) (Go.Operand.const (Go.Value.int Go.IntKind.i64 0)) 24, type := 4, pos := "frame.go:57", after := #[{ on := 1, ground := Go.Ground.data }], guard := none }) (v := ?_) rfl (by kernel_rfl) (by kernel_rfl) (by kernel_rfl) (fun _ _ _ h => h) (Or.inl ⟨by rfl, ?_⟩) Hd ?_
  rotate_left
  focus (intro w' hSw; (try dsimp only at hSw); go_simp; (try with_reducible rfl))
  simp only [Act.put, List.setIfInBounds_toArray, List.set_cons_zero, List.set_cons_succ]
  refine wpAnyH_take (i := 3) (oi := { dst := some 13, op := Go.Op.move (Go.Operand.tmp 12), type := 4, pos := "frame.go:57", after := #[{ on := 2, ground := Go.Ground.data }, { on := 1, ground := Go.Ground.chain }], guard := none }) (v := ?_) rfl (by kernel_rfl) (by kernel_rfl) (by kernel_rfl) (fun _ _ _ h => h) (Or.inl ⟨by rfl, ?_⟩) Hd ?_
  rotate_left
  focus (intro w' hSw; (try dsimp only at hSw); go_simp; (try with_reducible rfl))
  simp only [Act.put, List.setIfInBounds_toArray, List.set_cons_zero, List.set_cons_succ]
  refine wpAnyH_take (i := 4) (oi := { dst := some 14, op := Go.Op.load 38 (Go.Operand.tmp 4), type := 38, pos := "frame.go:57", after := #[{ on := 3, ground := Go.Ground.guard }], guard := some (3, false) }) (v := ?_) rfl (by kernel_rfl) (by kernel_rfl) (by kernel_rfl) (fun _ _ _ h => h) (Or.inl ⟨by rfl, ?_⟩) Hd ?_
  rotate_left
  focus (intro w' hSw; (try dsimp only at hSw); obtain ⟨⟨q0, q1, q2, q3⟩, -, -, -⟩ := WK.out _ hSw; go_simp; (try with_reducible rfl))
  simp only [Act.put, List.setIfInBounds_toArray, List.set_cons_zero, List.set_cons_succ]
  refine wpAnyH_take (i := 6) (oi := { dst := some 16, op := Go.Op.move (Go.Operand.tmp 0), type := 39, pos := "frame.go:57", after := #[{ on := 3, ground := Go.Ground.guard }], guard := some (3, false) }) (v := ?_) rfl (by kernel_rfl) (by kernel_rfl) (by kernel_rfl) (fun _ _ _ h => h) (Or.inl ⟨by rfl, ?_⟩) Hd ?_
  rotate_left
  focus (intro w' hSw; (try dsimp only at hSw); go_simp; (try with_reducible rfl))
  simp only [Act.put, List.setIfInBounds_toArray, List.set_cons_zero, List.set_cons_succ]
  refine wpAnyH_take (i := 7) (oi := { dst := some 17, op := Go.Op.sliceToArrayPointer 84 (Go.Operand.tmp 16), type := 0, pos := "frame.go:57", after := #[{ on := 6, ground := Go.Ground.data }, { on := 3, ground := Go.Ground.guard }], guard := some (3, false) }) (v := ?_) rfl (by kernel_rfl) (by kernel_rfl) (by kernel_rfl) (fun _ _ _ h => h) (Or.inl ⟨by rfl, ?_⟩) Hd ?_
  rotate_left
  focus (intro w' hSw; (try dsimp only at hSw); go_simp; (try with_reducible rfl))
  simp only [Act.put, List.setIfInBounds_toArray, List.set_cons_zero, List.set_cons_succ]
  refine wpAnyH_take (i := 8) (oi := { dst := some 18, op := Go.Op.load 84 (Go.Operand.tmp 17), type := 84, pos := "frame.go:57", after := #[{ on := 7, ground := Go.Ground.data }, { on := 3, ground := Go.Ground.guard }], guard := some (3, false) }) (v := .agg (secA l)) rfl (by kernel_rfl) (by kernel_rfl) (by kernel_rfl) (fun _ _ _ h => h) (Or.inl ⟨by rfl, fun w' hSw => exec_load_sec (x := .tmp 17) rfl rfl HL.out (WK.out _ hSw).2.1⟩) Hd ?_
  simp only [Act.put, List.setIfInBounds_toArray, List.set_cons_zero, List.set_cons_succ]
  refine wpAnyH_ready (rs := [5]) (by kernel_rfl) (by simp) ?_
  refine AllReadyH.cons (o := { dst := some 15, op := Go.Op.call { callee := Go.Callee.value (Go.Operand.func 39), args := #[Go.Operand.tmp 14], argTypes := #[38] }, type := 84, pos := "frame.go:57", after := #[{ on := 4, ground := Go.Ground.data }, { on := 3, ground := Go.Ground.chain }, { on := 3, ground := Go.Ground.guard }], guard := some (3, false) }) rfl (fun K hK => ?_) ?_
  rotate_left
  exact AllReadyH.nil
  go_simp
  (go_at_call 39; (with_reducible refine (CH.out _).mono ?_); rintro e we ⟨rfl, he'⟩)
  try go_wp2_with fail
  refine hK.out _ _ (kbT Hd he') (fun He => ?_)
  clear hK K
  try simp only [Act.put, List.setIfInBounds_toArray, List.set_cons_zero, List.set_cons_succ]
  refine wpAnyH_take (i := 9) (oi := { dst := some 19, op := Go.Op.binOp Go.BinOp.neq 84 (Go.Operand.tmp 15) (Go.Operand.tmp 18) 84, type := 4, pos := "frame.go:57", after := #[{ on := 5, ground := Go.Ground.data }, { on := 8, ground := Go.Ground.data }, { on := 3, ground := Go.Ground.guard }], guard := some (3, false) }) (v := ?_) rfl (by kernel_rfl) (by kernel_rfl) (by kernel_rfl) (fun _ _ _ h => h) (Or.inl ⟨by rfl, ?_⟩) He ?_
  rotate_left
  focus (intro w' hSw; (try dsimp only at hSw); go_simp; (try with_reducible rfl))
  simp only [Act.put, List.setIfInBounds_toArray, List.set_cons_zero, List.set_cons_succ]
  refine wpAnyH_take (i := 10) (oi := { dst := some 20, op := Go.Op.pick (Go.Operand.tmp 13) (Go.Operand.const (Go.Value.bool true)) (Go.Operand.tmp 19), type := 4, pos := "frame.go:57", after := #[{ on := 3, ground := Go.Ground.data }, { on := 9, ground := Go.Ground.data }], guard := none }) (v := ?_) rfl (by kernel_rfl) (by kernel_rfl) (by kernel_rfl) (fun _ _ _ h => h) (Or.inl ⟨by rfl, ?_⟩) He ?_
  rotate_left
  focus (intro w' hSw; (try dsimp only at hSw); go_simp; (try with_reducible rfl))
  simp only [Act.put, List.setIfInBounds_toArray, List.set_cons_zero, List.set_cons_succ]
  refine wpAnyH_done (by kernel_rfl) ?_ _
  have hg2 := (WK.out _ He).2.2.1
  have HX := Lib.hid (WK.out _ He).2.2.2
  have z0 := row_cell (i := 0) hg2 rfl
  have z1 := row_cell (i := 1) hg2 rfl
  have z2 := row_cell (i := 2) hg2 rfl
  have z3 := row_cell (i := 3) hg2 rfl
  have y0 := row_frozen (i := 0) hg2
  have y1 := row_frozen (i := 1) hg2
  have y2 := row_frozen (i := 2) hg2
  have y3 := row_frozen (i := 3) hg2
  clear hg2
  have hk := (WK.out _ He).1
  obtain ⟨q0, q1, q2, q3⟩ := hk
  go_wp2
  simp only [Exit.jump]
  refine bodyPost_ret (v := .tuple #[headV x1 x2 x3 x4, .int .i64 0]) ?_ rfl ⟨rfl, ?_⟩
  · simp [results, Try.results21, go_sem, headV, z0, z1, z2, z3]
  · exact (((HX.out.setCell (Nat.le_refl _) _).setCell (Nat.le_refl _) _).setCell (Nat.le_refl _) _).setCell (Nat.le_refl _) _
theorem decodeHead_any (l : List Nat) (p : Option Addr) (cap : Nat) (w : World) (hcap : l.length ≤ cap) (hc0 : cap ≤ 9223372036854775807) (hb : ∀ b ∈ l, b < 256) (hc : BytesAt w p l) :
    Calls Try.prog 21 #[.slice p l.length cap] w fun r w' => r = .returned (.tuple #[decV l, .int .i64 (decX l)]) ∧ Below w.heap.size w w' := by
  unfold decV decX isHead
  by_cases hl : l.length = 64
  · cases hh : headOk (hN l) (hC l) with
    | false =>
      simp only [hl, decide_true, Bool.true_and, Bool.false_and, Bool.false_eq_true, if_false]
      exact decodeHead_no l p cap w hl (by omega) hc0 hb hc hh
    | true =>
      by_cases hq : headL (hS l) (hE l) (hN l) (hC l) = l
      · simp only [hl, hq, decide_true, Bool.true_and, if_true]
        exact decodeHead_yes l p cap w hl (by omega) hc0 hb hc hh hq
      · simp only [hl, hq, decide_true, decide_false, Bool.true_and, Bool.false_eq_true, if_false]
        exact decodeHead_other l p cap w hl (by omega) hc0 hb hc hh hq
  · simp only [hl, decide_false, Bool.false_and, Bool.false_eq_true, if_false]
    exact decodeHead_long l p cap w hl
end Go.Proofs.Ythnllhfdbnnjhaa
namespace Go.Proofs.Ythnllhfdbnnjhaa
open Go.RowKit Go.Shelf

set_option maxRecDepth 100000 in
/-- Bytes are appended to the call's own, as a step of a drawn region. -/
theorem step_append_bytes {ops : Array Oper} {o : Oper} {a : Act} {w : World} {K : Act → World → Prop} {Q : Exit → Act → World → Prop} {E : Prop} (hgd : o.guard = none) (s x : Operand)
    (ho : o.op = .call { callee := .builtin .append, args := #[s, x], argTypes := #[39, 39] })
    {w0 : World} {l m : List Nat} {v : Value} {q : Option Addr} {n c : Nat} (hs : a.eval s = v) (hR : RowB w0 l v w) (hn : m.length = n) (hx : a.eval x = .slice q n c) (hq : q = none → c = 0) (hm : BytesAt w q m) (hb : l.length + m.length ≤ 100000)
    (h : ∀ v' w', RowB w0 (l ++ m) v' w' → w.grownBy w' v.ownBlock → K (a.put o.dst v') w') : if Region.wanted o (yielded ops a.tmps) = true then Oper.wp Try.prog o a w K Q else E := by
  have hw : Region.wanted o (yielded ops a.tmps) = true := by simp [Region.wanted, hgd]
  rw [if_pos hw]
  subst hn
  obtain ⟨j0, hj, hz0, hz1, hz2⟩ := info_parts info5
  have hown := hR.1
  have hbs := hR.2.size
  cases q with
  | none =>
    have hm0 : m = [] := by
      cases m with
      | nil => rfl
      | cons b t => obtain ⟨B, off, e, -⟩ := hm 0 (by simp); cases e
    subst hm0
    have hc := hq rfl
    subst hc
    have hrun := run_append_owned_none (P := Try.prog) (w := w) w0.heap.size 39 o.type 5 j0 1 Try.underlying39 hj v _ _ hown
    unfold Oper.wp
    simp [execOp, ho, resolve, invoke, builtin, hs, hx, hrun, Result.andThen]
    exact h _ _ (by rw [List.append_nil]; exact hR) (World.grownBy.refl _ _)
  | some ad =>
    obtain ⟨v', w', hrun, h1, h2, -⟩ := run_append_own (P := Try.prog) w w0.heap.size 39 o.type 5 j0 (.int .u8 0) 1 1 Try.underlying39 hj hz0 hz1 hz2 rfl (by decide) v _ _ hown ad m.length c (m.map fun (v : Nat) => Value.int .u8 (v : Int)) (by simp) (by
      intro j u hu
      have hjl : j < m.length := by
        have := (List.getElem?_eq_some_iff.1 hu).1
        simpa using this
      obtain ⟨B', off', e, c⟩ := hm j hjl
      injection e with e
      subst e
      rw [addr_plain, c]
      simp [hjl] at hu
      simp [List.getD_eq_getElem?_getD, hjl, hu]) (by simp [Value.oneCell']) (by unfold maxLen; omega) (by omega) hbs
    unfold Oper.wp
    simp [execOp, ho, resolve, invoke, builtin, hs, hx, hrun, Result.andThen]
    refine h v' w' ⟨?_, hR.2.grown h2 hbs (fun j hj => (hown.lt j hj).1)⟩ h2
    rw [List.length_append, List.map_append]
    exact h1
theorem eq38 (a b : Int) (c d : Int) (e f g h : Int) (w : World) : (binOp .eql 38 (.agg #[.int .u64 a, .int .u64 b, .int .i64 c, .int .i64 d]) (.agg #[.int .u64 e, .int .u64 f, .int .i64 g, .int .i64 h])).run Try.prog w = .ok (.bool (decide (a = e ∧ b = f ∧ c = g ∧ d = h))) w := by
  go_simp
  by_cases h1 : a = e
  · by_cases h2 : b = f
    · by_cases h3 : c = g
      · by_cases h4 : d = h
        · simp [h1, h2, h3, h4]
        · simp [h1, h2, h3, h4]
      · simp [h1, h2, h3]
    · simp [h1, h2]
  · simp [h1]
theorem eqg38 (x y : Operand) (a b : Int) (c d : Int) (e f g h : Int) (w : World) : (eqGuard .eql 38 x y (.agg #[.int .u64 a, .int .u64 b, .int .i64 c, .int .i64 d]) (.agg #[.int .u64 e, .int .u64 f, .int .i64 g, .int .i64 h])).run Try.prog w = .ok () w := by
  go_simp
theorem foldN_fix (k n : Nat) (h : n < 256 ^ k) : foldN (fixE k n) = n := by
  have := read_fix k n h []
  rw [List.append_nil] at this
  unfold readFixE at this
  rw [if_neg (by rw [fixE_length]; omega)] at this
  have h1 := congrArg Prod.fst this
  simp only at h1
  rw [List.take_of_length_le (by rw [fixE_length]; omega)] at h1
  exact h1
theorem headL_form (S E n c : Nat) : ∃ R, headL S E n c = fixE 8 S ++ (fixE 8 E ++ (fixE 4 n ++ (fixE 4 c ++ R))) := by
  refine ⟨fixE 4 (~~~ sumN (headB S E n c)).toNat ++ (headC S E n c ++ List.replicate (64 - (headC S E n c ++ headC S E n c).length) 0), ?_⟩
  conv => lhs; unfold headL padL headC
  conv => lhs; arg 1; arg 1; unfold headB partsL headPs
  simp only [List.map_cons, List.map_nil, List.flatten_cons, List.flatten_nil, List.append_nil, List.append_assoc]
  rfl
theorem take_fix (k n : Nat) (r : List Nat) : (fixE k n ++ r).take k = fixE k n := by rw [List.take_append_of_le_length (by rw [fixE_length]; omega), List.take_of_length_le (by rw [fixE_length]; omega)]
theorem drop_fix (k n : Nat) (r : List Nat) : (fixE k n ++ r).drop k = r := by rw [List.drop_append_of_le_length (by rw [fixE_length]; omega), List.drop_of_length_le (by rw [fixE_length]; omega), List.nil_append]
/-- A head's bytes have the head. -/
theorem head_parts (S E n c : Nat) (hS' : S < 2 ^ 64) (hE' : E < 2 ^ 64) (hn : n < 2 ^ 32) (hc : c < 2 ^ 32) : hS (headL S E n c) = S ∧ hE (headL S E n c) = E ∧ hN (headL S E n c) = n ∧ hC (headL S E n c) = c := by
  obtain ⟨R, h⟩ := headL_form S E n c
  rw [h]
  refine ⟨?_, ?_, ?_, ?_⟩
  · unfold hS
    rw [take_fix, foldN_fix _ _ (by omega)]
  · unfold hE
    rw [drop_fix, take_fix, foldN_fix _ _ (by omega)]
  · unfold hN
    rw [show 16 = 8 + 8 by rfl, ← List.drop_drop, drop_fix, drop_fix, take_fix, foldN_fix _ _ (by omega)]
  · unfold hC
    rw [show 20 = 8 + (8 + 4) by rfl, ← List.drop_drop, ← List.drop_drop, drop_fix, drop_fix, drop_fix, take_fix, foldN_fix _ _ (by omega)]
theorem headL_copy (S E n c : Nat) : (headL S E n c).take 28 = headC S E n c ∧ ((headL S E n c).drop 28).take 28 = headC S E n c := by
  have := headC_length S E n c
  simp only [headL, padL, List.append_assoc]
  constructor
  · rw [List.take_append_of_le_length (by omega), List.take_of_length_le (by omega)]
  · rw [List.drop_append_of_le_length (by omega), List.drop_of_length_le (by omega), List.nil_append, List.take_append_of_le_length (by omega), List.take_of_length_le (by omega)]
theorem headL_of {a b c d e f g h : Nat} (x : headC a b c d = headC e f g h) : headL a b c d = headL e f g h := by
  unfold headL
  rw [x]
/-- The first bytes of one head, so many, and the others of another one: if they are a head's, they are the one's or the other's. -/
theorem torn_head {S E n c S' E' n' c' M : Nat} (hM : M ≤ 64) (h : isHead ((headL S E n c).take M ++ (headL S' E' n' c').drop M) = true) :
    (headL S E n c).take M ++ (headL S' E' n' c').drop M = headL S E n c ∨ (headL S E n c).take M ++ (headL S' E' n' c').drop M = headL S' E' n' c' := by
  have l1 := headL_length S E n c
  have l2 := headL_length S' E' n' c'
  obtain ⟨c1, c2⟩ := headL_copy S E n c
  obtain ⟨d1, d2⟩ := headL_copy S' E' n' c'
  generalize hT : (headL S E n c).take M ++ (headL S' E' n' c').drop M = T at *
  simp only [isHead, Bool.and_eq_true, decide_eq_true_eq] at h
  obtain ⟨⟨-, -⟩, h3⟩ := h
  obtain ⟨e1, e2⟩ := headL_copy (hS T) (hE T) (hN T) (hC T)
  rw [h3] at e1 e2
  rcases Nat.le_total M 28 with hm | hm
  · right
    rw [← h3]
    refine headL_of ?_
    rw [← e2, ← d2, ← hT, List.drop_append, List.drop_of_length_le (by rw [List.length_take]; omega), List.nil_append, List.drop_drop, List.length_take]
    congr 2
    omega
  · left
    rw [← h3]
    refine headL_of ?_
    rw [← e1, ← c1, ← hT, List.take_append_of_le_length (by rw [List.length_take]; omega), List.take_take]
    congr 1
    omega
theorem some_if (M c : Nat) (a b : Addr) : (if 64 = M then some a else some b) = none → c = 0 := by
  split <;> (intro h; cases h)
/-- A block of another make is no row of bytes: it is as it was behind an append. -/
theorem keepA {w0 w w' : World} {l : List Nat} {v : Value} {A : Nat} {cs : Array Value} (hr : RowB w0 l v w) (hg : w.heap[A]? = some (.cells cs 38 (0, 0))) (hgr : w.grownBy w' v.ownBlock) : w'.heap[A]? = some (.cells cs 38 (0, 0)) := by
  refine (hgr.block A (Array.getElem?_eq_some_iff.1 hg).1 ?_).trans hg
  rcases hr.1.2 with ⟨rfl, -⟩ | ⟨g, cap, cur, rfl, -, h3, -⟩
  · intro e; cases e
  · intro e
    simp only [Value.ownBlock, Option.some.injEq] at e
    subst e
    rw [hg] at h3
    cases h3

set_option maxRecDepth 100000 in
set_option maxHeartbeats 8000000 in
theorem torn_walk (S E n c S' E' n' c' M : Nat) (w : World) (hS1 : S < 2 ^ 64) (hE1 : E < 2 ^ 64) (hS2 : S' < 2 ^ 64) (hE2 : E' < 2 ^ 64) (h1 : headOk n c = true) (h2 : headOk n' c' = true) (hM : M ≤ 64) :
    Calls Try.prog 8 #[headV S E n c, headV S' E' n' c', .int .i64 M] w fun r w' => r = .returned (.bool true) ∧ Below w.heap.size w w' := by
  have NM := Lib.hid num_any
  have WKS := Lib.hid works_any
  have C1 := Lib.hid (encodeHead_ok S E n c hS1 hE1 h1)
  have C2 := Lib.hid (encodeHead_ok S' E' n' c' hS2 hE2 h2)
  obtain ⟨T, hT⟩ : ∃ T, T = (headL S E n c).take M ++ (headL S' E' n' c').drop M := ⟨_, rfl⟩
  have l1 := headL_length S E n c
  have l2 := headL_length S' E' n' c'
  have b1 := headL_byte S E n c
  have b2 := headL_byte S' E' n' c'
  have hTl : T.length = 64 := by rw [hT, List.length_append, List.length_take, List.length_drop]; omega
  have hTb : ∀ b ∈ T, b < 256 := fun b hb => by
    rw [hT] at hb
    rcases List.mem_append.1 hb with h | h
    · exact b1 b (List.mem_of_mem_take h)
    · exact b2 b (List.mem_of_mem_drop h)
  -- what it decodes to
  obtain ⟨x1, x2, x3, x4, X, hdv, hdx, hres⟩ : ∃ (x1 x2 x3 x4 X : Int), decV T = .agg #[.int .u64 x1, .int .u64 x2, .int .i64 x3, .int .i64 x4] ∧ decX T = X ∧ (X = 150 ∨ X = 0 ∧ ((x1 = S ∧ x2 = E ∧ x3 = n ∧ x4 = c) ∨ (x1 = S' ∧ x2 = E' ∧ x3 = n' ∧ x4 = c'))) := by
    have q1 := head_bounds h1
    have q2 := head_bounds h2
    cases hh : isHead T with
    | false => exact ⟨0, 0, 0, 0, 150, by simp [decV, hh, headV], by simp [decX, hh], .inl rfl⟩
    | true =>
      refine ⟨hS T, hE T, hN T, hC T, 0, by simp [decV, hh, headV], by simp [decX, hh], .inr ⟨rfl, ?_⟩⟩
      have ht := torn_head (S := S) (E := E) (n := n) (c := c) (S' := S') (E' := E') (n' := n') (c' := c') hM (by rw [← hT]; exact hh)
      rw [← hT] at ht
      rcases ht with ht | ht
      · left
        rw [ht]
        obtain ⟨a1, a2, a3, a4⟩ := head_parts S E n c hS1 hE1 (by omega) (by omega)
        rw [a1, a2, a3, a4]
        exact ⟨rfl, rfl, rfl, rfl⟩
      · right
        rw [ht]
        obtain ⟨a1, a2, a3, a4⟩ := head_parts S' E' n' c' hS2 hE2 (by omega) (by omega)
        rw [a1, a2, a3, a4]
        exact ⟨rfl, rfl, rfl, rfl⟩
  have CD := Lib.hid fun p cp w h3 h4 h5 => decodeHead_any T p cp w h3 h4 hTb h5
  rw [hdv, hdx] at CD
  obtain ⟨xa, hxa⟩ : ∃ xa, xa = (headL S E n c).take M := ⟨_, rfl⟩
  obtain ⟨yb, hyb⟩ : ∃ yb, yb = (headL S' E' n' c').drop M := ⟨_, rfl⟩
  have hxl : xa.length = M := by rw [hxa, List.length_take]; omega
  have hyl : yb.length = 64 - M := by rw [hyb, List.length_drop]; omega
  rw [← hxa, ← hyb] at hT
  have XA := Lib.hid fun (w : World) (g : Nat) (h : BytesAt w (some ⟨g, 0, none⟩) (headL S E n c)) => (show BytesAt w (some ⟨g, 0, none⟩) xa by rw [hxa]; exact bytesAt_take h M)
  have YB := Lib.hid fun (w : World) (g : Nat) (h : BytesAt w (some ⟨g, 0, none⟩) (headL S' E' n' c')) => (show BytesAt w (if 64 = M then some ⟨g, 0, none⟩ else some ⟨g, M, none⟩) yb by
    split
    · intro i hi; omega
    · rw [hyb]; exact bytesAt_sub h M)
  generalize headL S E n c = xs at *
  generalize headL S' E' n' c' = ys at *
  have HT := Lib.hid hT
  have HTL := Lib.hid hTl
  have HXL := Lib.hid hxl
  have HYL := Lib.hid hyl
  have HSUM : Hid (xa.length + yb.length ≤ 100000) := Lib.hid (by omega)
  have HX0 : Hid (([] : List Nat).length + xa.length ≤ 100000) := Lib.hid (by simp; omega)
  have hw0 : IntKind.i64.wrap 0 = 0 := wrap_small (by omega) (by omega)
  have HRES := Lib.hid hres
  unfold headV
  clear hdv hdx hres hxa hyb hT hTl hTb hxl hyl l1 l2 b1 b2 h1 h2 hS1 hE1 hS2 hE2
  go_enter Try.func8, Try.ntmps8
  go_upto_region 5 with (first
    | (go_at_call 19; (with_reducible refine (C1.out _).mono ?_); rintro e wa ⟨g1, rfl, hby, hg, hb⟩; have B1 := Lib.hid (Below.trans (((Below.refl w.heap.size w).alloc (Nat.le_refl _) (.cells #[.int .u64 S, .int .u64 E, .int .i64 n, .int .i64 c] 38)).alloc (by simp) (.cells #[.int .u64 S', .int .u64 E', .int .i64 n', .int .i64 c'] 38)) (hb.mono (by simp; omega)))
       have c0 : wa.cell? ⟨w.heap.size, 0, none⟩ = some (.int .u64 S) := (hb.cell (by simp; omega)).trans (by go_cell)
       have c1 : wa.cell? ⟨w.heap.size, 1, none⟩ = some (.int .u64 E) := (hb.cell (by simp; omega)).trans (by go_cell)
       have c2 : wa.cell? ⟨w.heap.size, 2, none⟩ = some (.int .i64 n) := (hb.cell (by simp; omega)).trans (by go_cell)
       have c3 : wa.cell? ⟨w.heap.size, 3, none⟩ = some (.int .i64 c) := (hb.cell (by simp; omega)).trans (by go_cell)
       have d0 : wa.cell? ⟨w.heap.size + 1, 0, none⟩ = some (.int .u64 S') := (hb.cell (by simp)).trans (by go_cell)
       have d1 : wa.cell? ⟨w.heap.size + 1, 1, none⟩ = some (.int .u64 E') := (hb.cell (by simp)).trans (by go_cell)
       have d2 : wa.cell? ⟨w.heap.size + 1, 2, none⟩ = some (.int .i64 n') := (hb.cell (by simp)).trans (by go_cell)
       have d3 : wa.cell? ⟨w.heap.size + 1, 3, none⟩ = some (.int .i64 c') := (hb.cell (by simp)).trans (by go_cell)
       have HXA := Lib.hid (XA.out _ _ hby); clear hby hb hg)
    | (go_at_call 19; (with_reducible refine (C2.out _).mono ?_); rintro e we ⟨g2, rfl, hby, hg, hb⟩; have B2 := Lib.hid (kbT B1.out hb)
       have c0 := (hb.cell (lt_of_cell_some c0)).trans c0; have c1 := (hb.cell (lt_of_cell_some c1)).trans c1; have c2 := (hb.cell (lt_of_cell_some c2)).trans c2; have c3 := (hb.cell (lt_of_cell_some c3)).trans c3
       have d0 := (hb.cell (lt_of_cell_some d0)).trans d0; have d1 := (hb.cell (lt_of_cell_some d1)).trans d1; have d2 := (hb.cell (lt_of_cell_some d2)).trans d2; have d3 := (hb.cell (lt_of_cell_some d3)).trans d3
       have HXA := Lib.hid (bytesAt_below HXA.out hb); have HYB := Lib.hid (YB.out _ _ hby); clear hby hb hg)
    | (go_at_call 13; refine (NM.out _ _).mono ?_; rintro e wn ⟨rfl, rfl⟩))
  have HC : Hid ((we.cell? ⟨w.heap.size, 0, none⟩ = some (.int .u64 S) ∧ we.cell? ⟨w.heap.size, 1, none⟩ = some (.int .u64 E) ∧ we.cell? ⟨w.heap.size, 2, none⟩ = some (.int .i64 n) ∧ we.cell? ⟨w.heap.size, 3, none⟩ = some (.int .i64 c)) ∧ we.cell? ⟨w.heap.size + 1, 0, none⟩ = some (.int .u64 S') ∧ we.cell? ⟨w.heap.size + 1, 1, none⟩ = some (.int .u64 E') ∧ we.cell? ⟨w.heap.size + 1, 2, none⟩ = some (.int .i64 n') ∧ we.cell? ⟨w.heap.size + 1, 3, none⟩ = some (.int .i64 c')) := Lib.hid ⟨⟨c0, c1, c2, c3⟩, d0, d1, d2, d3⟩
  clear c0 c1 c2 c3 d0 d1 d2 d3
  go_cut [11, 12] from 47 to 59 (fun s11 s12 wx => ∃ A, s11 = .pointer (some ⟨A, 0, none⟩) ∧ s12 = .int .i64 X ∧ (wx.cell? ⟨A, 0, none⟩ = some (.int .u64 x1) ∧ wx.cell? ⟨A, 1, none⟩ = some (.int .u64 x2) ∧ wx.cell? ⟨A, 2, none⟩ = some (.int .i64 x3) ∧ wx.cell? ⟨A, 3, none⟩ = some (.int .i64 x4)) ∧ Hid (Below we.heap.size we wx))
  case first =>
    obtain ⟨q2, hq2⟩ : ∃ q2 : Option Addr, (if 64 = M then some (⟨g2, 0, none⟩ : Addr) else some ⟨g2, M, none⟩) = q2 := ⟨_, rfl⟩
    have HQ := Lib.hid hq2
    have hqn : q2 = none → 64 - M = 0 := by rw [← hq2]; exact some_if _ _ _ _
    rw [hq2] at HYB
    clear hq2
    refine wp_region_held_drew (S := fun w' => Below we.heap.size we w') (by kernel_rfl) ((Below.refl _ _).drew) (fun H0 => ?_)
    obtain ⟨wd, hwd⟩ : ∃ wd, we.drew = wd := ⟨_, rfl⟩
    rw [hwd] at H0 ⊢
    clear hwd
    refine wpAnyH_take (i := 1) (oi := { dst := some 49, op := Go.Op.move (Go.Operand.tmp 7), type := 39, pos := "law.go:115", after := #[], guard := none }) (v := ?_) rfl (by kernel_rfl) (by kernel_rfl) (by kernel_rfl) (fun _ _ _ h => h) (Or.inl ⟨by rfl, ?_⟩) H0 ?_
    rotate_left
    focus (intro w' hSw; (try dsimp only at hSw); go_simp; (try with_reducible rfl))
    simp only [Act.put, List.setIfInBounds_toArray, List.set_cons_zero, List.set_cons_succ]
    refine wpAnyH_take (i := 2) (oi := { dst := some 50, op := Go.Op.move (Go.Operand.tmp 2), type := 3, pos := "law.go:115", after := #[], guard := none }) (v := ?_) rfl (by kernel_rfl) (by kernel_rfl) (by kernel_rfl) (fun _ _ _ h => h) (Or.inl ⟨by rfl, ?_⟩) H0 ?_
    rotate_left
    focus (intro w' hSw; (try dsimp only at hSw); go_simp; (try with_reducible rfl))
    simp only [Act.put, List.setIfInBounds_toArray, List.set_cons_zero, List.set_cons_succ]
    refine wpAnyH_take (i := 3) (oi := { dst := some 51, op := Go.Op.slice 39 (Go.Operand.tmp 49) none (some (Go.Operand.tmp 50)) none, type := 39, pos := "law.go:115", after := #[{ on := 1, ground := Go.Ground.data }, { on := 2, ground := Go.Ground.data }], guard := none }) (v := ?_) rfl (by kernel_rfl) (by kernel_rfl) (by kernel_rfl) (fun _ _ _ h => h) (Or.inl ⟨by rfl, ?_⟩) H0 ?_
    rotate_left
    focus (intro w' hSw; (try dsimp only at hSw); go_simp; (try with_reducible rfl))
    simp only [Act.put, List.setIfInBounds_toArray, List.set_cons_zero, List.set_cons_succ]
    refine wpAnyH_take (i := 5) (oi := { dst := some 53, op := Go.Op.move (Go.Operand.tmp 9), type := 39, pos := "law.go:115", after := #[], guard := none }) (v := ?_) rfl (by kernel_rfl) (by kernel_rfl) (by kernel_rfl) (fun _ _ _ h => h) (Or.inl ⟨by rfl, ?_⟩) H0 ?_
    rotate_left
    focus (intro w' hSw; (try dsimp only at hSw); go_simp; (try with_reducible rfl))
    simp only [Act.put, List.setIfInBounds_toArray, List.set_cons_zero, List.set_cons_succ]
    refine wpAnyH_take (i := 6) (oi := { dst := some 54, op := Go.Op.move (Go.Operand.tmp 2), type := 3, pos := "law.go:115", after := #[], guard := none }) (v := ?_) rfl (by kernel_rfl) (by kernel_rfl) (by kernel_rfl) (fun _ _ _ h => h) (Or.inl ⟨by rfl, ?_⟩) H0 ?_
    rotate_left
    focus (intro w' hSw; (try dsimp only at hSw); go_simp; (try with_reducible rfl))
    simp only [Act.put, List.setIfInBounds_toArray, List.set_cons_zero, List.set_cons_succ]
    refine wpAnyH_take (i := 7) (oi := { dst := some 55, op := Go.Op.slice 39 (Go.Operand.tmp 53) (some (Go.Operand.tmp 54)) none none, type := 39, pos := "law.go:115", after := #[{ on := 5, ground := Go.Ground.data }, { on := 6, ground := Go.Ground.data }], guard := none }) (v := ?_) rfl (by kernel_rfl) (by kernel_rfl) (by kernel_rfl) (fun _ _ _ h => h) (Or.inl ⟨by rfl, ?_⟩) H0 ?_
    rotate_left
    focus (intro w' hSw; (try dsimp only at hSw); go_simp; (try with_reducible rfl))
    simp only [Act.put, List.setIfInBounds_toArray, List.set_cons_zero, List.set_cons_succ]
    rw [HQ.out]
    refine wpAnyH_ready (rs := [0, 13]) (by kernel_rfl) (by simp) ?_
    refine (AllReadyH.cons (o := { dst := some 48, op := Go.Op.buildSlice 39 0 #[], type := 39, pos := "law.go:115", after := #[], guard := none }) rfl (fun K hK => ?_) (AllReadyH.cons (o := { dst := some 11, op := Go.Op.alloc 38, type := 0, pos := "law.go:115", after := #[], guard := none }) rfl (fun K hK => ?_) AllReadyH.nil))
    · skip
      go_simp
      have hr3 := rowB_empty wd
      obtain ⟨wm1, hwm1⟩ : ∃ wz, wd.alloc (.cells #[] 5) = wz := ⟨_, rfl⟩
      rw [hwm1] at hr3 ⊢
      refine hK.out _ _ (kbT H0 hr3.2) (fun Hm2 => ?_)
      clear hwm1
      clear hK K
      try simp only [Act.put, List.setIfInBounds_toArray, List.set_cons_zero, List.set_cons_succ]
      refine wpAnyH_ready (rs := [4, 13]) (by kernel_rfl) (by simp) ?_
      refine (AllReadyH.cons (o := { dst := some 52, op := Go.Op.call { callee := Go.Callee.builtin Go.Builtin.append, args := #[Go.Operand.tmp 48, Go.Operand.tmp 51], argTypes := #[39, 39] }, type := 39, pos := "law.go:115", after := #[{ on := 0, ground := Go.Ground.data }, { on := 3, ground := Go.Ground.data }], guard := none }) rfl (fun K hK => ?_) (AllReadyH.cons (o := { dst := some 11, op := Go.Op.alloc 38, type := 0, pos := "law.go:115", after := #[], guard := none }) rfl (fun K hK => ?_) AllReadyH.nil))
      · skip
        refine step_append_bytes rfl (.tmp 48) (.tmp 51) rfl rfl hr3 HXL.out rfl (fun h => nomatch h) (bytesAt_below HXA.out Hm2) HX0.out ?_
        intro v8 wm4 hr6 hgr7
        rw [List.nil_append] at hr6
        refine hK.out _ _ (kbT H0 hr6.2) (fun Hm5 => ?_)
        clear hK K
        try simp only [Act.put, List.setIfInBounds_toArray, List.set_cons_zero, List.set_cons_succ]
        refine wpAnyH_ready (rs := [8, 13]) (by kernel_rfl) (by simp) ?_
        refine (AllReadyH.cons (o := { dst := some 56, op := Go.Op.call { callee := Go.Callee.builtin Go.Builtin.append, args := #[Go.Operand.tmp 52, Go.Operand.tmp 55], argTypes := #[39, 39] }, type := 39, pos := "law.go:115", after := #[{ on := 4, ground := Go.Ground.data }, { on := 7, ground := Go.Ground.data }, { on := 4, ground := Go.Ground.chain }], guard := none }) rfl (fun K hK => ?_) (AllReadyH.cons (o := { dst := some 11, op := Go.Op.alloc 38, type := 0, pos := "law.go:115", after := #[], guard := none }) rfl (fun K hK => ?_) AllReadyH.nil))
        · skip
          refine step_append_bytes rfl (.tmp 52) (.tmp 55) rfl rfl hr6 HYL.out rfl hqn (bytesAt_below HYB.out Hm5) HSUM.out ?_
          intro v13 wm9 hr11 hgr12
          rw [← HT.out] at hr11
          refine hK.out _ _ (kbT H0 hr11.2) (fun Hm10 => ?_)
          obtain ⟨p14, c15, rfl, hcp16, hcm17, hby18, -⟩ := hr11.at2
          clear hK K
          try simp only [Act.put, List.setIfInBounds_toArray, List.set_cons_zero, List.set_cons_succ]
          refine wpAnyH_ready (rs := [9, 13]) (by kernel_rfl) (by simp) ?_
          refine (AllReadyH.cons (o := { dst := some 57, op := Go.Op.call { callee := Go.Callee.value (Go.Operand.func 21), args := #[Go.Operand.tmp 56], argTypes := #[39] }, type := 44, pos := "law.go:115", after := #[{ on := 8, ground := Go.Ground.data }, { on := 8, ground := Go.Ground.chain }], guard := none }) rfl (fun K hK => ?_) (AllReadyH.cons (o := { dst := some 11, op := Go.Op.alloc 38, type := 0, pos := "law.go:115", after := #[], guard := none }) rfl (fun K hK => ?_) AllReadyH.nil))
          · skip
            go_simp
            (go_at_call 21; (refine (CD.out p14 c15 wm9 hcp16 (by unfold maxLen at hcm17; omega) (hr11.bytes)).mono ?_); rintro e wm19 ⟨rfl, hb21⟩)
            try go_wp2_with fail
            refine hK.out _ _ (kbT Hm10 hb21) (fun Hm20 => ?_)
            clear hK K
            try simp only [Act.put, List.setIfInBounds_toArray, List.set_cons_zero, List.set_cons_succ]
            refine wpAnyH_take (i := 10) (oi := { dst := some 47, op := Go.Op.move (Go.Operand.tmp 57), type := 44, pos := "law.go:115", after := #[{ on := 9, ground := Go.Ground.data }], guard := none }) (v := ?_) rfl (by kernel_rfl) (by kernel_rfl) (by kernel_rfl) (fun _ _ _ h => h) (Or.inl ⟨by rfl, ?_⟩) Hm20 ?_
            rotate_left
            focus (intro w' hSw; (try dsimp only at hSw); go_simp; (try with_reducible rfl))
            simp only [Act.put, List.setIfInBounds_toArray, List.set_cons_zero, List.set_cons_succ]
            refine wpAnyH_take (i := 11) (oi := { dst := some 58, op := Go.Op.extract (Go.Operand.tmp 47) 0, type := 38, pos := "law.go:115", after := #[{ on := 10, ground := Go.Ground.data }], guard := none }) (v := ?_) rfl (by kernel_rfl) (by kernel_rfl) (by kernel_rfl) (fun _ _ _ h => h) (Or.inl ⟨by rfl, ?_⟩) Hm20 ?_
            rotate_left
            focus (intro w' hSw; (try dsimp only at hSw); go_simp; (try with_reducible rfl))
            simp only [Act.put, List.setIfInBounds_toArray, List.set_cons_zero, List.set_cons_succ]
            refine wpAnyH_take (i := 12) (oi := { dst := some 59, op := Go.Op.extract (Go.Operand.tmp 47) 1, type := 24, pos := "law.go:115", after := #[{ on := 10, ground := Go.Ground.data }, { on := 14, ground := Go.Ground.gcOnly Go.Departure.lateStores }], guard := none }) (v := ?_) rfl (by kernel_rfl) (by kernel_rfl) (by kernel_rfl) (fun _ _ _ h => h) (Or.inl ⟨by rfl, ?_⟩) Hm20 ?_
            rotate_left
            focus (intro w' hSw; (try dsimp only at hSw); go_simp; (try with_reducible rfl))
            simp only [Act.put, List.setIfInBounds_toArray, List.set_cons_zero, List.set_cons_succ]
            refine wpAnyH_ready (rs := [13]) (by kernel_rfl) (by simp) ?_
            refine (AllReadyH.cons (o := { dst := some 11, op := Go.Op.alloc 38, type := 0, pos := "law.go:115", after := #[], guard := none }) rfl (fun K hK => ?_) AllReadyH.nil)
            · skip
              go_simp
              obtain ⟨wm22, hwm22⟩ : ∃ wz, wm19.alloc (.cells #[.int .u64 0, .int .u64 0, .int .i64 0, .int .i64 0] 38) = wz := ⟨_, rfl⟩
              have hg24 : wm22.heap[wm19.heap.size]? = some (.cells #[.int .u64 0, .int .u64 0, .int .i64 0, .int .i64 0] 38 (0, 0)) := by rw [← hwm22]; exact heap_alloc_last wm19 _
              have hb25 : Below wm19.heap.size wm19 wm22 := by rw [← hwm22]; exact (Below.refl _ _).alloc (Nat.le_refl _) _
              have hA26 : we.heap.size ≤ wm19.heap.size := Hm20.size
              rw [hwm22]
              refine hK.out _ _ (kbT Hm20 hb25) (fun Hm23 => ?_)
              clear hwm22
              clear hK K
              try simp only [Act.put, List.setIfInBounds_toArray, List.set_cons_zero, List.set_cons_succ]
              refine wpAnyH_ready (rs := [14]) (by kernel_rfl) (by simp) ?_
              refine (AllReadyH.cons (o := { dst := none, op := Go.Op.store 38 (Go.Operand.tmp 11) (Go.Operand.tmp 58), type := 0, pos := "law.go:115", after := #[{ on := 13, ground := Go.Ground.data }, { on := 11, ground := Go.Ground.data }, { on := 9, ground := Go.Ground.chain }, { on := 0, ground := Go.Ground.phase }, { on := 1, ground := Go.Ground.phase }, { on := 2, ground := Go.Ground.phase }, { on := 3, ground := Go.Ground.phase }, { on := 4, ground := Go.Ground.phase }, { on := 5, ground := Go.Ground.phase }, { on := 6, ground := Go.Ground.phase }, { on := 7, ground := Go.Ground.phase }, { on := 8, ground := Go.Ground.phase }, { on := 9, ground := Go.Ground.phase }, { on := 10, ground := Go.Ground.phase }, { on := 11, ground := Go.Ground.phase }, { on := 12, ground := Go.Ground.textOnly Go.Departure.lateStores }, { on := 13, ground := Go.Ground.phase }], guard := none }) rfl (fun K hK => ?_) AllReadyH.nil)
              · skip
                have k0 := row_cell (i := 0) hg24 rfl
                have f0 := row_frozen (i := 0) hg24
                have k1 := row_cell (i := 1) hg24 rfl
                have f1 := row_frozen (i := 1) hg24
                have k2 := row_cell (i := 2) hg24 rfl
                have f2 := row_frozen (i := 2) hg24
                have k3 := row_cell (i := 3) hg24 rfl
                have f3 := row_frozen (i := 3) hg24
                go_simp
                refine hK.out _ _ ((((Hm23.setCell hA26 _).setCell hA26 _).setCell hA26 _).setCell hA26 _) (fun Hm28 => ?_)
                clear hK K
                try simp only [Act.put, List.setIfInBounds_toArray, List.set_cons_zero, List.set_cons_succ]
                refine wpAnyH_take (i := 15) (oi := { dst := some 12, op := Go.Op.assign (Go.Operand.tmp 59), type := 24, pos := "law.go:115", after := #[{ on := 12, ground := Go.Ground.data }, { on := 14, ground := Go.Ground.chain }, { on := 0, ground := Go.Ground.phase }, { on := 1, ground := Go.Ground.phase }, { on := 2, ground := Go.Ground.phase }, { on := 3, ground := Go.Ground.phase }, { on := 4, ground := Go.Ground.phase }, { on := 5, ground := Go.Ground.phase }, { on := 6, ground := Go.Ground.phase }, { on := 7, ground := Go.Ground.phase }, { on := 8, ground := Go.Ground.phase }, { on := 9, ground := Go.Ground.phase }, { on := 10, ground := Go.Ground.phase }, { on := 11, ground := Go.Ground.phase }, { on := 12, ground := Go.Ground.phase }, { on := 13, ground := Go.Ground.phase }, { on := 14, ground := Go.Ground.phase }], guard := none }) (v := ?_) rfl (by kernel_rfl) (by kernel_rfl) (by kernel_rfl) (fun _ _ _ h => h) (Or.inl ⟨by rfl, ?_⟩) Hm28 ?_
                rotate_left
                focus (intro w' hSw; (try dsimp only at hSw); go_simp; (try with_reducible rfl))
                simp only [Act.put, List.setIfInBounds_toArray, List.set_cons_zero, List.set_cons_succ]
                refine wpAnyH_done (by kernel_rfl) ?_ _
                go_wp2_with fail
                go_meet
                exact ⟨_, rfl, rfl, ⟨by go_cell, by go_cell, by go_cell, by go_cell⟩, Lib.hid Hm28⟩
          · skip
            go_simp
            obtain ⟨wm29, hwm29⟩ : ∃ wz, wm9.alloc (.cells #[.int .u64 0, .int .u64 0, .int .i64 0, .int .i64 0] 38) = wz := ⟨_, rfl⟩
            have hg31 : wm29.heap[wm9.heap.size]? = some (.cells #[.int .u64 0, .int .u64 0, .int .i64 0, .int .i64 0] 38 (0, 0)) := by rw [← hwm29]; exact heap_alloc_last wm9 _
            have hb32 : Below wm9.heap.size wm9 wm29 := by rw [← hwm29]; exact (Below.refl _ _).alloc (Nat.le_refl _) _
            have hA33 : we.heap.size ≤ wm9.heap.size := Hm10.size
            rw [hwm29]
            have hr34 := hr11.later hb32
            refine hK.out _ _ (kbT Hm10 hb32) (fun Hm30 => ?_)
            clear hwm29
            clear hK K
            try simp only [Act.put, List.setIfInBounds_toArray, List.set_cons_zero, List.set_cons_succ]
            refine wpAnyH_ready (rs := [9]) (by kernel_rfl) (by simp) ?_
            refine (AllReadyH.cons (o := { dst := some 57, op := Go.Op.call { callee := Go.Callee.value (Go.Operand.func 21), args := #[Go.Operand.tmp 56], argTypes := #[39] }, type := 44, pos := "law.go:115", after := #[{ on := 8, ground := Go.Ground.data }, { on := 8, ground := Go.Ground.chain }], guard := none }) rfl (fun K hK => ?_) AllReadyH.nil)
            · skip
              go_simp
              (go_at_call 21; (refine (CD.out p14 c15 wm29 hcp16 (by unfold maxLen at hcm17; omega) (hr34.bytes)).mono ?_); rintro e wm35 ⟨rfl, hb37⟩)
              try go_wp2_with fail
              have hg38 := (hb37.block _ (Array.getElem?_eq_some_iff.1 hg31).1).trans hg31
              refine hK.out _ _ (kbT Hm30 hb37) (fun Hm36 => ?_)
              clear hK K
              try simp only [Act.put, List.setIfInBounds_toArray, List.set_cons_zero, List.set_cons_succ]
              refine wpAnyH_take (i := 10) (oi := { dst := some 47, op := Go.Op.move (Go.Operand.tmp 57), type := 44, pos := "law.go:115", after := #[{ on := 9, ground := Go.Ground.data }], guard := none }) (v := ?_) rfl (by kernel_rfl) (by kernel_rfl) (by kernel_rfl) (fun _ _ _ h => h) (Or.inl ⟨by rfl, ?_⟩) Hm36 ?_
              rotate_left
              focus (intro w' hSw; (try dsimp only at hSw); go_simp; (try with_reducible rfl))
              simp only [Act.put, List.setIfInBounds_toArray, List.set_cons_zero, List.set_cons_succ]
              refine wpAnyH_take (i := 11) (oi := { dst := some 58, op := Go.Op.extract (Go.Operand.tmp 47) 0, type := 38, pos := "law.go:115", after := #[{ on := 10, ground := Go.Ground.data }], guard := none }) (v := ?_) rfl (by kernel_rfl) (by kernel_rfl) (by kernel_rfl) (fun _ _ _ h => h) (Or.inl ⟨by rfl, ?_⟩) Hm36 ?_
              rotate_left
              focus (intro w' hSw; (try dsimp only at hSw); go_simp; (try with_reducible rfl))
              simp only [Act.put, List.setIfInBounds_toArray, List.set_cons_zero, List.set_cons_succ]
              refine wpAnyH_take (i := 12) (oi := { dst := some 59, op := Go.Op.extract (Go.Operand.tmp 47) 1, type := 24, pos := "law.go:115", after := #[{ on := 10, ground := Go.Ground.data }, { on := 14, ground := Go.Ground.gcOnly Go.Departure.lateStores }], guard := none }) (v := ?_) rfl (by kernel_rfl) (by kernel_rfl) (by kernel_rfl) (fun _ _ _ h => h) (Or.inl ⟨by rfl, ?_⟩) Hm36 ?_
              rotate_left
              focus (intro w' hSw; (try dsimp only at hSw); go_simp; (try with_reducible rfl))
              simp only [Act.put, List.setIfInBounds_toArray, List.set_cons_zero, List.set_cons_succ]
              refine wpAnyH_ready (rs := [14]) (by kernel_rfl) (by simp) ?_
              refine (AllReadyH.cons (o := { dst := none, op := Go.Op.store 38 (Go.Operand.tmp 11) (Go.Operand.tmp 58), type := 0, pos := "law.go:115", after := #[{ on := 13, ground := Go.Ground.data }, { on := 11, ground := Go.Ground.data }, { on := 9, ground := Go.Ground.chain }, { on := 0, ground := Go.Ground.phase }, { on := 1, ground := Go.Ground.phase }, { on := 2, ground := Go.Ground.phase }, { on := 3, ground := Go.Ground.phase }, { on := 4, ground := Go.Ground.phase }, { on := 5, ground := Go.Ground.phase }, { on := 6, ground := Go.Ground.phase }, { on := 7, ground := Go.Ground.phase }, { on := 8, ground := Go.Ground.phase }, { on := 9, ground := Go.Ground.phase }, { on := 10, ground := Go.Ground.phase }, { on := 11, ground := Go.Ground.phase }, { on := 12, ground := Go.Ground.textOnly Go.Departure.lateStores }, { on := 13, ground := Go.Ground.phase }], guard := none }) rfl (fun K hK => ?_) AllReadyH.nil)
              · skip
                have k0 := row_cell (i := 0) hg38 rfl
                have f0 := row_frozen (i := 0) hg38
                have k1 := row_cell (i := 1) hg38 rfl
                have f1 := row_frozen (i := 1) hg38
                have k2 := row_cell (i := 2) hg38 rfl
                have f2 := row_frozen (i := 2) hg38
                have k3 := row_cell (i := 3) hg38 rfl
                have f3 := row_frozen (i := 3) hg38
                go_simp
                refine hK.out _ _ ((((Hm36.setCell hA33 _).setCell hA33 _).setCell hA33 _).setCell hA33 _) (fun Hm40 => ?_)
                clear hK K
                try simp only [Act.put, List.setIfInBounds_toArray, List.set_cons_zero, List.set_cons_succ]
                refine wpAnyH_take (i := 15) (oi := { dst := some 12, op := Go.Op.assign (Go.Operand.tmp 59), type := 24, pos := "law.go:115", after := #[{ on := 12, ground := Go.Ground.data }, { on := 14, ground := Go.Ground.chain }, { on := 0, ground := Go.Ground.phase }, { on := 1, ground := Go.Ground.phase }, { on := 2, ground := Go.Ground.phase }, { on := 3, ground := Go.Ground.phase }, { on := 4, ground := Go.Ground.phase }, { on := 5, ground := Go.Ground.phase }, { on := 6, ground := Go.Ground.phase }, { on := 7, ground := Go.Ground.phase }, { on := 8, ground := Go.Ground.phase }, { on := 9, ground := Go.Ground.phase }, { on := 10, ground := Go.Ground.phase }, { on := 11, ground := Go.Ground.phase }, { on := 12, ground := Go.Ground.phase }, { on := 13, ground := Go.Ground.phase }, { on := 14, ground := Go.Ground.phase }], guard := none }) (v := ?_) rfl (by kernel_rfl) (by kernel_rfl) (by kernel_rfl) (fun _ _ _ h => h) (Or.inl ⟨by rfl, ?_⟩) Hm40 ?_
                rotate_left
                focus (intro w' hSw; (try dsimp only at hSw); go_simp; (try with_reducible rfl))
                simp only [Act.put, List.setIfInBounds_toArray, List.set_cons_zero, List.set_cons_succ]
                refine wpAnyH_done (by kernel_rfl) ?_ _
                go_wp2_with fail
                go_meet
                exact ⟨_, rfl, rfl, ⟨by go_cell, by go_cell, by go_cell, by go_cell⟩, Lib.hid Hm40⟩
        · skip
          go_simp
          obtain ⟨wm41, hwm41⟩ : ∃ wz, wm4.alloc (.cells #[.int .u64 0, .int .u64 0, .int .i64 0, .int .i64 0] 38) = wz := ⟨_, rfl⟩
          have hg43 : wm41.heap[wm4.heap.size]? = some (.cells #[.int .u64 0, .int .u64 0, .int .i64 0, .int .i64 0] 38 (0, 0)) := by rw [← hwm41]; exact heap_alloc_last wm4 _
          have hb44 : Below wm4.heap.size wm4 wm41 := by rw [← hwm41]; exact (Below.refl _ _).alloc (Nat.le_refl _) _
          have hA45 : we.heap.size ≤ wm4.heap.size := Hm5.size
          rw [hwm41]
          have hr46 := hr6.later hb44
          refine hK.out _ _ (kbT Hm5 hb44) (fun Hm42 => ?_)
          clear hwm41
          clear hK K
          try simp only [Act.put, List.setIfInBounds_toArray, List.set_cons_zero, List.set_cons_succ]
          refine wpAnyH_ready (rs := [8]) (by kernel_rfl) (by simp) ?_
          refine (AllReadyH.cons (o := { dst := some 56, op := Go.Op.call { callee := Go.Callee.builtin Go.Builtin.append, args := #[Go.Operand.tmp 52, Go.Operand.tmp 55], argTypes := #[39, 39] }, type := 39, pos := "law.go:115", after := #[{ on := 4, ground := Go.Ground.data }, { on := 7, ground := Go.Ground.data }, { on := 4, ground := Go.Ground.chain }], guard := none }) rfl (fun K hK => ?_) AllReadyH.nil)
          · skip
            refine step_append_bytes rfl (.tmp 52) (.tmp 55) rfl rfl hr46 HYL.out rfl hqn (bytesAt_below HYB.out Hm42) HSUM.out ?_
            intro v51 wm47 hr49 hgr50
            have hg52 := keepA hr46 hg43 hgr50
            rw [← HT.out] at hr49
            refine hK.out _ _ (kbT H0 hr49.2) (fun Hm48 => ?_)
            obtain ⟨p53, c54, rfl, hcp55, hcm56, hby57, -⟩ := hr49.at2
            clear hK K
            try simp only [Act.put, List.setIfInBounds_toArray, List.set_cons_zero, List.set_cons_succ]
            refine wpAnyH_ready (rs := [9]) (by kernel_rfl) (by simp) ?_
            refine (AllReadyH.cons (o := { dst := some 57, op := Go.Op.call { callee := Go.Callee.value (Go.Operand.func 21), args := #[Go.Operand.tmp 56], argTypes := #[39] }, type := 44, pos := "law.go:115", after := #[{ on := 8, ground := Go.Ground.data }, { on := 8, ground := Go.Ground.chain }], guard := none }) rfl (fun K hK => ?_) AllReadyH.nil)
            · skip
              go_simp
              (go_at_call 21; (refine (CD.out p53 c54 wm47 hcp55 (by unfold maxLen at hcm56; omega) (hr49.bytes)).mono ?_); rintro e wm58 ⟨rfl, hb60⟩)
              try go_wp2_with fail
              have hg61 := (hb60.block _ (Array.getElem?_eq_some_iff.1 hg52).1).trans hg52
              refine hK.out _ _ (kbT Hm48 hb60) (fun Hm59 => ?_)
              clear hK K
              try simp only [Act.put, List.setIfInBounds_toArray, List.set_cons_zero, List.set_cons_succ]
              refine wpAnyH_take (i := 10) (oi := { dst := some 47, op := Go.Op.move (Go.Operand.tmp 57), type := 44, pos := "law.go:115", after := #[{ on := 9, ground := Go.Ground.data }], guard := none }) (v := ?_) rfl (by kernel_rfl) (by kernel_rfl) (by kernel_rfl) (fun _ _ _ h => h) (Or.inl ⟨by rfl, ?_⟩) Hm59 ?_
              rotate_left
              focus (intro w' hSw; (try dsimp only at hSw); go_simp; (try with_reducible rfl))
              simp only [Act.put, List.setIfInBounds_toArray, List.set_cons_zero, List.set_cons_succ]
              refine wpAnyH_take (i := 11) (oi := { dst := some 58, op := Go.Op.extract (Go.Operand.tmp 47) 0, type := 38, pos := "law.go:115", after := #[{ on := 10, ground := Go.Ground.data }], guard := none }) (v := ?_) rfl (by kernel_rfl) (by kernel_rfl) (by kernel_rfl) (fun _ _ _ h => h) (Or.inl ⟨by rfl, ?_⟩) Hm59 ?_
              rotate_left
              focus (intro w' hSw; (try dsimp only at hSw); go_simp; (try with_reducible rfl))
              simp only [Act.put, List.setIfInBounds_toArray, List.set_cons_zero, List.set_cons_succ]
              refine wpAnyH_take (i := 12) (oi := { dst := some 59, op := Go.Op.extract (Go.Operand.tmp 47) 1, type := 24, pos := "law.go:115", after := #[{ on := 10, ground := Go.Ground.data }, { on := 14, ground := Go.Ground.gcOnly Go.Departure.lateStores }], guard := none }) (v := ?_) rfl (by kernel_rfl) (by kernel_rfl) (by kernel_rfl) (fun _ _ _ h => h) (Or.inl ⟨by rfl, ?_⟩) Hm59 ?_
              rotate_left
              focus (intro w' hSw; (try dsimp only at hSw); go_simp; (try with_reducible rfl))
              simp only [Act.put, List.setIfInBounds_toArray, List.set_cons_zero, List.set_cons_succ]
              refine wpAnyH_ready (rs := [14]) (by kernel_rfl) (by simp) ?_
              refine (AllReadyH.cons (o := { dst := none, op := Go.Op.store 38 (Go.Operand.tmp 11) (Go.Operand.tmp 58), type := 0, pos := "law.go:115", after := #[{ on := 13, ground := Go.Ground.data }, { on := 11, ground := Go.Ground.data }, { on := 9, ground := Go.Ground.chain }, { on := 0, ground := Go.Ground.phase }, { on := 1, ground := Go.Ground.phase }, { on := 2, ground := Go.Ground.phase }, { on := 3, ground := Go.Ground.phase }, { on := 4, ground := Go.Ground.phase }, { on := 5, ground := Go.Ground.phase }, { on := 6, ground := Go.Ground.phase }, { on := 7, ground := Go.Ground.phase }, { on := 8, ground := Go.Ground.phase }, { on := 9, ground := Go.Ground.phase }, { on := 10, ground := Go.Ground.phase }, { on := 11, ground := Go.Ground.phase }, { on := 12, ground := Go.Ground.textOnly Go.Departure.lateStores }, { on := 13, ground := Go.Ground.phase }], guard := none }) rfl (fun K hK => ?_) AllReadyH.nil)
              · skip
                have k0 := row_cell (i := 0) hg61 rfl
                have f0 := row_frozen (i := 0) hg61
                have k1 := row_cell (i := 1) hg61 rfl
                have f1 := row_frozen (i := 1) hg61
                have k2 := row_cell (i := 2) hg61 rfl
                have f2 := row_frozen (i := 2) hg61
                have k3 := row_cell (i := 3) hg61 rfl
                have f3 := row_frozen (i := 3) hg61
                go_simp
                refine hK.out _ _ ((((Hm59.setCell hA45 _).setCell hA45 _).setCell hA45 _).setCell hA45 _) (fun Hm63 => ?_)
                clear hK K
                try simp only [Act.put, List.setIfInBounds_toArray, List.set_cons_zero, List.set_cons_succ]
                refine wpAnyH_take (i := 15) (oi := { dst := some 12, op := Go.Op.assign (Go.Operand.tmp 59), type := 24, pos := "law.go:115", after := #[{ on := 12, ground := Go.Ground.data }, { on := 14, ground := Go.Ground.chain }, { on := 0, ground := Go.Ground.phase }, { on := 1, ground := Go.Ground.phase }, { on := 2, ground := Go.Ground.phase }, { on := 3, ground := Go.Ground.phase }, { on := 4, ground := Go.Ground.phase }, { on := 5, ground := Go.Ground.phase }, { on := 6, ground := Go.Ground.phase }, { on := 7, ground := Go.Ground.phase }, { on := 8, ground := Go.Ground.phase }, { on := 9, ground := Go.Ground.phase }, { on := 10, ground := Go.Ground.phase }, { on := 11, ground := Go.Ground.phase }, { on := 12, ground := Go.Ground.phase }, { on := 13, ground := Go.Ground.phase }, { on := 14, ground := Go.Ground.phase }], guard := none }) (v := ?_) rfl (by kernel_rfl) (by kernel_rfl) (by kernel_rfl) (fun _ _ _ h => h) (Or.inl ⟨by rfl, ?_⟩) Hm63 ?_
                rotate_left
                focus (intro w' hSw; (try dsimp only at hSw); go_simp; (try with_reducible rfl))
                simp only [Act.put, List.setIfInBounds_toArray, List.set_cons_zero, List.set_cons_succ]
                refine wpAnyH_done (by kernel_rfl) ?_ _
                go_wp2_with fail
                go_meet
                exact ⟨_, rfl, rfl, ⟨by go_cell, by go_cell, by go_cell, by go_cell⟩, Lib.hid Hm63⟩
      · skip
        go_simp
        obtain ⟨wm64, hwm64⟩ : ∃ wz, wm1.alloc (.cells #[.int .u64 0, .int .u64 0, .int .i64 0, .int .i64 0] 38) = wz := ⟨_, rfl⟩
        have hg66 : wm64.heap[wm1.heap.size]? = some (.cells #[.int .u64 0, .int .u64 0, .int .i64 0, .int .i64 0] 38 (0, 0)) := by rw [← hwm64]; exact heap_alloc_last wm1 _
        have hb67 : Below wm1.heap.size wm1 wm64 := by rw [← hwm64]; exact (Below.refl _ _).alloc (Nat.le_refl _) _
        have hA68 : we.heap.size ≤ wm1.heap.size := Hm2.size
        rw [hwm64]
        have hr69 := hr3.later hb67
        refine hK.out _ _ (kbT Hm2 hb67) (fun Hm65 => ?_)
        clear hwm64
        clear hK K
        try simp only [Act.put, List.setIfInBounds_toArray, List.set_cons_zero, List.set_cons_succ]
        refine wpAnyH_ready (rs := [4]) (by kernel_rfl) (by simp) ?_
        refine (AllReadyH.cons (o := { dst := some 52, op := Go.Op.call { callee := Go.Callee.builtin Go.Builtin.append, args := #[Go.Operand.tmp 48, Go.Operand.tmp 51], argTypes := #[39, 39] }, type := 39, pos := "law.go:115", after := #[{ on := 0, ground := Go.Ground.data }, { on := 3, ground := Go.Ground.data }], guard := none }) rfl (fun K hK => ?_) AllReadyH.nil)
        · skip
          refine step_append_bytes rfl (.tmp 48) (.tmp 51) rfl rfl hr69 HXL.out rfl (fun h => nomatch h) (bytesAt_below HXA.out Hm65) HX0.out ?_
          intro v74 wm70 hr72 hgr73
          have hg75 := keepA hr69 hg66 hgr73
          rw [List.nil_append] at hr72
          refine hK.out _ _ (kbT H0 hr72.2) (fun Hm71 => ?_)
          clear hK K
          try simp only [Act.put, List.setIfInBounds_toArray, List.set_cons_zero, List.set_cons_succ]
          refine wpAnyH_ready (rs := [8]) (by kernel_rfl) (by simp) ?_
          refine (AllReadyH.cons (o := { dst := some 56, op := Go.Op.call { callee := Go.Callee.builtin Go.Builtin.append, args := #[Go.Operand.tmp 52, Go.Operand.tmp 55], argTypes := #[39, 39] }, type := 39, pos := "law.go:115", after := #[{ on := 4, ground := Go.Ground.data }, { on := 7, ground := Go.Ground.data }, { on := 4, ground := Go.Ground.chain }], guard := none }) rfl (fun K hK => ?_) AllReadyH.nil)
          · skip
            refine step_append_bytes rfl (.tmp 52) (.tmp 55) rfl rfl hr72 HYL.out rfl hqn (bytesAt_below HYB.out Hm71) HSUM.out ?_
            intro v80 wm76 hr78 hgr79
            have hg81 := keepA hr72 hg75 hgr79
            rw [← HT.out] at hr78
            refine hK.out _ _ (kbT H0 hr78.2) (fun Hm77 => ?_)
            obtain ⟨p82, c83, rfl, hcp84, hcm85, hby86, -⟩ := hr78.at2
            clear hK K
            try simp only [Act.put, List.setIfInBounds_toArray, List.set_cons_zero, List.set_cons_succ]
            refine wpAnyH_ready (rs := [9]) (by kernel_rfl) (by simp) ?_
            refine (AllReadyH.cons (o := { dst := some 57, op := Go.Op.call { callee := Go.Callee.value (Go.Operand.func 21), args := #[Go.Operand.tmp 56], argTypes := #[39] }, type := 44, pos := "law.go:115", after := #[{ on := 8, ground := Go.Ground.data }, { on := 8, ground := Go.Ground.chain }], guard := none }) rfl (fun K hK => ?_) AllReadyH.nil)
            · skip
              go_simp
              (go_at_call 21; (refine (CD.out p82 c83 wm76 hcp84 (by unfold maxLen at hcm85; omega) (hr78.bytes)).mono ?_); rintro e wm87 ⟨rfl, hb89⟩)
              try go_wp2_with fail
              have hg90 := (hb89.block _ (Array.getElem?_eq_some_iff.1 hg81).1).trans hg81
              refine hK.out _ _ (kbT Hm77 hb89) (fun Hm88 => ?_)
              clear hK K
              try simp only [Act.put, List.setIfInBounds_toArray, List.set_cons_zero, List.set_cons_succ]
              refine wpAnyH_take (i := 10) (oi := { dst := some 47, op := Go.Op.move (Go.Operand.tmp 57), type := 44, pos := "law.go:115", after := #[{ on := 9, ground := Go.Ground.data }], guard := none }) (v := ?_) rfl (by kernel_rfl) (by kernel_rfl) (by kernel_rfl) (fun _ _ _ h => h) (Or.inl ⟨by rfl, ?_⟩) Hm88 ?_
              rotate_left
              focus (intro w' hSw; (try dsimp only at hSw); go_simp; (try with_reducible rfl))
              simp only [Act.put, List.setIfInBounds_toArray, List.set_cons_zero, List.set_cons_succ]
              refine wpAnyH_take (i := 11) (oi := { dst := some 58, op := Go.Op.extract (Go.Operand.tmp 47) 0, type := 38, pos := "law.go:115", after := #[{ on := 10, ground := Go.Ground.data }], guard := none }) (v := ?_) rfl (by kernel_rfl) (by kernel_rfl) (by kernel_rfl) (fun _ _ _ h => h) (Or.inl ⟨by rfl, ?_⟩) Hm88 ?_
              rotate_left
              focus (intro w' hSw; (try dsimp only at hSw); go_simp; (try with_reducible rfl))
              simp only [Act.put, List.setIfInBounds_toArray, List.set_cons_zero, List.set_cons_succ]
              refine wpAnyH_take (i := 12) (oi := { dst := some 59, op := Go.Op.extract (Go.Operand.tmp 47) 1, type := 24, pos := "law.go:115", after := #[{ on := 10, ground := Go.Ground.data }, { on := 14, ground := Go.Ground.gcOnly Go.Departure.lateStores }], guard := none }) (v := ?_) rfl (by kernel_rfl) (by kernel_rfl) (by kernel_rfl) (fun _ _ _ h => h) (Or.inl ⟨by rfl, ?_⟩) Hm88 ?_
              rotate_left
              focus (intro w' hSw; (try dsimp only at hSw); go_simp; (try with_reducible rfl))
              simp only [Act.put, List.setIfInBounds_toArray, List.set_cons_zero, List.set_cons_succ]
              refine wpAnyH_ready (rs := [14]) (by kernel_rfl) (by simp) ?_
              refine (AllReadyH.cons (o := { dst := none, op := Go.Op.store 38 (Go.Operand.tmp 11) (Go.Operand.tmp 58), type := 0, pos := "law.go:115", after := #[{ on := 13, ground := Go.Ground.data }, { on := 11, ground := Go.Ground.data }, { on := 9, ground := Go.Ground.chain }, { on := 0, ground := Go.Ground.phase }, { on := 1, ground := Go.Ground.phase }, { on := 2, ground := Go.Ground.phase }, { on := 3, ground := Go.Ground.phase }, { on := 4, ground := Go.Ground.phase }, { on := 5, ground := Go.Ground.phase }, { on := 6, ground := Go.Ground.phase }, { on := 7, ground := Go.Ground.phase }, { on := 8, ground := Go.Ground.phase }, { on := 9, ground := Go.Ground.phase }, { on := 10, ground := Go.Ground.phase }, { on := 11, ground := Go.Ground.phase }, { on := 12, ground := Go.Ground.textOnly Go.Departure.lateStores }, { on := 13, ground := Go.Ground.phase }], guard := none }) rfl (fun K hK => ?_) AllReadyH.nil)
              · skip
                have k0 := row_cell (i := 0) hg90 rfl
                have f0 := row_frozen (i := 0) hg90
                have k1 := row_cell (i := 1) hg90 rfl
                have f1 := row_frozen (i := 1) hg90
                have k2 := row_cell (i := 2) hg90 rfl
                have f2 := row_frozen (i := 2) hg90
                have k3 := row_cell (i := 3) hg90 rfl
                have f3 := row_frozen (i := 3) hg90
                go_simp
                refine hK.out _ _ ((((Hm88.setCell hA68 _).setCell hA68 _).setCell hA68 _).setCell hA68 _) (fun Hm92 => ?_)
                clear hK K
                try simp only [Act.put, List.setIfInBounds_toArray, List.set_cons_zero, List.set_cons_succ]
                refine wpAnyH_take (i := 15) (oi := { dst := some 12, op := Go.Op.assign (Go.Operand.tmp 59), type := 24, pos := "law.go:115", after := #[{ on := 12, ground := Go.Ground.data }, { on := 14, ground := Go.Ground.chain }, { on := 0, ground := Go.Ground.phase }, { on := 1, ground := Go.Ground.phase }, { on := 2, ground := Go.Ground.phase }, { on := 3, ground := Go.Ground.phase }, { on := 4, ground := Go.Ground.phase }, { on := 5, ground := Go.Ground.phase }, { on := 6, ground := Go.Ground.phase }, { on := 7, ground := Go.Ground.phase }, { on := 8, ground := Go.Ground.phase }, { on := 9, ground := Go.Ground.phase }, { on := 10, ground := Go.Ground.phase }, { on := 11, ground := Go.Ground.phase }, { on := 12, ground := Go.Ground.phase }, { on := 13, ground := Go.Ground.phase }, { on := 14, ground := Go.Ground.phase }], guard := none }) (v := ?_) rfl (by kernel_rfl) (by kernel_rfl) (by kernel_rfl) (fun _ _ _ h => h) (Or.inl ⟨by rfl, ?_⟩) Hm92 ?_
                rotate_left
                focus (intro w' hSw; (try dsimp only at hSw); go_simp; (try with_reducible rfl))
                simp only [Act.put, List.setIfInBounds_toArray, List.set_cons_zero, List.set_cons_succ]
                refine wpAnyH_done (by kernel_rfl) ?_ _
                go_wp2_with fail
                go_meet
                exact ⟨_, rfl, rfl, ⟨by go_cell, by go_cell, by go_cell, by go_cell⟩, Lib.hid Hm92⟩
    · skip
      go_simp
      obtain ⟨wm93, hwm93⟩ : ∃ wz, wd.alloc (.cells #[.int .u64 0, .int .u64 0, .int .i64 0, .int .i64 0] 38) = wz := ⟨_, rfl⟩
      have hg95 : wm93.heap[wd.heap.size]? = some (.cells #[.int .u64 0, .int .u64 0, .int .i64 0, .int .i64 0] 38 (0, 0)) := by rw [← hwm93]; exact heap_alloc_last wd _
      have hb96 : Below wd.heap.size wd wm93 := by rw [← hwm93]; exact (Below.refl _ _).alloc (Nat.le_refl _) _
      have hA97 : we.heap.size ≤ wd.heap.size := H0.size
      rw [hwm93]
      refine hK.out _ _ (kbT H0 hb96) (fun Hm94 => ?_)
      clear hwm93
      clear hK K
      try simp only [Act.put, List.setIfInBounds_toArray, List.set_cons_zero, List.set_cons_succ]
      refine wpAnyH_ready (rs := [0]) (by kernel_rfl) (by simp) ?_
      refine (AllReadyH.cons (o := { dst := some 48, op := Go.Op.buildSlice 39 0 #[], type := 39, pos := "law.go:115", after := #[], guard := none }) rfl (fun K hK => ?_) AllReadyH.nil)
      · skip
        go_simp
        have hr100 := rowB_empty wm93
        obtain ⟨wm98, hwm98⟩ : ∃ wz, wm93.alloc (.cells #[] 5) = wz := ⟨_, rfl⟩
        rw [hwm98] at hr100 ⊢
        have hg101 := (hr100.2.block _ (Array.getElem?_eq_some_iff.1 hg95).1).trans hg95
        refine hK.out _ _ (kbT Hm94 hr100.2) (fun Hm99 => ?_)
        clear hwm98
        clear hK K
        try simp only [Act.put, List.setIfInBounds_toArray, List.set_cons_zero, List.set_cons_succ]
        refine wpAnyH_ready (rs := [4]) (by kernel_rfl) (by simp) ?_
        refine (AllReadyH.cons (o := { dst := some 52, op := Go.Op.call { callee := Go.Callee.builtin Go.Builtin.append, args := #[Go.Operand.tmp 48, Go.Operand.tmp 51], argTypes := #[39, 39] }, type := 39, pos := "law.go:115", after := #[{ on := 0, ground := Go.Ground.data }, { on := 3, ground := Go.Ground.data }], guard := none }) rfl (fun K hK => ?_) AllReadyH.nil)
        · skip
          refine step_append_bytes rfl (.tmp 48) (.tmp 51) rfl rfl hr100 HXL.out rfl (fun h => nomatch h) (bytesAt_below HXA.out Hm99) HX0.out ?_
          intro v106 wm102 hr104 hgr105
          have hg107 := keepA hr100 hg101 hgr105
          rw [List.nil_append] at hr104
          refine hK.out _ _ (kbT Hm94 hr104.2) (fun Hm103 => ?_)
          clear hK K
          try simp only [Act.put, List.setIfInBounds_toArray, List.set_cons_zero, List.set_cons_succ]
          refine wpAnyH_ready (rs := [8]) (by kernel_rfl) (by simp) ?_
          refine (AllReadyH.cons (o := { dst := some 56, op := Go.Op.call { callee := Go.Callee.builtin Go.Builtin.append, args := #[Go.Operand.tmp 52, Go.Operand.tmp 55], argTypes := #[39, 39] }, type := 39, pos := "law.go:115", after := #[{ on := 4, ground := Go.Ground.data }, { on := 7, ground := Go.Ground.data }, { on := 4, ground := Go.Ground.chain }], guard := none }) rfl (fun K hK => ?_) AllReadyH.nil)
          · skip
            refine step_append_bytes rfl (.tmp 52) (.tmp 55) rfl rfl hr104 HYL.out rfl hqn (bytesAt_below HYB.out Hm103) HSUM.out ?_
            intro v112 wm108 hr110 hgr111
            have hg113 := keepA hr104 hg107 hgr111
            rw [← HT.out] at hr110
            refine hK.out _ _ (kbT Hm94 hr110.2) (fun Hm109 => ?_)
            obtain ⟨p114, c115, rfl, hcp116, hcm117, hby118, -⟩ := hr110.at2
            clear hK K
            try simp only [Act.put, List.setIfInBounds_toArray, List.set_cons_zero, List.set_cons_succ]
            refine wpAnyH_ready (rs := [9]) (by kernel_rfl) (by simp) ?_
            refine (AllReadyH.cons (o := { dst := some 57, op := Go.Op.call { callee := Go.Callee.value (Go.Operand.func 21), args := #[Go.Operand.tmp 56], argTypes := #[39] }, type := 44, pos := "law.go:115", after := #[{ on := 8, ground := Go.Ground.data }, { on := 8, ground := Go.Ground.chain }], guard := none }) rfl (fun K hK => ?_) AllReadyH.nil)
            · skip
              go_simp
              (go_at_call 21; (refine (CD.out p114 c115 wm108 hcp116 (by unfold maxLen at hcm117; omega) (hr110.bytes)).mono ?_); rintro e wm119 ⟨rfl, hb121⟩)
              try go_wp2_with fail
              have hg122 := (hb121.block _ (Array.getElem?_eq_some_iff.1 hg113).1).trans hg113
              refine hK.out _ _ (kbT Hm109 hb121) (fun Hm120 => ?_)
              clear hK K
              try simp only [Act.put, List.setIfInBounds_toArray, List.set_cons_zero, List.set_cons_succ]
              refine wpAnyH_take (i := 10) (oi := { dst := some 47, op := Go.Op.move (Go.Operand.tmp 57), type := 44, pos := "law.go:115", after := #[{ on := 9, ground := Go.Ground.data }], guard := none }) (v := ?_) rfl (by kernel_rfl) (by kernel_rfl) (by kernel_rfl) (fun _ _ _ h => h) (Or.inl ⟨by rfl, ?_⟩) Hm120 ?_
              rotate_left
              focus (intro w' hSw; (try dsimp only at hSw); go_simp; (try with_reducible rfl))
              simp only [Act.put, List.setIfInBounds_toArray, List.set_cons_zero, List.set_cons_succ]
              refine wpAnyH_take (i := 11) (oi := { dst := some 58, op := Go.Op.extract (Go.Operand.tmp 47) 0, type := 38, pos := "law.go:115", after := #[{ on := 10, ground := Go.Ground.data }], guard := none }) (v := ?_) rfl (by kernel_rfl) (by kernel_rfl) (by kernel_rfl) (fun _ _ _ h => h) (Or.inl ⟨by rfl, ?_⟩) Hm120 ?_
              rotate_left
              focus (intro w' hSw; (try dsimp only at hSw); go_simp; (try with_reducible rfl))
              simp only [Act.put, List.setIfInBounds_toArray, List.set_cons_zero, List.set_cons_succ]
              refine wpAnyH_take (i := 12) (oi := { dst := some 59, op := Go.Op.extract (Go.Operand.tmp 47) 1, type := 24, pos := "law.go:115", after := #[{ on := 10, ground := Go.Ground.data }, { on := 14, ground := Go.Ground.gcOnly Go.Departure.lateStores }], guard := none }) (v := ?_) rfl (by kernel_rfl) (by kernel_rfl) (by kernel_rfl) (fun _ _ _ h => h) (Or.inl ⟨by rfl, ?_⟩) Hm120 ?_
              rotate_left
              focus (intro w' hSw; (try dsimp only at hSw); go_simp; (try with_reducible rfl))
              simp only [Act.put, List.setIfInBounds_toArray, List.set_cons_zero, List.set_cons_succ]
              refine wpAnyH_ready (rs := [14]) (by kernel_rfl) (by simp) ?_
              refine (AllReadyH.cons (o := { dst := none, op := Go.Op.store 38 (Go.Operand.tmp 11) (Go.Operand.tmp 58), type := 0, pos := "law.go:115", after := #[{ on := 13, ground := Go.Ground.data }, { on := 11, ground := Go.Ground.data }, { on := 9, ground := Go.Ground.chain }, { on := 0, ground := Go.Ground.phase }, { on := 1, ground := Go.Ground.phase }, { on := 2, ground := Go.Ground.phase }, { on := 3, ground := Go.Ground.phase }, { on := 4, ground := Go.Ground.phase }, { on := 5, ground := Go.Ground.phase }, { on := 6, ground := Go.Ground.phase }, { on := 7, ground := Go.Ground.phase }, { on := 8, ground := Go.Ground.phase }, { on := 9, ground := Go.Ground.phase }, { on := 10, ground := Go.Ground.phase }, { on := 11, ground := Go.Ground.phase }, { on := 12, ground := Go.Ground.textOnly Go.Departure.lateStores }, { on := 13, ground := Go.Ground.phase }], guard := none }) rfl (fun K hK => ?_) AllReadyH.nil)
              · skip
                have k0 := row_cell (i := 0) hg122 rfl
                have f0 := row_frozen (i := 0) hg122
                have k1 := row_cell (i := 1) hg122 rfl
                have f1 := row_frozen (i := 1) hg122
                have k2 := row_cell (i := 2) hg122 rfl
                have f2 := row_frozen (i := 2) hg122
                have k3 := row_cell (i := 3) hg122 rfl
                have f3 := row_frozen (i := 3) hg122
                go_simp
                refine hK.out _ _ ((((Hm120.setCell hA97 _).setCell hA97 _).setCell hA97 _).setCell hA97 _) (fun Hm124 => ?_)
                clear hK K
                try simp only [Act.put, List.setIfInBounds_toArray, List.set_cons_zero, List.set_cons_succ]
                refine wpAnyH_take (i := 15) (oi := { dst := some 12, op := Go.Op.assign (Go.Operand.tmp 59), type := 24, pos := "law.go:115", after := #[{ on := 12, ground := Go.Ground.data }, { on := 14, ground := Go.Ground.chain }, { on := 0, ground := Go.Ground.phase }, { on := 1, ground := Go.Ground.phase }, { on := 2, ground := Go.Ground.phase }, { on := 3, ground := Go.Ground.phase }, { on := 4, ground := Go.Ground.phase }, { on := 5, ground := Go.Ground.phase }, { on := 6, ground := Go.Ground.phase }, { on := 7, ground := Go.Ground.phase }, { on := 8, ground := Go.Ground.phase }, { on := 9, ground := Go.Ground.phase }, { on := 10, ground := Go.Ground.phase }, { on := 11, ground := Go.Ground.phase }, { on := 12, ground := Go.Ground.phase }, { on := 13, ground := Go.Ground.phase }, { on := 14, ground := Go.Ground.phase }], guard := none }) (v := ?_) rfl (by kernel_rfl) (by kernel_rfl) (by kernel_rfl) (fun _ _ _ h => h) (Or.inl ⟨by rfl, ?_⟩) Hm124 ?_
                rotate_left
                focus (intro w' hSw; (try dsimp only at hSw); go_simp; (try with_reducible rfl))
                simp only [Act.put, List.setIfInBounds_toArray, List.set_cons_zero, List.set_cons_succ]
                refine wpAnyH_done (by kernel_rfl) ?_ _
                go_wp2_with fail
                go_meet
                exact ⟨_, rfl, rfl, ⟨by go_cell, by go_cell, by go_cell, by go_cell⟩, Lib.hid Hm124⟩
  case rest =>
    obtain ⟨A, rfl, rfl, ⟨a0, a1, a2, a3⟩, HBW⟩ := hcut
    have HBW2 := Lib.hid (kbT B2.out HBW.out)
    obtain ⟨⟨c0, c1, c2, c3⟩, d0, d1, d2, d3⟩ := HC.out
    have c0 := (HBW.out.cell (lt_of_cell_some c0)).trans c0
    have c1 := (HBW.out.cell (lt_of_cell_some c1)).trans c1
    have c2 := (HBW.out.cell (lt_of_cell_some c2)).trans c2
    have c3 := (HBW.out.cell (lt_of_cell_some c3)).trans c3
    have d0 := (HBW.out.cell (lt_of_cell_some d0)).trans d0
    have d1 := (HBW.out.cell (lt_of_cell_some d1)).trans d1
    have d2 := (HBW.out.cell (lt_of_cell_some d2)).trans d2
    have d3 := (HBW.out.cell (lt_of_cell_some d3)).trans d3
    have q1 := fun w => eq38 x1 x2 x3 x4 S E n c w
    have q2 := fun w => eq38 x1 x2 x3 x4 S' E' n' c' w
    have g1 := fun x y w => eqg38 x y x1 x2 x3 x4 S E n c w
    have g2 := fun x y w => eqg38 x y x1 x2 x3 x4 S' E' n' c' w
    rcases HRES.out with hX | ⟨hX, hY⟩
    · subst hX
      go_wp2_with (first
        | (go_at_call 13; refine (NM.out _ _).mono ?_; rintro e wn ⟨rfl, rfl⟩)
        | (go_at_call 15; refine (WKS.out _).mono ?_; rintro e wz ⟨rfl, hbz⟩))
      go_ret
      exact ⟨rfl, kbT HBW2.out hbz⟩
    · subst hX
      by_cases hY1 : x1 = S ∧ x2 = E ∧ x3 = n ∧ x4 = c
      · rw [decide_eq_true hY1] at q1
        clear hY hY1 q2 g2
        go_wp2_with (first
          | (go_at_call 13; refine (NM.out _ _).mono ?_; rintro e wn ⟨rfl, rfl⟩)
          | (go_at_call 15; refine (WKS.out _).mono ?_; rintro e wz ⟨rfl, hbz⟩))
        go_ret
        exact ⟨rfl, kbT HBW2.out hbz⟩
      · have hY2 := hY.resolve_left hY1
        rw [decide_eq_false hY1] at q1
        rw [decide_eq_true hY2] at q2
        clear hY hY1 hY2
        go_wp2_with (first
          | (go_at_call 13; refine (NM.out _ _).mono ?_; rintro e wn ⟨rfl, rfl⟩)
          | (go_at_call 15; refine (WKS.out _).mono ?_; rintro e wz ⟨rfl, hbz⟩))
        go_ret
        exact ⟨rfl, kbT HBW2.out hbz⟩
end Go.Proofs.Ythnllhfdbnnjhaa
