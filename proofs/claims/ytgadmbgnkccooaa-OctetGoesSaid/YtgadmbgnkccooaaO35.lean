import Derived.Test.YtgadmbgnkccooaaO34
import Derived.LoopNIn
namespace Go.Proofs.Ytgadmbgnkccooaa
open Go.RowKit Go.Shelf
attribute [local go_sem] Oper.semAt_some

/-- What the three variables of a turn hold. -/
structure TurnAt (W : World) (N : Nat) (t a n : Int) : Prop where
  ct : W.cell? ⟨N, 0, none⟩ = some (.int .i64 t)
  ft : W.frozen? ⟨N, 0, none⟩ = false
  ca : W.cell? ⟨N + 1, 0, none⟩ = some (.int .i64 a)
  fa : W.frozen? ⟨N + 1, 0, none⟩ = false
  cn : W.cell? ⟨N + 2, 0, none⟩ = some (.int .i64 n)
  fn : W.frozen? ⟨N + 2, 0, none⟩ = false
theorem TurnAt.own {β : Type} {N : Nat} {t : Int} {a n : β → Int} : Own (fun (s : β) W => TurnAt W N t (a s) (n s)) :=
  fun _ A B row hs hg hr => ⟨cell_kept hs.ct hg hr, (frozen_kept hs.ct hg hr).trans hs.ft, cell_kept hs.ca hg hr, (frozen_kept hs.ca hg hr).trans hs.fa, cell_kept hs.cn hg hr, (frozen_kept hs.cn hg hr).trans hs.fn⟩
theorem TurnAt.set {W : World} {N : Nat} {t a n : Int} (h : TurnAt W N t a n) (q : Nat) (hq : N + 2 < q) (v : Value) : TurnAt (W.setCell ⟨q, 0, none⟩ v) N t a n :=
  ⟨(World.cell?_setCell_other _ _ _ _ (by simp <;> omega)).trans h.ct, (World.frozen?_setCell _ _ _ _).trans h.ft, (World.cell?_setCell_other _ _ _ _ (by simp <;> omega)).trans h.ca, (World.frozen?_setCell _ _ _ _).trans h.fa, (World.cell?_setCell_other _ _ _ _ (by simp <;> omega)).trans h.cn, (World.frozen?_setCell _ _ _ _).trans h.fn⟩
theorem KpS.set {S : Nat → Prop} (W : World) (g : Nat) (hg : ¬ S g) (v : Value) : KpS S W (W.setCell ⟨g, 0, none⟩ v) :=
  ⟨by simp [World.setCell], fun k o hk h _ => (Below.heap_setCell W ⟨g, 0, none⟩ v k (fun e => hg (by rw [← show k = g from e]; exact hk))).trans h⟩
theorem numsA_next {f a : Nat} {l : List Nat} {x : Nat × Nat} {r : List (Nat × Nat)} (h : numsA f a l = x :: r) : (readE l).2.2 = 0 ∧ x = (a, (readE l).1) ∧ ∃ f', f = f' + 1 ∧ r = numsA f' (a + (readE l).2.1) (l.drop (readE l).2.1) := by
  cases f with
  | zero => cases h
  | succ f =>
    by_cases he : (readE l).2.2 = 0
    · rw [numsA_some he] at h
      injection h with h1 h2
      exact ⟨he, h1.symm, f, rfl, h2.symm⟩
    · rw [numsA_none he] at h
      cases h
/-- How far a turn has come. -/
def Far (l : List Nat) (pre : List (Nat × Nat)) (a f : Nat) : Prop := a ≤ l.length ∧ l.length - a ≤ f ∧ pre ++ numsA f a (l.drop a) = numsE l
theorem far_start (l : List Nat) : Far l [] 0 l.length := ⟨Nat.zero_le _, Nat.le_refl _, rfl⟩
theorem far_next {l : List Nat} {pre : List (Nat × Nat)} {a f : Nat} {x : Nat × Nat} (hb : ∀ b ∈ l, b < 256) (h : Far l pre a f) (hs : pre ++ [x] <+: numsE l) :
    (readE (l.drop a)).2.2 = 0 ∧ x = (a, (readE (l.drop a)).1) ∧ a < l.length ∧ a + (readE (l.drop a)).2.1 ≤ l.length ∧ ∃ f', Far l (pre ++ [x]) (a + (readE (l.drop a)).2.1) f' := by
  obtain ⟨h1, h2, h3⟩ := h
  obtain ⟨r, hr⟩ := hs
  rw [← h3, List.append_assoc, List.append_cancel_left_eq] at hr
  obtain ⟨he, hx, f', hf, hr'⟩ := numsA_next hr.symm
  have hk := (readE_range (l.drop a) (fun b h => hb b (List.mem_of_mem_drop h))).resolve_right (fun h => by rw [h] at he; simp at he)
  rw [List.length_drop] at hk
  refine ⟨he, hx, by omega, by omega, f', by omega, by omega, ?_⟩
  have e : [x] ++ numsA f' (a + (readE (l.drop a)).2.1) (l.drop (a + (readE (l.drop a)).2.1)) = numsA f a (l.drop a) := by rw [← List.drop_drop, ← hr']; exact hr
  rw [List.append_assoc, e]
  exact h3
theorem far_end {l : List Nat} {a f : Nat} (hb : ∀ b ∈ l, b < 256) (h : Far l (numsE l) a f) (ha : a < l.length) : readE (l.drop a) = (0, 0, 130) := by
  obtain ⟨h1, h2, h3⟩ := h
  have h4 : numsA f a (l.drop a) = [] := by
    have := congrArg List.length h3
    rw [List.length_append] at this
    exact List.eq_nil_of_length_eq_zero (by omega)
  rcases readE_range (l.drop a) (fun b h => hb b (List.mem_of_mem_drop h)) with hr | hr
  · have he := hr.1
    have : f = f - 1 + 1 := by omega
    rw [this, numsA_some he] at h4
    cases h4
  · exact hr
set_option maxRecDepth 100000 in
theorem nil_seq (bb : Nat) (w : World) : (binOp .eql 43 (.func (.func 40) #[] #[.pointer (some ⟨bb, 0, none⟩)]) .nilFunc).run Try.prog w = .ok (.bool false) w := by rfl
set_option maxRecDepth 100000 in
theorem nilg_seq (bb : Nat) (w : World) : (eqGuard .eql 43 (.tmp 23) (.const .nilFunc) (.func (.func 40) #[] #[.pointer (some ⟨bb, 0, none⟩)]) .nilFunc).run Try.prog w = .ok () w := by rfl
set_option maxRecDepth 100000 in
set_option maxHeartbeats 1000000 in
theorem goes_long (l : List Nat) (p : Option Addr) (cap : Nat) (m : Int) (w : World) (h200 : 200 < l.length) :
    Calls Try.prog 4 #[.slice p l.length cap, .int .i64 m] w fun r w' => r = .returned (.bool true) ∧ Below w.heap.size w w' := by
  go_enter Try.func4, Try.ntmps4
  go_wp2_with (go_at_call 7; refine (works_any _).mono ?_; rintro e w' ⟨rfl, hb⟩; have c1 := (hb.cell (p := ⟨w.heap.size + 2, 0, none⟩) (by simp)).trans (show _ = some (Value.bool false) by go_cell); have f1 := (hb.frozen (p := ⟨w.heap.size + 2, 0, none⟩) (by simp)).trans (show _ = false by go_simp))
  have hb1 : Below w.heap.size w w' := (((((Below.refl _ _).alloc (Nat.le_refl _) _).alloc (by simp) _).alloc (by simp; omega) _).trans (hb.mono (by simp; omega)))
  have hs := hb.size
  simp only [World.size_alloc] at hs
  refine bodyPost_ret (v := .bool true) ?_ rfl ⟨rfl, hb1.setCell (by simp <;> omega) _⟩
  simp [results, Try.f4, go_sem, c1]
set_option maxRecDepth 100000 in
set_option maxHeartbeats 8000000 in
theorem octetGoes_any (l : List Nat) (p : Option Addr) (cap : Nat) (m : Int) (w : World) (hcap : l.length ≤ cap) (hm : cap ≤ 9223372036854775807) (hb : ∀ b ∈ l, b < 256) (hc : Hid (BytesAt w p l)) :
    Calls Try.prog 4 #[.slice p l.length cap, .int .i64 m] w fun r w' => r = .returned (.bool true) ∧ Below w.heap.size w w' := by
  by_cases h200 : 200 < l.length
  · exact goes_long l p cap m w h200
  have hl : l.length ≤ 200 := by omega
  clear h200
  have HB := Lib.hid hb
  clear hb
  have hn : ∀ (b : Nat) (w : World), _ := nil_seq
  have hng : ∀ (b : Nat) (w : World), _ := nilg_seq
  refine (callsIn_wide (n := 5)).1 ?_
  refine callsIn_of_wp_marks Try.func4 rfl trivial ?_ rfl
  simp only [Try.ntmps4, List.size_toArray, List.length_cons, List.length_nil, Nat.reduceAdd, Nat.reduceSub, Array.replicate_succ, Array.replicate_zero, List.push_toArray, List.append_toArray, List.nil_append, List.cons_append]
  refine wpIn_wide.2 ?_
  go_wp2_with fail
  have B0 : Below w.heap.size w (((w.alloc (.cells #[.slice p l.length cap] 23)).alloc (.cells #[.int .i64 m] 3)).alloc (.cells #[.bool false] 4)) := (((Below.refl _ _).alloc (Nat.le_refl _) _).alloc (by simp) _).alloc (by simp; omega) _
  refine (Numbers_any l p cap _ (by omega) (bytesAt_below hc.out B0)).mono ?_
  rintro e w2 ⟨bb, q, c, rfl, hN⟩
  have d0 := (hN.below.cell (p := ⟨w.heap.size, 0, none⟩) (by simp; omega)).trans (show _ = some (Value.slice p l.length cap) by go_cell)
  have d1 := (hN.below.cell (p := ⟨w.heap.size + 1, 0, none⟩) (by simp)).trans (show _ = some (Value.int .i64 m) by go_cell)
  have d2 := (hN.below.cell (p := ⟨w.heap.size + 2, 0, none⟩) (by simp)).trans (show _ = some (Value.bool false) by go_cell)
  have d3 := (hN.below.frozen (p := ⟨w.heap.size + 2, 0, none⟩) (by simp)).trans (show _ = false by go_simp)
  have hB2 : Below w.heap.size w w2 := B0.trans (hN.below.mono (by simp; omega))
  have hs2 : w.heap.size + 3 ≤ bb := by have := hN.new; simpa using this
  have HN := Lib.hid hN
  have HB2 := Lib.hid hB2
  have hbb := hN.lt
  clear hN hB2 B0
  go_wp2_with fail
  refine (wpIn_wide (n := 5)).1 ?_
  refine wpIn_loop_rounds 3 ?_
  rw [roundsIn_succ]
  gi_wp2
  generalize hW0 : ((w2.alloc (.cells #[.int .i64 0] 3)).alloc (.cells #[.int .i64 0] 3)).alloc (.cells #[.int .i64 0] 3) = W0
  have T0 : TurnAt W0 w2.heap.size 0 0 0 := by subst hW0; constructor <;> first | go_cell | go_simp
  have S0 : W0.heap.size = w2.heap.size + 3 := by subst hW0; simp
  have B0 : Below w2.heap.size w2 W0 := by subst hW0; exact (((Below.refl _ _).alloc (Nat.le_refl _) _).alloc (by simp) _).alloc (by simp; omega) _
  clear hW0
  have HNs := HN
  refine range_norm 2 (fun D W => (∃ a n, TurnAt W w2.heap.size 0 a n) ∧ W.heap[D]? = some (.deferred (some [])) ∧ w2.heap.size + 3 ≤ D ∧ Below w2.heap.size w2 W) (fun _ _ h => h) ?_ ?_
  · refine' range_own (n := 5) rfl (by decide) (gf := 40) (lb := #[.pointer (some ⟨bb, 0, none⟩)]) rfl trivial (enters_of Try.func40 (by kernel_rfl) rfl)
      (numbers_own (5 - 1) (by decide) l q c bb W0 (by omega) HN.out.cap HN.out.max HB.out (by omega) ((B0.cell (p := ⟨bb, 0, none⟩) hbb).trans HN.out.cell) (bytesAt_below HN.out.bytes B0)) KpS.trans (fun W l o o' _ h hc _ => KpS.put W l o o' h hc) (Below.refl _ _) (fun _ => rfl)
      (fun pre W => (∃ a f, Far l pre a f ∧ TurnAt W w2.heap.size 0 (a : Nat) (pre.length : Nat)) ∧ Below w2.heap.size w2 W)
      (fun c pre W => (c = .exit 2 ∧ ∃ a n, TurnAt W w2.heap.size 0 a n) ∧ Below w2.heap.size w2 W)
      (fun s A C row hs hg hr => ⟨by obtain ⟨a, f, h1, h2⟩ := hs.1; exact ⟨a, f, h1, Own.from (TurnAt.own (β := Unit) (a := fun _ => (a : Nat)) (n := fun _ => (s.length : Nat))) _ () A C row h2 hg hr⟩, ownFrom_below (β := Unit) (Nat.le_refl _) (by omega) () A C row hs.2 hg hr⟩)
      (fun c s A C row hs hg hr => ⟨⟨hs.1.1, by obtain ⟨a, n, h2⟩ := hs.1.2; exact ⟨a, n, Own.from (TurnAt.own (β := Unit) (a := fun _ => a) (n := fun _ => n)) _ () A C row h2 hg hr⟩⟩, ownFrom_below (β := Unit) (Nat.le_refl _) (by omega) () A C row hs.2 hg hr⟩)
      (fun s A v h => ⟨by obtain ⟨a, f, h1, h2⟩ := h.1; exact ⟨a, f, h1, h2.set _ (by omega) v⟩, h.2.setCell (by show w2.heap.size ≤ W0.heap.size + 2; omega) v⟩)
      (fun c s A v h => ⟨⟨h.1.1, by obtain ⟨a, n, h2⟩ := h.1.2; exact ⟨a, n, h2.set _ (by omega) v⟩⟩, h.2.setCell (by show w2.heap.size ≤ W0.heap.size + 2; omega) v⟩)
      ⟨⟨0, l.length, far_start l, T0⟩, B0⟩ _ ?assign ?body ?done ?stop
    case assign =>
      intro ly x W K hK
      gi_wp2
      exact hK
    case body =>
      rintro ly pre x W ⟨⟨a, f, hF, y⟩, hB1⟩ hlen hsp
      obtain ⟨he, rfl, hal, hak, f', hF'⟩ := far_next HB.out hF hsp
      have hbp : Below w.heap.size w W := HB2.out.trans (hB1.mono HB2.out.size)
      obtain ⟨B, off, rfl, -⟩ := hc.out 0 (by omega)
      have RF := refReadNumber_any (l.drop a) (some ⟨B, off + a, none⟩) (cap - a) W (by rw [List.length_drop]; omega) (fun b h => HB.out b (List.mem_of_mem_drop h)) (Lib.hid (by have := bytesAt_from (bytesAt_below hc.out hbp) a; rw [Option.map_some, addr_plain] at this; exact this))
      rw [List.length_drop, he] at RF
      have HRF := Lib.hid RF
      have e0 := (hB1.cell (p := ⟨w.heap.size, 0, none⟩) (by show w.heap.size < w2.heap.size; omega)).trans d0
      have e1 := (hB1.cell (p := ⟨w.heap.size + 1, 0, none⟩) (by show w.heap.size + 1 < w2.heap.size; omega)).trans d1
      have hca : ¬ cap = a := by omega
      have hlq : 0 < l.length := by omega
      have nS1 : ¬ ReadB W0.heap.size bb q (w2.heap.size + 1) := by
        rintro (h | h | ⟨o2, h⟩)
        · omega
        · omega
        · have := (HN.out.own _ _ h).2 hlq; omega
      have nS2 : ¬ ReadB W0.heap.size bb q (w2.heap.size + 2) := by
        rintro (h | h | ⟨o2, h⟩)
        · omega
        · omega
        · have := (HN.out.own _ _ h).2 hlq; omega
      have HK : Hid (∀ v1 v2, KpS (ReadB W0.heap.size bb q) W ((W.setCell ⟨w2.heap.size + 1, 0, none⟩ v1).setCell ⟨w2.heap.size + 2, 0, none⟩ v2)) := Lib.hid fun v1 v2 => (KpS.set W _ nS1 v1).trans (KpS.set _ _ nS2 v2)
      have HBB : Hid (∀ v1 v2, Below w2.heap.size w2 ((W.setCell ⟨w2.heap.size + 1, 0, none⟩ v1).setCell ⟨w2.heap.size + 2, 0, none⟩ v2)) := Lib.hid fun v1 v2 => (hB1.setCell (p := ⟨w2.heap.size + 1, 0, none⟩) (by simp) v1).setCell (p := ⟨w2.heap.size + 2, 0, none⟩) (by simp) v2
      have HF' := Lib.hid hF'
      have hln : (pre ++ [(a, (readE (l.drop a)).1)]).length = pre.length + 1 := by simp
      have hRg := (readE_range (l.drop a) (fun b h => HB.out b (List.mem_of_mem_drop h))).resolve_right (fun h => by rw [h] at he; simp at he)
      obtain ⟨-, hR64, hR0, -, hR10⟩ := hRg
      have HLN := Lib.hid hln
      have hpl : pre.length < 100000 := by
        have := numsA_length l.length 0 l
        unfold numsE at hlen
        omega
      clear RF nS1 nS2 hF hF' hsp hlen hbp he hln
      obtain ⟨ct, ft, ca, fa, cn, fn⟩ := y
      generalize hr1 : (readE (l.drop a)).1 = X at *
      generalize hr2 : (readE (l.drop a)).2.1 = k at *
      clear hr1 hr2
      generalize hpn : pre.length = P at *
      clear hpn
      gi_wp2_with (refine ⟨trivial, ?_⟩; gi_at_call 10; refine (CallsIn.inRound ly (callsIn_wide.2 HRF.out)).mono ?_; rintro e w' ⟨rfl, rfl⟩)
      all_goals
        have TT : TurnAt ((W.setCell ⟨w2.heap.size + 1, 0, none⟩ (.int .i64 ((a : Int) + (k : Int)))).setCell ⟨w2.heap.size + 2, 0, none⟩ (.int .i64 ((P : Int) + 1))) w2.heap.size 0 ((a : Int) + (k : Int)) ((P : Int) + 1) := by constructor <;> first | go_cell | go_simp
        have KO := ((KeepsOthers.setCell W ⟨w2.heap.size + 1, 0, none⟩ (.int .i64 ((a : Int) + (k : Int)))).trans (KeepsOthers.setCell _ ⟨w2.heap.size + 2, 0, none⟩ (.int .i64 ((P : Int) + 1))))
      · exact ⟨KO.from _, ⟨rfl, _, _, TT⟩, HBB.out _ _⟩
      · exact ⟨KO.from _, HK.out _ _, ⟨a + k, f', HF'.out, by rw [HLN.out]; push_cast; exact TT⟩, HBB.out _ _⟩
    case done =>
      rintro D ys W hD rfl ⟨⟨a, f, hF, y⟩, hB1⟩ hK
      exact ⟨.inl rfl, D, rfl, ⟨_, _, y⟩, hK, by omega, hB1⟩
    case stop =>
      rintro D c pre W hD hsp ⟨⟨rfl, a, n, y⟩, hB1⟩ hK
      exact wpIn_exit ⟨.inr rfl, D, rfl, ⟨a, n, y⟩, hK, by omega, hB1⟩
  · rintro D1 W1 ⟨⟨a1, n1, y⟩, hD1, hS1, hB1⟩
    clear T0 S0 B0
    obtain ⟨ct, ft, ca, fa, cn, fn⟩ := y
    have hw1 := hB1.size
    have e0 := (hB1.cell (p := ⟨w.heap.size, 0, none⟩) (by show w.heap.size < w2.heap.size; omega)).trans d0
    have e1 := (hB1.cell (p := ⟨w.heap.size + 1, 0, none⟩) (by show w.heap.size + 1 < w2.heap.size; omega)).trans d1
    have hlD : D1 < W1.heap.size := (Array.getElem?_eq_some_iff.1 hD1).1
    gi_wp2
    rw [roundsIn_succ]
    gi_wp2
    generalize hWR : ((W1.alloc (.cells #[.int .i64 1] 3)).alloc (.cells #[.int .i64 0] 3)).alloc (.cells #[.int .i64 0] 3) = WR
    have T0 : TurnAt WR W1.heap.size 1 0 0 := by subst hWR; constructor <;> first | go_cell | go_simp
    have S0 : WR.heap.size = W1.heap.size + 3 := by subst hWR; simp
    have B0' : Below W1.heap.size W1 WR := by subst hWR; exact (((Below.refl _ _).alloc (Nat.le_refl _) _).alloc (by simp) _).alloc (by simp; omega) _
    have B0 : Below w2.heap.size w2 WR := hB1.trans (B0'.mono hw1)
    have M0 : WR.heap[D1]? = some (.deferred (some [])) := (B0'.block D1 hlD).trans hD1
    clear hWR ct ft ca fa cn fn e0 e1 B0' hB1 hD1
    refine range_norm 2 (fun D W => (∃ a n, a ≤ l.length ∧ (a < l.length → readE (l.drop a) = (0, 0, 130)) ∧ TurnAt W W1.heap.size 1 (a : Nat) n) ∧ W.heap[D]? = some (.deferred (some [])) ∧ W.heap[D1]? = some (.deferred (some [])) ∧ W1.heap.size + 3 ≤ D ∧ Below w2.heap.size w2 W) (fun _ _ h => h) ?_ ?_
    · refine' range_own (n := 5) rfl (by decide) (gf := 40) (lb := #[.pointer (some ⟨bb, 0, none⟩)]) rfl trivial (enters_of Try.func40 (by kernel_rfl) rfl)
        (numbers_own (5 - 1) (by decide) l q c bb WR (by omega) HN.out.cap HN.out.max HB.out (by omega) ((B0.cell (p := ⟨bb, 0, none⟩) hbb).trans HN.out.cell) (bytesAt_below HN.out.bytes B0)) KpS.trans (fun W l o o' _ h hc _ => KpS.put W l o o' h hc) (Below.refl _ _) (fun _ => rfl)
        (fun pre W => (∃ a f, Far l pre a f ∧ TurnAt W W1.heap.size 1 (a : Nat) (pre.length : Nat)) ∧ Below w2.heap.size w2 W ∧ W.heap[D1]? = some (.deferred (some [])))
        (fun c pre W => False)
        (fun s A C row hs hg hr => ⟨by obtain ⟨a, f, h1, h2⟩ := hs.1; exact ⟨a, f, h1, Own.from (TurnAt.own (β := Unit) (a := fun _ => (a : Nat)) (n := fun _ => (s.length : Nat))) _ () A C row h2 hg hr⟩, ownFrom_below (β := Unit) (Nat.le_refl _) (by omega) () A C row hs.2.1 hg hr, ownFrom_mark (β := Unit) (by omega) () A C row hs.2.2 hg hr⟩)
        (fun c s A C row hs hg hr => hs)
        (fun s A v h => ⟨by obtain ⟨a, f, h1, h2⟩ := h.1; exact ⟨a, f, h1, h2.set _ (by omega) v⟩, h.2.1.setCell (by show w2.heap.size ≤ WR.heap.size + 2; omega) v, (KeepsOthers.setCell _ _ _).same _ _ h.2.2 rfl⟩)
        (fun c s A v h => h)
        ⟨⟨0, l.length, far_start l, T0⟩, B0, M0⟩ _ ?assign2 ?body2 ?done2 ?stop2
      case assign2 =>
        intro ly x W K hK
        gi_wp2
        exact hK
      case body2 =>
        rintro ly pre x W ⟨⟨a, f, hF, y⟩, hB1, hM1⟩ hlen hsp
        obtain ⟨he, rfl, hal, hak, f', hF'⟩ := far_next HB.out hF hsp
        have hbp : Below w.heap.size w W := HB2.out.trans (hB1.mono HB2.out.size)
        obtain ⟨B, off, rfl, -⟩ := hc.out 0 (by omega)
        have RF := refReadNumber_any (l.drop a) (some ⟨B, off + a, none⟩) (cap - a) W (by rw [List.length_drop]; omega) (fun b h => HB.out b (List.mem_of_mem_drop h)) (Lib.hid (by have := bytesAt_from (bytesAt_below hc.out hbp) a; rw [Option.map_some, addr_plain] at this; exact this))
        rw [List.length_drop, he] at RF
        have HRF := Lib.hid RF
        have e0 := (hB1.cell (p := ⟨w.heap.size, 0, none⟩) (by show w.heap.size < w2.heap.size; omega)).trans d0
        have e1 := (hB1.cell (p := ⟨w.heap.size + 1, 0, none⟩) (by show w.heap.size + 1 < w2.heap.size; omega)).trans d1
        have hca : ¬ cap = a := by omega
        have hlq : 0 < l.length := by omega
        have nS1 : ¬ ReadB WR.heap.size bb q (W1.heap.size + 1) := by
          rintro (h | h | ⟨o2, h⟩)
          · omega
          · omega
          · have := (HN.out.own _ _ h).2 hlq; omega
        have nS2 : ¬ ReadB WR.heap.size bb q (W1.heap.size + 2) := by
          rintro (h | h | ⟨o2, h⟩)
          · omega
          · omega
          · have := (HN.out.own _ _ h).2 hlq; omega
        have HK : Hid (∀ v1 v2, KpS (ReadB WR.heap.size bb q) W ((W.setCell ⟨W1.heap.size + 1, 0, none⟩ v1).setCell ⟨W1.heap.size + 2, 0, none⟩ v2)) := Lib.hid fun v1 v2 => (KpS.set W _ nS1 v1).trans (KpS.set _ _ nS2 v2)
        have HBB : Hid (∀ v1 v2, Below w2.heap.size w2 ((W.setCell ⟨W1.heap.size + 1, 0, none⟩ v1).setCell ⟨W1.heap.size + 2, 0, none⟩ v2)) := Lib.hid fun v1 v2 => (hB1.setCell (p := ⟨W1.heap.size + 1, 0, none⟩) (by show w2.heap.size ≤ W1.heap.size + 1; omega) v1).setCell (p := ⟨W1.heap.size + 2, 0, none⟩) (by show w2.heap.size ≤ W1.heap.size + 2; omega) v2
        have HF' := Lib.hid hF'
        have hln : (pre ++ [(a, (readE (l.drop a)).1)]).length = pre.length + 1 := by simp
        have hRg := (readE_range (l.drop a) (fun b h => HB.out b (List.mem_of_mem_drop h))).resolve_right (fun h => by rw [h] at he; simp at he)
        obtain ⟨-, hR64, hR0, -, hR10⟩ := hRg
        have HLN := Lib.hid hln
        have hpl : pre.length < 100000 := by
          have := numsA_length l.length 0 l
          unfold numsE at hlen
          omega
        clear RF nS1 nS2 hF hF' hsp hlen hbp he hln
        obtain ⟨ct, ft, ca, fa, cn, fn⟩ := y
        generalize hr1 : (readE (l.drop a)).1 = X at *
        generalize hr2 : (readE (l.drop a)).2.1 = k at *
        clear hr1 hr2
        generalize hpn : pre.length = P at *
        clear hpn
        gi_wp2_with (refine ⟨trivial, ?_⟩; gi_at_call 10; refine (CallsIn.inRound ly (callsIn_wide.2 HRF.out)).mono ?_; rintro e w' ⟨rfl, rfl⟩)
        all_goals
          have TT : TurnAt ((W.setCell ⟨W1.heap.size + 1, 0, none⟩ (.int .i64 ((a : Int) + (k : Int)))).setCell ⟨W1.heap.size + 2, 0, none⟩ (.int .i64 ((P : Int) + 1))) W1.heap.size 1 ((a : Int) + (k : Int)) ((P : Int) + 1) := by constructor <;> first | go_cell | go_simp
          have KO := ((KeepsOthers.setCell W ⟨W1.heap.size + 1, 0, none⟩ (.int .i64 ((a : Int) + (k : Int)))).trans (KeepsOthers.setCell _ ⟨W1.heap.size + 2, 0, none⟩ (.int .i64 ((P : Int) + 1))))
          exact ⟨KO.from _, HK.out _ _, ⟨a + k, f', HF'.out, by rw [HLN.out]; push_cast; exact TT⟩, HBB.out _ _, KO.same _ _ hM1 rfl⟩
      case done2 =>
        rintro D ys W hD rfl ⟨⟨a, f, hF, y⟩, hB1, hM1⟩ hK
        exact ⟨.inl rfl, D, rfl, ⟨a, _, hF.1, far_end HB.out hF, y⟩, hK, hM1, by omega, hB1⟩
      case stop2 =>
        rintro D c pre W hD hsp h hK
        exact h.elim
    · rintro D2 W3 ⟨⟨a, n, hal, hae, y⟩, hD2, hD1, hDD, hB1⟩
      clear T0 S0 B0 M0
      obtain ⟨ct, ft, ca, fa, cn, fn⟩ := y
      have hw1 := hB1.size
      have e0 := (hB1.cell (p := ⟨w.heap.size, 0, none⟩) (by show w.heap.size < w2.heap.size; omega)).trans d0
      have e1 := (hB1.cell (p := ⟨w.heap.size + 1, 0, none⟩) (by show w.heap.size + 1 < w2.heap.size; omega)).trans d1
      have e2 := (hB1.cell (p := ⟨w.heap.size + 2, 0, none⟩) (by show w.heap.size + 2 < w2.heap.size; omega)).trans d2
      have e3 := (hB1.frozen (p := ⟨w.heap.size + 2, 0, none⟩) (by show w.heap.size + 2 < w2.heap.size; omega)).trans d3
      by_cases ha : a < l.length
      · have hr := hae ha
        obtain ⟨B, off, rfl, -⟩ := hc.out 0 (by omega)
        have hbp : Below w.heap.size w W3 := HB2.out.trans (hB1.mono HB2.out.size)
        have RF := refReadNumber_any (l.drop a) (some ⟨B, off + a, none⟩) (cap - a) W3 (by rw [List.length_drop]; omega) (fun b h => HB.out b (List.mem_of_mem_drop h)) (Lib.hid (by have := bytesAt_from (bytesAt_below hc.out hbp) a; rw [Option.map_some, addr_plain] at this; exact this))
        rw [List.length_drop, hr] at RF
        have HRF := Lib.hid RF
        have hca : ¬ cap = a := by omega
        clear RF hr hae hbp
        gi_wp2_with (refine ⟨trivial, ?_⟩; gi_at_call 10; refine (callsIn_wide.2 HRF.out).mono ?_; rintro e w' ⟨rfl, rfl⟩)
        rw [roundsIn_succ]
        gi_wp2
        go_wp2_with (go_at_call 7; refine (works_any _).mono ?_; rintro e w5 ⟨rfl, b5⟩; have zr := ((kbA b5).cell (p := ⟨w.heap.size + 2, 0, none⟩) (lt_of_cell_some e2)).trans e2; have zrf := ((kbA b5).frozen (p := ⟨w.heap.size + 2, 0, none⟩) (lt_of_cell_some e2)).trans e3)
        have hle5 : W3.heap.size ≤ w5.heap.size := (kbA b5).size
        have hbw : Below w.heap.size w W3 := HB2.out.trans (hB1.mono HB2.out.size)
        have hb5 : Below w.heap.size w (w5.setCell ⟨w.heap.size + 2, 0, none⟩ (.bool true)) := (hbw.trans ((kbA b5).mono hbw.size)).setCell (p := ⟨w.heap.size + 2, 0, none⟩) (by first | omega | (simp <;> omega)) _
        have c0 : (w5.setCell ⟨w.heap.size + 2, 0, none⟩ (.bool true)).cell? ⟨w.heap.size + 2, 0, none⟩ = some (.bool true) := by go_cell
        have m2 : (w5.setCell ⟨w.heap.size + 2, 0, none⟩ (.bool true)).heap[D2]? = some (.deferred (some [])) := (KeepsOthers.setCell _ _ _).same _ _ (((kbA b5).block D2 (Array.getElem?_eq_some_iff.1 hD2).1).trans hD2) rfl
        have m1 : (w5.setCell ⟨w.heap.size + 2, 0, none⟩ (.bool true)).heap[D1]? = some (.deferred (some [])) := (KeepsOthers.setCell _ _ _).same _ _ (((kbA b5).block D1 (Array.getElem?_eq_some_iff.1 hD1).1).trans hD1) rfl
        generalize w5.setCell ⟨w.heap.size + 2, 0, none⟩ (.bool true) = W5 at hb5 c0 m2 m1 ⊢
        have c1 := cell_kept c0 (grownBy_putObj' W5 D2 (.deferred none)) (fun r e => by cases e; exact ⟨_, m2, rfl⟩)
        have m1' : (W5.putObj D2 (.deferred none)).heap[D1]? = some (.deferred (some [])) := by rw [World.putObj_heap_other (by omega)]; exact m1
        have c2 := cell_kept c1 (grownBy_putObj' _ D1 (.deferred none)) (fun r e => by cases e; exact ⟨_, m1', rfl⟩)
        have hb6 := hb5.trans (belowK_b (w := w) (Nat.le_refl _) W5 D2 _ (.deferred none) (by omega) m2 rfl rfl)
        have hb7 := hb6.trans (belowK_b (w := w) (Nat.le_refl _) _ D1 _ (.deferred none) (by omega) m1' rfl rfl)
        refine ⟨by simp, .inl ⟨_, _, rfl, run_takeDeferred m2, ?_⟩⟩
        refine ⟨by simp, .inl ⟨_, _, rfl, run_takeDeferred m1', ?_⟩⟩
        refine ⟨.bool true, ?_, rfl, hb7⟩
        simp [results, Try.f4, go_sem, c2]
      · clear hae
        have hca : ¬ (a : Int) < (l.length : Int) := by omega
        gi_wp2
        rw [roundsIn_succ]
        gi_wp2
        go_wp2_with (go_at_call 7; refine (works_any _).mono ?_; rintro e w5 ⟨rfl, b5⟩; have zr := ((kbA b5).cell (p := ⟨w.heap.size + 2, 0, none⟩) (lt_of_cell_some e2)).trans e2; have zrf := ((kbA b5).frozen (p := ⟨w.heap.size + 2, 0, none⟩) (lt_of_cell_some e2)).trans e3)
        have hle5 : W3.heap.size ≤ w5.heap.size := (kbA b5).size
        have hbw : Below w.heap.size w W3 := HB2.out.trans (hB1.mono HB2.out.size)
        have hb5 : Below w.heap.size w (w5.setCell ⟨w.heap.size + 2, 0, none⟩ (.bool true)) := (hbw.trans ((kbA b5).mono hbw.size)).setCell (p := ⟨w.heap.size + 2, 0, none⟩) (by first | omega | (simp <;> omega)) _
        have c0 : (w5.setCell ⟨w.heap.size + 2, 0, none⟩ (.bool true)).cell? ⟨w.heap.size + 2, 0, none⟩ = some (.bool true) := by go_cell
        have m2 : (w5.setCell ⟨w.heap.size + 2, 0, none⟩ (.bool true)).heap[D2]? = some (.deferred (some [])) := (KeepsOthers.setCell _ _ _).same _ _ (((kbA b5).block D2 (Array.getElem?_eq_some_iff.1 hD2).1).trans hD2) rfl
        have m1 : (w5.setCell ⟨w.heap.size + 2, 0, none⟩ (.bool true)).heap[D1]? = some (.deferred (some [])) := (KeepsOthers.setCell _ _ _).same _ _ (((kbA b5).block D1 (Array.getElem?_eq_some_iff.1 hD1).1).trans hD1) rfl
        generalize w5.setCell ⟨w.heap.size + 2, 0, none⟩ (.bool true) = W5 at hb5 c0 m2 m1 ⊢
        have c1 := cell_kept c0 (grownBy_putObj' W5 D2 (.deferred none)) (fun r e => by cases e; exact ⟨_, m2, rfl⟩)
        have m1' : (W5.putObj D2 (.deferred none)).heap[D1]? = some (.deferred (some [])) := by rw [World.putObj_heap_other (by omega)]; exact m1
        have c2 := cell_kept c1 (grownBy_putObj' _ D1 (.deferred none)) (fun r e => by cases e; exact ⟨_, m1', rfl⟩)
        have hb6 := hb5.trans (belowK_b (w := w) (Nat.le_refl _) W5 D2 _ (.deferred none) (by omega) m2 rfl rfl)
        have hb7 := hb6.trans (belowK_b (w := w) (Nat.le_refl _) _ D1 _ (.deferred none) (by omega) m1' rfl rfl)
        refine ⟨by simp, .inl ⟨_, _, rfl, run_takeDeferred m2, ?_⟩⟩
        refine ⟨by simp, .inl ⟨_, _, rfl, run_takeDeferred m1', ?_⟩⟩
        refine ⟨.bool true, ?_, rfl, hb7⟩
        simp [results, Try.f4, go_sem, c2]
end Go.Proofs.Ytgadmbgnkccooaa
