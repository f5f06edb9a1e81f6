import Derived.Test.YtgadmbgnkccooaaO19
namespace Go.Proofs.Ytgadmbgnkccooaa
open Go.RowKit Go.Shelf
attribute [local go_sem] Oper.semAt_some

/-- What is read is told again in as many bytes. -/
theorem readAt_canon : ∀ (l : List Nat) (i m u : Nat), (∀ b ∈ l, b < 256) → i ≤ 9 → (readAt l i m u).2.2 = 0 →
    ∃ d, (readAt l i m u).1 = m + d * u ∧ (readAt l i m u).2.1 = i + (numF (9 - i) d).length ∧ (0 < i → 0 < d) := by
  intro l
  induction l with
  | nil => intro i m u _ _ h; simp [readAt] at h
  | cons b t ih =>
    intro i m u hb hi h
    unfold readAt at h ⊢
    rw [if_neg (by omega)] at h ⊢
    by_cases h9 : i = 9 ∧ 1 < b
    · rw [if_pos h9] at h; simp at h
    rw [if_neg h9] at h ⊢
    by_cases hl : b < 128
    · rw [if_pos hl] at h ⊢
      by_cases h0 : b % 128 = 0 ∧ 0 < i
      · rw [if_pos h0] at h; simp at h
      rw [if_neg h0]
      refine ⟨b, ?_, ?_, fun h => by omega⟩
      · show m + b % 128 * u = _
        rw [Nat.mod_eq_of_lt hl]
      · rw [numF_small _ _ hl]
        rfl
    · rw [if_neg hl] at h ⊢
      have hi9 : i < 9 := by omega
      rw [if_pos hi9] at h ⊢
      obtain ⟨d, e1, e2, e3⟩ := ih (i + 1) _ _ (fun x hx => hb x (by simp [hx])) (by omega) h
      have hb' := hb b (by simp)
      have hd := e3 (by omega)
      refine ⟨b % 128 + 128 * d, ?_, ?_, fun _ => by omega⟩
      · rw [e1, Nat.add_mul, Nat.mul_comm u 128, ← Nat.mul_assoc, Nat.mul_comm d 128]
        omega
      · rw [e2, show 9 - i = (9 - (i + 1)) + 1 by omega, numF_more, if_neg (by omega)]
        rw [show (b % 128 + 128 * d) / 128 = d by omega]
        simp only [List.length_cons]
        omega
theorem readE_canon {l : List Nat} (hb : ∀ b ∈ l, b < 256) (h : (readE l).2.2 = 0) : (numE (readE l).1).length = (readE l).2.1 := by
  obtain ⟨d, e1, e2, -⟩ := readAt_canon l 0 0 1 hb (by omega) h
  have e3 : (readE l).1 = d := by unfold readE; rw [e1]; omega
  rw [e3]
  unfold readE
  rw [e2]
  simp [numE]
theorem numsE_nil {l : List Nat} (h : numsE l = []) : (readE l).2.2 ≠ 0 := fun he => by
  unfold numsE at h
  cases l with
  | nil => simp [readE, readAt] at he
  | cons b t => rw [List.length_cons, numsA_some he] at h; cases h
theorem numsE_head {l : List Nat} {x : Nat × Nat} (h : [x] <+: numsE l) : (readE l).2.2 = 0 ∧ x.2 = (readE l).1 := by
  by_cases he : (readE l).2.2 = 0
  · refine ⟨he, ?_⟩
    unfold numsE at h
    cases l with
    | nil => simp [readE, readAt] at he
    | cons b t =>
      rw [List.length_cons, numsA_some he] at h
      obtain ⟨r, hr⟩ := h
      simp only [List.cons_append, List.nil_append, List.cons.injEq] at hr
      rw [hr.1]
  · unfold numsE at h
    rw [numsA_none he] at h
    obtain ⟨r, hr⟩ := h
    cases hr
set_option maxHeartbeats 400000 in
theorem numbers_any (p : Option Addr) (n c : Nat) (w : World) :
    Calls Try.prog 29 #[.slice p n c] w fun r w' => r = .returned (.func (.func 40) #[] #[.pointer (some ⟨w.heap.size, 0, none⟩)]) ∧ w' = w.alloc (.cells #[.slice p n c] 23) := by
  have hmf : ∀ (fn : Fn) (first cap : Array Value) (w : World), (Instr.makeFunc fn first cap).run Try.prog w = .ok (.func fn first cap) w := fun _ _ _ _ => rfl
  go_enter Try.func29, Try.ntmps29
  go_wp2
  go_ret
  exact ⟨rfl, rfl⟩
/-- What ReadNumber's three variables hold. -/
structure RnAt (W : World) (b : Nat) (x y z : Int) : Prop where
  ca : W.cell? ⟨b, 0, none⟩ = some (.int .u64 x)
  cb : W.cell? ⟨b + 1, 0, none⟩ = some (.int .i64 y)
  cc : W.cell? ⟨b + 1 + 1, 0, none⟩ = some (.int .i64 z)
  fa : W.frozen? ⟨b, 0, none⟩ = false
  fb : W.frozen? ⟨b + 1, 0, none⟩ = false
  fc : W.frozen? ⟨b + 1 + 1, 0, none⟩ = false
theorem RnAt.own {β : Type} {b : Nat} {x y z : Int} : Own (fun (_ : β) W => RnAt W b x y z) :=
  fun _ A B row hs hg hr => ⟨cell_kept hs.ca hg hr, cell_kept hs.cb hg hr, cell_kept hs.cc hg hr, (frozen_kept hs.ca hg hr).trans hs.fa, (frozen_kept hs.cb hg hr).trans hs.fb, (frozen_kept hs.cc hg hr).trans hs.fc⟩
theorem RnAt.cell {W : World} {b : Nat} {x y z : Int} (h : RnAt W b x y z) (q : Nat) (hq : b + 1 + 1 < q) (v : Value) : RnAt (W.setCell ⟨q, 0, none⟩ v) b x y z :=
  ⟨(World.cell?_setCell_other _ _ _ _ (by simp <;> omega)).trans h.ca, (World.cell?_setCell_other _ _ _ _ (by simp <;> omega)).trans h.cb, (World.cell?_setCell_other _ _ _ _ (by simp <;> omega)).trans h.cc, (World.frozen?_setCell _ _ _ _).trans h.fa, (World.frozen?_setCell _ _ _ _).trans h.fb, (World.frozen?_setCell _ _ _ _).trans h.fc⟩
set_option maxRecDepth 100000 in
set_option maxHeartbeats 4000000 in
theorem readNumber_any (l : List Nat) (p : Option Addr) (cap : Nat) (w : World) (hl : l.length ≤ 100000) (hcap : l.length ≤ cap) (hc0 : cap ≤ 9223372036854775807) (hb : ∀ b ∈ l, b < 256) (hc : Hid (BytesAt w p l)) :
    Calls Try.prog 9 #[.slice p l.length cap] w fun r w' => r = .returned (.tuple #[.int .u64 (readE l).1, .int .i64 (readE l).2.1, .int .i64 (readE l).2.2]) ∧ Below w.heap.size w w' := by
  have HB := Lib.hid hb
  have HRng := Lib.hid (readE_range l hb)
  have HCan := Lib.hid (readE_canon (l := l) hb)
  clear hb
  refine (callsIn_wide (n := 5)).1 ?_
  refine callsIn_of_wp_marks Try.func9 rfl trivial ?_ rfl
  simp only [Try.ntmps9, List.size_toArray, List.length_cons, List.length_nil, Nat.reduceAdd, Nat.reduceSub, Array.replicate_succ, Array.replicate_zero, List.push_toArray, List.append_toArray, List.nil_append, List.cons_append]
  gi_wp2
  apply wpIn_scope_wide
  gi_wp2
  apply wpIn_label
  gi_wp2_with (refine ⟨trivial, ?_⟩; gi_at_call 29; refine (callsIn_wide.2 (numbers_any _ _ _ _)).mono ?_; rintro e w' ⟨rfl, rfl⟩)
  generalize hW0 : ((((w.alloc (Obj.cells #[Value.int IntKind.u64 0] 22)).alloc (Obj.cells #[Value.int IntKind.i64 0] 3)).alloc (Obj.cells #[Value.int IntKind.i64 130] 26)).alloc (Obj.cells #[Value.slice p l.length cap] 23)) = W0
  have F0 : RnAt W0 w.heap.size 0 0 130 := by subst hW0; constructor <;> first | go_cell | go_simp
  have C0 : W0.cell? ⟨w.heap.size + 1 + 1 + 1, 0, none⟩ = some (.slice p l.length cap) := by subst hW0; go_cell
  have B0 : Below w.heap.size w W0 := by subst hW0; exact ((((Below.refl _ _).alloc (Nat.le_refl _) _).alloc (by simp) _).alloc (by simp; omega) _).alloc (by simp; omega) _
  have S0 : W0.heap.size = w.heap.size + 4 := by subst hW0; simp
  have Y0 : BytesAt W0 p l := bytesAt_below hc.out B0
  clear hW0
  refine range_norm 0 (fun D W => RnAt W w.heap.size (readE l).1 (readE l).2.1 (readE l).2.2 ∧ W.heap[D]? = some (.deferred (some [])) ∧ w.heap.size + 4 ≤ D ∧ Below w.heap.size w W) (fun _ _ h => h) ?_ ?_
  · refine' range_own (n := 5) rfl (by decide) (gf := 40) (lb := #[.pointer (some ⟨w.heap.size + 1 + 1 + 1, 0, none⟩)]) rfl trivial (enters_of Try.func40 (by kernel_rfl) rfl)
      (numbers_own (5 - 1) (by decide) l p cap (w.heap.size + 1 + 1 + 1) W0 hl hcap hc0 HB.out (by omega) C0 Y0) KpS.trans (fun W l o o' _ h hc _ => KpS.put W l o o' h hc) (Below.refl _ _) (fun _ => rfl)
      (fun pre W => (RnAt W w.heap.size 0 0 130 ∧ pre = []) ∧ Below w.heap.size w W)
      (fun c pre W => (c = .exit 0 ∧ (∃ x, pre = [x] ∧ RnAt W w.heap.size (x.2 : Nat) (numE x.2).length 0)) ∧ Below w.heap.size w W)
      (OwnFrom.and (OwnFrom.and (Own.from RnAt.own _) (ownFrom_pure _ (fun pre : List (Nat × Nat) => pre = []))) (ownFrom_below (Nat.le_refl _) (by omega)))
      (fun c => OwnFrom.and (fun s A C row hs hg hr => ⟨hs.1, by obtain ⟨x, e, h⟩ := hs.2; exact ⟨x, e, Own.from RnAt.own _ s A C row h hg hr⟩⟩) (ownFrom_below (Nat.le_refl _) (by omega)))
      (fun s A v h => ⟨⟨h.1.1.cell _ (by omega) v, h.1.2⟩, h.2.setCell (by show w.heap.size ≤ W0.heap.size + 2; omega) v⟩)
      (fun c s A v h => ⟨⟨h.1.1, by obtain ⟨x, e, h⟩ := h.1.2; exact ⟨x, e, h.cell _ (by omega) v⟩⟩, h.2.setCell (by show w.heap.size ≤ W0.heap.size + 2; omega) v⟩)
      ⟨⟨F0, rfl⟩, B0⟩
      (fun x => { tmps := #[.slice p l.length cap, undef, .int .u64 0, .int .i64 0, .int .i64 0, .pointer (some ⟨w.heap.size, 0, none⟩), .pointer (some ⟨w.heap.size + 1, 0, none⟩), .pointer (some ⟨w.heap.size + 1 + 1, 0, none⟩), undef, .int .u64 (x.2 : Nat), .slice p l.length cap, .func (.func 40) #[] #[.pointer (some ⟨w.heap.size + 1 + 1 + 1, 0, none⟩)], .int .i64 (x.1 : Nat), .int .u64 (x.2 : Nat), undef, undef, undef, undef, undef, undef], defers := [] }) ?assign ?body ?done ?stop
    case assign =>
      intro ly x W K hK
      gi_wp2
      exact hK
    case body =>
      rintro ly pre x W ⟨⟨y, rfl⟩, hB1⟩ hlen hsp
      obtain ⟨he, hx⟩ := numsE_head hsp
      have h64 : x.2 < 2 ^ 64 := by
        rcases HRng.out with h | h
        · rw [hx]; exact h.2.1
        · rw [h] at he; simp at he
      have SZ := Lib.hid (size_any x.2 h64)
      obtain ⟨ya, yb, yc, fa, fb, fc⟩ := y
      clear hsp hx he
      gi_wp2_with (refine ⟨trivial, ?_⟩; gi_at_call 26; refine (CallsIn.inRound ly (callsIn_wide.2 (SZ.out _))).mono ?_; rintro e w' ⟨rfl, rfl⟩)
      refine ⟨(((KeepsOthers.setCell _ _ _).trans (KeepsOthers.setCell _ _ _)).trans (KeepsOthers.setCell _ _ _)).from _, ⟨rfl, x, rfl, ?_⟩, ?_⟩
      · constructor <;> first | go_cell | go_simp
      · exact ((hB1.setCell (p := ⟨w.heap.size, 0, none⟩) (Nat.le_refl _) _).setCell (p := ⟨w.heap.size + 1, 0, none⟩) (by simp) _).setCell (p := ⟨w.heap.size + 1 + 1, 0, none⟩) (by simp; omega) _
    case done =>
      rintro D ys W hD rfl ⟨⟨y, hn⟩, hB1⟩ hK
      have he := numsE_nil hn
      have hr : readE l = (0, 0, 130) := by
        rcases HRng.out with h | h
        · exact absurd h.1 he
        · exact h
      refine ⟨.inl rfl, D, rfl, ?_, hK, by omega, hB1⟩
      rw [hr]
      exact y
    case stop =>
      rintro D c pre W hD hsp ⟨⟨rfl, x, rfl, y⟩, hB1⟩ hK
      obtain ⟨he, hx⟩ := numsE_head hsp
      have hcan := HCan.out he
      rw [hx, hcan] at y
      have hD4 : w.heap.size + 4 ≤ D := by omega
      gi_wp2
      all_goals first | exact hD4 | exact y
  · rintro D W ⟨y, hK, hD, hB1⟩
    obtain ⟨ya, yb, yc, fa, fb, fc⟩ := y
    gi_wp2
    gi_region
    all_goals gi_wp2
    all_goals
      rw [Exit.noGoto_ret]
      refine ⟨by simp, .inl ⟨_, _, rfl, run_takeDeferred (w := W.drew) hK, ?_⟩⟩
      refine ⟨.tuple #[.int .u64 (readE l).1, .int .i64 (readE l).2.1, .int .i64 (readE l).2.2], ?_, rfl, hB1.drew.trans ((belowK_b (n₀ := w.heap.size + 4) (w := W0) (by omega) W.drew D _ (.deferred none) (by omega) hK rfl rfl).mono (by omega))⟩
      simp [results, Try.results9, go_sem]
end Go.Proofs.Ytgadmbgnkccooaa
