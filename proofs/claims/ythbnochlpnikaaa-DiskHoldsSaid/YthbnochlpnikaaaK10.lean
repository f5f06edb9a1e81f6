/- A write is appended to a row; a stop is laid, operations are counted. -/
import Derived.Test.YthbnochlpnikaaaK9
import Derived.Deep.RegionLaw
namespace Go.Proofs.Ythbnochlpnikaaa
open Go.RowKit Go.Shelf

theorem wcs_snoc (l : List (Nat × ByteArray)) (k : Nat) (c : ByteArray) : wcs (l ++ [(k, c)]) = wcs l ++ (.int .i64 (k : Int) :: bL c) := by
  rw [wcs_append]
  simp [wcs]
theorem run_append_write {w : World} {v : Value} {l : List (Nat × ByteArray)} (hown : w.ownsRow 0 78 65 v l.length (wcs l)) (ty : TypeId) {g k : Nat} {c : ByteArray} (hc : c.size = 64) (hg : w.heap[g]? = some (.cells (wV k c) 78 (0, 0))) (hn : l.length ≤ 100000) :
    ∃ v' w', (Builtin.append_ #[61, 61] ty #[v, .slice (some ⟨g, 0, none⟩) 1 1]).run Try.prog w = .ok v' w' ∧ w'.ownsRow 0 78 65 v' (l.length + 1) (wcs (l ++ [(k, c)])) ∧ w.grownBy w' v.ownBlock ∧ ∀ j, v'.ownBlock = some j → v.ownBlock = some j ∨ w.heap.size ≤ j := by
  obtain ⟨i, hi, hz0, hz1, hz2⟩ := info_parts info78
  have hlen : (Value.int .i64 (k : Int) :: bL c).length = 1 * 65 := by rw [List.length_cons, bL_length, hc]
  have hnews : ∀ (j : Nat) (u : Value), (Value.int .i64 (k : Int) :: bL c)[j]? = some u → w.cell? ((⟨g, 0, none⟩ : Addr).add j) = some u := fun j u hu => by
    rw [addr_plain, Nat.zero_add, cell_of_row w g j _ _ _ hg]
    simpa [wV] using hu
  have h1 : ∀ u ∈ (Value.int .i64 (k : Int) :: bL c), u.oneCell' = true := fun u hu => by
    simp only [List.mem_cons] at hu
    rcases hu with rfl | hu
    · rfl
    · exact bL_one c u hu
  have hz : (Value.agg z78).cells.size = 65 := by simp [Value.cells, z78]
  rw [wcs_snoc]
  have hown0 := hown
  obtain ⟨hx, hown⟩ := hown
  rcases hown with ⟨rfl, h0⟩ | ⟨b, cap, cur, rfl, hb, hcur, hncap, hcm, hcs, htake⟩
  · have hl0 : l = [] := List.eq_nil_of_length_eq_zero h0
    subst hl0
    obtain ⟨v', w', hrun, r1, r2, -⟩ := run_append_own (P := Try.prog) w w.heap.size 61 ty 78 i (.agg z78) 65 72 Try.underlying61 hi hz0 hz1 hz2 hz (by omega) (.slice none 0 0) 0 [] (World.ownsRow_nil w _ 78 65) ⟨g, 0, none⟩ 1 1 _ hlen hnews h1 (by unfold maxLen; omega) (by omega) (Nat.le_refl _)
    exact ⟨v', w', hrun, ownsRow_base r1 (Nat.zero_le _), grown_any r2, fun j hj => .inr (ownsRow_new r1 j hj)⟩
  · by_cases hroom : l.length + 1 ≤ cap
    · obtain ⟨w', hrun, r1, r2⟩ := run_append_own_spare (P := Try.prog) w 0 61 ty 78 i 65 Try.underlying61 hi hz1 b l.length cap (wcs l) hown0 ⟨g, 0, none⟩ 1 1 _ hlen hnews h1 hroom
      exact ⟨_, w', hrun, r1, r2, fun j hj => .inl hj⟩
    · obtain ⟨v', w', hrun, r1, r2⟩ := run_append_arg_grows (P := Try.prog) w 61 ty 78 i (.agg z78) 65 72 Try.underlying61 hi hz0 hz1 hz2 hz (by omega) ⟨b, 0, none⟩ l.length cap (wcs l) hx (fun j u hu => hown0.cells (g := b) rfl j u hu) ⟨g, 0, none⟩ 1 1 _ hlen hnews (by omega) (by unfold maxLen; omega) (by omega)
      exact ⟨v', w', hrun, ownsRow_base r1 (Nat.zero_le _), grown_any r2, fun j hj => .inr (ownsRow_new r1 j hj)⟩
theorem step_append_write {ops : Array Oper} {o : Oper} {a : Act} {w : World} {K : Act → World → Prop} {Q : Exit → Act → World → Prop} {E : Prop} (hgd : o.guard = none) (s x : Operand)
    (ho : o.op = .call { callee := .builtin .append, args := #[s, x], argTypes := #[61, 61] })
    {v : Value} {l : List (Nat × ByteArray)} (hs : a.eval s = v) (hown : w.ownsRow 0 78 65 v l.length (wcs l)) {g k : Nat} {c : ByteArray} (hx : a.eval x = .slice (some ⟨g, 0, none⟩) 1 1) (hc : c.size = 64) (hg : w.heap[g]? = some (.cells (wV k c) 78 (0, 0))) (hn : l.length ≤ 100000)
    (h : ∀ v' w', w'.ownsRow 0 78 65 v' (l.length + 1) (wcs (l ++ [(k, c)])) → w.grownBy w' v.ownBlock → (∀ j, v'.ownBlock = some j → v.ownBlock = some j ∨ w.heap.size ≤ j) → K (a.put o.dst v') w') : if Region.wanted o (yielded ops a.tmps) = true then Oper.wp Try.prog o a w K Q else E := by
  rw [if_pos (by simp [Region.wanted, hgd])]
  obtain ⟨v', w', hrun, r1, r2, r3⟩ := run_append_write hown o.type hc hg hn
  unfold Oper.wp
  simp [execOp, ho, resolve, invoke, builtin, hs, hx, hrun, Result.andThen]
  exact h v' w' r1 r2 r3
theorem wpList_append_write {ops : Array Oper} {rest : List Oper} {o : Oper} {a : Act} {w : World} {Q : Exit → Act → World → Prop} (hgd : o.guard = none) (s x : Operand)
    (ho : o.op = .call { callee := .builtin .append, args := #[s, x], argTypes := #[61, 61] })
    {v : Value} {l : List (Nat × ByteArray)} (hs : a.eval s = v) (hown : w.ownsRow 0 78 65 v l.length (wcs l)) {g k : Nat} {c : ByteArray} (hx : a.eval x = .slice (some ⟨g, 0, none⟩) 1 1) (hc : c.size = 64) (hg : w.heap[g]? = some (.cells (wV k c) 78 (0, 0))) (hn : l.length ≤ 100000)
    (h : ∀ v' w', w'.ownsRow 0 78 65 v' (l.length + 1) (wcs (l ++ [(k, c)])) → w.grownBy w' v.ownBlock → (∀ j, v'.ownBlock = some j → v.ownBlock = some j ∨ w.heap.size ≤ j) → wpList Try.prog ops Q rest (a.put o.dst v') w') : wpList Try.prog ops Q (o :: rest) a w := by
  refine wpList_plain hgd fun K' hK' => ?_
  obtain ⟨v', w', hrun, r1, r2, r3⟩ := run_append_write hown o.type hc hg hn
  unfold Oper.wp
  simp [execOp, ho, resolve, invoke, builtin, hs, hx, hrun, Result.andThen]
  exact hK' _ _ (h v' w' r1 r2 r3)

/-- A stop and its count, turned. -/
theorem DiskAt.turn {w w' : World} {B b1 b2 : Nat} {v : Value} {s : DS} (h : DiskAt w B b1 b2 v s) (n : Int) (hn : n ≤ 9223372036854775807) (hc : w'.heap[B]? = some (.cells #[.map (some b1), .map (some b2), .int .i64 s.many, v, .bool (decide (0 ≤ n)), .int .i64 (n.toNat : Int)] 65 (0, 0))) (hk : ∀ k, k ≠ B → w'.heap[k]? = w.heap[k]?) : DiskAt w' B b1 b2 v ⟨s.many, s.sync, s.loose, n⟩ :=
  ⟨hc, hn, h.ne, ownsRow_kept h.row (fun j hj => hk j (fun e => h.off (e ▸ hj))), h.off, h.now.of_block (hk b1 (h.now.cells h.cells)), h.sync.of_block (hk b2 (h.sync.cells h.cells))⟩
theorem apart_set (w : World) (B i : Nat) (v : Value) : Apart (fun j => j = B) w (w.setCell ⟨B, i, none⟩ v) :=
  ⟨rfl, rfl, rfl, by rw [setCell_size]; exact Nat.le_refl _, fun k _ hF => heap_setCell_other w ⟨B, i, none⟩ k v hF⟩
theorem Apart.refl (F : Nat → Prop) (w : World) : Apart F w w := ⟨rfl, rfl, rfl, Nat.le_refl _, fun _ _ _ => rfl⟩
theorem Apart.trans {F G : Nat → Prop} {w w1 w2 : World} (h : Apart F w w1) (k : Apart G w1 w2) (hG : ∀ j, G j → F j ∨ w.heap.size ≤ j) : Apart F w w2 :=
  ⟨k.os.trans h.os, k.tape.trans h.tape, k.output.trans h.output, Nat.le_trans h.size k.size, fun j hj hF => (k.block j (Nat.lt_of_lt_of_le hj h.size) (fun g => by rcases hG j g with e | e; exact hF e; omega)).trans (h.block j hj hF)⟩
theorem Apart.wide {F G : Nat → Prop} {w w1 : World} (h : Apart F w w1) (hG : ∀ j, F j → G j) : Apart G w w1 := ⟨h.os, h.tape, h.output, h.size, fun j hj hF => h.block j hj (fun f => hF (hG j f))⟩
set_option maxRecDepth 100000 in
set_option maxHeartbeats 400000 in
theorem count_any {w : World} {B b1 b2 : Nat} {v : Value} {s : DS} (h : DiskAt w B b1 b2 v s) (h0 : s.left ≠ 0) (h1 : -1 ≤ s.left) :
    Calls Try.prog 44 #[.pointer (some ⟨B, 0, none⟩)] w fun r w' => r = .returned (.tuple #[]) ∧ DiskAt w' B b1 b2 v ⟨s.many, s.sync, s.loose, doneL s.left⟩ ∧ Apart (fun j => j = B) w w' := by
  obtain ⟨-, -, -, -, c4, c5⟩ := h.cell
  have f5 := h.frozen 5
  have hl := h.left
  by_cases hp : 0 < s.left
  · have e4 : decide (0 ≤ s.left) = true := decide_eq_true (by omega)
    rw [e4] at c4
    have hd : doneL s.left = s.left - 1 := by unfold doneL; rw [if_pos hp]
    obtain ⟨n, hn⟩ : ∃ n : Nat, s.left = n := ⟨s.left.toNat, by omega⟩
    have hn' : s.left.toNat = n := by omega
    rw [hn'] at c5
    have hw : IntKind.i64.wrap ((n : Int) - 1) = (n : Int) - 1 := by simp [IntKind.wrap, IntKind.signed, IntKind.bits]; omega
    have hb1 : 0 < n := by omega
    have hb2 : (n : Int) ≤ 9223372036854775807 := by omega
    have fin : Hid (DiskAt (w.setCell ⟨B, 5, none⟩ (.int .i64 ((n : Int) - 1))) B b1 b2 v ⟨s.many, s.sync, s.loose, doneL s.left⟩) := Lib.hid (by
      refine h.turn _ (by omega) ?_ (fun k hk => heap_setCell_other w _ k _ hk)
      rw [heap_setCell_same w B 5 _ 65 _ h.cells, hd, hn]
      have e5 : decide (0 ≤ (n : Int) - 1) = true := decide_eq_true (by omega)
      have e6 : (((n : Int) - 1).toNat : Int) = (n : Int) - 1 := by omega
      have e7 : decide (0 ≤ (n : Int)) = true := decide_eq_true (by omega)
      rw [e5, e6, e7]
      rfl)
    clear hd hn hn' h0 h1 hl hp e4 h
    go_enter Try.func44, Try.ntmps44
    go_wp2
    go_end0
    exact ⟨rfl, fin.out, apart_set _ _ _ _⟩
  · have e1 : s.left = -1 := by omega
    have e4 : decide (0 ≤ s.left) = false := decide_eq_false (by omega)
    rw [e4] at c4
    have hd : (⟨s.many, s.sync, s.loose, doneL s.left⟩ : DS) = s := by
      have : doneL s.left = s.left := by unfold doneL; rw [if_neg hp]
      rw [this]
    rw [hd]
    clear hd e1 e4 h0 h1 hl hp
    go_enter Try.func44, Try.ntmps44
    go_wp2
    go_end0
    exact ⟨rfl, h, Apart.refl _ _⟩
end Go.Proofs.Ythbnochlpnikaaa
