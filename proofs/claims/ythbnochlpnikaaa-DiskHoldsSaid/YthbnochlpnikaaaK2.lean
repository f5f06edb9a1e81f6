/- A map of sectors in memory: looked up, written, struck. -/
import Derived.Test.YthbnochlpnikaaaK1
import Derived.Stop.BytesEq
namespace Go.Proofs.Ythbnochlpnikaaa
open Go.RowKit Go.Shelf

/-- Block b holds a map that tells what the sectors are. -/
structure MapIs (w : World) (b m : Nat) (f : Nat → ByteArray) : Prop where
  le : m ≤ 40000
  size : ∀ k, k < m → (f k).size = 64
  own : ∃ D : DataW Unit, w.ownsMap Try.prog 3 secR b 40000 D ∧ DatIs D m f
theorem MapIs.lt {w : World} {b m : Nat} {f : Nat → ByteArray} (h : MapIs w b m f) : b < w.heap.size := by
  obtain ⟨D, h, _⟩ := h.own
  exact h.lt
theorem MapIs.of_block {w w' : World} {b m : Nat} {f : Nat → ByteArray} (h : MapIs w b m f) (e : w'.heap[b]? = w.heap[b]?) : MapIs w' b m f := by
  obtain ⟨D, ⟨es, clock, hb, r⟩, hd⟩ := h.own
  exact ⟨h.le, h.size, D, ⟨es, clock, e.trans hb, r⟩, hd⟩
theorem MapIs.below {w w' : World} {b m : Nat} {f : Nat → ByteArray} (h : MapIs w b m f) (hb : Below w.heap.size w w') : MapIs w' b m f := h.of_block (hb.block b h.lt)
theorem MapIs.congr {w : World} {b m : Nat} {f g : Nat → ByteArray} (h : MapIs w b m f) (e : ∀ k, k < m → f k = g k) : MapIs w b m g := by
  obtain ⟨D, h1, h2⟩ := h.own
  refine ⟨h.le, fun k hk => by rw [← e k hk]; exact h.size k hk, D, h1, ⟨fun k hk => by rw [← e k hk]; exact h2.at' k hk, fun k hk => by rw [← e k hk]; exact h2.has k hk, h2.only⟩⟩
theorem MapIs.made (w : World) {m : Nat} (hm : m ≤ 40000) : MapIs (w.alloc (.map #[] 0)) w.heap.size m (fun _ => secS 0) :=
  ⟨hm, fun _ _ => secS_size 0, .map [], (World.ownsMap_made w Try.prog 3 secR).mono (by omega), DatIs.empty m⟩
/-- A block of cells is no map's. -/
theorem MapIs.cells {w : World} {b m : Nat} {f : Nat → ByteArray} (h : MapIs w b m f) {cs : Array Value} {t : TypeId} {fr : Nat × Nat} {g : Nat} (hg : w.heap[g]? = some (.cells cs t fr)) : b ≠ g := by
  obtain ⟨D, ⟨es, clock, hb, r⟩, hd⟩ := h.own
  rintro rfl
  rw [hg] at hb
  cases hb
theorem secR_zero : secR (.agg (bV (secS 0))) = some (secD (secS 0), []) := secR_mk (secS_size 0)
set_option maxRecDepth 100000 in
theorem MapIs.look {w : World} {b m : Nat} {f : Nat → ByteArray} (h : MapIs w b m f) {k : Nat} (hk : k < m) : (Instr.lookup 57 (.map (some b)) (.int .i64 (k : Int)) false).run Try.prog w = .ok (.agg (bV (f k))) w := by
  obtain ⟨D, h1, h2⟩ := h.own
  obtain ⟨v, ps, hrun, hv⟩ := h1.lookup law3 Try.underlying57 (zero_sec w) secR_zero (key3 (Nat.lt_of_lt_of_le hk h.le))
  rw [h2.at' k hk] at hv
  obtain ⟨b', hb', rfl, hz⟩ := secR_inv hv
  injection hz with hz _
  rw [secD_inj hz]
  exact hrun
theorem MapIs.put {w : World} {b m : Nat} {f : Nat → ByteArray} (h : MapIs w b m f) {k : Nat} (hk : k < m) {c : ByteArray} (hc : c.size = 64) (hne : c ≠ secS 0) :
    ∃ w', (Instr.mapUpdate 57 (.map (some b)) (.int .i64 (k : Int)) (.agg (bV c))).run Try.prog w = .ok () w' ∧ MapIs w' b m (upd f k c) ∧ w.mapTurned w' b := by
  obtain ⟨D, h1, h2⟩ := h.own
  obtain ⟨w', hrun, h3, h4⟩ := h1.store law3 Try.underlying57 (by unfold maxLen; omega) (key3 (Nat.lt_of_lt_of_le hk h.le)) (secR_mk hc)
  have h5 := h2.put h1.isMap hk hne
  refine ⟨w', hrun, ⟨h.le, fun j hj => ?_, _, own_small h3 h5 h.le, h5⟩, h4⟩
  unfold upd
  split
  · exact hc
  · exact h.size j hj
theorem MapIs.drop {w : World} {b m : Nat} {f : Nat → ByteArray} (h : MapIs w b m f) {k : Nat} (hk : k < m) (ty : TypeId) :
    ∃ w', (Builtin.delete_ #[57, 3] ty #[.map (some b), .int .i64 (k : Int)]).run Try.prog w = .ok (.tuple #[]) w' ∧ MapIs w' b m (upd f k (secS 0)) ∧ w.mapTurned w' b := by
  obtain ⟨D, h1, h2⟩ := h.own
  obtain ⟨w', hrun, h3, h4⟩ := h1.drop law3 Try.underlying57 (key3 (Nat.lt_of_lt_of_le hk h.le)) ty
  refine ⟨w', hrun, ⟨h.le, fun j hj => ?_, _, h3, h2.del⟩, h4⟩
  unfold upd
  split
  · exact secS_size 0
  · exact h.size j hj
section
variable {w : World} {ops : Array Oper} {rest : List Oper} {o : Oper} {a : Act} {Q : Exit → Act → World → Prop}
theorem wpList_look (hg : o.guard = none) (x y : Operand) (hop : o.op = Op.lookup 57 x y false) {b m : Nat} {f : Nat → ByteArray} (h : MapIs w b m f) {k : Nat} (hk : k < m) (hx : a.eval x = .map (some b)) (hy : a.eval y = .int .i64 (k : Int))
    (hK : wpList Try.prog ops Q rest (a.put o.dst (.agg (bV (f k)))) w) : wpList Try.prog ops Q (o :: rest) a w := by
  refine wpList_plain hg fun K' hK' => ?_
  unfold Oper.wp
  simp [execOp, hop, hx, hy, h.look hk, Result.andThen]
  exact hK' _ _ hK
theorem wpList_put (hg : o.guard = none) (x y z : Operand) (hop : o.op = Op.mapUpdate 57 x y z) {b m : Nat} {f : Nat → ByteArray} (h : MapIs w b m f) {k : Nat} (hk : k < m) {c : ByteArray} (hc : c.size = 64) (hne : c ≠ secS 0) (hx : a.eval x = .map (some b)) (hy : a.eval y = .int .i64 (k : Int)) (hz : a.eval z = .agg (bV c))
    (hK : ∀ w', MapIs w' b m (upd f k c) → w.mapTurned w' b → wpList Try.prog ops Q rest (a.put o.dst undef) w') : wpList Try.prog ops Q (o :: rest) a w := by
  refine wpList_plain hg fun K' hK' => ?_
  obtain ⟨w', hrun, r1, r2⟩ := h.put hk hc hne
  unfold Oper.wp
  simp [execOp, hop, hx, hy, hz, hrun, Result.andThen]
  exact hK' _ _ (hK w' r1 r2)
theorem wpList_drop (hg : o.guard = none) (x y : Operand) (hop : o.op = Op.call { callee := Callee.builtin Builtin.delete, args := #[x, y], argTypes := #[57, 3] }) {b m : Nat} {f : Nat → ByteArray} (h : MapIs w b m f) {k : Nat} (hk : k < m) (hx : a.eval x = .map (some b)) (hy : a.eval y = .int .i64 (k : Int))
    (hK : ∀ w', MapIs w' b m (upd f k (secS 0)) → w.mapTurned w' b → wpList Try.prog ops Q rest (a.put o.dst (.tuple #[])) w') : wpList Try.prog ops Q (o :: rest) a w := by
  refine wpList_plain hg fun K' hK' => ?_
  obtain ⟨w', hrun, r1, r2⟩ := h.drop hk o.type
  unfold Oper.wp
  simp [execOp, hop, resolve, invoke, builtin, hx, hy, hrun, Result.andThen]
  exact hK' _ _ (hK w' r1 r2)
end
theorem apart_turned {w w' : World} {b : Nat} (h : w.mapTurned w' b) : Apart (fun j => j = b) w w' :=
  ⟨h.grown.os, h.grown.tape, h.grown.output, h.grown.size, fun k hk hF => h.grown.block k hk (fun e => hF (by injection e))⟩
/-- Sectors are held against each other. -/
theorem eqi_sec {a b : ByteArray} (ha : a.size = 64) (hb : b.size = 64) (w : World) : (Op.equalIn 10000 76 (.agg (bV a)) (.agg (bV b))).run Try.prog w = .ok (decide (a = b)) w := by
  have e := run_equalIn_bytes (P := Try.prog) w 9998 76 5 64 Try.underlying76 Try.underlying5 Try.sizeOf5 a.data.toList b.data.toList (by rw [Array.length_toList]; exact ha) (by rw [Array.length_toList]; exact hb)
  have e2 : (a.data.toList == b.data.toList) = decide (a = b) := by
    by_cases h : a = b
    · subst h; simp
    · rw [decide_eq_false h]
      apply Bool.eq_false_iff.2
      intro e
      have e3 := eq_of_beq e
      apply h
      obtain ⟨⟨a⟩⟩ := a
      obtain ⟨⟨b⟩⟩ := b
      simp only at e3
      rw [e3]
  rw [e2] at e
  exact e
theorem eqg_sec (a b : ByteArray) (x y : Operand) (op : BinOp) (w : World) : (eqGuard op 76 x y (.agg (bV a)) (.agg (bV b))).run Try.prog w = .ok () w :=
  GuardAt.agg (P := Try.prog) (T := 76) bV (by kernel_rfl) op x y a b w
end Go.Proofs.Ythbnochlpnikaaa
