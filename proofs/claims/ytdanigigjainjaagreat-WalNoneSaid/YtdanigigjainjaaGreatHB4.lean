/- Parts: K1 K2 K3 K4 K5 K6 Q14 Q15 Q16 Q17 K7 K8 K9 K10 K11 K12 K13 K14. -/
import Derived.Test.YtdanigigjainjaaGreatHB3
import Derived.Maps.OwnSet
import Derived.Maps.OwnOps
import Derived.Maps.Ext
import Derived.Laws.Rows
import Derived.Laws.Tables
import Derived.Laws.CopyOwn
import Derived.Deep.WholeRow
import Derived.Shelf.SlicesE.Kit
import Derived.Stop.BytesEq
import Derived.WalkSmall
import Derived.Laws.EntriesVeiled
import Derived.ScopeJumps
import Derived.WalkMore
import Derived.Deep.DeepAppendRoom
import Derived.Great.BuildSlice
import Derived.Great.CaseRows
import Derived.Deep.RegionLaw
namespace Go.Proofs.YtdanigigjainjaaGreat.Dk
open Go.RowKit Go.Shelf
set_option maxRecDepth 100000
set_option maxHeartbeats 1000000

/-- The cells of a sector. -/
def bL (b : ByteArray) : List Value := b.data.toList.map fun (c : UInt8) => Value.int .u8 (c.toNat : Int)
def bV (b : ByteArray) : Array Value := (bL b).toArray
theorem bL_length (b : ByteArray) : (bL b).length = b.size := by
  unfold bL
  rw [List.length_map, Array.length_toList]
  rfl
theorem bV_size (b : ByteArray) : (bV b).size = b.size := by
  unfold bV
  rw [List.size_toArray, bL_length]
theorem bL_one (b : ByteArray) : ∀ u ∈ bL b, u.oneCell' = true := fun u hu => by
  obtain ⟨c, _, rfl⟩ := List.mem_map.1 hu
  rfl
theorem bV_one (b : ByteArray) : (bV b).all (·.oneCell') = true := by
  rw [Array.all_eq_true_iff_forall_mem]
  intro u hu
  exact bL_one b u (by simpa [bV] using hu)
theorem bL_inj {a b : ByteArray} (h : bL a = bL b) : a = b := by
  obtain ⟨⟨a⟩⟩ := a
  obtain ⟨⟨b⟩⟩ := b
  simp only [bL] at h
  congr 2
  refine List.map_inj_right (f := fun (c : UInt8) => Value.int .u8 (c.toNat : Int)) ?_ |>.1 h
  intro x y e
  simp only [Value.int.injEq, true_and] at e
  exact UInt8.toNat_inj.1 (by exact_mod_cast e)
theorem bV_inj {a b : ByteArray} (h : bV a = bV b) : a = b := bL_inj (by simpa [bV] using h)
theorem bL_strOf (l : List Nat) (h : ∀ b ∈ l, b < 256) : bL (strOf l) = u8s l := by
  simp only [bL, strOf, u8s, List.map_map]
  refine List.map_congr_left fun x hx => ?_
  have := h x hx
  simp [Nat.mod_eq_of_lt this]
theorem bL_zero : bL (secS 0) = List.replicate 64 (.int .u8 0) := by
  rw [secS, bL_strOf _ (by intro b hb; rw [List.mem_replicate] at hb; omega)]
  simp [u8s]
theorem bytes_of (b : ByteArray) : ∃ l : List Nat, l.length = b.size ∧ (∀ x ∈ l, x < 256) ∧ b = strOf l := by
  refine ⟨b.data.toList.map (·.toNat), ?_, fun x hx => ?_, ?_⟩
  · rw [List.length_map, Array.length_toList]
    rfl
  · obtain ⟨c, _, rfl⟩ := List.mem_map.1 hx
    exact c.toNat_lt
  · obtain ⟨⟨l⟩⟩ := b
    unfold strOf
    congr 1
    rw [List.map_map, show (UInt8.ofNat ∘ fun (x : UInt8) => x.toNat) = id from funext fun c => by simp]
    simp
theorem zero_sec (w : World) : (zeroValue 105).run Tryz.prog w = .ok (.agg (bV (secS 0))) w := by
  rw [Tryz.zeroValue105, bV, bL_zero]
  rfl

/-- How a sector reads. -/
def secD (b : ByteArray) : DataW Unit := .lit (.string b.data.toList)
theorem secD_inj {a b : ByteArray} (h : secD a = secD b) : a = b := by
  obtain ⟨⟨a⟩⟩ := a
  obtain ⟨⟨b⟩⟩ := b
  simp [secD] at h
  subst h
  rfl
open Classical in
noncomputable def secR (v : Value) : Option (DataW Unit × List MemPlace) := if h : ∃ b : ByteArray, b.size = 64 ∧ v = .agg (bV b) then some (secD h.choose, []) else none
theorem secR_mk {b : ByteArray} (h : b.size = 64) : secR (.agg (bV b)) = some (secD b, []) := by
  have hx : ∃ c : ByteArray, c.size = 64 ∧ Value.agg (bV b) = .agg (bV c) := ⟨b, h, rfl⟩
  unfold secR
  rw [dif_pos hx]
  have := hx.choose_spec.2
  injection this with this
  rw [← bV_inj this]
theorem secR_inv {v : Value} {z : DataW Unit × List MemPlace} (h : secR v = some z) : ∃ b : ByteArray, b.size = 64 ∧ v = .agg (bV b) ∧ z = (secD b, []) := by
  unfold secR at h
  split at h
  · rename_i hx
    injection h with h
    exact ⟨hx.choose, hx.choose_spec.1, hx.choose_spec.2, h.symm⟩
  · cases h

def kL (k : Nat) : Lit := .int .i64 (k : Int)
theorem kL_inj {i j : Nat} (h : kL i = kL j) : i = j := by
  simp only [kL, Lit.int.injEq, true_and] at h
  exact_mod_cast h
theorem kL_wf {k : Nat} (h : k < 40000) : (kL k).wf = true := by
  simp [kL, Lit.wf, IntKind.min, IntKind.max, IntKind.signed, IntKind.bits]
  omega
def upd (f : Nat → ByteArray) (k : Nat) (b : ByteArray) : Nat → ByteArray := fun j => if j = k then b else f j
/-- A datum that tells what the sectors are: those that are noughts are left out. -/
structure DatIs (D : DataW Unit) (m : Nat) (f : Nat → ByteArray) : Prop where
  at' : ∀ k, k < m → D.atKey (kL k) (secD (secS 0)) = secD (f k)
  has : ∀ k, k < m → Maps.has D (kL k) = decide (f k ≠ secS 0)
  only : ∀ kl, Maps.has D kl = true → ∃ k, k < m ∧ kl = kL k
theorem kL_key (k : Nat) : WideAt.IsKeyLit (kL k) := by unfold kL; exact trivial
theorem DatIs.empty (m : Nat) : DatIs (.map []) m (fun _ => secS 0) := ⟨fun k _ => rfl, fun k _ => by simp [Maps.has], fun kl h => by simp [Maps.has] at h⟩
theorem DatIs.put {D : DataW Unit} {m : Nat} {f : Nat → ByteArray} (h : DatIs D m f) (hm : Maps.IsMap D) {k : Nat} (hk : k < m) {b : ByteArray} (hb : b ≠ secS 0) : DatIs (D.put (kL k) (secD b)) m (upd f k b) := by
  refine ⟨fun j hj => ?_, fun j hj => ?_, fun kl hkl => ?_⟩
  · by_cases e : j = k
    · subst e
      rw [Maps.atKey_put_same hm (kL_key _)]
      simp [upd]
    · rw [Maps.atKey_put_other (fun x => e (kL_inj x))]
      rw [h.at' j hj]
      simp [upd, e]
  · by_cases e : j = k
    · subst e
      rw [Maps.has_put_same hm (kL_key _)]
      simp [upd, hb]
    · rw [Maps.has_put_other (fun x => e (kL_inj x)), h.has j hj]
      simp [upd, e]
  · by_cases e : kl = kL k
    · exact ⟨k, hk, e⟩
    · rw [Maps.has_put_other e] at hkl
      exact h.only kl hkl
theorem DatIs.del {D : DataW Unit} {m : Nat} {f : Nat → ByteArray} (h : DatIs D m f) {k : Nat} : DatIs (D.del (kL k)) m (upd f k (secS 0)) := by
  refine ⟨fun j hj => ?_, fun j hj => ?_, fun kl hkl => ?_⟩
  · by_cases e : j = k
    · subst e
      rw [Maps.atKey_del_same]
      simp [upd]
    · rw [Maps.atKey_del_other (fun x => e (kL_inj x))]
      rw [h.at' j hj]
      simp [upd, e]
  · by_cases e : j = k
    · subst e
      rw [Maps.has_del_same]
      simp [upd]
    · rw [Maps.has_del_other (fun x => e (kL_inj x)), h.has j hj]
      simp [upd, e]
  · by_cases e : kl = kL k
    · subst e; rw [Maps.has_del_same] at hkl; cases hkl
    · rw [Maps.has_del_other e] at hkl
      exact h.only kl hkl
theorem length_le_of_nodup {α : Type} [DecidableEq α] : ∀ (l m : List α), l.Nodup → (∀ x ∈ l, x ∈ m) → l.length ≤ m.length
  | [], _, _, _ => Nat.zero_le _
  | x :: l, m, hn, hs => by
    have hx : x ∈ m := hs x (by simp)
    have ih := length_le_of_nodup l (m.erase x) (List.nodup_cons.1 hn).2 (fun y hy => by
      refine (List.mem_erase_of_ne ?_).2 (hs y (by simp [hy]))
      rintro rfl
      exact (List.nodup_cons.1 hn).1 hy)
    rw [List.length_erase_of_mem hx] at ih
    have := List.length_pos_of_mem hx
    simp only [List.length_cons]
    omega
theorem law3 : Maps.Keyed Tryz.prog 3 := Maps.int_keyed Tryz.underlying3
theorem key3 {k : Nat} (h : k < 40000) : keyOf Tryz.prog 3 (.int .i64 (k : Int)) = some (kL k) := Maps.keyOf_int_mk Tryz.underlying3 (kL_wf h)
theorem own_small {w : World} {b n m : Nat} {D : DataW Unit} {f : Nat → ByteArray} (h : w.ownsMap Tryz.prog 3 secR b n D) (hd : DatIs D m f) (hm : m ≤ 40000) : w.ownsMap Tryz.prog 3 secR b 40000 D := by
  obtain ⟨l, hl, hp, hkey⟩ := h.canon law3
  have hp := Maps.apart_of_rising hp
  obtain ⟨es, clock, hb, F, hs, hD⟩ := h
  refine ⟨es, clock, hb, F, ?_, hD⟩
  have e1 : es.size = Maps.size D := by rw [hD, Maps.size_eq, length_read]
  rw [e1]
  subst hl
  rw [Maps.size_eq]
  letI : DecidableEq Lit := fun a b => Classical.propDecidable _
  have h1 := length_le_of_nodup (l.map (·.1)) ((List.range m).map kL) (by
    unfold List.Nodup
    rw [List.pairwise_map]
    exact hp) (fun x hx => by
      obtain ⟨p, hp1, rfl⟩ := List.mem_map.1 hx
      have : Maps.has (.map l : DataW Unit) p.1 = true := by
        rw [Maps.has_eq, List.any_eq_true]
        exact ⟨p, hp1, WideAt.sameKey_self (hkey p hp1)⟩
      obtain ⟨k, hk, e⟩ := hd.only _ this
      rw [e]
      exact List.mem_map.2 ⟨k, List.mem_range.2 hk, rfl⟩)
  simp at h1
  omega
end Go.Proofs.YtdanigigjainjaaGreat.Dk
namespace Go.Proofs.YtdanigigjainjaaGreat.Dk
open Go.RowKit Go.Shelf
set_option maxRecDepth 100000
set_option maxHeartbeats 1000000

/-- Block b holds a map that tells what the sectors are. -/
structure MapIs (w : World) (b m : Nat) (f : Nat → ByteArray) : Prop where
  le : m ≤ 40000
  size : ∀ k, k < m → (f k).size = 64
  own : ∃ D : DataW Unit, w.ownsMap Tryz.prog 3 secR b 40000 D ∧ DatIs D m f
theorem MapIs.lt {w : World} {b m : Nat} {f : Nat → ByteArray} (h : MapIs w b m f) : b < w.heap.size := by
  obtain ⟨D, h, _⟩ := h.own
  exact h.lt
theorem MapIs.of_block {w w' : World} {b m : Nat} {f : Nat → ByteArray} (h : MapIs w b m f) (e : w'.heap[b]? = w.heap[b]?) : MapIs w' b m f := by
  obtain ⟨D, ⟨es, clock, hb, r⟩, hd⟩ := h.own
  exact ⟨h.le, h.size, D, ⟨es, clock, e.trans hb, r⟩, hd⟩
theorem MapIs.below {w w' : World} {b m : Nat} {f : Nat → ByteArray} (h : MapIs w b m f) (hb : Below w.heap.size w w') : MapIs w' b m f := h.of_block (hb.block b h.lt)
theorem MapIs.congr {w : World} {b m : Nat} {f g : Nat → ByteArray} (h : MapIs w b m f) (e : ∀ k, k < m → f k = g k) : MapIs w b m g := by
  obtain ⟨D, h1, h2⟩ := h.own
  refine ⟨h.le, fun k hk => by rw [← e k hk]; exact h.size k hk, D, h1, ⟨fun k hk => by rw [← e k hk]; exact h2.at' k hk, fun k hk => by rw [← e k hk]; exact h2.has k hk, h2.only⟩⟩
theorem MapIs.made (w : World) {m : Nat} (hm : m ≤ 40000) : MapIs (w.alloc (.map #[] 0)) w.heap.size m (fun _ => secS 0) :=
  ⟨hm, fun _ _ => secS_size 0, .map [], (World.ownsMap_made w Tryz.prog 3 secR).mono (by omega), DatIs.empty m⟩
/-- A block of cells is no map's. -/
theorem MapIs.cells {w : World} {b m : Nat} {f : Nat → ByteArray} (h : MapIs w b m f) {cs : Array Value} {t : TypeId} {fr : Nat × Nat} {g : Nat} (hg : w.heap[g]? = some (.cells cs t fr)) : b ≠ g := by
  obtain ⟨D, ⟨es, clock, hb, r⟩, hd⟩ := h.own
  rintro rfl
  rw [hg] at hb
  cases hb
theorem secR_zero : secR (.agg (bV (secS 0))) = some (secD (secS 0), []) := secR_mk (secS_size 0)
set_option maxRecDepth 100000 in
theorem MapIs.look {w : World} {b m : Nat} {f : Nat → ByteArray} (h : MapIs w b m f) {k : Nat} (hk : k < m) : (Instr.lookup 83 (.map (some b)) (.int .i64 (k : Int)) false).run Tryz.prog w = .ok (.agg (bV (f k))) w := by
  obtain ⟨D, h1, h2⟩ := h.own
  obtain ⟨v, ps, hrun, hv⟩ := h1.lookup law3 Tryz.underlying83 (zero_sec w) secR_zero (key3 (Nat.lt_of_lt_of_le hk h.le))
  rw [h2.at' k hk] at hv
  obtain ⟨b', hb', rfl, hz⟩ := secR_inv hv
  injection hz with hz _
  rw [secD_inj hz]
  exact hrun
theorem MapIs.put {w : World} {b m : Nat} {f : Nat → ByteArray} (h : MapIs w b m f) {k : Nat} (hk : k < m) {c : ByteArray} (hc : c.size = 64) (hne : c ≠ secS 0) :
    ∃ w', (Instr.mapUpdate 83 (.map (some b)) (.int .i64 (k : Int)) (.agg (bV c))).run Tryz.prog w = .ok () w' ∧ MapIs w' b m (upd f k c) ∧ w.mapTurned w' b := by
  obtain ⟨D, h1, h2⟩ := h.own
  obtain ⟨w', hrun, h3, h4⟩ := h1.store law3 Tryz.underlying83 (by unfold maxLen; omega) (key3 (Nat.lt_of_lt_of_le hk h.le)) (secR_mk hc)
  have h5 := h2.put h1.isMap hk hne
  refine ⟨w', hrun, ⟨h.le, fun j hj => ?_, _, own_small h3 h5 h.le, h5⟩, h4⟩
  unfold upd
  split
  · exact hc
  · exact h.size j hj
theorem MapIs.drop {w : World} {b m : Nat} {f : Nat → ByteArray} (h : MapIs w b m f) {k : Nat} (hk : k < m) (ty : TypeId) :
    ∃ w', (Builtin.delete_ #[83, 3] ty #[.map (some b), .int .i64 (k : Int)]).run Tryz.prog w = .ok (.tuple #[]) w' ∧ MapIs w' b m (upd f k (secS 0)) ∧ w.mapTurned w' b := by
  obtain ⟨D, h1, h2⟩ := h.own
  obtain ⟨w', hrun, h3, h4⟩ := h1.drop law3 Tryz.underlying83 (key3 (Nat.lt_of_lt_of_le hk h.le)) ty
  refine ⟨w', hrun, ⟨h.le, fun j hj => ?_, _, h3, h2.del⟩, h4⟩
  unfold upd
  split
  · exact secS_size 0
  · exact h.size j hj
section
variable {w : World} {ops : Array Oper} {rest : List Oper} {o : Oper} {a : Act} {Q : Exit → Act → World → Prop}
theorem wpList_put (hg : o.guard = none) (x y z : Operand) (hop : o.op = Op.mapUpdate 83 x y z) {b m : Nat} {f : Nat → ByteArray} (h : MapIs w b m f) {k : Nat} (hk : k < m) {c : ByteArray} (hc : c.size = 64) (hne : c ≠ secS 0) (hx : a.eval x = .map (some b)) (hy : a.eval y = .int .i64 (k : Int)) (hz : a.eval z = .agg (bV c))
    (hK : ∀ w', MapIs w' b m (upd f k c) → w.mapTurned w' b → wpList Tryz.prog ops Q rest (a.put o.dst undef) w') : wpList Tryz.prog ops Q (o :: rest) a w := by
  refine wpList_plain hg fun K' hK' => ?_
  obtain ⟨w', hrun, r1, r2⟩ := h.put hk hc hne
  unfold Oper.wp
  simp [execOp, hop, hx, hy, hz, hrun, Result.andThen]
  exact hK' _ _ (hK w' r1 r2)
theorem wpList_drop (hg : o.guard = none) (x y : Operand) (hop : o.op = Op.call { callee := Callee.builtin Builtin.delete, args := #[x, y], argTypes := #[83, 3] }) {b m : Nat} {f : Nat → ByteArray} (h : MapIs w b m f) {k : Nat} (hk : k < m) (hx : a.eval x = .map (some b)) (hy : a.eval y = .int .i64 (k : Int))
    (hK : ∀ w', MapIs w' b m (upd f k (secS 0)) → w.mapTurned w' b → wpList Tryz.prog ops Q rest (a.put o.dst (.tuple #[])) w') : wpList Tryz.prog ops Q (o :: rest) a w := by
  refine wpList_plain hg fun K' hK' => ?_
  obtain ⟨w', hrun, r1, r2⟩ := h.drop hk o.type
  unfold Oper.wp
  simp [execOp, hop, resolve, invoke, builtin, hx, hy, hrun, Result.andThen]
  exact hK' _ _ (hK w' r1 r2)
end
theorem apart_turned {w w' : World} {b : Nat} (h : w.mapTurned w' b) : Apart (fun j => j = b) w w' :=
  ⟨h.grown.os, h.grown.tape, h.grown.output, h.grown.size, fun k hk hF => h.grown.block k hk (fun e => hF (by injection e))⟩
/-- Sectors are held against each other. -/
theorem eqi_sec {a b : ByteArray} (ha : a.size = 64) (hb : b.size = 64) (w : World) : (Op.equalIn 10000 105 (.agg (bV a)) (.agg (bV b))).run Tryz.prog w = .ok (decide (a = b)) w := by
  have e := run_equalIn_bytes (P := Tryz.prog) w 9998 105 5 64 Tryz.underlying105 Tryz.underlying5 Tryz.sizeOf5 a.data.toList b.data.toList (by rw [Array.length_toList]; exact ha) (by rw [Array.length_toList]; exact hb)
  have e2 : (a.data.toList == b.data.toList) = decide (a = b) := by
    by_cases h : a = b
    · subst h; simp
    · rw [decide_eq_false h]
      apply Bool.eq_false_iff.2
      intro e
      have e3 := eq_of_beq e
      apply h
      obtain ⟨⟨a⟩⟩ := a
      obtain ⟨⟨b⟩⟩ := b
      simp only at e3
      rw [e3]
  rw [e2] at e
  exact e
theorem eqg_sec (a b : ByteArray) (x y : Operand) (op : BinOp) (w : World) : (eqGuard op 105 x y (.agg (bV a)) (.agg (bV b))).run Tryz.prog w = .ok () w :=
  GuardAt.agg (P := Tryz.prog) (T := 105) bV (by kernel_rfl) op x y a b w
end Go.Proofs.YtdanigigjainjaaGreat.Dk
namespace Go.Proofs.YtdanigigjainjaaGreat.Dk
open Go.RowKit Go.Shelf
set_option maxRecDepth 100000
set_option maxHeartbeats 1000000

/-- An array's first places, with no room behind. -/
theorem run_cut (B n : Nat) (hn : n ≤ 64) (w : World) :
    (Instr.sliceAt 105 (.pointer (some ⟨B, 0, none⟩)) none (some (.int .i64 n)) (some (.int .i64 n))).run Tryz.prog w = .ok (.slice (some ⟨B, 0, none⟩) n n) w := by
  have h1 := fun y code w (h : n ≤ y) => run_sliceBound (P := Tryz.prog) w .i64 (n : Int) y code (by omega) (by omega)
  simp [Instr.sliceAt, Instr.sureAddr, run_underlying Tryz.underlying105, Instr.sliceBounds, h1 64 _ w hn, h1 n _ w (Nat.le_refl _), Tryz.sizeOf5, Result.andThen, Addr.add]
set_option maxRecDepth 100000 in
set_option maxHeartbeats 1500000 in
theorem cut_any (b : ByteArray) (n : Nat) (hn : n ≤ 64) (w : World) :
    Calls Tryz.prog 85 #[.agg (bV b), .int .i64 n] w fun r w' => r = .returned (.slice (some ⟨w.heap.size, 0, none⟩) n n) ∧ w' = w.alloc (.cells (bV b) 105) := by
  have hc := run_cut w.heap.size n hn
  go_enter Tryz.func85, Tryz.ntmps85
  go_wp2
  go_ret
  exact ⟨rfl, rfl⟩
set_option maxRecDepth 100000 in
set_option maxHeartbeats 1500000 in
theorem bytes_any {b m : Nat} {f : Nat → ByteArray} {k : Nat} {w : World} (h : MapIs w b m f) (hk : k < m) :
    Calls Tryz.prog 86 #[.agg #[.map (some b)], .int .i64 k] w fun r w' => r = .returned (.slice (some ⟨w.heap.size + 1, 0, none⟩) 64 64) ∧ w' = (w.alloc (.cells #[.map (some b)] 85)).alloc (.cells (bV (f k)) 105) := by
  have hl := (h.below (w' := w.alloc (.cells #[.map (some b)] 85)) ((Below.refl _ _).alloc (Nat.le_refl _) _)).look hk
  have C := cut_any (f k) 64 (Nat.le_refl _)
  go_enter Tryz.func86, Tryz.ntmps86
  go_wp2_with (first
    | (go_at_call 85; refine (C _).mono ?_; rintro e w' ⟨rfl, rfl⟩)
    | fail)
  go_ret
  exact ⟨by simp, rfl⟩
end Go.Proofs.YtdanigigjainjaaGreat.Dk
namespace Go.Proofs.YtdanigigjainjaaGreat.Dk
open Go.RowKit Go.Shelf
set_option maxRecDepth 100000
set_option maxHeartbeats 1000000

/-- The first bytes are written; the others stay. -/
def layB (l : List Nat) (c : ByteArray) : ByteArray := strOf l ++ c.extract l.length 64
theorem bL_append (a b : ByteArray) : bL (a ++ b) = bL a ++ bL b := by
  simp [bL, ByteArray.data_append]
theorem bL_drop {c : ByteArray} (hc : c.size = 64) (i : Nat) : bL (c.extract i 64) = (bL c).drop i := by
  have : c.data.toList.length = 64 := by rw [Array.length_toList]; exact hc
  simp only [bL, ByteArray.data_extract, Array.toList_extract, ← List.map_drop]
  rw [List.extract_eq_take_drop, List.take_of_length_le]
  rw [List.length_drop, this]
  omega
theorem u8s_length (l : List Nat) : (u8s l).length = l.length := by simp [u8s]
theorem layB_size {l : List Nat} {c : ByteArray} (hl : l.length ≤ 64) (hc : c.size = 64) : (layB l c).size = 64 := by
  unfold layB
  rw [ByteArray.size_append, strOf_size, ByteArray.size_extract]
  omega
theorem lay_splice {l : List Nat} {c : ByteArray} (hb : ∀ x ∈ l, x < 256) (hc : c.size = 64) : splice (bL c) 0 (u8s l) = bL (layB l c) := by
  unfold layB splice
  rw [bL_append, bL_strOf l hb, bL_drop hc, u8s_length]
  simp
theorem setRow2 (w : World) (A : Obj) (c c' : Array Value) (t : TypeId) : ((w.alloc A).alloc (.cells c t)).setRow (w.heap.size + 1) c' = (w.alloc A).alloc (.cells c' t) := by
  have := World.setRow_alloc_new (w.alloc A) c c' t
  rwa [World.size_alloc] at this
theorem built_zero : Tryz.prog.built 105 [] = some (bV (secS 0)) := by
  rw [bV, bL_zero]
  kernel_rfl
theorem wpList_zero {w : World} {ops : Array Oper} {rest : List Oper} {o : Oper} {a : Act} {Q : Exit → Act → World → Prop} (hg : o.guard = none) (ho : o.op = .build 105 #[])
    (h : wpList Tryz.prog ops Q rest (a.put o.dst (.agg (bV (secS 0)))) w) : wpList Tryz.prog ops Q (o :: rest) a w := by
  refine wpList_build hg 105 #[] ho ?_ ?_
  · simp [built_zero]
  · simpa [built_zero] using h
theorem news_u8 {w : World} {B off : Nat} {l : List Nat} (h : ∀ i, i < l.length → w.cell? ⟨B, off + i, none⟩ = some (.int .u8 (l.getD i 0 : Nat))) : ∀ (j : Nat) (u : Value), (u8s l)[j]? = some u → w.cell? ((⟨B, off, none⟩ : Addr).add j) = some u := fun j u hu => by
  have hj : j < l.length := by
    rw [← u8s_length]
    exact (List.getElem?_eq_some_iff.1 hu).1
  rw [addr_plain, h j hj]
  simp [u8s, hj] at hu
  rw [← hu]
  simp [List.getD_eq_getElem?_getD, hj]
theorem u8s_one (l : List Nat) : ∀ u ∈ u8s l, u.oneCell' = true := fun u hu => by
  obtain ⟨c, _, rfl⟩ := List.mem_map.1 hu
  rfl
/-- Bytes that come from a slice. -/
def NewsAt (w : World) (p : Option Addr) (l : List Nat) : Prop := 0 < (u8s l).length → ∃ ad, p = some ad ∧ ∀ j v, (u8s l)[j]? = some v → w.cell? (ad.add j) = some v
theorem NewsAt.of {w : World} {p : Option Addr} {l : List Nat} (h : BytesAt w p l) : NewsAt w p l := fun h0 => by
  rw [u8s_length] at h0
  obtain ⟨B, off, rfl, hc⟩ := bytesAt_lt h (List.length_pos_iff.1 h0)
  exact ⟨_, rfl, news_u8 hc⟩
set_option maxRecDepth 100000 in
set_option maxHeartbeats 3000000 in
theorem lay_any {b m : Nat} {f : Nat → ByteArray} {k : Nat} {w : World} (h : MapIs w b m f) (hk : k < m) (p : Option Addr) (l : List Nat) (cap : Nat) (hl : l.length ≤ 64) (hb : ∀ x ∈ l, x < 256) (hB : Hid (BytesAt w p l)) :
    Calls Tryz.prog 84 #[.agg #[.map (some b)], .int .i64 k, .slice p l.length cap] w fun r w' => r = .returned (.tuple #[]) ∧ MapIs w' b m (upd f k (layB l (f k))) ∧ Apart (fun j => j = b) w w' := by
  have hsz := h.size k hk
  have hblt := h.lt
  obtain ⟨w2, hw2⟩ : ∃ w2, (w.alloc (.cells #[.map (some b)] 85)).alloc (.cells (bV (f k)) 105) = w2 := ⟨_, rfl⟩
  have B1 : Below w.heap.size w (w.alloc (.cells #[.map (some b)] 85)) := (Below.refl _ _).alloc (Nat.le_refl _) _
  have hl1 := (h.below B1).look hk
  have B2 : Below w.heap.size w w2 := by subst hw2; exact B1.alloc (by simp) _
  have hs2 : w2.heap.size = w.heap.size + 1 + 1 := by subst hw2; simp
  have hx2 : w2.cell? ⟨w.heap.size, 0, none⟩ = some (.map (some b)) := by subst hw2; go_cell
  have hg2 : w2.heap[w.heap.size + 1]? = some (.cells (bL (f k)).toArray 105 (0, 0)) := by subst hw2; exact heap_alloc2_new w _ _
  have hcut := run_cut (w.heap.size + 1) l.length hl
  have hp2 : NewsAt w2 p l := NewsAt.of (bytesAt_below hB.out B2)
  have hcs := layB_size hl hsz
  have hsp := Lib.hid (lay_splice hb hsz)
  generalize layB l (f k) = c at *
  have heg := fun x y w => eqg_sec c (secS 0) x y .eql w
  have he0 := Lib.hid fun w => eqi_sec hcs (secS_size 0) w
  have fin : Hid (∀ w3 w4, Below (w.heap.size + 1) w2 w3 → w3.mapTurned w4 b → Apart (fun j => j = b) w w4) := Lib.hid fun w3 w4 hB3 ht => by
    have b3 : Below w.heap.size w w3 := B2.trans (hB3.mono (by omega))
    have a4 := apart_turned ht
    exact ⟨a4.os.trans b3.os, a4.tape.trans b3.tape, a4.output.trans b3.output, Nat.le_trans b3.size a4.size, fun j hj hF => (a4.block j (Nat.lt_of_lt_of_le hj b3.size) hF).trans (b3.block j hj)⟩
  have M2 := h.below B2
  by_cases hz0 : c = secS 0
  · have he : ∀ w, (Op.equalIn 10000 105 (.agg (bV c)) (.agg (bV (secS 0)))).run Tryz.prog w = .ok true w := fun w => by rw [he0.out, decide_eq_true hz0]
    have hz := Lib.hid hz0
    clear hz0
    go_enter Tryz.func84, Tryz.ntmps84
    go_wp2_with (first
      | (refine wpList_store_row rfl 105 _ _ rfl (w.heap.size + 1) (bV (f k)) rfl rfl 105 _ (heap_alloc2_new w _ _) (by rw [bV_size, hsz]; kernel_rfl) (by rw [bV_size, hsz]; kernel_rfl) (bV_one _) ?_; rw [setRow2, hw2])
      | (refine wpList_copy_splice rfl _ _ 49 49 rfl 5 Tryz.underlying49 (by kernel_rfl) _ _ _ _ _ _ rfl rfl (w.heap.size + 1) 0 (bL (f k)) 105 hg2 (u8s l) (by rw [u8s_length]; exact (Nat.min_self _).symm) (fun h0 => ⟨rfl, hp2 h0⟩) (by rw [u8s_length, bL_length, hsz]; omega) (u8s_one l) (w.heap.size + 1) w2 (Below.refl _ _) (Nat.le_refl _) ?_; intro w3 HG3 hB3; have hx3 := (hB3.cell (p := ⟨w.heap.size, 0, none⟩) (by simp)).trans hx2; have M3 := M2.of_block (hB3.block b (by omega)); have hg3 : w3.heap[w.heap.size + 1]? = some (.cells (bV c) 105 (0, 0)) := by (have := HG3.out; rw [hsp.out] at this; exact this))
      | (refine wpList_zero rfl rfl ?_)
      | (refine wpList_load_row rfl 105 _ rfl (w.heap.size + 1) rfl 105 (bV c) (0, 0) _ hg3 Tryz.underlying105 rfl (by rw [bV_size, hcs]; kernel_rfl) ?_)
      | (at_delete; refine wpList_drop rfl _ _ rfl M3 hk rfl rfl ?_; intro w4 M4 ht4)
      | fail)
    go_end0
    exact ⟨rfl, by rw [hz.out]; exact M4, fin.out _ _ hB3 ht4⟩
  · have he : ∀ w, (Op.equalIn 10000 105 (.agg (bV c)) (.agg (bV (secS 0)))).run Tryz.prog w = .ok false w := fun w => by rw [he0.out, decide_eq_false hz0]
    have hz := Lib.hid hz0
    clear hz0
    go_enter Tryz.func84, Tryz.ntmps84
    go_wp2_with (first
      | (refine wpList_store_row rfl 105 _ _ rfl (w.heap.size + 1) (bV (f k)) rfl rfl 105 _ (heap_alloc2_new w _ _) (by rw [bV_size, hsz]; kernel_rfl) (by rw [bV_size, hsz]; kernel_rfl) (bV_one _) ?_; rw [setRow2, hw2])
      | (refine wpList_copy_splice rfl _ _ 49 49 rfl 5 Tryz.underlying49 (by kernel_rfl) _ _ _ _ _ _ rfl rfl (w.heap.size + 1) 0 (bL (f k)) 105 hg2 (u8s l) (by rw [u8s_length]; exact (Nat.min_self _).symm) (fun h0 => ⟨rfl, hp2 h0⟩) (by rw [u8s_length, bL_length, hsz]; omega) (u8s_one l) (w.heap.size + 1) w2 (Below.refl _ _) (Nat.le_refl _) ?_; intro w3 HG3 hB3; have hx3 := (hB3.cell (p := ⟨w.heap.size, 0, none⟩) (by simp)).trans hx2; have M3 := M2.of_block (hB3.block b (by omega)); have hg3 : w3.heap[w.heap.size + 1]? = some (.cells (bV c) 105 (0, 0)) := by (have := HG3.out; rw [hsp.out] at this; exact this))
      | (refine wpList_zero rfl rfl ?_)
      | (refine wpList_load_row rfl 105 _ rfl (w.heap.size + 1) rfl 105 (bV c) (0, 0) _ hg3 Tryz.underlying105 rfl (by rw [bV_size, hcs]; kernel_rfl) ?_)
      | (at_mapUpdate; refine wpList_put rfl _ _ _ rfl M3 hk hcs hz.out rfl rfl rfl ?_; intro w4 M4 ht4)
      | fail)
    go_end0
    exact ⟨rfl, M4, fin.out _ _ hB3 ht4⟩
end Go.Proofs.YtdanigigjainjaaGreat.Dk
namespace Go.Proofs.YtdanigigjainjaaGreat.Dk
open Go.RowKit Go.Shelf
set_option maxRecDepth 100000
set_option maxHeartbeats 1000000

theorem ne_int (a b : Int) : (a != b) = decide (a ≠ b) := by
  by_cases h : a = b <;> simp [h]
set_option maxRecDepth 100000 in
set_option maxHeartbeats 1500000 in
theorem none_any {B : Nat} {m : Int} {w : World} (h : w.cell? ⟨B, 2, none⟩ = some (.int .i64 m)) (hm : m ≠ 0) :
    Calls Tryz.prog 53 #[.pointer (some ⟨B, 0, none⟩)] w fun r w' => r = .returned (.bool false) ∧ w = w' := by
  have hm' : (m == 0) = false := by simpa using hm
  go_enter Tryz.func53, Tryz.ntmps53
  go_wp2
  go_ret
  exact ⟨rfl, rfl⟩
set_option maxRecDepth 100000 in
set_option maxHeartbeats 1500000 in
theorem stopped_any {B : Nat} {m l : Int} {b : Bool} {w : World} (h : w.cell? ⟨B, 2, none⟩ = some (.int .i64 m)) (hm : m ≠ 0) (h4 : w.cell? ⟨B, 4, none⟩ = some (.bool b)) (h5 : w.cell? ⟨B, 5, none⟩ = some (.int .i64 l)) :
    Calls Tryz.prog 96 #[.pointer (some ⟨B, 0, none⟩)] w fun r w' => r = .returned (.bool (b && decide (l = 0))) ∧ w = w' := by
  have C := none_any h hm
  go_enter Tryz.func96, Tryz.ntmps96
  go_wp2_with (first
    | (go_at_call 53; refine C.mono ?_; rintro e w' ⟨rfl, rfl⟩)
    | fail)
  all_goals (go_ret; refine ⟨?_, rfl⟩; simp_all)
theorem odd1_any {A : Nat} {p : Option Addr} {n c : Nat} {w : World} (h : w.cell? ⟨A, 0, none⟩ = some (.slice p n c)) :
    Calls Tryz.prog 155 #[.pointer (some ⟨A, 0, none⟩)] w fun r w' => r = .returned (.bool (decide (n ≠ 64))) ∧ Below w.heap.size w w' := by
  go_enter Tryz.func155, Tryz.ntmps155
  go_wp2
  go_ret
  refine ⟨?_, Below.refl _ _⟩
  rw [ne_int]
  by_cases e : n = 64
  · subst e; rfl
  · rw [decide_eq_true e, decide_eq_true (show ((n : Int) ≠ 64) by omega)]; rfl
theorem below1_any {A : Nat} {n : Int} {w : World} (h : w.cell? ⟨A, 0, none⟩ = some (.int .i64 n)) :
    Calls Tryz.prog 82 #[.pointer (some ⟨A, 0, none⟩)] w fun r w' => r = .returned (.bool (decide (n < 0))) ∧ Below w.heap.size w w' := by
  go_enter Tryz.func82, Tryz.ntmps82
  go_wp2
  go_ret
  exact ⟨rfl, Below.refl _ _⟩
theorem above1_any {A : Nat} {n : Int} {w : World} (h : w.cell? ⟨A, 0, none⟩ = some (.int .i64 n)) :
    Calls Tryz.prog 83 #[.pointer (some ⟨A, 0, none⟩)] w fun r w' => r = .returned (.bool (decide (64 ≤ n))) ∧ Below w.heap.size w w' := by
  go_enter Tryz.func83, Tryz.ntmps83
  go_wp2
  go_ret
  exact ⟨rfl, Below.refl _ _⟩
set_option maxRecDepth 100000 in
set_option maxHeartbeats 1500000 in
theorem beyond1_any {A A' B : Nat} {k m : Int} {w : World} (h : w.cell? ⟨A, 0, none⟩ = some (.int .i64 k)) (h' : w.cell? ⟨A', 0, none⟩ = some (.pointer (some ⟨B, 0, none⟩))) (h2 : w.cell? ⟨B, 2, none⟩ = some (.int .i64 m)) :
    Calls Tryz.prog 156 #[.pointer (some ⟨A, 0, none⟩), .pointer (some ⟨A', 0, none⟩)] w fun r w' => r = .returned (.bool (decide (k < 0) || decide (m ≤ k))) ∧ Below w.heap.size w w' := by
  by_cases hk : k < 0
  · have hd : decide (k < 0) = true := decide_eq_true hk
    go_enter Tryz.func156, Tryz.ntmps156
    go_wp2
    go_quiet (fail)
    go_wp2
    go_ret
    exact ⟨by first | rfl | simp [hd], ⟨rfl, rfl, rfl, Nat.le_refl _, fun _ _ => rfl⟩⟩
  · have hd : decide (k < 0) = false := decide_eq_false hk
    go_enter Tryz.func156, Tryz.ntmps156
    go_wp2
    go_quiet (fail)
    go_wp2
    go_ret
    exact ⟨by first | rfl | simp [hd], ⟨rfl, rfl, rfl, Nat.le_refl _, fun _ _ => rfl⟩⟩
end Go.Proofs.YtdanigigjainjaaGreat.Dk
namespace Go.Proofs.YtdanigigjainjaaGreat.Dk
open Go.RowKit Go.Shelf
set_option maxRecDepth 100000
set_option maxHeartbeats 1000000

set_option maxRecDepth 100000 in
set_option maxHeartbeats 1500000 in
theorem odd_any (p : Option Addr) (n c : Nat) (w : World) :
    Calls Tryz.prog 132 #[.slice p n c] w fun r w' => r = .returned (.agg #[.int .i64 2, .func (.func 155) #[] #[.pointer (some ⟨w.heap.size, 0, none⟩)]]) ∧ w'.cell? ⟨w.heap.size, 0, none⟩ = some (.slice p n c) ∧ Below w.heap.size w w' := by
  go_enter Tryz.func132, Tryz.ntmps132
  go_wp2
  refine bodyPost_ret (v := .agg #[.int .i64 2, .func (.func 155) #[] #[.pointer (some ⟨w.heap.size, 0, none⟩)]]) ?_ rfl ⟨rfl, by go_cell, (((Below.refl _ _).alloc (Nat.le_refl _) _).alloc (by simp) _)⟩
  simp [results, Tryz.results132, go_sem]
set_option maxRecDepth 100000 in
set_option maxHeartbeats 1500000 in
theorem beyond_any (d : Option Addr) (k : Int) (w : World) :
    Calls Tryz.prog 133 #[.pointer d, .int .i64 k] w fun r w' => r = .returned (.agg #[.int .i64 4, .func (.func 156) #[] #[.pointer (some ⟨w.heap.size + 1, 0, none⟩), .pointer (some ⟨w.heap.size, 0, none⟩)]]) ∧ w'.cell? ⟨w.heap.size, 0, none⟩ = some (.pointer d) ∧ w'.cell? ⟨w.heap.size + 1, 0, none⟩ = some (.int .i64 k) ∧ Below w.heap.size w w' := by
  go_enter Tryz.func133, Tryz.ntmps133
  go_wp2
  refine bodyPost_ret (v := .agg #[.int .i64 4, .func (.func 156) #[] #[.pointer (some ⟨w.heap.size + 1, 0, none⟩), .pointer (some ⟨w.heap.size, 0, none⟩)]]) ?_ rfl ⟨rfl, by go_cell, by go_cell, ((((Below.refl _ _).alloc (Nat.le_refl _) _).alloc (by simp) _).alloc (by simp; omega) _)⟩
  simp [results, Tryz.results133, go_sem]
set_option maxRecDepth 100000 in
set_option maxHeartbeats 1500000 in
theorem halted_any (d : Option Addr) (w : World) :
    Calls Tryz.prog 113 #[.pointer d] w fun r w' => r = .returned (.agg #[.int .i64 140, .func (.func 96) #[.pointer d] #[]]) ∧ Below w.heap.size w w' := by
  go_enter Tryz.func113, Tryz.ntmps113
  go_wp2
  refine bodyPost_ret (v := .agg #[.int .i64 140, .func (.func 96) #[.pointer d] #[]]) ?_ rfl ⟨rfl, ((Below.refl _ _).alloc (Nat.le_refl _) _)⟩
  simp [results, Tryz.results113, go_sem]
set_option maxRecDepth 100000 in
set_option maxHeartbeats 1500000 in
theorem below_any2 (n : Int) (w : World) :
    Calls Tryz.prog 57 #[.int .i64 n] w fun r w' => r = .returned (.agg #[.int .i64 2, .func (.func 82) #[] #[.pointer (some ⟨w.heap.size, 0, none⟩)]]) ∧ w'.cell? ⟨w.heap.size, 0, none⟩ = some (.int .i64 n) ∧ Below w.heap.size w w' := by
  go_enter Tryz.func57, Tryz.ntmps57
  go_wp2
  refine bodyPost_ret (v := .agg #[.int .i64 2, .func (.func 82) #[] #[.pointer (some ⟨w.heap.size, 0, none⟩)]]) ?_ rfl ⟨rfl, by go_cell, (((Below.refl _ _).alloc (Nat.le_refl _) _).alloc (by simp) _)⟩
  simp [results, Tryz.results57, go_sem]
set_option maxRecDepth 100000 in
set_option maxHeartbeats 1500000 in
theorem above_any2 (n : Int) (w : World) :
    Calls Tryz.prog 58 #[.int .i64 n] w fun r w' => r = .returned (.agg #[.int .i64 2, .func (.func 83) #[] #[.pointer (some ⟨w.heap.size, 0, none⟩)]]) ∧ w'.cell? ⟨w.heap.size, 0, none⟩ = some (.int .i64 n) ∧ Below w.heap.size w w' := by
  go_enter Tryz.func58, Tryz.ntmps58
  go_wp2
  refine bodyPost_ret (v := .agg #[.int .i64 2, .func (.func 83) #[] #[.pointer (some ⟨w.heap.size, 0, none⟩)]]) ?_ rfl ⟨rfl, by go_cell, (((Below.refl _ _).alloc (Nat.le_refl _) _).alloc (by simp) _)⟩
  simp [results, Tryz.results58, go_sem]
/-- A question: its error, the function that answers it, what that is called with, the answer. -/
structure Qn where
  e : Int
  F : Nat
  A : Array Value
  bound : Bool
  ans : Bool
def Qn.fv (q : Qn) : Value := if q.bound then .func (.func q.F) q.A #[] else .func (.func q.F) #[] q.A
structure QnOk (w : World) (q : Qn) : Prop where
  enters : ∀ (args : Array Value) (w : World), (callFunc q.F args).run Tryz.prog w = .ok (.enter q.F args) w
  tells : ∀ w', Below w.heap.size w w' → Calls Tryz.prog q.F q.A w' fun r w2 => r = .returned (.bool q.ans) ∧ Below w'.heap.size w' w2
/-- The error of the first question that is answered by yes. -/
def refE : List Qn → Int
  | [] => 0
  | q :: l => if q.ans then q.e else refE l
theorem refE_drop {l : List Qn} {i : Nat} {q : Qn} (h : l[i]? = some q) : refE (l.drop i) = if q.ans then q.e else refE (l.drop (i + 1)) := by
  rw [List.drop_eq_getElem_cons (List.getElem?_eq_some_iff.1 h).1]
  rw [(List.getElem?_eq_some_iff.1 h).2]
  rfl
def QsAt (w : World) (g : Nat) (l : List Qn) : Prop := ∀ (i : Nat) (q : Qn), l[i]? = some q → w.cell? ⟨g, i * 2, none⟩ = some (.int .i64 q.e) ∧ w.cell? ⟨g, i * 2 + 1, none⟩ = some q.fv
theorem QsAt.below {w w' : World} {g : Nat} {l : List Qn} (h : QsAt w g l) (hb : Below w.heap.size w w') : QsAt w' g l := fun i q hq => ⟨below_kept hb _ _ (h i q hq).1, below_kept hb _ _ (h i q hq).2⟩
set_option maxRecDepth 100000 in
set_option maxHeartbeats 3000000 in
theorem refusal_any {B : Nat} {m : Int} {w : World} (h : w.cell? ⟨B, 2, none⟩ = some (.int .i64 m)) (hm : m ≠ 0) (l : List Qn) (g c : Nat) (hl : l.length ≤ 10) (hq : Hid (QsAt w g l)) (ok : Hid (∀ (i : Nat) (q : Qn), l[i]? = some q → QnOk w q)) :
    Calls Tryz.prog 56 #[.pointer (some ⟨B, 0, none⟩), .slice (some ⟨g, 0, none⟩) l.length c] w fun r w' => r = .returned (.int .i64 (refE l)) ∧ Below w.heap.size w w' := by
  have C := none_any h hm
  go_enter Tryz.func56, Tryz.ntmps56
  go_wp2
  refine wp_scope_jumps 0 (fun a' w' => Below w.heap.size w w' ∧ ∃ (u2 u3 u6 u7 u8 u9 u10 u11 u12 u13 u14 u15 u16 u17 u18 u19 u20 u21 u22 : Value), a' = { tmps := #[.pointer (some ⟨B, 0, none⟩), .slice (some ⟨g, 0, none⟩) l.length c, u2, u3, .int .i64 0, .int .i64 (refE l), u6, u7, u8, u9, u10, u11, u12, u13, u14, u15, u16, u17, u18, u19, u20, u21, u22], defers := [] }) (fun _ _ => 0) rfl ?_ ?_
  · go_wp2_with (first
      | (go_at_call 53; refine C.mono ?_; rintro e w' ⟨rfl, rfl⟩)
      | fail)
    go_loopw [12] (fun i wr => ∃ k : Nat, k ≤ l.length ∧ i = .int .i64 k ∧ refE (l.drop k) = refE l ∧ Below w.heap.size w wr) (fun i _ => (l.length - intOf i).toNat)
    case atStart => exact ⟨0, Nat.zero_le _, by first | rfl | go_num, rfl, Below.refl _ _⟩
    case round =>
      obtain ⟨k, hk, rfl, hE, hB⟩ := hrel
      by_cases hlt : k < l.length
      · obtain ⟨q, hqk⟩ : ∃ q, l[k]? = some q := ⟨_, List.getElem?_eq_getElem hlt⟩
        obtain ⟨c0, c1⟩ := (hq.out.below hB) k q hqk
        obtain ⟨e0, F, A, bd, ans⟩ := q
        cases bd
        · have hen := (ok.out k _ hqk).enters
          have T := Lib.hid ((ok.out k _ hqk).tells _ (hB.alloc hB.size (.cells #[.int .i64 e0, .func (.func F) #[] A] 110)))
          simp only [Qn.fv, Bool.false_eq_true, if_false] at c1
          cases ans
          · go_wp2_with (first
              | (with_reducible refine T.out.mono ?_; rintro e w2 ⟨rfl, hb2⟩; have hB2 := Lib.hid ((hB.alloc hB.size (.cells #[.int .i64 e0, .func (.func F) #[] A] 110)).trans (hb2.mono (by have := hB.size; simp; omega))))
              | fail)
            go_roundw
            case rel => exact ⟨k + 1, hlt, by first | rfl | go_num, by rw [← hE, refE_drop hqk]; rfl, hB2.out⟩
            case measure => simp [intOf]; omega
          · go_wp2_with (first
              | (with_reducible refine T.out.mono ?_; rintro e w2 ⟨rfl, hb2⟩; have hB2 := Lib.hid ((hB.alloc hB.size (.cells #[.int .i64 e0, .func (.func F) #[] A] 110)).trans (hb2.mono (by have := hB.size; simp; omega))); have x0 : w2.cell? ⟨wr.heap.size, 0, none⟩ = some (.int .i64 e0) := (hb2.cell (by simp)).trans (by go_cell))
              | fail)
            go_step3
            have e5 : e0 = refE l := by rw [← hE, refE_drop hqk]; rfl
            subst e5
            exact ⟨rfl, hB2.out, _, _, _, _, _, _, _, _, _, _, _, _, _, _, _, _, _, _, _, rfl⟩
        · have hen := (ok.out k _ hqk).enters
          have T := Lib.hid ((ok.out k _ hqk).tells _ (hB.alloc hB.size (.cells #[.int .i64 e0, .func (.func F) A #[]] 110)))
          simp only [Qn.fv, if_true] at c1
          cases ans
          · go_wp2_with (first
              | (with_reducible refine T.out.mono ?_; rintro e w2 ⟨rfl, hb2⟩; have hB2 := Lib.hid ((hB.alloc hB.size (.cells #[.int .i64 e0, .func (.func F) A #[]] 110)).trans (hb2.mono (by have := hB.size; simp; omega))))
              | fail)
            go_roundw
            case rel => exact ⟨k + 1, hlt, by first | rfl | go_num, by rw [← hE, refE_drop hqk]; rfl, hB2.out⟩
            case measure => simp [intOf]; omega
          · go_wp2_with (first
              | (with_reducible refine T.out.mono ?_; rintro e w2 ⟨rfl, hb2⟩; have hB2 := Lib.hid ((hB.alloc hB.size (.cells #[.int .i64 e0, .func (.func F) A #[]] 110)).trans (hb2.mono (by have := hB.size; simp; omega))); have x0 : w2.cell? ⟨wr.heap.size, 0, none⟩ = some (.int .i64 e0) := (hb2.cell (by simp)).trans (by go_cell))
              | fail)
            go_step3
            have e5 : e0 = refE l := by rw [← hE, refE_drop hqk]; rfl
            subst e5
            exact ⟨rfl, hB2.out, _, _, _, _, _, _, _, _, _, _, _, _, _, _, _, _, _, _, _, rfl⟩
      · obtain rfl : k = l.length := by omega
        go_wp2
        simp only [Exit.jump]
        go_ret
        refine ⟨?_, hB⟩
        rw [← hE, List.drop_length]
        rfl
  · rintro a' w' ⟨hB, u2, u3, u6, u7, u8, u9, u10, u11, u12, u13, u14, u15, u16, u17, u18, u19, u20, u21, u22, rfl⟩
    go_wp2
    simp only [Exit.jump]
    go_ret
    exact ⟨rfl, hB⟩
end Go.Proofs.YtdanigigjainjaaGreat.Dk
namespace Go.Proofs.YtdanigigjainjaaGreat.Dk
open Go.RowKit Go.Shelf
set_option maxRecDepth 100000
set_option maxHeartbeats 1000000

end Go.Proofs.YtdanigigjainjaaGreat.Dk
namespace Go.Proofs.YtdanigigjainjaaGreat.Dk
open Go.RowKit Go.Shelf
set_option maxRecDepth 100000
set_option maxHeartbeats 1000000

section
variable {Rep : DiskRep}
end
end Go.Proofs.YtdanigigjainjaaGreat.Dk
namespace Go.Proofs.YtdanigigjainjaaGreat.Dk
open Go.RowKit Go.Shelf
set_option maxRecDepth 100000
set_option maxHeartbeats 1000000

theorem setCell_size (w : World) (a : Addr) (v : Value) : (w.setCell a v).heap.size = w.heap.size := by simp [World.setCell]
end Go.Proofs.YtdanigigjainjaaGreat.Dk
namespace Go.Proofs.YtdanigigjainjaaGreat.Dk
open Go.RowKit Go.Shelf
set_option maxRecDepth 100000
set_option maxHeartbeats 1000000

theorem ownsRow_base {w : World} {b b' : Nat} {e : TypeId} {size : Nat} {v : Value} {n : Nat} {xs : List Value} (h : w.ownsRow b e size v n xs) (hb : b' ≤ b) : w.ownsRow b' e size v n xs := by
  refine ⟨h.1, ?_⟩
  rcases h.2 with h | ⟨g, cap, cur, e, hg, rest⟩
  · exact .inl h
  · exact .inr ⟨g, cap, cur, e, Nat.le_trans hb hg, rest⟩
theorem ownsRow_kept {w w' : World} {b : Nat} {e : TypeId} {size : Nat} {v : Value} {n : Nat} {xs : List Value} (h : w.ownsRow b e size v n xs) (hk : ∀ j, v.ownBlock = some j → w'.heap[j]? = w.heap[j]?) : w'.ownsRow b e size v n xs := by
  refine ⟨h.1, ?_⟩
  rcases h.2 with h | ⟨g, cap, cur, rfl, hg, hh, rest⟩
  · exact .inl h
  · exact .inr ⟨g, cap, cur, rfl, hg, (hk g rfl).trans hh, rest⟩
theorem grown_any {w w' : World} {row : Option Nat} (h : w.grownBy w' none) : w.grownBy w' row := ⟨h.os, h.tape, h.output, h.size, fun k hk _ => h.block k hk (by simp)⟩
theorem ownsRow_new {w : World} {b : Nat} {e : TypeId} {size : Nat} {v : Value} {n : Nat} {xs : List Value} (h : w.ownsRow b e size v n xs) : ∀ j, v.ownBlock = some j → b ≤ j := fun j hj => (h.lt j hj).1
end Go.Proofs.YtdanigigjainjaaGreat.Dk
namespace Go.Proofs.YtdanigigjainjaaGreat.Dk
open Go.RowKit Go.Shelf
set_option maxRecDepth 100000
set_option maxHeartbeats 1000000

def wcs : List (Nat × ByteArray) → List Value
  | [] => []
  | x :: l => (.int .i64 x.1 :: bL x.2) ++ wcs l
theorem wcs_append (l m : List (Nat × ByteArray)) : wcs (l ++ m) = wcs l ++ wcs m := by
  induction l with
  | nil => rfl
  | cons x l ih => simp only [List.cons_append, wcs, ih, List.append_assoc]
theorem wcs_one (l : List (Nat × ByteArray)) : ∀ u ∈ wcs l, u.oneCell' = true := by
  induction l with
  | nil => intro u hu; cases hu
  | cons x l ih =>
    intro u hu
    simp only [wcs, List.mem_append, List.mem_cons] at hu
    rcases hu with (rfl | hu) | hu
    · rfl
    · exact bL_one _ _ hu
    · exact ih u hu
/-- A disk: its block, its two maps, its row of loose writes. -/
structure DiskAt (w : World) (B b1 b2 : Nat) (v : Value) (s : DS) : Prop where
  cells : w.heap[B]? = some (.cells #[.map (some b1), .map (some b2), .int .i64 s.many, v, .bool (decide (0 ≤ s.left)), .int .i64 (s.left.toNat : Int)] 91 (0, 0))
  left : s.left ≤ 9223372036854775807
  ne : b1 ≠ b2
  row : w.ownsRow 0 107 65 v s.loose.length (wcs s.loose)
  off : v.ownBlock ≠ some B
  now : MapIs w b1 s.many (sectorS s)
  sync : MapIs w b2 s.many (lastS s.sync)
def FootOf (B b1 b2 : Nat) (v : Value) : Nat → Prop := fun k => k = B ∨ k = b1 ∨ k = b2 ∨ v.ownBlock = some k
def RepD : DiskRep := fun w d s F => ∃ B b1 b2 v, d = .pointer (some ⟨B, 0, none⟩) ∧ DiskAt w B b1 b2 v s ∧ F = FootOf B b1 b2 v
theorem lt_of_heap {w : World} {k : Nat} {o : Obj} (h : w.heap[k]? = some o) : k < w.heap.size := (Array.getElem?_eq_some_iff.1 h).1
theorem DiskAt.low {w : World} {B b1 b2 : Nat} {v : Value} {s : DS} (h : DiskAt w B b1 b2 v s) : ∀ k, FootOf B b1 b2 v k → k < w.heap.size := by
  rintro k (rfl | rfl | rfl | hk)
  · exact lt_of_heap h.cells
  · exact h.now.lt
  · exact h.sync.lt
  · exact (h.row.lt k hk).2
theorem DiskAt.keep {w w' : World} {B b1 b2 : Nat} {v : Value} {s : DS} (h : DiskAt w B b1 b2 v s) (hk : ∀ k, FootOf B b1 b2 v k → w'.heap[k]? = w.heap[k]?) : DiskAt w' B b1 b2 v s :=
  ⟨(hk B (.inl rfl)).trans h.cells, h.left, h.ne, ownsRow_kept h.row (fun j hj => hk j (.inr (.inr (.inr hj)))), h.off, h.now.of_block (hk b1 (.inr (.inl rfl))), h.sync.of_block (hk b2 (.inr (.inr (.inl rfl))))⟩
theorem DiskAt.below {w w' : World} {B b1 b2 : Nat} {v : Value} {s : DS} (h : DiskAt w B b1 b2 v s) (hb : Below w.heap.size w w') : DiskAt w' B b1 b2 v s := h.keep fun k hk => hb.block k (h.low k hk)
theorem DiskAt.cell {w : World} {B b1 b2 : Nat} {v : Value} {s : DS} (h : DiskAt w B b1 b2 v s) : w.cell? ⟨B, 0, none⟩ = some (.map (some b1)) ∧ w.cell? ⟨B, 1, none⟩ = some (.map (some b2)) ∧ w.cell? ⟨B, 2, none⟩ = some (.int .i64 s.many) ∧ w.cell? ⟨B, 3, none⟩ = some v ∧ w.cell? ⟨B, 4, none⟩ = some (.bool (decide (0 ≤ s.left))) ∧ w.cell? ⟨B, 5, none⟩ = some (.int .i64 (s.left.toNat : Int)) := by
  have hc := fun j => cell_of_row w B j _ 91 (0, 0) h.cells
  exact ⟨hc 0, hc 1, hc 2, hc 3, hc 4, hc 5⟩
theorem DiskAt.frozen {w : World} {B b1 b2 : Nat} {v : Value} {s : DS} (h : DiskAt w B b1 b2 v s) (j : Nat) : w.frozen? ⟨B, j, none⟩ = false := frozen_of_row w B j _ 91 h.cells
theorem repD_low (w : World) (d : Value) (s : DS) (F : Nat → Prop) (h : RepD w d s F) : ∀ k, F k → k < w.heap.size := by
  obtain ⟨B, b1, b2, v, rfl, h, rfl⟩ := h
  exact h.low
theorem repD_keep (w w' : World) (d : Value) (s : DS) (F : Nat → Prop) (h : RepD w d s F) (_ : w.heap.size ≤ w'.heap.size) (hk : ∀ k, F k → w'.heap[k]? = w.heap[k]?) : RepD w' d s F := by
  obtain ⟨B, b1, b2, v, rfl, h, rfl⟩ := h
  exact ⟨B, b1, b2, v, rfl, h.keep hk, rfl⟩
/-- The questions of a disk. -/
theorem left_zero {s : DS} : (decide (0 ≤ s.left) && decide ((s.left.toNat : Int) = 0)) = decide (s.left = 0) := by
  rw [Bool.eq_iff_iff]
  simp
  omega
def qHalted (B : Nat) (s : DS) : Qn := ⟨140, 96, #[.pointer (some ⟨B, 0, none⟩)], true, decide (s.left = 0)⟩
def qBeyond (A A' : Nat) (k : Int) (s : DS) : Qn := ⟨4, 156, #[.pointer (some ⟨A, 0, none⟩), .pointer (some ⟨A', 0, none⟩)], false, decide (k < 0) || decide ((s.many : Int) ≤ k)⟩
def qOdd (A n : Nat) : Qn := ⟨2, 155, #[.pointer (some ⟨A, 0, none⟩)], false, decide (n ≠ 64)⟩
def qBelow (A : Nat) (n : Int) : Qn := ⟨2, 82, #[.pointer (some ⟨A, 0, none⟩)], false, decide (n < 0)⟩
def qAbove (A : Nat) (n : Int) : Qn := ⟨2, 83, #[.pointer (some ⟨A, 0, none⟩)], false, decide (64 ≤ n)⟩
theorem below_same {w w' : World} (h : w = w') : Below w.heap.size w w' := h ▸ Below.refl _ _
theorem qHalted_ok {w : World} {B b1 b2 : Nat} {v : Value} {s : DS} (h : DiskAt w B b1 b2 v s) (hm : 1 ≤ s.many) : QnOk w (qHalted B s) :=
  ⟨enters_of Tryz.func96 (by kernel_rfl) rfl, fun w' hb => by
    obtain ⟨-, -, c2, -, c4, c5⟩ := (h.below hb).cell
    refine (stopped_any c2 (by omega) c4 c5).mono ?_
    rintro e w2 ⟨rfl, e⟩
    exact ⟨by rw [left_zero]; rfl, below_same e⟩⟩
theorem qBeyond_ok {w : World} {B b1 b2 : Nat} {v : Value} {s : DS} (h : DiskAt w B b1 b2 v s) {A A' : Nat} {k : Int} (h0 : w.cell? ⟨A, 0, none⟩ = some (.int .i64 k)) (h1 : w.cell? ⟨A', 0, none⟩ = some (.pointer (some ⟨B, 0, none⟩))) : QnOk w (qBeyond A A' k s) :=
  ⟨enters_of Tryz.func156 (by kernel_rfl) rfl, fun w' hb => beyond1_any (below_kept hb _ _ h0) (below_kept hb _ _ h1) (h.below hb).cell.2.2.1⟩
theorem qOdd_ok {w : World} {A : Nat} {p : Option Addr} {n c : Nat} (h0 : w.cell? ⟨A, 0, none⟩ = some (.slice p n c)) : QnOk w (qOdd A n) :=
  ⟨enters_of Tryz.func155 (by kernel_rfl) rfl, fun w' hb => odd1_any (below_kept hb _ _ h0)⟩
theorem qBelow_ok {w : World} {A : Nat} {n : Int} (h0 : w.cell? ⟨A, 0, none⟩ = some (.int .i64 n)) : QnOk w (qBelow A n) :=
  ⟨enters_of Tryz.func82 (by kernel_rfl) rfl, fun w' hb => below1_any (below_kept hb _ _ h0)⟩
theorem qAbove_ok {w : World} {A : Nat} {n : Int} (h0 : w.cell? ⟨A, 0, none⟩ = some (.int .i64 n)) : QnOk w (qAbove A n) :=
  ⟨enters_of Tryz.func83 (by kernel_rfl) rfl, fun w' hb => above1_any (below_kept hb _ _ h0)⟩
end Go.Proofs.YtdanigigjainjaaGreat.Dk
namespace Go.Proofs.YtdanigigjainjaaGreat.Dk
open Go.RowKit Go.Shelf
set_option maxRecDepth 100000
set_option maxHeartbeats 1000000

set_option maxRecDepth 100000 in
set_option maxHeartbeats 1500000 in
theorem noughts_any (w : World) : Calls Tryz.prog 36 #[] w fun r w' => ∃ b, r = .returned (.agg #[.map (some b)]) ∧ w.heap.size ≤ b ∧ (∀ m, m ≤ 40000 → MapIs w' b m (fun _ => secS 0)) ∧ Below w.heap.size w w' := by
  have hmm := @run_makeMap Tryz.prog
  go_enter Tryz.func36, Tryz.ntmps36
  go_wp2
  refine bodyPost_ret (v := .agg #[.map (some (w.heap.size + 1))]) ?_ rfl ⟨_, rfl, by omega, fun m hm => ?_, ((Below.refl _ _).alloc (Nat.le_refl _) _).alloc (by simp) _⟩
  · simp [results, Tryz.results36, go_sem]
  · have := MapIs.made (w.alloc (.cells #[.map (some (w.heap.size + 1))] 85)) hm
    rwa [World.size_alloc] at this
set_option maxRecDepth 100000 in
set_option maxHeartbeats 1500000 in
theorem dnew_any (n : Nat) (w : World) (hn : 1 ≤ n ∧ n ≤ 40000) : Calls Tryz.prog 7 #[.int .i64 n] w fun r w' => ∃ d F, r = .returned (.tuple #[d, .int .i64 0]) ∧ RepD w' d (newS n) F ∧ (∀ k, F k → w.heap.size ≤ k) ∧ Below w.heap.size w w' := by
  have h1 : ¬ ((n : Int) < 1) := by omega
  have h2 : ¬ ((40000 : Int) < n) := by omega
  have h1' : decide ((n : Int) < 1) = false := decide_eq_false h1
  have h2' : decide ((40000 : Int) < n) = false := decide_eq_false h2
  go_enter Tryz.func7, Tryz.ntmps7
  go_wp2_with fail
  refine (noughts_any _).mono ?_
  rintro e wa ⟨b1, rfl, hb1, M1, Ba⟩
  go_wp2_with fail
  refine (noughts_any _).mono ?_
  rintro e wb ⟨b2, rfl, hb2, M2, Bb⟩
  go_wp2_with fail
  go_ret2
  have hN : ∀ k, sectorS (newS n) k = secS 0 := fun k => rfl
  refine ⟨.pointer (some ⟨wb.heap.size, 0, none⟩), _, rfl, ⟨wb.heap.size, b1, b2, .slice none 0 0, rfl, ⟨?_, by simp [newS], ?_, ⟨rfl, .inl ⟨rfl, rfl⟩⟩, by simp [Value.ownBlock], ?_, ?_⟩, rfl⟩, ?_, ?_⟩
  · exact heap_alloc_new _ _
  · have := (M1 1 (by omega)).lt
    omega
  · exact ((M1 n hn.2).below Bb).below ((Below.refl _ _).alloc (Nat.le_refl _) _)
  · exact (M2 n hn.2).below ((Below.refl _ _).alloc (Nat.le_refl _) _)
  · rintro k (rfl | rfl | rfl | hk)
    · exact Nat.le_trans Ba.size Bb.size
    · exact hb1
    · exact Nat.le_trans Ba.size hb2
    · cases hk
  · exact (Ba.trans (Bb.mono Ba.size)).alloc (Nat.le_trans Ba.size Bb.size) _
theorem beyond_ans {s : DS} {k : Int} : (decide (k < 0) || decide ((s.many : Int) ≤ k)) = decide (k < 0 ∨ (s.many : Int) ≤ k) := by
  rw [Bool.eq_iff_iff]; simp
theorem refE_if {q : Qn} {l : List Qn} {p : Prop} [Decidable p] (h : q.ans = decide p) : refE (q :: l) = if p then q.e else refE l := by
  have e : refE (q :: l) = if q.ans = true then q.e else refE l := rfl
  rw [e]
  by_cases hp : p
  · rw [if_pos hp, if_pos (by rw [h]; exact decide_eq_true hp)]
  · rw [if_neg hp, if_neg (by rw [h]; simp [hp])]
/-- What Read's questions tell. -/
theorem ref_read (B A A' : Nat) (k : Int) (s : DS) : refE [qBeyond A A' k s, qHalted B s] = (readS s k).2 := by
  rw [refE_if (p := k < 0 ∨ (s.many : Int) ≤ k) beyond_ans, refE_if (p := s.left = 0) rfl]
  unfold readS
  split
  · rfl
  · split <;> rfl
theorem qs2 {w : World} {q1 q2 : Qn} : QsAt (w.alloc (.cells #[.int .i64 q1.e, q1.fv, .int .i64 q2.e, q2.fv] 110)) w.heap.size [q1, q2] := fun i q hq => by
  rcases i with _ | _ | i
  · injection hq with hq; subst hq; exact ⟨by go_cell, by go_cell⟩
  · injection hq with hq; subst hq; exact ⟨by go_cell, by go_cell⟩
  · cases hq
theorem qs1 {w : World} {q1 : Qn} : QsAt (w.alloc (.cells #[.int .i64 q1.e, q1.fv] 110)) w.heap.size [q1] := fun i q hq => by
  rcases i with _ | i
  · injection hq with hq; subst hq; exact ⟨by go_cell, by go_cell⟩
  · cases hq
theorem qs3 {w : World} {q1 q2 q3 : Qn} : QsAt (w.alloc (.cells #[.int .i64 q1.e, q1.fv, .int .i64 q2.e, q2.fv, .int .i64 q3.e, q3.fv] 110)) w.heap.size [q1, q2, q3] := fun i q hq => by
  rcases i with _ | _ | _ | i
  · injection hq with hq; subst hq; exact ⟨by go_cell, by go_cell⟩
  · injection hq with hq; subst hq; exact ⟨by go_cell, by go_cell⟩
  · injection hq with hq; subst hq; exact ⟨by go_cell, by go_cell⟩
  · cases hq
theorem ok1 {w : World} {q1 : Qn} (h1 : QnOk w q1) : ∀ (i : Nat) (q : Qn), [q1][i]? = some q → QnOk w q := fun i q hq => by
  rcases i with _ | i
  · injection hq with hq; subst hq; exact h1
  · cases hq
theorem ok2 {w : World} {q1 q2 : Qn} (h1 : QnOk w q1) (h2 : QnOk w q2) : ∀ (i : Nat) (q : Qn), [q1, q2][i]? = some q → QnOk w q := fun i q hq => by
  rcases i with _ | _ | i
  · injection hq with hq; subst hq; exact h1
  · injection hq with hq; subst hq; exact h2
  · cases hq
theorem ok3 {w : World} {q1 q2 q3 : Qn} (h1 : QnOk w q1) (h2 : QnOk w q2) (h3 : QnOk w q3) : ∀ (i : Nat) (q : Qn), [q1, q2, q3][i]? = some q → QnOk w q := fun i q hq => by
  rcases i with _ | _ | _ | i
  · injection hq with hq; subst hq; exact h1
  · injection hq with hq; subst hq; exact h2
  · injection hq with hq; subst hq; exact h3
  · cases hq
theorem QnOk.below {w w' : World} {q : Qn} (h : QnOk w q) (hb : Below w.heap.size w w') : QnOk w' q := ⟨h.enters, fun w2 h2 => h.tells w2 (kbT hb h2)⟩
theorem refuse1 {w : World} {B b1 b2 : Nat} {v : Value} {s : DS} (h : DiskAt w B b1 b2 v s) (hm : 1 ≤ s.many) {q1 : Qn} (k1 : QnOk w q1) :
    Calls Tryz.prog 56 #[.pointer (some ⟨B, 0, none⟩), .slice (some ⟨w.heap.size, 0, none⟩) 1 1] (w.alloc (.cells #[.int .i64 q1.e, q1.fv] 110)) fun r w' => r = .returned (.int .i64 (refE [q1])) ∧ Below w.heap.size w w' := by
  have Bw : Below w.heap.size w (w.alloc (.cells #[.int .i64 q1.e, q1.fv] 110)) := (Below.refl _ _).alloc (Nat.le_refl _) _
  refine (refusal_any (h.below Bw).cell.2.2.1 (by omega) [q1] w.heap.size 1 (by simp) (Lib.hid qs1) (Lib.hid (ok1 (k1.below Bw)))).mono ?_
  rintro e w2 ⟨rfl, hb⟩
  exact ⟨rfl, kbT Bw hb⟩
theorem refuse2 {w : World} {B b1 b2 : Nat} {v : Value} {s : DS} (h : DiskAt w B b1 b2 v s) (hm : 1 ≤ s.many) {q1 q2 : Qn} (k1 : QnOk w q1) (k2 : QnOk w q2) :
    Calls Tryz.prog 56 #[.pointer (some ⟨B, 0, none⟩), .slice (some ⟨w.heap.size, 0, none⟩) 2 2] (w.alloc (.cells #[.int .i64 q1.e, q1.fv, .int .i64 q2.e, q2.fv] 110)) fun r w' => r = .returned (.int .i64 (refE [q1, q2])) ∧ Below w.heap.size w w' := by
  have Bw : Below w.heap.size w (w.alloc (.cells #[.int .i64 q1.e, q1.fv, .int .i64 q2.e, q2.fv] 110)) := (Below.refl _ _).alloc (Nat.le_refl _) _
  refine (refusal_any (h.below Bw).cell.2.2.1 (by omega) [q1, q2] w.heap.size 2 (by simp) (Lib.hid qs2) (Lib.hid (ok2 (k1.below Bw) (k2.below Bw)))).mono ?_
  rintro e w2 ⟨rfl, hb⟩
  exact ⟨rfl, kbT Bw hb⟩
theorem refuse3 {w : World} {B b1 b2 : Nat} {v : Value} {s : DS} (h : DiskAt w B b1 b2 v s) (hm : 1 ≤ s.many) {q1 q2 q3 : Qn} (k1 : QnOk w q1) (k2 : QnOk w q2) (k3 : QnOk w q3) :
    Calls Tryz.prog 56 #[.pointer (some ⟨B, 0, none⟩), .slice (some ⟨w.heap.size, 0, none⟩) 3 3] (w.alloc (.cells #[.int .i64 q1.e, q1.fv, .int .i64 q2.e, q2.fv, .int .i64 q3.e, q3.fv] 110)) fun r w' => r = .returned (.int .i64 (refE [q1, q2, q3])) ∧ Below w.heap.size w w' := by
  have Bw : Below w.heap.size w (w.alloc (.cells #[.int .i64 q1.e, q1.fv, .int .i64 q2.e, q2.fv, .int .i64 q3.e, q3.fv] 110)) := (Below.refl _ _).alloc (Nat.le_refl _) _
  refine (refusal_any (h.below Bw).cell.2.2.1 (by omega) [q1, q2, q3] w.heap.size 3 (by simp) (Lib.hid qs3) (Lib.hid (ok3 (k1.below Bw) (k2.below Bw) (k3.below Bw)))).mono ?_
  rintro e w2 ⟨rfl, hb⟩
  exact ⟨rfl, kbT Bw hb⟩
theorem kbP {w w1 w2 : World} (h1 : Below w.heap.size w w1) (h2 : Below w1.heap.size w1 w2) : Below w.heap.size w w2 := kbT h1 h2
theorem tellB_nil (w w' : World) (h : Below w.heap.size w w') : TellB w [] (.slice none 0 0) w' := ⟨⟨none, 0, rfl, Nat.le_refl _, by unfold maxLen; omega, fun i hi => absurd hi (Nat.not_lt_zero i), fun a e => by cases e⟩, h⟩
theorem bytesAt_sec (w : World) {l : List Nat} (hb : ∀ x ∈ l, x < 256) (t : TypeId) : BytesAt (w.alloc (.cells (bV (strOf l)) t)) (some ⟨w.heap.size, 0, none⟩) l := by
  have := bytesAt_new w l t
  rw [show bV (strOf l) = (l.map fun (v : Nat) => Value.int .u8 (v : Int)).toArray by simp only [bV, bL_strOf l hb, u8s]]
  exact this
theorem tellB_sec {w w1 : World} {l : List Nat} {X : Obj} (hl : l.length = 64) (hb : ∀ x ∈ l, x < 256) (hB : Below w.heap.size w w1) : TellB w l (.slice (some ⟨w1.heap.size + 1, 0, none⟩) 64 64) ((w1.alloc X).alloc (.cells (bV (strOf l)) 105)) := by
  refine ⟨⟨_, 64, by rw [hl], by omega, by unfold maxLen; omega, ?_, fun a e => by injection e with e; subst e; have := hB.size; simp only; omega⟩, (hB.alloc hB.size _).alloc (by have := hB.size; simp; omega) _⟩
  have := bytesAt_sec (w1.alloc X) hb 105
  rwa [World.size_alloc] at this
set_option maxRecDepth 100000 in
set_option maxHeartbeats 3000000 in
theorem dread_any {w : World} {d : Value} {s : DS} {F : Nat → Prop} (k : Int) (h : RepD w d s F) (hW : Whole s) :
    Calls Tryz.prog 117 #[d, .int .i64 k] w fun r w' => ∃ t l, r = .returned (.tuple #[t, .int .i64 (readS s k).2]) ∧ TellB w l t w' ∧ (∀ b ∈ l, b < 256) ∧ strOf l = (readS s k).1 := by
  obtain ⟨B, b1, b2, v, rfl, h, -⟩ := h
  have hm := hW.many.1
  go_enter Tryz.func117, Tryz.ntmps117
  go_wp2_with fail
  refine (beyond_any _ _ _).mono ?_
  rintro e wa ⟨rfl, a0, a1, Ba⟩
  go_wp2_with fail
  refine (halted_any _ _).mono ?_
  rintro e wb ⟨rfl, Bb⟩
  go_wp2_with fail
  have hB := kbP Ba Bb
  refine (refuse2 (q1 := qBeyond (w.heap.size + 1) w.heap.size k s) (q2 := qHalted B s) (h.below hB) hm (qBeyond_ok (h.below hB) (below_kept Bb _ _ a1) (below_kept Bb _ _ a0)) (qHalted_ok (h.below hB) hm)).mono ?_
  rintro e wc ⟨rfl, Bc⟩
  rw [ref_read]
  have hC := kbP hB Bc
  clear a0 a1
  by_cases h0 : k < 0 ∨ (s.many : Int) ≤ k
  · have e : readS s k = (⟨#[]⟩, 4) := by unfold readS; rw [if_pos h0]
    rw [e]
    go_wp2_with fail
    go_ret2
    rw [e]
    exact ⟨_, [], rfl, tellB_nil _ _ hC, (fun b hb => by cases hb), rfl⟩
  · by_cases h1 : s.left = 0
    · have e : readS s k = (⟨#[]⟩, 140) := by unfold readS; rw [if_neg h0, if_pos h1]
      rw [e]
      go_wp2_with fail
      go_ret2
      rw [e]
      exact ⟨_, [], rfl, tellB_nil _ _ hC, (fun b hb => by cases hb), rfl⟩
    · have e : readS s k = (sectorS s k.toNat, 0) := by unfold readS; rw [if_neg h0, if_neg h1]
      obtain ⟨n, rfl⟩ : ∃ n : Nat, k = n := ⟨k.toNat, by omega⟩
      have hn : n < s.many := by omega
      rw [e, Int.toNat_natCast]
      have hD := h.below hC
      obtain ⟨c0, -, -, -, -, -⟩ := hD.cell
      have hz := hD.now.size n hn
      obtain ⟨l, hl1, hl2, hl3⟩ := bytes_of (sectorS s n)
      go_wp2_with (first
        | (go_at_call 86; refine (bytes_any hD.now hn).mono ?_; rintro e w' ⟨rfl, rfl⟩)
        | fail)
      go_ret2
      rw [e]
      refine ⟨_, l, rfl, ?_, hl2, hl3.symm⟩
      exact tellB_sec (by omega) hl2 hC
end Go.Proofs.YtdanigigjainjaaGreat.Dk
namespace Go.Proofs.YtdanigigjainjaaGreat.Dk
open Go.RowKit Go.Shelf
set_option maxRecDepth 100000
set_option maxHeartbeats 1000000

def wV (k : Int) (c : ByteArray) : Array Value := (.int .i64 k :: bL c).toArray
theorem wV_size {k : Int} {c : ByteArray} (hc : c.size = 64) : (wV k c).size = 65 := by
  simp only [wV, List.size_toArray, List.length_cons, bL_length, hc]
theorem wV_one (k : Int) (c : ByteArray) : (wV k c).all (·.oneCell') = true := by
  rw [Array.all_eq_true_iff_forall_mem]
  intro u hu
  simp only [wV, List.mem_toArray, List.mem_cons] at hu
  rcases hu with rfl | hu
  · rfl
  · exact bL_one c u hu
def z78 : Array Value := (.int .i64 0 :: List.replicate 64 (Value.int .u8 0)).toArray
theorem built78 (l : List (Nat × Value)) : Tryz.prog.built 107 l = Instr.fill (fun x => (#[(0, 1), (1, 64)] : Array (Nat × Nat))[x]?) z78 l := by kernel_rfl
theorem foldl_arr (off : Nat) (v cs : Array Value) : (v.zipIdx.foldl (fun cs (x : Value × Nat) => cs.setIfInBounds (off + x.2) x.1) cs).size = cs.size ∧ ∀ k, (v.zipIdx.foldl (fun cs (x : Value × Nat) => cs.setIfInBounds (off + x.2) x.1) cs)[k]? = if off ≤ k ∧ k < off + v.size ∧ k < cs.size then v[k - off]? else cs[k]? := by
  have := Great.foldl_set off v.toList 0 cs
  rw [← Array.foldl_toList, Array.toList_zipIdx]
  simpa using this
theorem built_write {k : Int} {c : ByteArray} (hc : c.size = 64) : Tryz.prog.built 107 [(0, .int .i64 k), (1, .agg (bV c))] = some (wV k c) := by
  rw [built78]
  have h1 : (Value.int .i64 k).cells = #[.int .i64 k] := rfl
  have h2 : (Value.agg (bV c)).cells = bV c := rfl
  have hs : (bV c).size = 64 := by rw [bV_size, hc]
  have hz : z78.size = 65 := by simp [z78]
  simp only [Instr.fill, h1, h2, hs]
  have e1 : (#[(0, 1), (1, 64)] : Array (Nat × Nat))[0]? = some (0, 1) := rfl
  have e2 : (#[(0, 1), (1, 64)] : Array (Nat × Nat))[1]? = some (1, 64) := rfl
  simp only [e1, e2]
  obtain ⟨g1, g2⟩ := foldl_arr 0 #[.int .i64 k] z78
  obtain ⟨g3, g4⟩ := foldl_arr 1 (bV c) ((#[Value.int .i64 k] : Array Value).zipIdx.foldl (fun cs (x : Value × Nat) => cs.setIfInBounds (0 + x.2) x.1) z78)
  rw [if_neg (by simp [hz]), if_neg (by simp [hz])]
  congr 1
  apply Array.ext_getElem?
  intro i
  rw [g4 i, g2 i, g1]
  simp only [hs, hz]
  have hl : (bL c).length = 64 := by rw [bL_length, hc]
  by_cases h0 : i = 0
  · subst h0
    simp [wV]
  · obtain ⟨j, rfl⟩ : ∃ j, i = j + 1 := ⟨i - 1, by omega⟩
    by_cases hi : j < 64
    · rw [if_pos (by omega)]
      simp [wV, bV]
    · rw [if_neg (by omega), if_neg (by simp)]
      have e3 : (wV k c)[j + 1]? = none := by
        rw [Array.getElem?_eq_none_iff, wV_size hc]
        omega
      rw [e3, Array.getElem?_eq_none_iff, hz]
      omega
theorem fold_write {k : Int} {c : ByteArray} (hc : c.size = 64) : Array.foldl (fun cs (x : Value × Nat) => cs.setIfInBounds (1 + x.snd) x.fst) (Tryz.zeroCells107.setIfInBounds 0 (Value.int .i64 k)) (bV c).zipIdx 0 64 = wV k c := by
  have h := built_write (k := k) hc
  rw [built78] at h
  have h1 : (Value.int .i64 k).cells = #[.int .i64 k] := rfl
  have h2 : (Value.agg (bV c)).cells = bV c := rfl
  have hs : (bV c).size = 64 := by rw [bV_size, hc]
  have hz : z78.size = 65 := by simp [z78]
  have e0 : Tryz.zeroCells107 = z78 := by kernel_rfl
  simp only [Instr.fill, h1, h2, hs] at h
  have e1 : (#[(0, 1), (1, 64)] : Array (Nat × Nat))[0]? = some (0, 1) := rfl
  have e2 : (#[(0, 1), (1, 64)] : Array (Nat × Nat))[1]? = some (1, 64) := rfl
  simp only [e1, e2] at h
  rw [if_neg (by simp [hz]), if_neg (by simp [hz])] at h
  injection h with h
  rw [← h, e0]
  congr 1
  rw [Array.size_zipIdx]
  exact hs.symm
theorem fold_row {v : Array Value} (n : Nat) (hv : v.size = n) (L : Array Value) (hL : L.size = n) : Array.foldl (fun cs (x : Value × Nat) => cs.setIfInBounds x.snd x.fst) L v.zipIdx 0 n = v := by
  obtain ⟨g1, g2⟩ := foldl_arr 0 v L
  simp only [Nat.zero_add] at g1 g2
  have e : Array.foldl (fun cs (x : Value × Nat) => cs.setIfInBounds x.snd x.fst) L v.zipIdx 0 n = Array.foldl (fun cs (x : Value × Nat) => cs.setIfInBounds x.snd x.fst) L v.zipIdx := by
    congr 1
    rw [Array.size_zipIdx, hv]
  rw [e]
  apply Array.ext_getElem?
  intro i
  rw [g2 i]
  by_cases hi : i < n
  · rw [if_pos (by omega), Nat.sub_zero]
  · rw [if_neg (by omega), Array.getElem?_eq_none (by omega), Array.getElem?_eq_none (by omega)]
theorem info78 : (Tryz.prog.info? 107).map (fun i => (i.zero, i.size, i.bytes)) = some (some (.agg z78), 65, 72) := by kernel_rfl
theorem run_row_write {k : Int} {c : ByteArray} (hc : c.size = 64) (w : World) : (Instr.buildSlice 87 1 #[(0, .agg (wV k c))]).run Tryz.prog w = .ok (.slice (some ⟨w.heap.size, 0, none⟩) 1 1) (w.alloc (.cells (wV k c) 107)) := by
  obtain ⟨j, hj, hz, hs, -⟩ := info_parts info78
  refine run_buildSlice w 87 107 1 _ (wV k c) j (.agg z78) Tryz.underlying87 hj hz (by rw [hs]; omega) (by rw [hs]; omega) ?_
  rw [hs]
  have := Great.fill_whole (s := 65) (by omega) [Value.agg (wV k c)] ((Array.range (1 * 65)).map ((Value.agg z78).cells[· % (Value.agg z78).cells.size]!)) (fun v hv => by
    simp at hv
    subst hv
    exact wV_size hc) (by simp)
  simpa [Value.cells] using this
end Go.Proofs.YtdanigigjainjaaGreat.Dk
namespace Go.Proofs.YtdanigigjainjaaGreat.Dk
open Go.RowKit Go.Shelf
set_option maxRecDepth 100000
set_option maxHeartbeats 1000000

theorem wcs_snoc (l : List (Nat × ByteArray)) (k : Nat) (c : ByteArray) : wcs (l ++ [(k, c)]) = wcs l ++ (.int .i64 (k : Int) :: bL c) := by
  rw [wcs_append]
  simp [wcs]
theorem run_append_write {w : World} {v : Value} {l : List (Nat × ByteArray)} (hown : w.ownsRow 0 107 65 v l.length (wcs l)) (ty : TypeId) {g k : Nat} {c : ByteArray} (hc : c.size = 64) (hg : w.heap[g]? = some (.cells (wV k c) 107 (0, 0))) (hn : l.length ≤ 100000) :
    ∃ v' w', (Builtin.append_ #[87, 87] ty #[v, .slice (some ⟨g, 0, none⟩) 1 1]).run Tryz.prog w = .ok v' w' ∧ w'.ownsRow 0 107 65 v' (l.length + 1) (wcs (l ++ [(k, c)])) ∧ w.grownBy w' v.ownBlock ∧ ∀ j, v'.ownBlock = some j → v.ownBlock = some j ∨ w.heap.size ≤ j := by
  obtain ⟨i, hi, hz0, hz1, hz2⟩ := info_parts info78
  have hlen : (Value.int .i64 (k : Int) :: bL c).length = 1 * 65 := by rw [List.length_cons, bL_length, hc]
  have hnews : ∀ (j : Nat) (u : Value), (Value.int .i64 (k : Int) :: bL c)[j]? = some u → w.cell? ((⟨g, 0, none⟩ : Addr).add j) = some u := fun j u hu => by
    rw [addr_plain, Nat.zero_add, cell_of_row w g j _ _ _ hg]
    simpa [wV] using hu
  have h1 : ∀ u ∈ (Value.int .i64 (k : Int) :: bL c), u.oneCell' = true := fun u hu => by
    simp only [List.mem_cons] at hu
    rcases hu with rfl | hu
    · rfl
    · exact bL_one c u hu
  have hz : (Value.agg z78).cells.size = 65 := by simp [Value.cells, z78]
  rw [wcs_snoc]
  have hown0 := hown
  obtain ⟨hx, hown⟩ := hown
  rcases hown with ⟨rfl, h0⟩ | ⟨b, cap, cur, rfl, hb, hcur, hncap, hcm, hcs, htake⟩
  · have hl0 : l = [] := List.eq_nil_of_length_eq_zero h0
    subst hl0
    obtain ⟨v', w', hrun, r1, r2, -⟩ := run_append_own (P := Tryz.prog) w w.heap.size 87 ty 107 i (.agg z78) 65 72 Tryz.underlying87 hi hz0 hz1 hz2 hz (by omega) (.slice none 0 0) 0 [] (World.ownsRow_nil w _ 107 65) ⟨g, 0, none⟩ 1 1 _ hlen hnews h1 (by unfold maxLen; omega) (by omega) (Nat.le_refl _)
    exact ⟨v', w', hrun, ownsRow_base r1 (Nat.zero_le _), grown_any r2, fun j hj => .inr (ownsRow_new r1 j hj)⟩
  · by_cases hroom : l.length + 1 ≤ cap
    · obtain ⟨w', hrun, r1, r2⟩ := run_append_own_spare (P := Tryz.prog) w 0 87 ty 107 i 65 Tryz.underlying87 hi hz1 b l.length cap (wcs l) hown0 ⟨g, 0, none⟩ 1 1 _ hlen hnews h1 hroom
      exact ⟨_, w', hrun, r1, r2, fun j hj => .inl hj⟩
    · obtain ⟨v', w', hrun, r1, r2⟩ := run_append_arg_grows (P := Tryz.prog) w 87 ty 107 i (.agg z78) 65 72 Tryz.underlying87 hi hz0 hz1 hz2 hz (by omega) ⟨b, 0, none⟩ l.length cap (wcs l) hx (fun j u hu => hown0.cells (g := b) rfl j u hu) ⟨g, 0, none⟩ 1 1 _ hlen hnews (by omega) (by unfold maxLen; omega) (by omega)
      exact ⟨v', w', hrun, ownsRow_base r1 (Nat.zero_le _), grown_any r2, fun j hj => .inr (ownsRow_new r1 j hj)⟩
theorem step_append_write {ops : Array Oper} {o : Oper} {a : Act} {w : World} {K : Act → World → Prop} {Q : Exit → Act → World → Prop} {E : Prop} (hgd : o.guard = none) (s x : Operand)
    (ho : o.op = .call { callee := .builtin .append, args := #[s, x], argTypes := #[87, 87] })
    {v : Value} {l : List (Nat × ByteArray)} (hs : a.eval s = v) (hown : w.ownsRow 0 107 65 v l.length (wcs l)) {g k : Nat} {c : ByteArray} (hx : a.eval x = .slice (some ⟨g, 0, none⟩) 1 1) (hc : c.size = 64) (hg : w.heap[g]? = some (.cells (wV k c) 107 (0, 0))) (hn : l.length ≤ 100000)
    (h : ∀ v' w', w'.ownsRow 0 107 65 v' (l.length + 1) (wcs (l ++ [(k, c)])) → w.grownBy w' v.ownBlock → (∀ j, v'.ownBlock = some j → v.ownBlock = some j ∨ w.heap.size ≤ j) → K (a.put o.dst v') w') : if Region.wanted o (yielded ops a.tmps) = true then Oper.wp Tryz.prog o a w K Q else E := by
  rw [if_pos (by simp [Region.wanted, hgd])]
  obtain ⟨v', w', hrun, r1, r2, r3⟩ := run_append_write hown o.type hc hg hn
  unfold Oper.wp
  simp [execOp, ho, resolve, invoke, builtin, hs, hx, hrun, Result.andThen]
  exact h v' w' r1 r2 r3
theorem wpList_append_write {ops : Array Oper} {rest : List Oper} {o : Oper} {a : Act} {w : World} {Q : Exit → Act → World → Prop} (hgd : o.guard = none) (s x : Operand)
    (ho : o.op = .call { callee := .builtin .append, args := #[s, x], argTypes := #[87, 87] })
    {v : Value} {l : List (Nat × ByteArray)} (hs : a.eval s = v) (hown : w.ownsRow 0 107 65 v l.length (wcs l)) {g k : Nat} {c : ByteArray} (hx : a.eval x = .slice (some ⟨g, 0, none⟩) 1 1) (hc : c.size = 64) (hg : w.heap[g]? = some (.cells (wV k c) 107 (0, 0))) (hn : l.length ≤ 100000)
    (h : ∀ v' w', w'.ownsRow 0 107 65 v' (l.length + 1) (wcs (l ++ [(k, c)])) → w.grownBy w' v.ownBlock → (∀ j, v'.ownBlock = some j → v.ownBlock = some j ∨ w.heap.size ≤ j) → wpList Tryz.prog ops Q rest (a.put o.dst v') w') : wpList Tryz.prog ops Q (o :: rest) a w := by
  refine wpList_plain hgd fun K' hK' => ?_
  obtain ⟨v', w', hrun, r1, r2, r3⟩ := run_append_write hown o.type hc hg hn
  unfold Oper.wp
  simp [execOp, ho, resolve, invoke, builtin, hs, hx, hrun, Result.andThen]
  exact hK' _ _ (h v' w' r1 r2 r3)

/-- A stop and its count, turned. -/
theorem DiskAt.turn {w w' : World} {B b1 b2 : Nat} {v : Value} {s : DS} (h : DiskAt w B b1 b2 v s) (n : Int) (hn : n ≤ 9223372036854775807) (hc : w'.heap[B]? = some (.cells #[.map (some b1), .map (some b2), .int .i64 s.many, v, .bool (decide (0 ≤ n)), .int .i64 (n.toNat : Int)] 91 (0, 0))) (hk : ∀ k, k ≠ B → w'.heap[k]? = w.heap[k]?) : DiskAt w' B b1 b2 v ⟨s.many, s.sync, s.loose, n⟩ :=
  ⟨hc, hn, h.ne, ownsRow_kept h.row (fun j hj => hk j (fun e => h.off (e ▸ hj))), h.off, h.now.of_block (hk b1 (h.now.cells h.cells)), h.sync.of_block (hk b2 (h.sync.cells h.cells))⟩
theorem apart_set (w : World) (B i : Nat) (v : Value) : Apart (fun j => j = B) w (w.setCell ⟨B, i, none⟩ v) :=
  ⟨rfl, rfl, rfl, by rw [setCell_size]; exact Nat.le_refl _, fun k _ hF => heap_setCell_other w ⟨B, i, none⟩ k v hF⟩
theorem Apart.refl (F : Nat → Prop) (w : World) : Apart F w w := ⟨rfl, rfl, rfl, Nat.le_refl _, fun _ _ _ => rfl⟩
theorem Apart.trans {F G : Nat → Prop} {w w1 w2 : World} (h : Apart F w w1) (k : Apart G w1 w2) (hG : ∀ j, G j → F j ∨ w.heap.size ≤ j) : Apart F w w2 :=
  ⟨k.os.trans h.os, k.tape.trans h.tape, k.output.trans h.output, Nat.le_trans h.size k.size, fun j hj hF => (k.block j (Nat.lt_of_lt_of_le hj h.size) (fun g => by rcases hG j g with e | e; exact hF e; omega)).trans (h.block j hj hF)⟩
theorem Apart.wide {F G : Nat → Prop} {w w1 : World} (h : Apart F w w1) (hG : ∀ j, F j → G j) : Apart G w w1 := ⟨h.os, h.tape, h.output, h.size, fun j hj hF => h.block j hj (fun f => hF (hG j f))⟩
set_option maxRecDepth 100000 in
set_option maxHeartbeats 1500000 in
theorem count_any {w : World} {B b1 b2 : Nat} {v : Value} {s : DS} (h : DiskAt w B b1 b2 v s) (h0 : s.left ≠ 0) (h1 : -1 ≤ s.left) :
    Calls Tryz.prog 114 #[.pointer (some ⟨B, 0, none⟩)] w fun r w' => r = .returned (.tuple #[]) ∧ DiskAt w' B b1 b2 v ⟨s.many, s.sync, s.loose, doneL s.left⟩ ∧ Apart (fun j => j = B) w w' := by
  obtain ⟨-, -, -, -, c4, c5⟩ := h.cell
  have f5 := h.frozen 5
  have hl := h.left
  by_cases hp : 0 < s.left
  · have e4 : decide (0 ≤ s.left) = true := decide_eq_true (by omega)
    rw [e4] at c4
    have hd : doneL s.left = s.left - 1 := by unfold doneL; rw [if_pos hp]
    obtain ⟨n, hn⟩ : ∃ n : Nat, s.left = n := ⟨s.left.toNat, by omega⟩
    have hn' : s.left.toNat = n := by omega
    rw [hn'] at c5
    have hw : IntKind.i64.wrap ((n : Int) - 1) = (n : Int) - 1 := by simp [IntKind.wrap, IntKind.signed, IntKind.bits]; omega
    have hb1 : 0 < n := by omega
    have hb2 : (n : Int) ≤ 9223372036854775807 := by omega
    have fin : Hid (DiskAt (w.setCell ⟨B, 5, none⟩ (.int .i64 ((n : Int) - 1))) B b1 b2 v ⟨s.many, s.sync, s.loose, doneL s.left⟩) := Lib.hid (by
      refine h.turn _ (by omega) ?_ (fun k hk => heap_setCell_other w _ k _ hk)
      rw [heap_setCell_same w B 5 _ 91 _ h.cells, hd, hn]
      have e5 : decide (0 ≤ (n : Int) - 1) = true := decide_eq_true (by omega)
      have e6 : (((n : Int) - 1).toNat : Int) = (n : Int) - 1 := by omega
      have e7 : decide (0 ≤ (n : Int)) = true := decide_eq_true (by omega)
      rw [e5, e6, e7]
      rfl)
    clear hd hn hn' h0 h1 hl hp e4 h
    go_enter Tryz.func114, Tryz.ntmps114
    go_wp2
    go_end0
    exact ⟨rfl, fin.out, apart_set _ _ _ _⟩
  · have e1 : s.left = -1 := by omega
    have e4 : decide (0 ≤ s.left) = false := decide_eq_false (by omega)
    rw [e4] at c4
    have hd : (⟨s.many, s.sync, s.loose, doneL s.left⟩ : DS) = s := by
      have : doneL s.left = s.left := by unfold doneL; rw [if_neg hp]
      rw [this]
    rw [hd]
    clear hd e1 e4 h0 h1 hl hp
    go_enter Tryz.func114, Tryz.ntmps114
    go_wp2
    go_end0
    exact ⟨rfl, h, Apart.refl _ _⟩
end Go.Proofs.YtdanigigjainjaaGreat.Dk
namespace Go.Proofs.YtdanigigjainjaaGreat.Dk
open Go.RowKit Go.Shelf
set_option maxRecDepth 100000
set_option maxHeartbeats 1000000

theorem goes_at {w w' : World} {B b1 b2 : Nat} {v v' : Value} {s : DS} (h : DiskAt w' B b1 b2 v' s) (hv : ∀ j, v'.ownBlock = some j → v.ownBlock = some j ∨ w.heap.size ≤ j) (ha : Apart (FootOf B b1 b2 v) w w') : Goes RepD (.pointer (some ⟨B, 0, none⟩)) s (FootOf B b1 b2 v) w w' :=
  ⟨_, ⟨B, b1, b2, v', rfl, h, rfl⟩, fun k hk => by
    rcases hk with rfl | rfl | rfl | hk
    · exact .inl (.inl rfl)
    · exact .inl (.inr (.inl rfl))
    · exact .inl (.inr (.inr (.inl rfl)))
    · rcases hv k hk with h | h
      · exact .inl (.inr (.inr (.inr h)))
      · exact .inr h, ha⟩
theorem ref_stop (A : Nat) (n : Int) (s : DS) : refE [qBelow A n] = (stopS s n).2 := by
  rw [refE_if (p := n < 0) rfl]
  unfold stopS
  split <;> rfl
set_option maxRecDepth 100000 in
set_option maxHeartbeats 3000000 in
theorem dstop_any {w : World} {d : Value} {s : DS} {F : Nat → Prop} (n : Int) (h : RepD w d s F) (hW : Whole s) (hn : -9223372036854775808 ≤ n ∧ n ≤ 9223372036854775807) :
    Calls Tryz.prog 25 #[d, .int .i64 n] w fun r w' => r = .returned (.int .i64 (stopS s n).2) ∧ Goes RepD d (stopS s n).1 F w w' := by
  obtain ⟨B, b1, b2, v, rfl, h, rfl⟩ := h
  have hm := hW.many.1
  go_enter Tryz.func25, Tryz.ntmps25
  go_wp2_with fail
  refine (below_any2 _ _).mono ?_
  rintro e wa ⟨rfl, a0, Ba⟩
  go_wp2_with fail
  refine (refuse1 (q1 := qBelow w.heap.size n) (h.below Ba) hm (qBelow_ok a0)).mono ?_
  rintro e wb ⟨rfl, Bb⟩
  rw [ref_stop _ _ s]
  have hC := kbP Ba Bb
  have hD := h.below hC
  clear a0
  by_cases h0 : n < 0
  · have e : stopS s n = (s, 2) := by unfold stopS; rw [if_pos h0]
    rw [e]
    go_wp2_with fail
    go_ret
    rw [e]
    exact ⟨rfl, goes_at hD (fun j hj => .inl hj) (Below.apart hC _)⟩
  · have e : stopS s n = (⟨s.many, s.sync, s.loose, n⟩, 0) := by unfold stopS; rw [if_neg h0]
    rw [e]
    have f4 := hD.frozen 4
    have f5 := hD.frozen 5
    obtain ⟨-, -, -, -, c4, c5⟩ := hD.cell
    go_wp2_with fail
    go_ret
    rw [e]
    refine ⟨rfl, goes_at (v := v) (v' := v) ?_ (fun j hj => .inl hj) ?_⟩
    · have e1 := heap_setCell_same wb B 4 _ 91 (.bool true) hD.cells
      refine hD.turn n hn.2 ?_ (fun k hk => by rw [heap_setCell_other _ _ _ _ (by exact hk), heap_setCell_other _ _ _ _ (by exact hk)])
      rw [heap_setCell_same _ B 5 _ 91 _ e1]
      rw [decide_eq_true (show 0 ≤ n by omega), show ((n.toNat : Nat) : Int) = n by omega]
      rfl
    · exact (Below.apart hC _).trans (((apart_set wb B 4 _).trans (apart_set _ B 5 _) (fun j hj => .inl hj)).wide (fun j hj => (.inl hj : FootOf B b1 b2 v j))) (fun j hj => .inl hj)
end Go.Proofs.YtdanigigjainjaaGreat.Dk
namespace Go.Proofs.YtdanigigjainjaaGreat.Dk
open Go.RowKit Go.Shelf
set_option maxRecDepth 100000
set_option maxHeartbeats 1000000

theorem ref_write (A A' A'' B : Nat) (k : Int) (l : List Nat) (s : DS) : refE [qOdd A l.length, qBeyond A' A'' k s, qHalted B s] = (writeS s k (strOf l)).2 := by
  rw [refE_if (p := l.length ≠ 64) rfl, refE_if (p := k < 0 ∨ (s.many : Int) ≤ k) beyond_ans, refE_if (p := s.left = 0) rfl]
  unfold writeS
  rw [strOf_size]
  split
  · rfl
  · split
    · rfl
    · split <;> rfl
theorem layB_all {l : List Nat} {c : ByteArray} (hl : l.length = 64) : layB l c = strOf l := by
  unfold layB
  rw [hl]
  have : c.extract 64 64 = ByteArray.empty := by
    apply ByteArray.ext
    simp [ByteArray.data_extract]
  rw [this, ByteArray.append_empty]
theorem row_apart {w : World} {b m : Nat} {f : Nat → ByteArray} {v : Value} {l : List (Nat × ByteArray)} (h : MapIs w b m f) (hr : w.ownsRow 0 107 65 v l.length (wcs l)) : v.ownBlock ≠ some b := by
  intro e
  rcases hr.2 with ⟨rfl, -⟩ | ⟨g, cap, cur, rfl, -, hg, -⟩
  · cases e
  · injection e with e
    exact h.cells hg e.symm
/-- A sector is laid, a write is appended, the row is put in its place. -/
theorem DiskAt.wrote {w wc w1 wx w2 : World} {B b1 b2 : Nat} {v v' : Value} {s : DS} {k : Nat} {c : ByteArray} (h : DiskAt wc B b1 b2 v s) (hc : Below w.heap.size w wc) (M1 : MapIs w1 b1 s.many (upd (sectorS s) k c)) (A1 : Apart (fun j => j = b1) wc w1) (Bx : Below w1.heap.size w1 wx)
    (hr : w2.ownsRow 0 107 65 v' (s.loose.length + 1) (wcs (s.loose ++ [(k, c)]))) (hg : wx.grownBy w2 v.ownBlock) (hj : ∀ j, v'.ownBlock = some j → v.ownBlock = some j ∨ wx.heap.size ≤ j) (hlow : ∀ j, FootOf B b1 b2 v j → j < w.heap.size) :
    DiskAt (w2.setCell ⟨B, 3, none⟩ v') B b1 b2 v' ⟨s.many, s.sync, s.loose ++ [(k, c)], s.left⟩ ∧ Apart (FootOf B b1 b2 v) w (w2.setCell ⟨B, 3, none⟩ v') ∧ (∀ j, v'.ownBlock = some j → v.ownBlock = some j ∨ w.heap.size ≤ j) ∧ w2.cell? ⟨B, 3, none⟩ = some v ∧ w2.frozen? ⟨B, 3, none⟩ = false := by
  have hB1 : b1 ≠ B := h.now.cells h.cells
  have hB2 : b2 ≠ B := h.sync.cells h.cells
  have lB := lt_of_heap h.cells
  have l1 := h.now.lt
  have l2 := h.sync.lt
  have s1 := A1.size
  have sx := Bx.size
  have sc := hc.size
  have hv1 := row_apart h.now h.row
  have hv2 := row_apart h.sync h.row
  have k2 : ∀ j, j < wc.heap.size → j ≠ b1 → v.ownBlock ≠ some j → w2.heap[j]? = wc.heap[j]? := fun j hj h1 h2 =>
    ((hg.block j (by omega) (fun e => h2 e.symm)).trans (Bx.block j (by omega))).trans (A1.block j hj h1)
  have c2 := (k2 B lB (fun e => hB1 e.symm) h.off).trans h.cells
  have hvB : v'.ownBlock ≠ some B := fun e => by
    rcases hj B e with e | e
    · exact h.off e
    · omega
  refine ⟨⟨?_, h.left, h.ne, ?_, hvB, ?_, ?_⟩, ?_, fun j e => ?_, ?_, ?_⟩
  · rw [heap_setCell_same w2 B 3 _ 91 v' c2]
    rfl
  · rw [List.length_append, List.length_singleton]
    exact ownsRow_kept hr (fun j hj' => heap_setCell_other w2 _ j _ (fun e => by
      simp only at e
      subst e
      exact hvB hj'))
  · have m2 : MapIs w2 b1 s.many (upd (sectorS s) k c) := M1.of_block ((hg.block b1 (by omega) (fun e => hv1 e.symm)).trans (Bx.block b1 (by omega)))
    have m3 := m2.of_block (w' := w2.setCell ⟨B, 3, none⟩ v') (heap_setCell_other w2 _ b1 _ hB1)
    refine m3.congr fun j _ => ?_
    simp only [upd, sectorS, ← List.append_assoc, lastS_snoc]
    by_cases e : j = k
    · subst e; simp
    · rw [if_neg e, if_neg (fun x => e x.symm)]
  · exact (h.sync.of_block (k2 b2 l2 (fun e => h.ne e.symm) hv2)).of_block (heap_setCell_other w2 _ b2 _ hB2)
  · refine ⟨?_, ?_, ?_, ?_, fun j hjw hF => ?_⟩
    · exact hg.os.trans (Bx.os.trans (A1.os.trans hc.os))
    · exact hg.tape.trans (Bx.tape.trans (A1.tape.trans hc.tape))
    · exact hg.output.trans (Bx.output.trans (A1.output.trans hc.output))
    · rw [setCell_size]
      exact Nat.le_trans sc (Nat.le_trans s1 (Nat.le_trans sx hg.size))
    · rw [heap_setCell_other w2 _ j _ (fun e => hF (.inl e))]
      rw [k2 j (by omega) (fun e => hF (.inr (.inl e))) (fun e => hF (.inr (.inr (.inr e))))]
      exact hc.block j hjw
  · rcases hj j e with e | e
    · exact .inl e
    · exact .inr (by omega)
  · rw [cell_of_row w2 B 3 _ 91 (0, 0) c2]
    rfl
  · exact frozen_of_row w2 B 3 _ 91 c2
end Go.Proofs.YtdanigigjainjaaGreat.Dk
namespace Go.Proofs.YtdanigigjainjaaGreat.Dk
open Go.RowKit Go.Shelf
set_option maxRecDepth 100000
set_option maxHeartbeats 1000000

set_option maxRecDepth 100000 in
set_option maxHeartbeats 2000000 in
theorem dwrite_any {w : World} {d : Value} {s : DS} {F : Nat → Prop} (k : Int) (p : Option Addr) (l : List Nat) (cap : Nat) (h : RepD w d s F) (hW : Whole s) (hF : Few s) (hin : BytesIn w F p l cap) :
    Calls Tryz.prog 111 #[d, .int .i64 k, .slice p l.length cap] w fun r w' => r = .returned (.int .i64 (writeS s k (strOf l)).2) ∧ Goes RepD d (writeS s k (strOf l)).1 F w w' := by
  obtain ⟨B, b1, b2, v, rfl, h, rfl⟩ := h
  have hm := hW.many.1
  have hbyte := Lib.hid hin.byte
  have hat := Lib.hid hin.at'
  clear hin
  go_enter Tryz.func111, Tryz.ntmps111
  go_wp2_with fail
  refine (odd_any _ _ _ _).mono ?_
  rintro e wa ⟨rfl, a0, Ba⟩
  go_wp2_with fail
  refine (beyond_any _ _ _).mono ?_
  rintro e wb ⟨rfl, a1, a2, Bb⟩
  go_wp2_with fail
  refine (halted_any _ _).mono ?_
  rintro e wc ⟨rfl, Bc⟩
  go_wp2_with fail
  have hB := kbP (kbP Ba Bb) Bc
  refine (refuse3 (q1 := qOdd w.heap.size l.length) (q2 := qBeyond (wa.heap.size + 1) wa.heap.size k s) (q3 := qHalted B s) (h.below hB) hm (qOdd_ok (below_kept (kbP Bb Bc) _ _ a0)) (qBeyond_ok (h.below hB) (below_kept Bc _ _ a2) (below_kept Bc _ _ a1)) (qHalted_ok (h.below hB) hm)).mono ?_
  rintro e wd ⟨rfl, Bd⟩
  rw [ref_write]
  have hC := kbP hB Bd
  have hD := h.below hC
  clear a0 a1 a2
  by_cases h0 : l.length ≠ 64
  · have e : writeS s k (strOf l) = (s, 2) := by unfold writeS; rw [strOf_size, if_pos h0]
    rw [e]
    go_wp2_with fail
    go_ret
    rw [e]
    exact ⟨rfl, goes_at hD (fun j hj => .inl hj) (Below.apart hC _)⟩
  by_cases h1 : k < 0 ∨ (s.many : Int) ≤ k
  · have e : writeS s k (strOf l) = (s, 4) := by unfold writeS; rw [strOf_size, if_neg h0, if_pos h1]
    rw [e]
    go_wp2_with fail
    go_ret
    rw [e]
    exact ⟨rfl, goes_at hD (fun j hj => .inl hj) (Below.apart hC _)⟩
  by_cases h2 : s.left = 0
  · have e : writeS s k (strOf l) = (s, 140) := by unfold writeS; rw [strOf_size, if_neg h0, if_neg h1, if_pos h2]
    rw [e]
    go_wp2_with fail
    go_ret
    rw [e]
    exact ⟨rfl, goes_at hD (fun j hj => .inl hj) (Below.apart hC _)⟩
  obtain ⟨n, rfl⟩ : ∃ n : Nat, k = n := ⟨k.toNat, by omega⟩
  have hn : n < s.many := by omega
  have hl : l.length = 64 := by omega
  have e : writeS s n (strOf l) = (⟨s.many, s.sync, s.loose ++ [(n, strOf l)], doneL s.left⟩, 0) := by
    unfold writeS
    rw [strOf_size, if_neg h0, if_neg h1, if_neg h2, Int.toNat_natCast]
  rw [e]
  have HE := Lib.hid e
  have hlow := Lib.hid h.low
  obtain ⟨c0, -, -, -, -, -⟩ := hD.cell
  have HL := Lib.hid hl
  have H2 := Lib.hid h2
  have H3 := Lib.hid hW.left
  clear e h0 h1 h hl h2
  go_wp2_with fail
  refine (lay_any hD.now hn p l cap (by rw [HL.out]; omega) hbyte.out (Lib.hid (bytesAt_below hat.out hC))).mono ?_
  rintro e w1 ⟨rfl, M1, A1⟩
  rw [layB_all HL.out] at M1
  generalize hcc : strOf l = c at *
  have hcs : c.size = 64 := by rw [← hcc, strOf_size, HL.out]
  have HCC := Lib.hid hcc
  clear hcc
  have x0 : w1.cell? ⟨B, 0, none⟩ = some (.map (some b1)) := (World.cell?_of_block (w := wd) (A1.block B (lt_of_heap hD.cells) (fun e => hD.now.cells hD.cells e.symm))).trans c0
  have x3 : w1.cell? ⟨B, 3, none⟩ = some v := (World.cell?_of_block (w := wd) (A1.block B (lt_of_heap hD.cells) (fun e => hD.now.cells hD.cells e.symm))).trans hD.cell.2.2.2.1
  have hl1 := M1.look hn
  have hl2 := (M1.of_block (w' := w1.drew) rfl).look hn
  have hu : upd (sectorS s) n c n = c := by simp [upd]
  rw [hu] at hl1 hl2
  have hbz : (bV c).size = 64 := by rw [bV_size, hcs]
  have hbf := fold_write (k := n) hcs
  have hbw : (wV n c).size = 65 := wV_size hcs
  have hbs := fold_row 65 hbw
  have lB : B < w1.heap.size := Nat.lt_of_lt_of_le (lt_of_heap hD.cells) A1.size
  have B1 : Below w1.heap.size w1 (w1.alloc (.cells (wV n c) 107)).drew := ((Below.refl _ _).alloc (Nat.le_refl _) _).drew
  have RW : Hid (∀ wx, Below w1.heap.size w1 wx → wx.ownsRow 0 107 65 v s.loose.length (wcs s.loose)) := Lib.hid fun wx hx => ownsRow_kept hD.row (fun j hj => (hx.block j (Nat.lt_of_lt_of_le (hD.row.lt j hj).2 A1.size)).trans (A1.block j (hD.row.lt j hj).2 (fun e => row_apart hD.now hD.row (by rw [hj, e]))))
  have W : Hid (∀ wx w2 v', Below w1.heap.size w1 wx → w2.ownsRow 0 107 65 v' (s.loose.length + 1) (wcs (s.loose ++ [(n, c)])) → wx.grownBy w2 v.ownBlock → (∀ j, v'.ownBlock = some j → v.ownBlock = some j ∨ wx.heap.size ≤ j) → DiskAt (w2.setCell ⟨B, 3, none⟩ v') B b1 b2 v' ⟨s.many, s.sync, s.loose ++ [(n, c)], s.left⟩ ∧ Apart (FootOf B b1 b2 v) w (w2.setCell ⟨B, 3, none⟩ v') ∧ (∀ j, v'.ownBlock = some j → v.ownBlock = some j ∨ w.heap.size ≤ j) ∧ w2.cell? ⟨B, 3, none⟩ = some v ∧ w2.frozen? ⟨B, 3, none⟩ = false) := Lib.hid fun wx w2 v' hx hr hg hj => hD.wrote hC M1 A1 hx hr hg hj hlow.out
  have HN : s.loose.length ≤ 100000 := by have := hF.2; omega
  clear hD M1 A1 hC hF
  go_wp2_with fail
  go_region_law (refine step_append_write rfl (.tmp 31) (.tmp 41) rfl rfl (RW.out _ (by first | exact B1 | exact B1)) rfl hcs (heap_alloc_new w1 _) HN ?_; intro v' w2 hr2 hg2 hj2; obtain ⟨g', cap', rfl⟩ := ownsRow_succ hr2; obtain ⟨D3, A3, J3, x5, f5⟩ := W.out _ _ _ (by first | exact B1 | exact B1) hr2 hg2 hj2; have HD3 := Lib.hid D3; have HA3 := Lib.hid A3; have HJ3 := Lib.hid J3; clear D3 A3 J3 hr2 hg2 hj2)
  all_goals (
    go_wp2_with (go_at_call 114; refine (count_any HD3.out H2.out H3.out).mono ?_; rintro e w5 ⟨rfl, D5, A5⟩)
    go_ret
    rw [HCC.out, HE.out]
    exact ⟨rfl, goes_at D5 HJ3.out (HA3.out.trans A5 (fun j hj => .inl (.inl hj)))⟩)
end Go.Proofs.YtdanigigjainjaaGreat.Dk
namespace Go.Proofs.YtdanigigjainjaaGreat.Dk
open Go.RowKit Go.Shelf
set_option maxRecDepth 100000
set_option maxHeartbeats 1000000

/-- The sectors behind the first i writes of a list; of the last one just so many bytes are laid. -/
def setF (l : List (Nat × ByteArray)) (last : Nat) (f : Nat → ByteArray) : Nat → Nat → ByteArray
  | 0 => f
  | i + 1 => upd (setF l last f i) (l.getD i (0, secS 0)).1 (tornB (if i + 1 = l.length then last else 64) (l.getD i (0, secS 0)).2 (setF l last f i (l.getD i (0, secS 0)).1))
/-- A sector's bytes as numbers. -/
def natL (b : ByteArray) : List Nat := b.data.toList.map (·.toNat)
theorem natL_length (b : ByteArray) : (natL b).length = b.size := by
  unfold natL
  rw [List.length_map, Array.length_toList]
  rfl
theorem natL_byte (b : ByteArray) : ∀ x ∈ natL b, x < 256 := fun x hx => by
  obtain ⟨c, _, rfl⟩ := List.mem_map.1 hx
  exact c.toNat_lt
theorem strOf_natL (b : ByteArray) : strOf (natL b) = b := by
  obtain ⟨⟨l⟩⟩ := b
  unfold strOf natL
  congr 1
  rw [List.map_map, show (UInt8.ofNat ∘ fun (x : UInt8) => x.toNat) = id from funext fun c => by simp]
  simp
theorem strOf_take {b : ByteArray} {n : Nat} : strOf ((natL b).take n) = b.extract 0 n := by
  apply ByteArray.ext
  rw [ByteArray.data_extract]
  apply Array.toList_inj.1
  rw [Array.toList_extract]
  unfold strOf natL
  simp only [List.map_take, List.map_map]
  rw [show (UInt8.ofNat ∘ fun (x : UInt8) => x.toNat) = id from funext fun c => by simp]
  simp [List.extract_eq_take_drop]
theorem lay_torn {b c : ByteArray} {n : Nat} (hb : b.size = 64) (hn : n ≤ 64) : layB ((natL b).take n) c = tornB n b c := by
  unfold layB tornB
  rw [strOf_take, List.length_take, natL_length, hb, Nat.min_eq_left hn]
theorem tornB_64 {b c : ByteArray} (hb : b.size = 64) (hc : c.size = 64) : tornB 64 b c = b := by
  unfold tornB
  have e1 : b.extract 0 64 = b := by
    have := ByteArray.extract_zero_size (b := b)
    rwa [hb] at this
  have e2 : c.extract 64 64 = ByteArray.empty := by
    apply ByteArray.ext
    simp [ByteArray.data_extract]
  rw [e1, e2, ByteArray.append_empty]
theorem tornB_size' {n : Nat} {b c : ByteArray} (hn : n ≤ 64) (hb : b.size = 64) (hc : c.size = 64) : (tornB n b c).size = 64 := by
  unfold tornB
  rw [ByteArray.size_append, ByteArray.size_extract, ByteArray.size_extract]
  omega
theorem run_load_sec {w : World} {g off : Nat} {b : ByteArray} (hb : b.size = 64) (hc : ∀ j v, (bL b)[j]? = some v → w.cell? ⟨g, off + j, none⟩ = some v) : (loadCellsFrom ⟨g, off, none⟩ 0 64 #[]).run Tryz.prog w = .ok (bV b) w := by
  have := run_loadCells_list (P := Tryz.prog) w ⟨g, off, none⟩ (bL b) (fun j v hv => by rw [addr_plain]; exact hc j v hv)
  rw [bL_length, hb] at this
  exact this
theorem run_load_write {w : World} {g off : Nat} {k : Int} {b : ByteArray} (hb : b.size = 64) (hc : ∀ j v, (Value.int .i64 k :: bL b)[j]? = some v → w.cell? ⟨g, off + j, none⟩ = some v) : (loadCellsFrom ⟨g, off, none⟩ 0 65 #[]).run Tryz.prog w = .ok (wV k b) w := by
  have := run_loadCells_list (P := Tryz.prog) w ⟨g, off, none⟩ (.int .i64 k :: bL b) (fun j v hv => by rw [addr_plain]; exact hc j v hv)
  rw [List.length_cons, bL_length, hb] at this
  exact this
/-- A write in a row. -/
theorem wcs_get {l : List (Nat × ByteArray)} (hl : ∀ x ∈ l, x.2.size = 64) {i : Nat} {x : Nat × ByteArray} (h : l[i]? = some x) : ∀ j v, (Value.int .i64 (x.1 : Int) :: bL x.2)[j]? = some v → (wcs l)[i * 65 + j]? = some v := by
  induction l generalizing i with
  | nil => cases h
  | cons y l ih =>
    intro j v hv
    cases i with
    | zero =>
      simp at h
      subst h
      simp only [wcs, Nat.zero_mul, Nat.zero_add]
      rw [List.getElem?_append_left (List.getElem?_eq_some_iff.1 hv).1]
      exact hv
    | succ i =>
      have := ih (fun z hz => hl z (by simp [hz])) (i := i) (by simpa using h) j v hv
      simp only [wcs]
      rw [List.getElem?_append_right (by rw [List.length_cons, bL_length, hl y (by simp)]; omega)]
      rw [List.length_cons, bL_length, hl y (by simp), show (i + 1) * 65 + j - (64 + 1) = i * 65 + j by omega]
      exact this
theorem row_cells {w : World} {g cap : Nat} {l : List (Nat × ByteArray)} (hr : w.ownsRow 0 107 65 (.slice (some ⟨g, 0, none⟩) l.length cap) l.length (wcs l)) (hl : ∀ x ∈ l, x.2.size = 64) {i : Nat} {x : Nat × ByteArray} (h : l[i]? = some x) : ∀ j v, (Value.int .i64 (x.1 : Int) :: bL x.2)[j]? = some v → w.cell? ⟨g, i * 65 + j, none⟩ = some v := fun j v hv => by
  have := hr.cells (g := g) rfl (i * 65 + j) v (wcs_get hl h j v hv)
  rw [addr_plain, Nat.zero_add] at this
  exact this
/-- A slot that holds a whole write or a sector is loaded. -/
theorem run_loadVar_at {w : World} {g off n : Nat} {ty : TypeId} {cs : Array Value} (ha : (isAgg ty).run Tryz.prog w = .ok true w) (hs : (sizeOf ty).run Tryz.prog w = .ok n w) (h : (loadCellsFrom ⟨g, off, none⟩ 0 n #[]).run Tryz.prog w = .ok cs w) : (loadVar ty ⟨g, off, none⟩).run Tryz.prog w = .ok (.agg cs) w := by
  simp [loadVar, Sem.run_bind, ha, hs, loadCells, h]
theorem wpList_load_write {ops : Array Oper} {rest : List Oper} {o : Oper} {a : Act} {w : World} {Q : Exit → Act → World → Prop} (hgd : o.guard = none) (x : Operand) (ho : o.op = .load 107 x)
    {g off : Nat} (hx : a.eval x = .pointer (some ⟨g, off, none⟩)) {k : Int} {b : ByteArray} (hb : b.size = 64) (hc : ∀ j v, (Value.int .i64 k :: bL b)[j]? = some v → w.cell? ⟨g, off + j, none⟩ = some v)
    (h : wpList Tryz.prog ops Q rest (a.put o.dst (.agg (wV k b))) w) : wpList Tryz.prog ops Q (o :: rest) a w := by
  refine wpList_plain hgd fun K hK => ?_
  unfold Oper.wp execOp
  simp only [ho, hx, Instr.loadAt, Instr.sureAddr, Sem.run_bind, Sem.run_pure, Result.andThen_ok, run_loadVar_at (Tryz.isAgg107 w) (Tryz.sizeOf107 w) (run_load_write hb hc)]
  exact hK _ _ h
theorem box_write (w : World) (k : Int) (b : ByteArray) : ((w.alloc (.cells (wV k b) 107)).cell? ⟨w.heap.size, 0, none⟩ = some (.int .i64 k)) ∧ ∀ j v, (bL b)[j]? = some v → (w.alloc (.cells (wV k b) 107)).cell? ⟨w.heap.size, 1 + j, none⟩ = some v := by
  have hc := fun j => cell_of_row (w.alloc (.cells (wV k b) 107)) w.heap.size j _ 107 (0, 0) (heap_alloc_new w _)
  refine ⟨by rw [hc 0]; simp [wV], fun j v hv => ?_⟩
  rw [hc (1 + j), Nat.add_comm]
  simpa [wV] using hv
/-- A sector's first bytes are laid. -/
theorem lay_torn_any {b2 m : Nat} {f : Nat → ByteArray} {k n : Nat} {w : World} (h : MapIs w b2 m f) (hk : k < m) (hn : n ≤ 64) {b : ByteArray} (hb : b.size = 64) {g cap : Nat} (hB : BytesAt w (some ⟨g, 0, none⟩) ((natL b).take n)) :
    Calls Tryz.prog 84 #[.agg #[.map (some b2)], .int .i64 k, .slice (some ⟨g, 0, none⟩) n cap] w fun r w' => r = .returned (.tuple #[]) ∧ MapIs w' b2 m (upd f k (tornB n b (f k))) ∧ Apart (fun j => j = b2) w w' := by
  have hl : ((natL b).take n).length = n := by rw [List.length_take, natL_length, hb]; omega
  have := lay_any h hk (some ⟨g, 0, none⟩) ((natL b).take n) cap (by rw [hl]; exact hn) (fun x hx => natL_byte b x (List.mem_of_mem_take hx)) (Lib.hid hB)
  rw [hl, lay_torn hb hn] at this
  exact this
theorem bytesAt_cut (w : World) (b : ByteArray) (n : Nat) : BytesAt (w.alloc (.cells (bV b) 105)) (some ⟨w.heap.size, 0, none⟩) ((natL b).take n) := by
  have := bytesAt_sec w (natL_byte b) 105
  rw [strOf_natL] at this
  exact bytesAt_take this n
theorem setF_next {l : List (Nat × ByteArray)} {last : Nat} {f : Nat → ByteArray} {i : Nat} {x : Nat × ByteArray} (h : l[i]? = some x) : setF l last f (i + 1) = upd (setF l last f i) x.1 (tornB (if i + 1 = l.length then last else 64) x.2 (setF l last f i x.1)) := by
  have : l.getD i (0, secS 0) = x := by rw [List.getD_eq_getElem?_getD, h]; rfl
  rw [setF, this]
end Go.Proofs.YtdanigigjainjaaGreat.Dk
