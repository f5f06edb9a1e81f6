/- A sector is laid. -/
import Derived.Test.YthbnochlpnikaaaK3
namespace Go.Proofs.Ythbnochlpnikaaa
open Go.RowKit Go.Shelf

/-- The first bytes are written; the others stay. -/
def layB (l : List Nat) (c : ByteArray) : ByteArray := strOf l ++ c.extract l.length 64
theorem bL_append (a b : ByteArray) : bL (a ++ b) = bL a ++ bL b := by
  simp [bL, ByteArray.data_append]
theorem bL_drop {c : ByteArray} (hc : c.size = 64) (i : Nat) : bL (c.extract i 64) = (bL c).drop i := by
  have : c.data.toList.length = 64 := by rw [Array.length_toList]; exact hc
  simp only [bL, ByteArray.data_extract, Array.toList_extract, ← List.map_drop]
  rw [List.extract_eq_take_drop, List.take_of_length_le]
  rw [List.length_drop, this]
  omega
theorem u8s_length (l : List Nat) : (u8s l).length = l.length := by simp [u8s]
theorem layB_size {l : List Nat} {c : ByteArray} (hl : l.length ≤ 64) (hc : c.size = 64) : (layB l c).size = 64 := by
  unfold layB
  rw [ByteArray.size_append, strOf_size, ByteArray.size_extract]
  omega
theorem lay_splice {l : List Nat} {c : ByteArray} (hb : ∀ x ∈ l, x < 256) (hc : c.size = 64) : splice (bL c) 0 (u8s l) = bL (layB l c) := by
  unfold layB splice
  rw [bL_append, bL_strOf l hb, bL_drop hc, u8s_length]
  simp
theorem setRow2 (w : World) (A : Obj) (c c' : Array Value) (t : TypeId) : ((w.alloc A).alloc (.cells c t)).setRow (w.heap.size + 1) c' = (w.alloc A).alloc (.cells c' t) := by
  have := World.setRow_alloc_new (w.alloc A) c c' t
  rwa [World.size_alloc] at this
theorem built_zero : Try.prog.built 76 [] = some (bV (secS 0)) := by
  rw [bV, bL_zero]
  kernel_rfl
theorem wpList_zero {w : World} {ops : Array Oper} {rest : List Oper} {o : Oper} {a : Act} {Q : Exit → Act → World → Prop} (hg : o.guard = none) (ho : o.op = .build 76 #[])
    (h : wpList Try.prog ops Q rest (a.put o.dst (.agg (bV (secS 0)))) w) : wpList Try.prog ops Q (o :: rest) a w := by
  refine wpList_build hg 76 #[] ho ?_ ?_
  · simp [built_zero]
  · simpa [built_zero] using h
theorem news_u8 {w : World} {B off : Nat} {l : List Nat} (h : ∀ i, i < l.length → w.cell? ⟨B, off + i, none⟩ = some (.int .u8 (l.getD i 0 : Nat))) : ∀ (j : Nat) (u : Value), (u8s l)[j]? = some u → w.cell? ((⟨B, off, none⟩ : Addr).add j) = some u := fun j u hu => by
  have hj : j < l.length := by
    rw [← u8s_length]
    exact (List.getElem?_eq_some_iff.1 hu).1
  rw [addr_plain, h j hj]
  simp [u8s, hj] at hu
  rw [← hu]
  simp [List.getD_eq_getElem?_getD, hj]
theorem u8s_one (l : List Nat) : ∀ u ∈ u8s l, u.oneCell' = true := fun u hu => by
  obtain ⟨c, _, rfl⟩ := List.mem_map.1 hu
  rfl
/-- Bytes that come from a slice. -/
def NewsAt (w : World) (p : Option Addr) (l : List Nat) : Prop := 0 < (u8s l).length → ∃ ad, p = some ad ∧ ∀ j v, (u8s l)[j]? = some v → w.cell? (ad.add j) = some v
theorem NewsAt.of {w : World} {p : Option Addr} {l : List Nat} (h : BytesAt w p l) : NewsAt w p l := fun h0 => by
  rw [u8s_length] at h0
  obtain ⟨B, off, rfl, hc⟩ := bytesAt_lt h (List.length_pos_iff.1 h0)
  exact ⟨_, rfl, news_u8 hc⟩
set_option maxRecDepth 100000 in
set_option maxHeartbeats 1000000 in
theorem lay_any {b m : Nat} {f : Nat → ByteArray} {k : Nat} {w : World} (h : MapIs w b m f) (hk : k < m) (p : Option Addr) (l : List Nat) (cap : Nat) (hl : l.length ≤ 64) (hb : ∀ x ∈ l, x < 256) (hB : Hid (BytesAt w p l)) :
    Calls Try.prog 43 #[.agg #[.map (some b)], .int .i64 k, .slice p l.length cap] w fun r w' => r = .returned (.tuple #[]) ∧ MapIs w' b m (upd f k (layB l (f k))) ∧ Apart (fun j => j = b) w w' := by
  have hsz := h.size k hk
  have hblt := h.lt
  obtain ⟨w2, hw2⟩ : ∃ w2, (w.alloc (.cells #[.map (some b)] 59)).alloc (.cells (bV (f k)) 76) = w2 := ⟨_, rfl⟩
  have B1 : Below w.heap.size w (w.alloc (.cells #[.map (some b)] 59)) := (Below.refl _ _).alloc (Nat.le_refl _) _
  have hl1 := (h.below B1).look hk
  have B2 : Below w.heap.size w w2 := by subst hw2; exact B1.alloc (by simp) _
  have hs2 : w2.heap.size = w.heap.size + 1 + 1 := by subst hw2; simp
  have hx2 : w2.cell? ⟨w.heap.size, 0, none⟩ = some (.map (some b)) := by subst hw2; go_cell
  have hg2 : w2.heap[w.heap.size + 1]? = some (.cells (bL (f k)).toArray 76 (0, 0)) := by subst hw2; exact heap_alloc2_new w _ _
  have hcut := run_cut (w.heap.size + 1) l.length hl
  have hp2 : NewsAt w2 p l := NewsAt.of (bytesAt_below hB.out B2)
  have hcs := layB_size hl hsz
  have hsp := Lib.hid (lay_splice hb hsz)
  generalize layB l (f k) = c at *
  have heg := fun x y w => eqg_sec c (secS 0) x y .eql w
  have he0 := Lib.hid fun w => eqi_sec hcs (secS_size 0) w
  have fin : Hid (∀ w3 w4, Below (w.heap.size + 1) w2 w3 → w3.mapTurned w4 b → Apart (fun j => j = b) w w4) := Lib.hid fun w3 w4 hB3 ht => by
    have b3 : Below w.heap.size w w3 := B2.trans (hB3.mono (by omega))
    have a4 := apart_turned ht
    exact ⟨a4.os.trans b3.os, a4.tape.trans b3.tape, a4.output.trans b3.output, Nat.le_trans b3.size a4.size, fun j hj hF => (a4.block j (Nat.lt_of_lt_of_le hj b3.size) hF).trans (b3.block j hj)⟩
  have M2 := h.below B2
  by_cases hz0 : c = secS 0
  · have he : ∀ w, (Op.equalIn 10000 76 (.agg (bV c)) (.agg (bV (secS 0)))).run Try.prog w = .ok true w := fun w => by rw [he0.out, decide_eq_true hz0]
    have hz := Lib.hid hz0
    clear hz0
    go_enter Try.func43, Try.ntmps43
    go_wp2_with (first
      | (refine wpList_store_row rfl 76 _ _ rfl (w.heap.size + 1) (bV (f k)) rfl rfl 76 _ (heap_alloc2_new w _ _) (by rw [bV_size, hsz]; kernel_rfl) (by rw [bV_size, hsz]; kernel_rfl) (bV_one _) ?_; rw [setRow2, hw2])
      | (refine wpList_copy_splice rfl _ _ 47 47 rfl 5 Try.underlying47 (by kernel_rfl) _ _ _ _ _ _ rfl rfl (w.heap.size + 1) 0 (bL (f k)) 76 hg2 (u8s l) (by rw [u8s_length]; exact (Nat.min_self _).symm) (fun h0 => ⟨rfl, hp2 h0⟩) (by rw [u8s_length, bL_length, hsz]; omega) (u8s_one l) (w.heap.size + 1) w2 (Below.refl _ _) (Nat.le_refl _) ?_; intro w3 HG3 hB3; have hx3 := (hB3.cell (p := ⟨w.heap.size, 0, none⟩) (by simp)).trans hx2; have M3 := M2.of_block (hB3.block b (by omega)); have hg3 : w3.heap[w.heap.size + 1]? = some (.cells (bV c) 76 (0, 0)) := by (have := HG3.out; rw [hsp.out] at this; exact this))
      | (refine wpList_zero rfl rfl ?_)
      | (refine wpList_load_row rfl 76 _ rfl (w.heap.size + 1) rfl 76 (bV c) (0, 0) _ hg3 Try.underlying76 rfl (by rw [bV_size, hcs]; kernel_rfl) ?_)
      | (at_delete; refine wpList_drop rfl _ _ rfl M3 hk rfl rfl ?_; intro w4 M4 ht4)
      | fail)
    go_end0
    exact ⟨rfl, by rw [hz.out]; exact M4, fin.out _ _ hB3 ht4⟩
  · have he : ∀ w, (Op.equalIn 10000 76 (.agg (bV c)) (.agg (bV (secS 0)))).run Try.prog w = .ok false w := fun w => by rw [he0.out, decide_eq_false hz0]
    have hz := Lib.hid hz0
    clear hz0
    go_enter Try.func43, Try.ntmps43
    go_wp2_with (first
      | (refine wpList_store_row rfl 76 _ _ rfl (w.heap.size + 1) (bV (f k)) rfl rfl 76 _ (heap_alloc2_new w _ _) (by rw [bV_size, hsz]; kernel_rfl) (by rw [bV_size, hsz]; kernel_rfl) (bV_one _) ?_; rw [setRow2, hw2])
      | (refine wpList_copy_splice rfl _ _ 47 47 rfl 5 Try.underlying47 (by kernel_rfl) _ _ _ _ _ _ rfl rfl (w.heap.size + 1) 0 (bL (f k)) 76 hg2 (u8s l) (by rw [u8s_length]; exact (Nat.min_self _).symm) (fun h0 => ⟨rfl, hp2 h0⟩) (by rw [u8s_length, bL_length, hsz]; omega) (u8s_one l) (w.heap.size + 1) w2 (Below.refl _ _) (Nat.le_refl _) ?_; intro w3 HG3 hB3; have hx3 := (hB3.cell (p := ⟨w.heap.size, 0, none⟩) (by simp)).trans hx2; have M3 := M2.of_block (hB3.block b (by omega)); have hg3 : w3.heap[w.heap.size + 1]? = some (.cells (bV c) 76 (0, 0)) := by (have := HG3.out; rw [hsp.out] at this; exact this))
      | (refine wpList_zero rfl rfl ?_)
      | (refine wpList_load_row rfl 76 _ rfl (w.heap.size + 1) rfl 76 (bV c) (0, 0) _ hg3 Try.underlying76 rfl (by rw [bV_size, hcs]; kernel_rfl) ?_)
      | (at_mapUpdate; refine wpList_put rfl _ _ _ rfl M3 hk hcs hz.out rfl rfl rfl ?_; intro w4 M4 ht4)
      | fail)
    go_end0
    exact ⟨rfl, M4, fin.out _ _ hB3 ht4⟩
end Go.Proofs.Ythbnochlpnikaaa
