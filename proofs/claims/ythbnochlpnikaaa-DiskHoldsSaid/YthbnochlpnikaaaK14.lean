/- What makes writes last: what it comes to, and what it reads. -/
import Derived.Test.YthbnochlpnikaaaK13
namespace Go.Proofs.Ythbnochlpnikaaa
open Go.RowKit Go.Shelf

/-- The sectors behind the first i writes of a list; of the last one just so many bytes are laid. -/
def setF (l : List (Nat × ByteArray)) (last : Nat) (f : Nat → ByteArray) : Nat → Nat → ByteArray
  | 0 => f
  | i + 1 => upd (setF l last f i) (l.getD i (0, secS 0)).1 (tornB (if i + 1 = l.length then last else 64) (l.getD i (0, secS 0)).2 (setF l last f i (l.getD i (0, secS 0)).1))
/-- A sector's bytes as numbers. -/
def natL (b : ByteArray) : List Nat := b.data.toList.map (·.toNat)
theorem natL_length (b : ByteArray) : (natL b).length = b.size := by
  unfold natL
  rw [List.length_map, Array.length_toList]
  rfl
theorem natL_byte (b : ByteArray) : ∀ x ∈ natL b, x < 256 := fun x hx => by
  obtain ⟨c, _, rfl⟩ := List.mem_map.1 hx
  exact c.toNat_lt
theorem strOf_natL (b : ByteArray) : strOf (natL b) = b := by
  obtain ⟨⟨l⟩⟩ := b
  unfold strOf natL
  congr 1
  rw [List.map_map, show (UInt8.ofNat ∘ fun (x : UInt8) => x.toNat) = id from funext fun c => by simp]
  simp
theorem strOf_take {b : ByteArray} {n : Nat} : strOf ((natL b).take n) = b.extract 0 n := by
  apply ByteArray.ext
  rw [ByteArray.data_extract]
  apply Array.toList_inj.1
  rw [Array.toList_extract]
  unfold strOf natL
  simp only [List.map_take, List.map_map]
  rw [show (UInt8.ofNat ∘ fun (x : UInt8) => x.toNat) = id from funext fun c => by simp]
  simp [List.extract_eq_take_drop]
theorem lay_torn {b c : ByteArray} {n : Nat} (hb : b.size = 64) (hn : n ≤ 64) : layB ((natL b).take n) c = tornB n b c := by
  unfold layB tornB
  rw [strOf_take, List.length_take, natL_length, hb, Nat.min_eq_left hn]
theorem tornB_64 {b c : ByteArray} (hb : b.size = 64) (hc : c.size = 64) : tornB 64 b c = b := by
  unfold tornB
  have e1 : b.extract 0 64 = b := by
    have := ByteArray.extract_zero_size (b := b)
    rwa [hb] at this
  have e2 : c.extract 64 64 = ByteArray.empty := by
    apply ByteArray.ext
    simp [ByteArray.data_extract]
  rw [e1, e2, ByteArray.append_empty]
theorem tornB_size' {n : Nat} {b c : ByteArray} (hn : n ≤ 64) (hb : b.size = 64) (hc : c.size = 64) : (tornB n b c).size = 64 := by
  unfold tornB
  rw [ByteArray.size_append, ByteArray.size_extract, ByteArray.size_extract]
  omega
theorem run_load_sec {w : World} {g off : Nat} {b : ByteArray} (hb : b.size = 64) (hc : ∀ j v, (bL b)[j]? = some v → w.cell? ⟨g, off + j, none⟩ = some v) : (loadCellsFrom ⟨g, off, none⟩ 0 64 #[]).run Try.prog w = .ok (bV b) w := by
  have := run_loadCells_list (P := Try.prog) w ⟨g, off, none⟩ (bL b) (fun j v hv => by rw [addr_plain]; exact hc j v hv)
  rw [bL_length, hb] at this
  exact this
theorem run_load_write {w : World} {g off : Nat} {k : Int} {b : ByteArray} (hb : b.size = 64) (hc : ∀ j v, (Value.int .i64 k :: bL b)[j]? = some v → w.cell? ⟨g, off + j, none⟩ = some v) : (loadCellsFrom ⟨g, off, none⟩ 0 65 #[]).run Try.prog w = .ok (wV k b) w := by
  have := run_loadCells_list (P := Try.prog) w ⟨g, off, none⟩ (.int .i64 k :: bL b) (fun j v hv => by rw [addr_plain]; exact hc j v hv)
  rw [List.length_cons, bL_length, hb] at this
  exact this
/-- A write in a row. -/
theorem wcs_get {l : List (Nat × ByteArray)} (hl : ∀ x ∈ l, x.2.size = 64) {i : Nat} {x : Nat × ByteArray} (h : l[i]? = some x) : ∀ j v, (Value.int .i64 (x.1 : Int) :: bL x.2)[j]? = some v → (wcs l)[i * 65 + j]? = some v := by
  induction l generalizing i with
  | nil => cases h
  | cons y l ih =>
    intro j v hv
    cases i with
    | zero =>
      simp at h
      subst h
      simp only [wcs, Nat.zero_mul, Nat.zero_add]
      rw [List.getElem?_append_left (List.getElem?_eq_some_iff.1 hv).1]
      exact hv
    | succ i =>
      have := ih (fun z hz => hl z (by simp [hz])) (i := i) (by simpa using h) j v hv
      simp only [wcs]
      rw [List.getElem?_append_right (by rw [List.length_cons, bL_length, hl y (by simp)]; omega)]
      rw [List.length_cons, bL_length, hl y (by simp), show (i + 1) * 65 + j - (64 + 1) = i * 65 + j by omega]
      exact this
theorem row_cells {w : World} {g cap : Nat} {l : List (Nat × ByteArray)} (hr : w.ownsRow 0 78 65 (.slice (some ⟨g, 0, none⟩) l.length cap) l.length (wcs l)) (hl : ∀ x ∈ l, x.2.size = 64) {i : Nat} {x : Nat × ByteArray} (h : l[i]? = some x) : ∀ j v, (Value.int .i64 (x.1 : Int) :: bL x.2)[j]? = some v → w.cell? ⟨g, i * 65 + j, none⟩ = some v := fun j v hv => by
  have := hr.cells (g := g) rfl (i * 65 + j) v (wcs_get hl h j v hv)
  rw [addr_plain, Nat.zero_add] at this
  exact this
/-- A slot that holds a whole write or a sector is loaded. -/
theorem run_loadVar_at {w : World} {g off n : Nat} {ty : TypeId} {cs : Array Value} (ha : (isAgg ty).run Try.prog w = .ok true w) (hs : (sizeOf ty).run Try.prog w = .ok n w) (h : (loadCellsFrom ⟨g, off, none⟩ 0 n #[]).run Try.prog w = .ok cs w) : (loadVar ty ⟨g, off, none⟩).run Try.prog w = .ok (.agg cs) w := by
  simp [loadVar, Sem.run_bind, ha, hs, loadCells, h]
theorem wpList_load_write {ops : Array Oper} {rest : List Oper} {o : Oper} {a : Act} {w : World} {Q : Exit → Act → World → Prop} (hgd : o.guard = none) (x : Operand) (ho : o.op = .load 78 x)
    {g off : Nat} (hx : a.eval x = .pointer (some ⟨g, off, none⟩)) {k : Int} {b : ByteArray} (hb : b.size = 64) (hc : ∀ j v, (Value.int .i64 k :: bL b)[j]? = some v → w.cell? ⟨g, off + j, none⟩ = some v)
    (h : wpList Try.prog ops Q rest (a.put o.dst (.agg (wV k b))) w) : wpList Try.prog ops Q (o :: rest) a w := by
  refine wpList_plain hgd fun K hK => ?_
  unfold Oper.wp execOp
  simp only [ho, hx, Instr.loadAt, Instr.sureAddr, Sem.run_bind, Sem.run_pure, Result.andThen_ok, run_loadVar_at (Try.isAgg78 w) (Try.sizeOf78 w) (run_load_write hb hc)]
  exact hK _ _ h
theorem wpList_load_sec {ops : Array Oper} {rest : List Oper} {o : Oper} {a : Act} {w : World} {Q : Exit → Act → World → Prop} (hgd : o.guard = none) (x : Operand) (ho : o.op = .load 76 x)
    {g off : Nat} (hx : a.eval x = .pointer (some ⟨g, off, none⟩)) {b : ByteArray} (hb : b.size = 64) (hc : ∀ j v, (bL b)[j]? = some v → w.cell? ⟨g, off + j, none⟩ = some v)
    (h : wpList Try.prog ops Q rest (a.put o.dst (.agg (bV b))) w) : wpList Try.prog ops Q (o :: rest) a w := by
  refine wpList_plain hgd fun K hK => ?_
  unfold Oper.wp execOp
  simp only [ho, hx, Instr.loadAt, Instr.sureAddr, Sem.run_bind, Sem.run_pure, Result.andThen_ok, run_loadVar_at (Try.isAgg76 w) (Try.sizeOf76 w) (run_load_sec hb hc)]
  exact hK _ _ h
theorem box_write (w : World) (k : Int) (b : ByteArray) : ((w.alloc (.cells (wV k b) 78)).cell? ⟨w.heap.size, 0, none⟩ = some (.int .i64 k)) ∧ ∀ j v, (bL b)[j]? = some v → (w.alloc (.cells (wV k b) 78)).cell? ⟨w.heap.size, 1 + j, none⟩ = some v := by
  have hc := fun j => cell_of_row (w.alloc (.cells (wV k b) 78)) w.heap.size j _ 78 (0, 0) (heap_alloc_new w _)
  refine ⟨by rw [hc 0]; simp [wV], fun j v hv => ?_⟩
  rw [hc (1 + j), Nat.add_comm]
  simpa [wV] using hv
/-- A sector's first bytes are laid. -/
theorem lay_torn_any {b2 m : Nat} {f : Nat → ByteArray} {k n : Nat} {w : World} (h : MapIs w b2 m f) (hk : k < m) (hn : n ≤ 64) {b : ByteArray} (hb : b.size = 64) {g cap : Nat} (hB : BytesAt w (some ⟨g, 0, none⟩) ((natL b).take n)) :
    Calls Try.prog 43 #[.agg #[.map (some b2)], .int .i64 k, .slice (some ⟨g, 0, none⟩) n cap] w fun r w' => r = .returned (.tuple #[]) ∧ MapIs w' b2 m (upd f k (tornB n b (f k))) ∧ Apart (fun j => j = b2) w w' := by
  have hl : ((natL b).take n).length = n := by rw [List.length_take, natL_length, hb]; omega
  have := lay_any h hk (some ⟨g, 0, none⟩) ((natL b).take n) cap (by rw [hl]; exact hn) (fun x hx => natL_byte b x (List.mem_of_mem_take hx)) (Lib.hid hB)
  rw [hl, lay_torn hb hn] at this
  exact this
theorem bytesAt_cut (w : World) (b : ByteArray) (n : Nat) : BytesAt (w.alloc (.cells (bV b) 76)) (some ⟨w.heap.size, 0, none⟩) ((natL b).take n) := by
  have := bytesAt_sec w (natL_byte b) 76
  rw [strOf_natL] at this
  exact bytesAt_take this n
theorem setF_next {l : List (Nat × ByteArray)} {last : Nat} {f : Nat → ByteArray} {i : Nat} {x : Nat × ByteArray} (h : l[i]? = some x) : setF l last f (i + 1) = upd (setF l last f i) x.1 (tornB (if i + 1 = l.length then last else 64) x.2 (setF l last f i x.1)) := by
  have : l.getD i (0, secS 0) = x := by rw [List.getD_eq_getElem?_getD, h]; rfl
  rw [setF, this]
end Go.Proofs.Ythbnochlpnikaaa
