/- Package frame: sectors, filled. -/
import Derived.Test.YthnllhfdbnnjhaaP4
import Derived.Test.YthnllhfdbnnjhaaP5
import Derived.Laws.CopyOwn
import Derived.Laws.Rows
import Derived.Laws.Tables
import Derived.Deep.WholeRow
import Derived.Stop.BytesEq
import Derived.Shelf.SlicesE.Kit
namespace Go.Proofs.Ythnllhfdbnnjhaa
open Go.RowKit Go.Shelf

/-- A sector's cells. -/
def secA (l : List Nat) : Array Value := (u8s l).toArray
theorem u8s_length (l : List Nat) : (u8s l).length = l.length := by simp [u8s]
theorem secA_size (l : List Nat) : (secA l).size = l.length := by simp [secA, u8s]
theorem u8s_one (l : List Nat) : ∀ u ∈ u8s l, u.oneCell' = true := fun u hu => by
  obtain ⟨c, _, rfl⟩ := List.mem_map.1 hu
  rfl
theorem secA_one (l : List Nat) : (secA l).all (·.oneCell') = true := by
  rw [Array.all_eq_true_iff_forall_mem]
  intro u hu
  exact u8s_one l u (by simpa [secA] using hu)
def zs64 : Array Value := (List.replicate 64 (Value.int .u8 0)).toArray
theorem zs64_is : zs64 = secA (List.replicate 64 0) := by simp [zs64, secA, u8s]
/-- A sector that begins with bytes, and has noughts behind them. -/
def padL (l : List Nat) : List Nat := l ++ List.replicate (64 - l.length) 0
theorem padL_length {l : List Nat} (h : l.length ≤ 64) : (padL l).length = 64 := by simp [padL]; omega
theorem pad_splice {l : List Nat} : splice (List.replicate 64 (Value.int .u8 0)) 0 (u8s l) = u8s (padL l) := by
  unfold splice padL u8s
  rw [List.map_append, List.map_replicate, List.take_zero, List.nil_append, List.drop_replicate, List.length_map, Nat.zero_add]
  rfl
theorem news_u8 {w : World} {B off : Nat} {l : List Nat} (h : ∀ i, i < l.length → w.cell? ⟨B, off + i, none⟩ = some (.int .u8 (l.getD i 0 : Nat))) : ∀ (j : Nat) (u : Value), (u8s l)[j]? = some u → w.cell? ((⟨B, off, none⟩ : Addr).add j) = some u := fun j u hu => by
  have hj : j < l.length := by
    rw [← u8s_length]
    exact (List.getElem?_eq_some_iff.1 hu).1
  rw [addr_plain, h j hj]
  simp [u8s, hj] at hu
  rw [← hu]
  simp [List.getD_eq_getElem?_getD, hj]
/-- Bytes that come from a slice. -/
def NewsAt (w : World) (p : Option Addr) (l : List Nat) : Prop := 0 < (u8s l).length → ∃ ad, p = some ad ∧ ∀ j v, (u8s l)[j]? = some v → w.cell? (ad.add j) = some v
theorem NewsAt.of {w : World} {p : Option Addr} {l : List Nat} (h : BytesAt w p l) : NewsAt w p l := fun h0 => by
  rw [u8s_length] at h0
  obtain ⟨B, off, rfl, hc⟩ := bytesAt_lt h (List.length_pos_iff.1 h0)
  exact ⟨_, rfl, news_u8 hc⟩
theorem ListsAt.below {w w' : World} {q : Option Addr} {L : List (Option Addr × List Nat × Nat)} (h : ListsAt w q L) (hb : Below w.heap.size w w') : ListsAt w' q L :=
  ⟨fun i x hx => by
    obtain ⟨B, off, e, c, hB⟩ := h.at' i x hx
    exact ⟨B, off, e, (hb.cell (lt_of_cell_some c)).trans c, bytesAt_below hB hb⟩, h.byte⟩
set_option maxRecDepth 100000 in
set_option maxHeartbeats 2000000 in
theorem filled_any (L : List (Option Addr × List Nat × Nat)) (q : Option Addr) (cap : Nat) (w : World) (hL : L.length ≤ 100) (hA : Hid (ListsAt w q L)) (hN : Hid (∀ x ∈ L, x.1 = none → x.2.2 = 0)) (hS : (flatL L).length ≤ 64) :
    Calls Try.prog 54 #[.slice q L.length cap] w fun r w' => r = .returned (.agg (secA (padL (flatL L)))) ∧ Below w.heap.size w w' := by
  go_enter Try.func54, Try.ntmps54
  go_wp2_with fail
  change Code.wp Try.prog _ _ _ ((w.alloc (.cells zs64 84)).alloc (.cells zs64 84))
  obtain ⟨w0, hw0⟩ : ∃ w0, (w.alloc (.cells zs64 84)).alloc (.cells zs64 84) = w0 := ⟨_, rfl⟩
  have B0 : Below w.heap.size w w0 := by subst hw0; exact ((Below.refl _ _).alloc (Nat.le_refl _) _).alloc (by simp) _
  have hs0 : w0.heap.size = w.heap.size + 1 + 1 := by subst hw0; simp
  have hg0 : w0.heap[w.heap.size]? = some (.cells zs64 84 (0, 0)) := by subst hw0; exact (((Below.refl _ _).alloc (Nat.le_refl _) _).block _ (by simp)).trans (heap_alloc_last w _)
  have hg1 : w0.heap[w.heap.size + 1]? = some (.cells (List.replicate 64 (Value.int .u8 0)).toArray 84 (0, 0)) := by subst hw0; have := heap_alloc_last (w.alloc (.cells zs64 84)) (.cells zs64 84); rw [World.size_alloc] at this; exact this
  have C0 := Lib.hid (concat_any L q cap w0.drew hL (Lib.hid (hA.out.below B0.drew)) hN (by omega))
  rw [hw0]
  clear hw0 hA hN
  have HB0 := Lib.hid B0
  have HS0 := Lib.hid hs0
  have HG0 := Lib.hid hg0
  have HG1 := Lib.hid hg1
  clear B0 hs0 hg0 hg1
  go_region_held3 (fun w' => True) (trivial) (first
    | (go_at_call 44; refine C0.out.mono ?_; rintro e wa ⟨t, rfl, hr⟩; obtain ⟨p, cp, rfl, hcp, hcm, hby, -⟩ := hr.at'; have HBY := Lib.hid (NewsAt.of hby); have HB1 := Lib.hid (kbD hr.2); have HH1 : Hid (wa.heap[w.heap.size + 1]? = some (.cells (List.replicate 64 (Value.int .u8 0)).toArray 84 (0, 0))) := Lib.hid ((HB1.out.block _ (by rw [HS0.out]; omega)).trans HG1.out); clear hr hby)
    | (refine step_copy_splice (by rfl) _ _ 39 39 (by rfl) 5 Try.underlying39 (by kernel_rfl) _ _ _ _ _ _ (by rfl) (by rfl) (w.heap.size + 1) 0 (List.replicate 64 (Value.int .u8 0)) 84 HH1.out (u8s (flatL L)) (by rw [u8s_length]; exact (Nat.min_eq_left hS).symm) (fun h0 => ⟨rfl, HBY.out h0⟩) (by rw [u8s_length]; simp; omega) (u8s_one _) (w.heap.size + 1) wa (Below.refl _ _) (Nat.le_refl _) ?_; intro w3 HG3 hb3; have HB3 := Lib.hid hb3; clear hb3))
  have hg3 : w3.heap[w.heap.size + 1]? = some (.cells (secA (padL (flatL L))) 84 (0, 0)) := by
    have h := HG3.out
    rw [pad_splice] at h
    exact h
  have hg4 : w3.heap[w.heap.size]? = some (.cells zs64 84 (0, 0)) := (HB3.out.block _ (Nat.lt_succ_self _)).trans ((HB1.out.block _ (by rw [HS0.out]; omega)).trans HG0.out)
  have HL := Lib.hid (padL_length hS)
  have hfin : Hid (Below w.heap.size w w3) := Lib.hid (HB0.out.trans ((HB1.out.mono (by rw [HS0.out]; omega)).trans (HB3.out.mono (by omega))))
  clear HG3 HB3 HB1 HH1 HBY HG0 HG1 HB0
  go_wp2_with (first
    | (refine wpList_load_row rfl 84 _ rfl (w.heap.size + 1) rfl 84 (secA (padL (flatL L))) (0, 0) _ hg3 Try.underlying84 rfl (by rw [secA_size, HL.out]; kernel_rfl) ?_)
    | (refine wpList_store_row rfl 84 _ _ rfl w.heap.size (secA (padL (flatL L))) rfl rfl 84 zs64 hg4 (by rw [secA_size, HL.out]; kernel_rfl) (by rw [secA_size, HL.out]; rfl) (secA_one _) ?_))
  exact bodyPost_ret (results_cell_row rfl _ _ _ _ _ _ _ rfl (setRow_heap _ _ _ _ _ _ hg4) Try.underlying84 rfl (by rw [secA_size, HL.out]; kernel_rfl)) rfl ⟨rfl, below_setRow hfin.out (Nat.le_refl _) _⟩
end Go.Proofs.Ythnllhfdbnnjhaa
