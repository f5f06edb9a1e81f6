/- Noughts are appended to bytes of the call's own. -/
import Derived.Test.YthnllhfdbnnjhaaPK
import Derived.Lib.AppendZerosOnto
namespace Go.Proofs.Ythnllhfdbnnjhaa
open Go.RowKit Go.Shelf

theorem run_append_room_zeros (w : World) (ty : TypeId) (g n cap k : Nat) (cur : Array Value) (hg : w.heap[g]? = some (.cells cur 5 (0, 0))) (hk : 0 < k) (hk2 : k ≤ 100000) (hroom : n + k ≤ cap) (hfit : n + k ≤ cur.size) :
    (Builtin.append_ #[39, 3] ty #[.slice (some ⟨g, 0, none⟩) n cap, .int .i64 k]).run Try.prog w =
      .ok (.slice (some ⟨g, 0, none⟩) (n + k) cap) (w.setRow g (cur.toList.take n ++ List.replicate k (Value.int .u8 0) ++ cur.toList.drop (n + k)).toArray) := by
  obtain ⟨i, hi, hz, hs, hb⟩ := info_parts info5
  have hst := run_storeCells_at Try.prog g n 5 (List.replicate k (.int .u8 0)) 0 cur w hg (by simpa using hfit) (fun u hu => by rw [List.mem_replicate] at hu; rw [hu.2]; rfl)
  have hzc : Builtin.zeroCells (Value.int .u8 0).cells k = (List.replicate k (.int .u8 0)).toArray := by
    apply Array.ext
    · simp [size_zeroCells, Value.cells]
    · intro j h1 h2
      simp [Builtin.zeroCells, Value.cells, Nat.mod_one]
  have hw : IntKind.i64.wrap (k : Int) = k := wrap_small (by omega) (by omega)
  have hneg : ¬ ((k : Int) < 0) := by omega
  have h48 : ¬ (281474976710656 < (k : Int) * (i.bytes : Int)) := by rw [hb]; omega
  have hns : ¬ (k * i.size = 0) := by rw [hs]; omega
  have hk0 : k ≠ 0 := by omega
  simp only [Nat.add_zero, List.length_replicate] at hst
  simp [Builtin.append_, run_underlying Try.underlying39, run_underlying Try.underlying3, sizeOf, typeInfo, zeroValue, hi, hz, hs, asInt, asIntOf, hw, hneg, h48, hk0, hroom, hzc, Addr.add_lit, hst]
/-- Noughts behind bytes of the call's own. -/
theorem run_append_zeros {w w0 : World} {l : List Nat} {v : Value} (k : Nat) (hk : 0 < k) (hR : RowB w0 l v w) (hb : l.length + k ≤ 100000) (ty : TypeId) :
    ∃ v' w', (Builtin.append_ #[39, 3] ty #[v, .int .i64 k]).run Try.prog w = .ok v' w' ∧ RowB w0 (l ++ List.replicate k 0) v' w' ∧ w.grownBy w' v.ownBlock := by
  obtain ⟨i, hi, hz, hs, hby⟩ := info_parts info5
  have hbs := hR.2.size
  have hmap : (l ++ List.replicate k 0).map (fun (x : Nat) => Value.int .u8 (x : Int)) = l.map (fun (x : Nat) => Value.int .u8 (x : Int)) ++ List.replicate k (.int .u8 0) := by simp
  have hzc : ∀ k, Builtin.zeroCells (Value.int .u8 0).cells k = (List.replicate k (.int .u8 0)).toArray := fun k => by
    apply Array.ext
    · simp [size_zeroCells, Value.cells]
    · intro j h1 h2
      simp [Builtin.zeroCells, Value.cells, Nat.mod_one]
  have grown : ∀ (old : Nat), old < l.length + k → ∀ row, RowB w0 (l ++ List.replicate k 0) (.slice (some ⟨w.heap.size, 0, none⟩) (l.length + k) (grownCap w (l.length + k) old 5))
      (w.drew.alloc (.cells ((l.map fun (x : Nat) => Value.int .u8 (x : Int)).toArray ++ Builtin.zeroCells (Value.int .u8 0).cells k ++ Builtin.zeroCells (Value.int .u8 0).cells (grownCap w (l.length + k) old 5 - (l.length + k))) 5)) ∧
      w.grownBy (w.drew.alloc (.cells ((l.map fun (x : Nat) => Value.int .u8 (x : Int)).toArray ++ Builtin.zeroCells (Value.int .u8 0).cells k ++ Builtin.zeroCells (Value.int .u8 0).cells (grownCap w (l.length + k) old 5 - (l.length + k))) 5)) row := by
    intro old ho row
    have hge := grownCap_ge w (l.length + k) old 5
    have hcm : grownCap w (l.length + k) old 5 ≤ maxLen := grownCap_le_maxLen w (l.length + k) old 5 (by unfold maxLen; omega)
    refine ⟨⟨⟨by simp, .inr ⟨w.heap.size, _, _, by simp, hbs, heap_alloc_new w.drew _, by simpa using hge, hcm, ?_, ?_⟩⟩, (hR.2.drew).alloc (by simpa using hbs) _⟩, ⟨rfl, rfl, rfl, by simp, fun j hj _ => (((Below.refl _ w).drew).alloc (Nat.le_refl _) _).block j hj⟩⟩
    · simp only [hzc, Array.size_append, List.size_toArray, List.length_map, List.length_replicate]
      omega
    · simp only [hzc, Array.toList_append, hmap]
      rw [List.take_append_of_le_length (by simp), List.take_of_length_le (by simp)]
  rcases hR.1.2 with ⟨rfl, hn⟩ | ⟨g, cap, cur, rfl, hbg, hg, hnc, hcm, hcs, htake⟩
  · have hl : l = [] := List.eq_nil_of_length_eq_zero hn
    subst hl
    have hr := Lib.run_append_grow_zeros (P := Try.prog) w 39 3 ty 5 i (.int .u8 0) .i64 .i64 Try.underlying39 Try.underlying3 hi hz none 0 0 [] (run_firstCells_none w.drew i.size 0 0 0) k hk (by omega) (by omega) (by simp at hb; omega) (by simp at hb; rw [hby]; omega) (growslice_fits (by omega) (by simp at hb; rw [hby]; omega))
    have := grown 0 (by omega) (Value.ownBlock (.slice none 0 0))
    exact ⟨_, _, hr, this.1, this.2⟩
  · by_cases hroom : l.length + k ≤ cap
    · have hr := run_append_room_zeros w ty g l.length cap k cur hg hk (by omega) hroom (by omega)
      refine ⟨_, _, hr, ⟨⟨by simp, .inr ⟨g, cap, _, by simp, hbg, setRow_heap w g cur _ 5 _ hg, by simpa using hroom, hcm, ?_, ?_⟩⟩, below_setRow hR.2 hbg _⟩, ⟨rfl, rfl, rfl, by simp, fun k _ hk => setRow_other w g k _ (fun e => hk (by simp [Value.ownBlock, e]))⟩⟩
      · simp only [List.size_toArray, List.length_append, List.length_take, List.length_drop, Array.length_toList, List.length_replicate]
        omega
      · rw [hmap]
        rw [Nat.mul_one] at htake
        simp only [htake, List.length_append, List.length_replicate, Nat.mul_one]
        rw [List.take_append_of_le_length (by simp), List.take_of_length_le (by simp)]
    · have holds : ∀ j u, (l.map fun (x : Nat) => Value.int .u8 (x : Int))[j]? = some u → w.cell? ((⟨g, 0, none⟩ : Addr).add j) = some u := hR.1.cells (g := g) rfl
      have hold := run_firstCells_some (P := Try.prog) w.drew i.size l.length ⟨g, 0, none⟩ l.length cap (l.map fun (x : Nat) => Value.int .u8 (x : Int)) (by simp [hs]) (fun j u h => by rw [World.cell?_drew]; exact holds j u h)
      have hr := Lib.run_append_grow_zeros (P := Try.prog) w 39 3 ty 5 i (.int .u8 0) .i64 .i64 Try.underlying39 Try.underlying3 hi hz (some ⟨g, 0, none⟩) l.length cap _ hold k hk (by omega) (by omega) (by omega) (by rw [hby]; omega) (growslice_fits (by omega) (by rw [hby]; omega))
      have := grown cap (by omega) (Value.ownBlock (.slice (some ⟨g, 0, none⟩) l.length cap))
      exact ⟨_, _, hr, this.1, this.2⟩
theorem wpList_append_zeros {ops : Array Oper} {rest : List Oper} {o : Oper} {a : Act} {w : World} {Q : Exit → Act → World → Prop} (hgd : o.guard = none) (s x : Operand)
    (ho : o.op = .call { callee := .builtin .append, args := #[s, x], argTypes := #[39, 3] })
    {w0 : World} {l : List Nat} {v : Value} (k : Nat) (hk : 0 < k) (hs : a.eval s = v) (hR : RowB w0 l v w) (hx : a.eval x = .int .i64 k) (hb : l.length + k ≤ 100000)
    (h : ∀ v' w', RowB w0 (l ++ List.replicate k 0) v' w' → wpList Try.prog ops Q rest (a.put o.dst v') w') : wpList Try.prog ops Q (o :: rest) a w := by
  refine wpList_plain hgd fun K hK => ?_
  obtain ⟨v', w', hrun, h1, -⟩ := run_append_zeros k hk hR hb o.type
  unfold Oper.wp
  simp [execOp, ho, resolve, invoke, builtin, hs, hx, hrun, Result.andThen]
  exact hK _ _ (h v' w' h1)
end Go.Proofs.Ythnllhfdbnnjhaa
