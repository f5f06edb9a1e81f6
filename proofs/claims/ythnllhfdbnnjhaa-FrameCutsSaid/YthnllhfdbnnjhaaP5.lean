/- Package frame: bytes joined (slices.Grow, slices.Concat). -/
import Derived.Test.YthnllhfdbnnjhaaO34
import Derived.Shelf.Spec.SlicesGrow
namespace Go.Proofs
open Go.Shelf
def Try.grow_ren : Go.Shelf.Ren := ⟨fun | 4 => 60 | n => n, fun | 0 => 0 | 3 => 3 | 4 => 4 | 9 => 9 | 20 => 20 | 22 => 39 | 25 => 5 | n => n, fun | n => n⟩
theorem Try.grow_lays : Go.Proofs.Lays8.n4 Try.prog Try.grow_ren := {
  mixed := by kernel_rfl
  f4 := ⟨"slices.Grow[[]byte,byte]", by decide, Try.func60.trans (congrArg some (by kernel_rfl))⟩
  t0 := Try.underlying0
  a0 := Try.isAgg0
  z0 := Try.sizeOf0
  v0 := Try.zeroValue0
  t3 := Try.underlying3
  a3 := Try.isAgg3
  z3 := Try.sizeOf3
  v3 := Try.zeroValue3
  t4 := Try.underlying4
  a4 := Try.isAgg4
  z4 := Try.sizeOf4
  v4 := Try.zeroValue4
  t9 := Try.underlying9
  a9 := Try.isAgg9
  z9 := Try.sizeOf9
  v9 := Try.zeroValue9
  t20 := Try.underlying20
  a20 := Try.isAgg20
  z20 := Try.sizeOf20
  v20 := Try.zeroValue20
  t22 := Try.underlying39
  a22 := Try.isAgg39
  z22 := Try.sizeOf39
  v22 := Try.zeroValue39 }
end Go.Proofs
namespace Go.Proofs.Ythnllhfdbnnjhaa
open Go.RowKit Go.Shelf

/-- Room for bytes: a slice of the call's own that has none yet. -/
theorem grow_any (n : Nat) (hn : n ≤ 100000) (w : World) : Calls Try.prog 60 #[.slice none 0 0, .int .i64 n] w fun r w' => ∃ t, r = .returned t ∧ RowB w [] t w' := by
  by_cases h0 : n = 0
  · subst h0
    refine (Any8.slices_Grow_room Try.grow_lays none 0 0 0 w (Nat.le_refl _) (by omega) (by omega) (by omega)).mono ?_
    rintro e w' ⟨rfl, rfl⟩
    exact ⟨_, rfl, World.ownsRow_nil _ _ _ _, Below.refl _ _⟩
  · obtain ⟨i0, hi, hz, hs, hb⟩ := info_parts info5
    refine (Any8.slices_Grow_grow Try.grow_lays i0 (.int .u8 0) hi hz (by omega) none 0 0 n [] w (Nat.le_refl _) (by omega) (by rw [hb]; omega) (by omega) (by simp) (fun _ => rfl) (fun a h => by cases h)).mono ?_
    rintro e w' ⟨rfl, rfl⟩
    have hge := grownCap_ge w n 0 (Try.grow_ren.t 25)
    have hle := grownCap_le_maxLen w (0 + n) 0 5 (by unfold maxLen; omega)
    refine ⟨_, rfl, ⟨rfl, .inr ⟨w.heap.size, _, _, rfl, Nat.le_refl _, heap_alloc_new _ _, Nat.zero_le _, hle, ?_, rfl⟩⟩, ((Below.refl _ _).drew).alloc (by simp) _⟩
    simp only [Array.size_append, size_zeroCells, Value.cells]
    simp
    omega
set_option maxRecDepth 100000 in
set_option maxHeartbeats 2000000 in
/-- Lists of bytes, joined. -/
theorem concat_any (L : List (Option Addr × List Nat × Nat)) (q : Option Addr) (cap : Nat) (w : World) (hL : L.length ≤ 100) (hA : Hid (ListsAt w q L)) (hN : Hid (∀ x ∈ L, x.1 = none → x.2.2 = 0)) (hS : (flatL L).length ≤ 100000) :
    Calls Try.prog 44 #[.slice q L.length cap] w fun r w' => ∃ t, r = .returned t ∧ RowB w (flatL L) t w' := by
  have hS2 : Hid (∀ k x, L[k]? = some x → (flatL (L.take (k + 1))).length = (flatL (L.take k)).length + x.2.1.length ∧ (flatL (L.take (k + 1))).length ≤ 100000) := Lib.hid fun k x hx => by
    have h1 : (flatL (L.take (k + 1))).length = (flatL (L.take k)).length + x.2.1.length := by rw [flatL_next hx, List.length_append]
    refine ⟨h1, ?_⟩
    have h2 : flatL L = flatL (L.take (k + 1)) ++ flatL (L.drop (k + 1)) := by
      unfold flatL
      rw [← List.flatten_append, ← List.map_append, List.take_append_drop]
    rw [h2, List.length_append] at hS
    omega
  go_enter Try.func44, Try.ntmps44
  go_wp2
  go_loop [3, 11] (fun s i => ∃ k : Nat, k ≤ L.length ∧ i = .int .i64 k ∧ s = .int .i64 (flatL (L.take k)).length) (fun _ i => L.length - (intOf i).toNat)
  case atStart => exact ⟨0, Nat.zero_le _, rfl, rfl⟩
  case round =>
    obtain ⟨k, hk, rfl, rfl⟩ := hrel
    by_cases hlt : k < L.length
    · obtain ⟨x, hx⟩ : ∃ x, L[k]? = some x := ⟨_, List.getElem?_eq_getElem hlt⟩
      obtain ⟨B, off, rfl, c, hbs⟩ := hA.out.at' k x hx
      obtain ⟨s1, s2⟩ := hS2.out k x hx
      clear hbs hx
      obtain ⟨p, l, cp⟩ := x
      simp only at c s1
      have HE := Lib.hid s1
      generalize (flatL (L.take k)).length = n1 at *
      clear s1
      have s3 : n1 + l.length ≤ 100000 := by have h3 := HE.out; rw [h3] at s2; exact s2
      clear s2
      go_wp2
      go_round
      case rel => exact ⟨k + 1, hlt, by first | rfl | go_num, by rw [HE.out]; first | rfl | go_num | simp⟩
      case measure => simp [intOf]; omega
    · obtain rfl : k = L.length := by omega
      rw [List.take_length]
      have G := Lib.hid (grow_any (flatL L).length hS w)
      go_wp2_with (go_at_call 60; refine G.out.mono ?_; rintro e wr ⟨t0, rfl, hr0⟩)
      have HR0 := Lib.hid hr0
      clear hr0
      go_loopw [6, 27] (fun s i wr => ∃ k : Nat, k ≤ L.length ∧ i = .int .i64 k ∧ Hid (RowB w (flatL (L.take k)) s wr)) (fun _ i _ => L.length - (intOf i).toNat)
      case atStart => exact ⟨0, Nat.zero_le _, rfl, HR0⟩
      case round =>
        clear HR0
        obtain ⟨k, hk, rfl, HR⟩ := hrel
        by_cases hlt : k < L.length
        · obtain ⟨x, hx⟩ : ∃ x, L[k]? = some x := ⟨_, List.getElem?_eq_getElem hlt⟩
          obtain ⟨B, off, rfl, c, hbs⟩ := hA.out.at' k x hx
          obtain ⟨s1, s2⟩ := hS2.out k x hx
          have hnn := hN.out x (List.mem_of_getElem? hx)
          have HX := Lib.hid (flatL_next hx)
          obtain ⟨p, l, cp⟩ := x
          simp only at c s1 hbs hnn HX
          have c' := (HR.out.2.cell (lt_of_cell_some c)).trans c
          have HBS := Lib.hid (bytesAt_below hbs HR.out.2)
          have HNN := Lib.hid hnn
          have HSZ : Hid ((flatL (L.take k)).length + l.length ≤ 100000) := Lib.hid (by omega)
          clear hbs hx s1 s2 c hnn
          go_wp2_with (at_builtin; refine wpList_append_bytes rfl _ _ rfl rfl HR.out rfl HNN.out HBS.out HSZ.out ?_; intro v' w2 HR2; have HR2 := Lib.hid HR2)
          go_roundw
          case rel => exact ⟨k + 1, hlt, by first | rfl | go_num, by rw [HX.out]; exact HR2⟩
          case measure => simp [intOf]; omega
        · obtain rfl : k = L.length := by omega
          go_wp2
          go_ret
          have := HR.out
          rw [List.take_length] at this
          exact ⟨_, rfl, this⟩
end Go.Proofs.Ythnllhfdbnnjhaa
