/- Package frame: what may not be is refused; where frames and pages lie. -/
import Derived.Test.YthnllhfdbnnjhaaO34
namespace Go.Proofs.Ythnllhfdbnnjhaa
open Go.RowKit Go.Shelf

def spanOk (s : Int × Int × Int) : Bool := decide (s.2.1 ≤ s.1) && decide (s.1 ≤ s.2.2)
def refuseE (e : Int) (L : List (Int × Int × Int)) : Int := if L.all spanOk then 0 else e
/-- Spans in a block. -/
def SpansAt (w : World) (q : Nat) (L : List (Int × Int × Int)) : Prop := ∀ k s, L[k]? = some s →
  w.cell? ⟨q, k * 3, none⟩ = some (.int .i64 s.1) ∧ w.cell? ⟨q, k * 3 + 1, none⟩ = some (.int .i64 s.2.1) ∧ w.cell? ⟨q, k * 3 + 2, none⟩ = some (.int .i64 s.2.2)
theorem refuse_next {L : List (Int × Int × Int)} {k : Nat} {s : Int × Int × Int} (h : L[k]? = some s) (h1 : (L.take k).all spanOk = true) (h2 : spanOk s = true) : (L.take (k + 1)).all spanOk = true := by
  have hk : k < L.length := (List.getElem?_eq_some_iff.1 h).1
  rw [List.take_succ_eq_append_getElem hk, List.all_append, h1]
  rw [List.getElem?_eq_getElem hk] at h
  injection h with h
  simp [h, h2]
theorem refuse_out {L : List (Int × Int × Int)} {k : Nat} {s : Int × Int × Int} (h : L[k]? = some s) (h2 : spanOk s = false) (e : Int) : refuseE e L = e := by
  have : L.all spanOk = false := by
    rw [List.all_eq_false]
    exact ⟨s, List.mem_of_getElem? h, by simp [h2]⟩
  simp [refuseE, this]
set_option maxRecDepth 100000 in
set_option maxHeartbeats 1000000 in
theorem refusal_any (e : Int) (L : List (Int × Int × Int)) (q cap : Nat) (w : World) (hL : L.length ≤ 100) (hA : Hid (SpansAt w q L)) :
    Calls Try.prog 35 #[.int .i64 e, .slice (some ⟨q, 0, none⟩) L.length cap] w fun r w' => r = .returned (.int .i64 (refuseE e L)) ∧ Below w.heap.size w w' := by
  go_enter Try.func35, Try.ntmps35
  go_wp2
  refine wp_scope_fwd 0 rfl fun J HJ => ?_
  go_wp2
  have B0 := Lib.hid (Below.refl w.heap.size w)
  go_loopw [9] (fun i wr => ∃ k : Nat, k ≤ L.length ∧ i = .int .i64 k ∧ Hid ((L.take k).all spanOk = true) ∧ Hid (Below w.heap.size w wr)) (fun i _ => L.length - (intOf i).toNat)
  case atStart => exact ⟨0, Nat.zero_le _, rfl, Lib.hid (by simp), B0⟩
  case round =>
    obtain ⟨k, hk, rfl, HA, HB⟩ := hrel
    by_cases hlt : k < L.length
    · obtain ⟨s, hs⟩ : ∃ s, L[k]? = some s := ⟨_, List.getElem?_eq_getElem hlt⟩
      obtain ⟨c0, c1, c2⟩ := hA.out k s hs
      have d0 := (HB.out.cell (lt_of_cell_some c0)).trans c0
      have d1 := (HB.out.cell (lt_of_cell_some c1)).trans c1
      have d2 := (HB.out.cell (lt_of_cell_some c2)).trans c2
      have HS := Lib.hid hs
      clear hs c0 c1 c2
      obtain ⟨a, b, c⟩ := s
      simp only at d0 d1 d2
      have HN : Hid (Below w.heap.size w (wr.alloc (.cells #[.int .i64 a, .int .i64 b, .int .i64 c] 79))) := Lib.hid (HB.out.alloc HB.out.size _)
      by_cases h1 : a < b
      · go_wp2
        go_step3
        refine ⟨rfl, HJ.out _ _ ?_⟩
        go_wp2
        simp only [Exit.noGoto_ret]
        go_ret
        have : spanOk (a, b, c) = false := by simp [spanOk]; omega
        refine ⟨?_, HN.out⟩
        rw [refuse_out HS.out this]
        rfl
      · by_cases h2 : a > c
        · go_wp2
          go_step3
          refine ⟨rfl, HJ.out _ _ ?_⟩
          go_wp2
          simp only [Exit.noGoto_ret]
          go_ret
          have : spanOk (a, b, c) = false := by simp [spanOk]; omega
          refine ⟨?_, HN.out⟩
          rw [refuse_out HS.out this]
          rfl
        · have : spanOk (a, b, c) = true := by simp [spanOk]; omega
          have HA2 := Lib.hid (refuse_next HS.out HA.out this)
          clear this
          go_wp2
          go_roundw
          case rel => exact ⟨k + 1, hlt, by first | rfl | go_num, HA2, HN⟩
          case measure => simp [intOf]; omega
    · obtain rfl : k = L.length := by omega
      go_wp2
      simp only [Exit.jump]
      go_ret
      have := HA.out
      rw [List.take_length] at this
      exact ⟨by simp [refuseE, this], HB.out⟩
end Go.Proofs.Ythnllhfdbnnjhaa
