import Derived.Test.YtgadmbgnkccooaaO7
import Derived.Lib.AppendStr
namespace Go.Proofs.Ytgadmbgnkccooaa
open Go.RowKit Go.Shelf

def bytesL (s : ByteArray) : List Nat := s.data.toList.map UInt8.toNat
theorem bytesL_len (s : ByteArray) : (bytesL s).length = s.size := by unfold bytesL; simp
theorem strCells_bytes (s : ByteArray) : Lib.strCells s = u8s (bytesL s) := by
  unfold Lib.strCells u8s bytesL
  simp [List.map_map]
theorem numF_len (f : Nat) : ∀ n, (numF f n).length ≤ f + 1 := by
  induction f with
  | zero => intro n; simp [numF]
  | succ f ih =>
    intro n
    rw [numF_more]
    split
    · simp
    · have := ih (n / 128)
      simp only [List.length_cons]
      omega
set_option maxRecDepth 100000 in
set_option maxHeartbeats 1000000 in
theorem refString_any (s : ByteArray) (hs : s.size ≤ 100000) (w : World) :
    Calls Try.prog 23 #[.string s] w fun r w' => ∃ t, r = .returned t ∧ RowB w (strE (bytesL s)) t w' := by
  obtain ⟨j0, hj, hz0, hz1, hz2⟩ := info_parts info5
  have C : Hid (Calls Try.prog 14 #[.int .u64 s.size] w fun r w' => ∃ t, r = .returned t ∧ RowB w (numE s.size) t w') := Lib.hid (refNumber_any s.size w (by omega))
  have hn : (numE s.size).length ≤ 10 := numF_len 9 _
  go_enter Try.func23, Try.ntmps23
  go_wp2_with fail
  refine C.out.mono ?_
  rintro e w1 ⟨t, rfl, hown, hB⟩
  have hbs := hB.size
  go_wp2_with (at_builtin; refine Lib.wpList_append_own_string _ rfl _ _ 23 9 rfl w.heap.size 5 j0 Try.underlying23 Try.underlying9 hj hz0 hz1 hz2 _ _ _ rfl hown s rfl (by unfold maxLen; omega) (by omega) (by omega) ?_)
  intro t' w2 hown2 hgrow2 _
  rw [strCells_bytes] at hown2
  have DN : Hid (RowB w (strE (bytesL s)) t' w2) := Lib.hid ⟨by
    unfold strE
    rw [List.length_append, bytesL_len, List.map_append]
    exact hown2, hB.grown hgrow2 hbs (fun j hj => (hown.lt j hj).1)⟩
  go_wp2
  go_ret
  exact ⟨_, rfl, DN.out⟩
end Go.Proofs.Ytgadmbgnkccooaa

