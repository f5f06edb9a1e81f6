import Derived.Test.YtcngoffmkbobhaaGreatDoorQ3
import Derived.Test.YtcngoffmkbobhaaGreatDoorH0
namespace Go.Proofs.YtcngoffmkbobhaaGreatDoor
open Go.RowKit

theorem holds_any (k1 n1 k2 n2 k3 n3 : Int) (s1 s2 s3 : ByteArray) (t0 t1 : Int) (w : World) (hw : Base w) (hm1 : s1.size ≤ 140737488355328) (hm2 : s2.size ≤ 140737488355328) (hm3 : s3.size ≤ 140737488355328)
    (l1 : -9223372036854775808 ≤ n1) (u1 : n1 ≤ 9223372036854775807) (l2 : -9223372036854775808 ≤ n2) (u2 : n2 ≤ 9223372036854775807) :
    Calls Tryz.prog 8 #[.agg #[.int .i64 k1, .int .i64 n1, .string s1, .int .i64 k2, .int .i64 n2, .string s2, .int .i64 k3, .int .i64 n3, .string s3], .agg #[.int .i64 t0, .int .i64 t1]] w fun r w' => r = .returned (.bool true) ∧ Below w.heap.size w w' := by
  refine holds_walk k1 n1 k2 n2 k3 n3 s1 s2 s3 t0 t1 w hw hm1 hm2 hm3 (ordV k1 n1 k2 n2 s1 s2) (ordV k2 n2 k1 n1 s2 s1) (ordV k2 n2 k3 n3 s2 s3) (ordV k1 n1 k3 n3 s1 s3) (litE k1 n1 s1).2 (litE k2 n2 s2).2 (bothI (bothI 1 t0) t1) (notI (bothI (bothI 1 t0) t1)) (notI t0) (notI t1) (notI (notI t0)) ⟨(litE k1 n1 s1).1.toArray⟩ ⟨(litE k2 n2 s2).1.toArray⟩ (decide (ordV k1 n1 k2 n2 s1 s2 = 0))
    (ordV_flip _ _ _ _ _ _) (ordV_range _ _ _ _ _ _) rfl (fun h => lits_same k1 n1 k2 n2 s1 s2 l1 u1 l2 u2 h) (litE_range _ _ _).1 (litE_range _ _ _).2 (litE_range _ _ _).1 (litE_range _ _ _).2 (by rcases ordV_range k2 n2 k3 n3 s2 s3 with h | h | h <;> omega) (ordV_trans _ _ _ _ _ _ _ _ _)
    (fun w => order_any _ _ _ _ _ _ w) (fun w => order_any _ _ _ _ _ _ w) (fun w => order_any _ _ _ _ _ _ w) (fun w => order_any _ _ _ _ _ _ w)
    (fun hs w hw => literal_any _ _ _ w hw (by omega) l1 u1) (fun hs w hw => literal_any _ _ _ w hw (by omega) l2 u2)
    (fun B w ha hb => and2 t0 t1 B w ha hb) (fun w => not_any _ w) (fun w => not_any _ w) (fun w => not_any _ w)
    (fun B w ha hb => ?_) (fun w => not_any _ w) (fun B w ha => ?_) (fun w => ?_) (fun w => eqg24 _ _ _ _ _ _ _ _ w) (fun w => eqg24 _ _ _ _ _ _ _ _ w)
  · rw [← truth_both]
    exact or2 _ _ B w ha hb
  · rw [truth_not]
    exact and1 t0 B w ha
  · rw [← same_iff]
    exact eq24 _ _ _ _ _ _ w
end Go.Proofs.YtcngoffmkbobhaaGreatDoor
