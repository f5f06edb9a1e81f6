import Derived.Test.YtoknfdgejiachaaS
namespace Go.Proofs.Ytoknfdgejiachaa
open Go.RowKit Go.Shelf

theorem ret_two {a b c d : Int} (h1 : a = c) (h2 : b = d) : Ending.returned (.tuple #[.int .i64 a, .int .i64 b]) = .returned (.tuple #[.int .i64 c, .int .i64 d]) := by rw [h1, h2]
theorem two_fit {x : Int} (h : In64 x) : Ending.returned (.tuple #[.int .i64 x, .int .i64 0]) = .returned (.tuple #[.int .i64 (fitE x).1, .int .i64 (fitE x).2]) := by rw [fitE_ok h]
theorem two_over {x : Int} (h : ¬ In64 x) : Ending.returned (.tuple #[.int .i64 0, .int .i64 122]) = .returned (.tuple #[.int .i64 (fitE x).1, .int .i64 (fitE x).2]) := by rw [fitE_no h]
set_option maxRecDepth 100000 in
set_option maxHeartbeats 1000000 in
theorem refAdd_any (a b : Int) (ha : In64 a) (hb : In64 b) (w : World) :
    Calls Try.prog 53 #[.int .i64 a, .int .i64 b] w fun r w' => r = .returned (.tuple #[.int .i64 (fitE (a + b)).1, .int .i64 (fitE (a + b)).2]) ∧ w = w' := by
  unfold In64 at ha hb
  obtain ⟨ha1, ha2⟩ := ha
  obtain ⟨hb1, hb2⟩ := hb
  go_enter Try.func53, Try.ntmps53
  go_wp2
  all_goals go_ret2
  all_goals first
    | exact ⟨two_fit (by unfold In64; omega), rfl⟩
    | exact ⟨two_over (by unfold In64; omega), rfl⟩
set_option maxRecDepth 100000 in
set_option maxHeartbeats 1000000 in
theorem refSub_any (a b : Int) (ha : In64 a) (hb : In64 b) (w : World) :
    Calls Try.prog 54 #[.int .i64 a, .int .i64 b] w fun r w' => r = .returned (.tuple #[.int .i64 (fitE (a - b)).1, .int .i64 (fitE (a - b)).2]) ∧ w = w' := by
  unfold In64 at ha hb
  obtain ⟨ha1, ha2⟩ := ha
  obtain ⟨hb1, hb2⟩ := hb
  go_enter Try.func54, Try.ntmps54
  go_wp2
  all_goals go_ret2
  all_goals first
    | exact ⟨two_fit (by unfold In64; omega), rfl⟩
    | exact ⟨two_over (by unfold In64; omega), rfl⟩
end Go.Proofs.Ytoknfdgejiachaa

