import Derived.Test.YtoknfdgejiachaaKE
import Derived.Test.YtoknfdgejiachaaKT
import Derived.Test.YtoknfdgejiachaaY7
import Derived.Outline
namespace Go.Proofs.Ytoknfdgejiachaa
open Go.RowKit Go.Shelf

theorem bcell {W w1 : World} (hb : Below W.heap.size W w1) : (∀ b o, b < W.heap.size → w1.cell? ⟨b, o, none⟩ = W.cell? ⟨b, o, none⟩) ∧ (∀ b o, b < W.heap.size → w1.frozen? ⟨b, o, none⟩ = W.frozen? ⟨b, o, none⟩) :=
  ⟨fun b o h => hb.cell (p := ⟨b, o, none⟩) h, fun b o h => hb.frozen (p := ⟨b, o, none⟩) h⟩
/-- The type of two; whether there is one. -/
def comT (a b : Int) : Int := if a = 0 then b else if b = 0 ∨ b = a then a else 0
def comB (a b : Int) : Bool := decide (a = 0 ∨ b = 0 ∨ b = a)
def tkB (o f t : Int) : Bool := if t = 0 then true else if o = 6 ∨ o = 19 then decide (t = 3) || decide (t = 4) else decide (f = 0) || decide (f = t)
def orE (k t : Int) : Int := if k ≠ 0 then k else t
set_option maxHeartbeats 400000 in
theorem takes_any (o f t : Int) (w : World) :
    Calls Try.prog 41 #[.int .i64 o, .int .i64 f, .int .i64 t] w fun r w' => r = .returned (.bool (tkB o f t)) ∧ w = w' := by
  by_cases h0 : t = 0
  · subst h0
    go_enter Try.func41, Try.ntmps41
    go_wp2
    go_ret
    exact ⟨rfl, rfl⟩
  · have h0' : (t == 0) = false := by simpa using h0
    by_cases h6 : o = 6
    · subst h6
      by_cases h3 : t = 3
      · subst h3
        go_enter Try.func41, Try.ntmps41
        go_wp2
        go_ret
        exact ⟨rfl, rfl⟩
      · have h3' : (t == 3) = false := by simpa using h3
        have e : tkB 6 f t = (t == 4) := by unfold tkB; simp [h0, h3]; rfl
        rw [e]
        clear e
        go_enter Try.func41, Try.ntmps41
        go_wp2
        go_ret
        exact ⟨rfl, rfl⟩
    · have h6' : (o == 6) = false := by simpa using h6
      by_cases h19 : o = 19
      · subst h19
        by_cases h3 : t = 3
        · subst h3
          go_enter Try.func41, Try.ntmps41
          go_wp2
          go_ret
          exact ⟨rfl, rfl⟩
        · have h3' : (t == 3) = false := by simpa using h3
          have e : tkB 19 f t = (t == 4) := by unfold tkB; simp [h0, h3]; rfl
          rw [e]
          clear e
          go_enter Try.func41, Try.ntmps41
          go_wp2
          go_ret
          exact ⟨rfl, rfl⟩
      · have h19' : (o == 19) = false := by simpa using h19
        by_cases hf : f = 0
        · subst hf
          have e : tkB o 0 t = true := by unfold tkB; simp [h0, h6, h19]
          rw [e]
          clear e
          go_enter Try.func41, Try.ntmps41
          go_wp2
          go_ret
          exact ⟨rfl, rfl⟩
        · have hf' : (f == 0) = false := by simpa using hf
          have e : tkB o f t = (f == t) := by unfold tkB; simp [h0, h6, h19, hf]; rfl
          rw [e]
          clear e
          go_enter Try.func41, Try.ntmps41
          go_wp2
          go_ret
          exact ⟨rfl, rfl⟩
set_option maxHeartbeats 400000 in
theorem common_1 (a : Int) (B off cap : Nat) (w : World) (ca : w.cell? ⟨B, off, none⟩ = some (.int .i64 a)) :
    Calls Try.prog 40 #[.int .i64 0, .slice (some ⟨B, off, none⟩) 1 cap] w fun r w' => r = .returned (.tuple #[.int .i64 a, .bool true]) ∧ w = w' := by
  by_cases h : a = 0
  · subst h
    go_enter Try.func40, Try.ntmps40
    go_wp2
    go_rounds 2
    go_ret2
    exact ⟨rfl, rfl⟩
  · have h' : (a == 0) = false := by simpa using h
    have h2 : ((0 : Int) == 0) = true := rfl
    go_enter Try.func40, Try.ntmps40
    go_wp2
    go_rounds 2
    go_ret2
    exact ⟨rfl, rfl⟩
set_option maxHeartbeats 400000 in
theorem common_2 (a b : Int) (B off cap : Nat) (w : World) (ca : w.cell? ⟨B, off, none⟩ = some (.int .i64 a)) (cb : w.cell? ⟨B, off + 1, none⟩ = some (.int .i64 b)) :
    Calls Try.prog 40 #[.int .i64 0, .slice (some ⟨B, off, none⟩) 2 cap] w fun r w' => r = .returned (.tuple #[.int .i64 (if comB a b then comT a b else 0), .bool (comB a b)]) ∧ w = w' := by
  by_cases ha : a = 0
  · subst ha
    by_cases hb : b = 0
    · subst hb
      go_enter Try.func40, Try.ntmps40
      go_wp2
      go_rounds 3
      go_ret2
      exact ⟨rfl, rfl⟩
    · have hb' : (b == 0) = false := by simpa using hb
      go_enter Try.func40, Try.ntmps40
      go_wp2
      go_rounds 3
      go_ret2
      exact ⟨rfl, rfl⟩
  · have ha' : (a == 0) = false := by simpa using ha
    by_cases hb : b = 0
    · subst hb
      have e : (if comB a 0 then comT a 0 else 0) = a := by simp [comB, comT, ha]
      have e2 : comB a 0 = true := by simp [comB]
      rw [e, e2]
      clear e e2
      go_enter Try.func40, Try.ntmps40
      go_wp2
      go_rounds 3
      go_ret2
      exact ⟨rfl, rfl⟩
    · have hb' : (b == 0) = false := by simpa using hb
      by_cases hab : b = a
      · subst hab
        have e : (if comB b b then comT b b else 0) = b := by simp [comB, comT, ha]
        have e2 : comB b b = true := by simp [comB]
        rw [e, e2]
        clear e e2
        go_enter Try.func40, Try.ntmps40
        go_wp2
        go_rounds 3
        go_ret2
        exact ⟨rfl, rfl⟩
      · have hab' : (b == a) = false := by simpa using hab
        have e2 : comB a b = false := by simp [comB, ha, hb, hab]
        rw [e2]
        clear e2
        go_enter Try.func40, Try.ntmps40
        go_wp2
        go_rounds 3
        go_ret2
        exact ⟨rfl, rfl⟩
set_option maxHeartbeats 400000 in
theorem orT_any (k t : Int) (B : Nat) (w : World) (ha : w.cell? ⟨B, 0, none⟩ = some (.int .i64 k)) (hb : w.cell? ⟨B, 1, none⟩ = some (.int .i64 t)) :
    Calls Try.prog 42 #[.slice (some ⟨B, 0, none⟩) 2 2] w fun r w' => r = .returned (.int .i64 (orE k t)) ∧ w = w' := by
  go_enter Try.func42, Try.ntmps42
  go_wp2
  go_rounds 3
  all_goals go_ret
  all_goals exact ⟨ret_int (by simp_all [orE]), rfl⟩
end Go.Proofs.Ytoknfdgejiachaa
