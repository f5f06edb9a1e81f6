/- Questions, and the first that is answered by yes. -/
import Derived.Test.YthbnochlpnikaaaK5
import Derived.Laws.EntriesVeiled
import Derived.ScopeJumps
import Derived.WalkMore
namespace Go.Proofs.Ythbnochlpnikaaa
open Go.RowKit Go.Shelf

set_option maxRecDepth 100000 in
set_option maxHeartbeats 400000 in
theorem odd_any (p : Option Addr) (n c : Nat) (w : World) :
    Calls Try.prog 40 #[.slice p n c] w fun r w' => r = .returned (.agg #[.int .i64 2, .func (.func 54) #[] #[.pointer (some ⟨w.heap.size, 0, none⟩)]]) ∧ w'.cell? ⟨w.heap.size, 0, none⟩ = some (.slice p n c) ∧ Below w.heap.size w w' := by
  go_enter Try.func40, Try.ntmps40
  go_wp2
  refine bodyPost_ret (v := .agg #[.int .i64 2, .func (.func 54) #[] #[.pointer (some ⟨w.heap.size, 0, none⟩)]]) ?_ rfl ⟨rfl, by go_cell, (((Below.refl _ _).alloc (Nat.le_refl _) _).alloc (by simp) _)⟩
  simp [results, Try.results40, go_sem]
set_option maxRecDepth 100000 in
set_option maxHeartbeats 400000 in
theorem beyond_any (d : Option Addr) (k : Int) (w : World) :
    Calls Try.prog 41 #[.pointer d, .int .i64 k] w fun r w' => r = .returned (.agg #[.int .i64 4, .func (.func 55) #[] #[.pointer (some ⟨w.heap.size + 1, 0, none⟩), .pointer (some ⟨w.heap.size, 0, none⟩)]]) ∧ w'.cell? ⟨w.heap.size, 0, none⟩ = some (.pointer d) ∧ w'.cell? ⟨w.heap.size + 1, 0, none⟩ = some (.int .i64 k) ∧ Below w.heap.size w w' := by
  go_enter Try.func41, Try.ntmps41
  go_wp2
  refine bodyPost_ret (v := .agg #[.int .i64 4, .func (.func 55) #[] #[.pointer (some ⟨w.heap.size + 1, 0, none⟩), .pointer (some ⟨w.heap.size, 0, none⟩)]]) ?_ rfl ⟨rfl, by go_cell, by go_cell, ((((Below.refl _ _).alloc (Nat.le_refl _) _).alloc (by simp) _).alloc (by simp; omega) _)⟩
  simp [results, Try.results41, go_sem]
set_option maxRecDepth 100000 in
set_option maxHeartbeats 400000 in
theorem halted_any (d : Option Addr) (w : World) :
    Calls Try.prog 42 #[.pointer d] w fun r w' => r = .returned (.agg #[.int .i64 140, .func (.func 35) #[.pointer d] #[]]) ∧ Below w.heap.size w w' := by
  go_enter Try.func42, Try.ntmps42
  go_wp2
  refine bodyPost_ret (v := .agg #[.int .i64 140, .func (.func 35) #[.pointer d] #[]]) ?_ rfl ⟨rfl, ((Below.refl _ _).alloc (Nat.le_refl _) _)⟩
  simp [results, Try.results42, go_sem]
set_option maxRecDepth 100000 in
set_option maxHeartbeats 400000 in
theorem below_any2 (n : Int) (w : World) :
    Calls Try.prog 46 #[.int .i64 n] w fun r w' => r = .returned (.agg #[.int .i64 2, .func (.func 57) #[] #[.pointer (some ⟨w.heap.size, 0, none⟩)]]) ∧ w'.cell? ⟨w.heap.size, 0, none⟩ = some (.int .i64 n) ∧ Below w.heap.size w w' := by
  go_enter Try.func46, Try.ntmps46
  go_wp2
  refine bodyPost_ret (v := .agg #[.int .i64 2, .func (.func 57) #[] #[.pointer (some ⟨w.heap.size, 0, none⟩)]]) ?_ rfl ⟨rfl, by go_cell, (((Below.refl _ _).alloc (Nat.le_refl _) _).alloc (by simp) _)⟩
  simp [results, Try.results46, go_sem]
set_option maxRecDepth 100000 in
set_option maxHeartbeats 400000 in
theorem above_any2 (n : Int) (w : World) :
    Calls Try.prog 47 #[.int .i64 n] w fun r w' => r = .returned (.agg #[.int .i64 2, .func (.func 58) #[] #[.pointer (some ⟨w.heap.size, 0, none⟩)]]) ∧ w'.cell? ⟨w.heap.size, 0, none⟩ = some (.int .i64 n) ∧ Below w.heap.size w w' := by
  go_enter Try.func47, Try.ntmps47
  go_wp2
  refine bodyPost_ret (v := .agg #[.int .i64 2, .func (.func 58) #[] #[.pointer (some ⟨w.heap.size, 0, none⟩)]]) ?_ rfl ⟨rfl, by go_cell, (((Below.refl _ _).alloc (Nat.le_refl _) _).alloc (by simp) _)⟩
  simp [results, Try.results47, go_sem]
/-- A question: its error, the function that answers it, what that is called with, the answer. -/
structure Qn where
  e : Int
  F : Nat
  A : Array Value
  bound : Bool
  ans : Bool
def Qn.fv (q : Qn) : Value := if q.bound then .func (.func q.F) q.A #[] else .func (.func q.F) #[] q.A
structure QnOk (w : World) (q : Qn) : Prop where
  enters : ∀ (args : Array Value) (w : World), (callFunc q.F args).run Try.prog w = .ok (.enter q.F args) w
  tells : ∀ w', Below w.heap.size w w' → Calls Try.prog q.F q.A w' fun r w2 => r = .returned (.bool q.ans) ∧ Below w'.heap.size w' w2
/-- The error of the first question that is answered by yes. -/
def refE : List Qn → Int
  | [] => 0
  | q :: l => if q.ans then q.e else refE l
theorem refE_drop {l : List Qn} {i : Nat} {q : Qn} (h : l[i]? = some q) : refE (l.drop i) = if q.ans then q.e else refE (l.drop (i + 1)) := by
  rw [List.drop_eq_getElem_cons (List.getElem?_eq_some_iff.1 h).1]
  rw [(List.getElem?_eq_some_iff.1 h).2]
  rfl
def QsAt (w : World) (g : Nat) (l : List Qn) : Prop := ∀ (i : Nat) (q : Qn), l[i]? = some q → w.cell? ⟨g, i * 2, none⟩ = some (.int .i64 q.e) ∧ w.cell? ⟨g, i * 2 + 1, none⟩ = some q.fv
theorem QsAt.below {w w' : World} {g : Nat} {l : List Qn} (h : QsAt w g l) (hb : Below w.heap.size w w') : QsAt w' g l := fun i q hq => ⟨below_kept hb _ _ (h i q hq).1, below_kept hb _ _ (h i q hq).2⟩
set_option maxRecDepth 100000 in
set_option maxHeartbeats 1000000 in
theorem refusal_any {B : Nat} {m : Int} {w : World} (h : w.cell? ⟨B, 2, none⟩ = some (.int .i64 m)) (hm : m ≠ 0) (l : List Qn) (g c : Nat) (hl : l.length ≤ 10) (hq : Hid (QsAt w g l)) (ok : Hid (∀ (i : Nat) (q : Qn), l[i]? = some q → QnOk w q)) :
    Calls Try.prog 39 #[.pointer (some ⟨B, 0, none⟩), .slice (some ⟨g, 0, none⟩) l.length c] w fun r w' => r = .returned (.int .i64 (refE l)) ∧ Below w.heap.size w w' := by
  have C := none_any h hm
  go_enter Try.func39, Try.ntmps39
  go_wp2
  refine wp_scope_jumps 0 (fun a' w' => Below w.heap.size w w' ∧ ∃ (u2 u3 u6 u7 u8 u9 u10 u11 u12 u13 u14 u15 u16 u17 u18 u19 u20 u21 u22 : Value), a' = { tmps := #[.pointer (some ⟨B, 0, none⟩), .slice (some ⟨g, 0, none⟩) l.length c, u2, u3, .int .i64 0, .int .i64 (refE l), u6, u7, u8, u9, u10, u11, u12, u13, u14, u15, u16, u17, u18, u19, u20, u21, u22], defers := [] }) (fun _ _ => 0) rfl ?_ ?_
  · go_wp2_with (first
      | (go_at_call 28; refine C.mono ?_; rintro e w' ⟨rfl, rfl⟩)
      | fail)
    go_loopw [12] (fun i wr => ∃ k : Nat, k ≤ l.length ∧ i = .int .i64 k ∧ refE (l.drop k) = refE l ∧ Below w.heap.size w wr) (fun i _ => (l.length - intOf i).toNat)
    case atStart => exact ⟨0, Nat.zero_le _, by first | rfl | go_num, rfl, Below.refl _ _⟩
    case round =>
      obtain ⟨k, hk, rfl, hE, hB⟩ := hrel
      by_cases hlt : k < l.length
      · obtain ⟨q, hqk⟩ : ∃ q, l[k]? = some q := ⟨_, List.getElem?_eq_getElem hlt⟩
        obtain ⟨c0, c1⟩ := (hq.out.below hB) k q hqk
        obtain ⟨e0, F, A, bd, ans⟩ := q
        cases bd
        · have hen := (ok.out k _ hqk).enters
          have T := Lib.hid ((ok.out k _ hqk).tells _ (hB.alloc hB.size (.cells #[.int .i64 e0, .func (.func F) #[] A] 91)))
          simp only [Qn.fv, Bool.false_eq_true, if_false] at c1
          cases ans
          · go_wp2_with (first
              | (with_reducible refine T.out.mono ?_; rintro e w2 ⟨rfl, hb2⟩; have hB2 := Lib.hid ((hB.alloc hB.size (.cells #[.int .i64 e0, .func (.func F) #[] A] 91)).trans (hb2.mono (by have := hB.size; simp; omega))))
              | fail)
            go_roundw
            case rel => exact ⟨k + 1, hlt, by first | rfl | go_num, by rw [← hE, refE_drop hqk]; rfl, hB2.out⟩
            case measure => simp [intOf]; omega
          · go_wp2_with (first
              | (with_reducible refine T.out.mono ?_; rintro e w2 ⟨rfl, hb2⟩; have hB2 := Lib.hid ((hB.alloc hB.size (.cells #[.int .i64 e0, .func (.func F) #[] A] 91)).trans (hb2.mono (by have := hB.size; simp; omega))); have x0 : w2.cell? ⟨wr.heap.size, 0, none⟩ = some (.int .i64 e0) := (hb2.cell (by simp)).trans (by go_cell))
              | fail)
            go_step3
            have e5 : e0 = refE l := by rw [← hE, refE_drop hqk]; rfl
            subst e5
            exact ⟨rfl, hB2.out, _, _, _, _, _, _, _, _, _, _, _, _, _, _, _, _, _, _, _, rfl⟩
        · have hen := (ok.out k _ hqk).enters
          have T := Lib.hid ((ok.out k _ hqk).tells _ (hB.alloc hB.size (.cells #[.int .i64 e0, .func (.func F) A #[]] 91)))
          simp only [Qn.fv, if_true] at c1
          cases ans
          · go_wp2_with (first
              | (with_reducible refine T.out.mono ?_; rintro e w2 ⟨rfl, hb2⟩; have hB2 := Lib.hid ((hB.alloc hB.size (.cells #[.int .i64 e0, .func (.func F) A #[]] 91)).trans (hb2.mono (by have := hB.size; simp; omega))))
              | fail)
            go_roundw
            case rel => exact ⟨k + 1, hlt, by first | rfl | go_num, by rw [← hE, refE_drop hqk]; rfl, hB2.out⟩
            case measure => simp [intOf]; omega
          · go_wp2_with (first
              | (with_reducible refine T.out.mono ?_; rintro e w2 ⟨rfl, hb2⟩; have hB2 := Lib.hid ((hB.alloc hB.size (.cells #[.int .i64 e0, .func (.func F) A #[]] 91)).trans (hb2.mono (by have := hB.size; simp; omega))); have x0 : w2.cell? ⟨wr.heap.size, 0, none⟩ = some (.int .i64 e0) := (hb2.cell (by simp)).trans (by go_cell))
              | fail)
            go_step3
            have e5 : e0 = refE l := by rw [← hE, refE_drop hqk]; rfl
            subst e5
            exact ⟨rfl, hB2.out, _, _, _, _, _, _, _, _, _, _, _, _, _, _, _, _, _, _, _, rfl⟩
      · obtain rfl : k = l.length := by omega
        go_wp2
        simp only [Exit.jump]
        go_ret
        refine ⟨?_, hB⟩
        rw [← hE, List.drop_length]
        rfl
  · rintro a' w' ⟨hB, u2, u3, u6, u7, u8, u9, u10, u11, u12, u13, u14, u15, u16, u17, u18, u19, u20, u21, u22, rfl⟩
    go_wp2
    simp only [Exit.jump]
    go_ret
    exact ⟨rfl, hB⟩
end Go.Proofs.Ythbnochlpnikaaa
