/- What a crash keeps. -/
import Derived.Test.YthbnochlpnikaaaK16
namespace Go.Proofs.Ythbnochlpnikaaa
open Go.RowKit Go.Shelf

/-- Of the first k writes those that are kept. -/
def keptL (l : List (Nat × ByteArray)) (keep : List Bool) : Nat → List (Nat × ByteArray)
  | 0 => []
  | k + 1 => if keep.getD k false then keptL l keep k ++ [l.getD k (0, secS 0)] else keptL l keep k
theorem keptL_mem {l : List (Nat × ByteArray)} {keep : List Bool} : ∀ {k : Nat}, k ≤ l.length → ∀ x ∈ keptL l keep k, x ∈ l
  | 0, _, x, hx => by cases hx
  | k + 1, hk, x, hx => by
    unfold keptL at hx
    split at hx
    · rcases List.mem_append.1 hx with hx | hx
      · exact keptL_mem (by omega) x hx
      · rw [List.mem_singleton] at hx
        subst hx
        exact getD_mem (by omega)
    · exact keptL_mem (by omega) x hx
theorem keptL_length {l : List (Nat × ByteArray)} {keep : List Bool} : ∀ (k : Nat), (keptL l keep k).length ≤ k
  | 0 => Nat.le_refl _
  | k + 1 => by
    have := keptL_length (l := l) (keep := keep) k
    unfold keptL
    split
    · simp; omega
    · omega
theorem keptL_more {l : List (Nat × ByteArray)} {keep : List Bool} (i : Nat) : ∀ j, ∃ r, keptL l keep (i + j) = keptL l keep i ++ r
  | 0 => ⟨[], by simp⟩
  | j + 1 => by
    obtain ⟨r, hr⟩ := keptL_more (l := l) (keep := keep) i j
    rw [← Nat.add_assoc]
    have e : keptL l keep (i + j + 1) = if keep.getD (i + j) false then keptL l keep (i + j) ++ [l.getD (i + j) (0, secS 0)] else keptL l keep (i + j) := rfl
    rw [e]
    split
    · rw [hr]
      exact ⟨r ++ [_], by rw [List.append_assoc]⟩
    · exact ⟨r, hr⟩
theorem keptL_rest {l : List (Nat × ByteArray)} {keep : List Bool} {i : Nat} : ∀ j, (∀ t, i ≤ t → t < i + j → keep.getD t false = false) → keptL l keep (i + j) = keptL l keep i
  | 0, _ => rfl
  | j + 1, h => by
    rw [← Nat.add_assoc]
    rw [keptL, if_neg (fun e => Bool.false_ne_true ((h (i + j) (by omega) (by omega)).symm.trans e))]
    exact keptL_rest j (fun t h1 h2 => h t h1 (by omega))
theorem tornF_last (keep : List Bool) : ∀ n, (∀ j : Nat, j < n → tornF keep n < j → keep.getD j false = false) ∧ (∀ t : Nat, tornF keep n = t → keep.getD t false = true)
  | 0 => ⟨fun j hj => absurd hj (Nat.not_lt_zero j), fun t h => by simp [tornF] at h⟩
  | n + 1 => by
    obtain ⟨h1, h2⟩ := tornF_last keep n
    unfold tornF
    by_cases hk : keep.getD n false = true
    · rw [if_pos hk]
      refine ⟨fun j hj hlt => by omega, fun t ht => ?_⟩
      obtain rfl : n = t := by omega
      exact hk
    · rw [if_neg hk]
      refine ⟨fun j hj hlt => ?_, h2⟩
      rcases Nat.lt_or_ge j n with h | h
      · exact h1 j h hlt
      · obtain rfl : j = n := by omega
        simpa using hk
theorem torn_rest {s : DS} {keep : List Bool} {j : Nat} (hj : tornS s keep < j) (hl : j < s.loose.length) : keep.getD j false = false := by
  rcases Nat.lt_or_ge j keep.length with h | h
  · exact (tornF_last keep (min s.loose.length keep.length)).1 j (by omega) hj
  · rw [List.getD_eq_getElem?_getD, List.getElem?_eq_none h]; rfl
theorem keptL_torn (s : DS) (keep : List Bool) : keptL s.loose keep s.loose.length = keptL s.loose keep (tornS s keep + 1).toNat := by
  have h1 := tornS_range s keep
  obtain ⟨j, hj⟩ : ∃ j, s.loose.length = (tornS s keep + 1).toNat + j := ⟨s.loose.length - (tornS s keep + 1).toNat, by omega⟩
  rw [hj]
  exact keptL_rest j (fun t h2 h3 => torn_rest (s := s) (by omega) (by omega))
def lastN (tear : Nat) : Nat := if tear = 0 then 64 else tear
/-- What the document keeps, sector by sector. -/
theorem crash_set {s : DS} {keep : List Bool} {tear : Nat} (hW : Whole s) (ht : tear ≤ 63) : ∀ i, i ≤ (tornS s keep + 1).toNat →
    lastS (crashF keep s.loose tear (tornS s keep) s.sync i) = setF (keptL s.loose keep s.loose.length) (lastN tear) (lastS s.sync) (keptL s.loose keep i).length
  | 0, _ => rfl
  | i + 1, hi => by
    have ih := crash_set (keep := keep) (tear := tear) hW ht i (by omega)
    have hr := tornS_range s keep
    have hil : i < s.loose.length := by omega
    have hxm : s.loose.getD i (0, secS 0) ∈ s.loose := getD_mem hil
    have hx := hW.loose _ hxm
    by_cases hk : keep.getD i false = true
    · have e1 : keptL s.loose keep (i + 1) = keptL s.loose keep i ++ [s.loose.getD i (0, secS 0)] := by rw [keptL, if_pos hk]
      have hKi : (keptL s.loose keep s.loose.length)[(keptL s.loose keep i).length]? = some (s.loose.getD i (0, secS 0)) := by
        obtain ⟨r, hr2⟩ := keptL_more (l := s.loose) (keep := keep) (i + 1) (s.loose.length - (i + 1))
        rw [show i + 1 + (s.loose.length - (i + 1)) = s.loose.length by omega, e1] at hr2
        rw [hr2, List.append_assoc, List.getElem?_append_right (Nat.le_refl _)]
        simp
      have e2 : (keptL s.loose keep (i + 1)).length = (keptL s.loose keep i).length + 1 := by rw [e1]; simp
      have hend : (keptL s.loose keep i).length + 1 = (keptL s.loose keep s.loose.length).length ↔ (i : Int) = tornS s keep := by
        rw [keptL_torn]
        constructor
        · intro h
          rcases Int.lt_trichotomy (i : Int) (tornS s keep) with hlt | heq | hgt
          · obtain ⟨t, ht2⟩ : ∃ t : Nat, tornS s keep = t := ⟨(tornS s keep).toNat, by omega⟩
            have hkt := (tornF_last keep (min s.loose.length keep.length)).2 t (by rw [← ht2]; rfl)
            obtain ⟨r, hr2⟩ := keptL_more (l := s.loose) (keep := keep) (i + 1) (t - (i + 1))
            rw [show i + 1 + (t - (i + 1)) = t by omega] at hr2
            have e3 : keptL s.loose keep (t + 1) = keptL s.loose keep t ++ [s.loose.getD t (0, secS 0)] := by rw [keptL, if_pos hkt]
            rw [show (tornS s keep + 1).toNat = t + 1 by omega, e3, hr2] at h
            simp [e2] at h
          · exact heq
          · omega
        · intro h
          rw [show (tornS s keep + 1).toNat = i + 1 by omega, e2]
      rw [crashF, if_pos hk, lastS_upd, e2, setF_next hKi, ih]
      congr 1
      have hsz : (setF (keptL s.loose keep s.loose.length) (lastN tear) (lastS s.sync) (keptL s.loose keep i).length (s.loose.getD i (0, secS 0)).1).size = 64 := by
        rw [← ih]
        exact lastS_size (fun w hw => (crashF_whole (m := s.many) ht (fun w hw => hW.sync w hw) (fun w hw => hW.loose w hw) i (by omega) w hw).2) _
      by_cases he : (i : Int) = tornS s keep
      · rw [if_pos (hend.2 he)]
        by_cases h0 : 0 < tear
        · rw [if_pos ⟨he, h0⟩]
          unfold lastN
          rw [if_neg (by omega)]
        · rw [if_neg (fun h => h0 h.2)]
          have el : lastN tear = 64 := by unfold lastN; rw [if_pos (by omega)]
          rw [el] at hsz ⊢
          rw [tornB_64 hx.2 hsz]
      · rw [if_neg (fun h => he h.1), if_neg (fun h => he (hend.1 h)), tornB_64 hx.2 hsz]
    · rw [crashF, if_neg hk, ih, keptL, if_neg hk]
theorem crash_last {s : DS} {keep : List Bool} {tear : Nat} (hW : Whole s) (ht : tear ≤ 63) : lastS (crashF keep s.loose tear (tornS s keep) s.sync (tornS s keep + 1).toNat) = setF (keptL s.loose keep s.loose.length) (lastN tear) (lastS s.sync) (keptL s.loose keep s.loose.length).length := by
  rw [crash_set hW ht _ (Nat.le_refl _), ← keptL_torn]
end Go.Proofs.Ythbnochlpnikaaa
