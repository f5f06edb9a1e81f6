import Derived.Test.YtcngoffmkbobhaaGreatDoorR1
namespace Go.Proofs.YtcngoffmkbobhaaGreatDoor
open Go.RowKit

/-- What the document's reader of a quoted text tells of bytes. -/
def quoE (l : List UInt8) : Option (List UInt8) :=
  match l with
  | [] => none
  | c :: t => if c = 39 ∧ Lib.hasSuffix t [39] = true then if qs (Lib.trimSuffix t [39]) false = true then some (Lib.replaceAll (Lib.trimSuffix t [39]) [39, 39] [39]) else none else none

theorem und_step (l : List UInt8) (j : Nat) (h : j < l.length) (hc : ¬ l[j] = 39) : Lib.replaceAll (l.drop j) [39, 39] [39] = l[j] :: Lib.replaceAll (l.drop (j + 1)) [39, 39] [39] := by
  rw [List.drop_eq_getElem_cons h, und_other _ _ hc]
theorem qs_next (l : List UInt8) (j : Nat) (h : j < l.length) (hc : ¬ l[j] = 39) : qs (l.drop j) false = qs (l.drop (j + 1)) false := by
  rw [List.drop_eq_getElem_cons h, qs_false_other _ _ hc]
theorem qs_end (l : List UInt8) (j : Nat) (h : j < l.length) (hc : l[j] = 39) (he : j + 1 = l.length) : qs (l.drop j) false = false := by
  rw [List.drop_eq_getElem_cons h, hc, List.drop_of_length_le (by omega)]
  rfl
theorem qs_lone (l : List UInt8) (j : Nat) (h : j + 1 < l.length) (hc : l[j] = 39) (hd : ¬ l[j + 1] = 39) : qs (l.drop j) false = false := by
  rw [List.drop_eq_getElem_cons (by omega), hc, List.drop_eq_getElem_cons h, qs_false_quote, qs_true_high _ _ hd]
theorem two_step (l : List UInt8) (j : Nat) (h : j + 1 < l.length) (hc : l[j] = 39) (hd : l[j + 1] = 39) : qs (l.drop j) false = qs (l.drop (j + 2)) false ∧ Lib.replaceAll (l.drop j) [39, 39] [39] = 39 :: Lib.replaceAll (l.drop (j + 2)) [39, 39] [39] := by
  rw [List.drop_eq_getElem_cons (by omega), hc, List.drop_eq_getElem_cons h, hd, qs_false_quote, qs_true_quote, und_quote]
  exact ⟨rfl, rfl⟩

/-- What the document's reader of a quoted text tells of what stands between the quotes. -/
def quoR (m : List UInt8) : Value := .tuple #[.string ⟨(if qs m false = true then Lib.replaceAll m [39, 39] [39] else []).toArray⟩, .bool (qs m false)]
theorem quoR_bad {m : List UInt8} (h : qs m false = false) : quoR m = .tuple #[.string ⟨#[]⟩, .bool false] := by
  unfold quoR
  rw [h]
  rfl
theorem quoR_good {m q : List UInt8} {j : Nat} (hj : m.length ≤ j) (h : qs m false = qs (m.drop j) false) (hu : Lib.replaceAll m [39, 39] [39] = q ++ Lib.replaceAll (m.drop j) [39, 39] [39]) : quoR m = .tuple #[.string ⟨q.toArray⟩, .bool true] := by
  rw [List.drop_of_length_le hj] at h hu
  have h' : qs m false = true := h
  rw [replaceAll_nil _ _ (by decide), List.append_nil] at hu
  unfold quoR
  rw [h', hu]
  rfl
theorem byte_eq39 {c : UInt8} (h : c.toNat = 39) : c = 39 := UInt8.toNat_inj.1 h
theorem byte_ne39 {c : UInt8} (h : ¬ c.toNat = 39) : ¬ c = 39 := fun e => h (by rw [e]; rfl)

set_option maxRecDepth 100000 in
set_option maxHeartbeats 1000000 in
theorem quo_try (s : ByteArray) (w : World) (hs : s.size ≤ 1000000) (h2 : 2 ≤ s.size) (hf : (s[0]'(by omega)).toNat = 39) (hl : (s[s.size - 1]'(by omega)).toNat = 39) :
    Calls Tryz.prog 56 #[.string s] w fun r w' => r = .returned (quoR (s.extract 1 (s.size - 1)).data.toList) ∧ w = w' := by
  have hBs : (s.extract 1 (s.size - 1)).size ≤ 1000000 := by simp; omega
  obtain ⟨B, hB⟩ : ∃ B, B = s.extract 1 (s.size - 1) := ⟨_, rfl⟩
  rw [← hB] at hBs ⊢
  have HBB := Lib.hid hB
  clear hB
  have z0 : (0 : Int) < (s.size : Int) := by omega
  have z1 : ¬ (s.size : Int) < 2 := by omega
  have z2 : (0 : Int) ≤ (s.size : Int) - 1 := by omega
  have z3 : (s.size : Int) - 1 < (s.size : Int) := by omega
  go_enter Tryz.func56, Tryz.ntmps56
  go_wp2
  rw [← HBB.out]
  go_loopw [5, 6] (fun o i wr => ∃ (j : Nat) (q : List UInt8), j ≤ B.size ∧ i = .int .i64 j ∧ o = .string ⟨q.toArray⟩ ∧ q.length ≤ j ∧ Lib.replaceAll B.data.toList [39, 39] [39] = q ++ Lib.replaceAll (B.data.toList.drop j) [39, 39] [39] ∧ qs B.data.toList false = qs (B.data.toList.drop j) false ∧ w = wr) (fun _ i _ => B.size - (intOf i).toNat)
  case atStart => exact ⟨0, [], Nat.zero_le _, rfl, rfl, by simp, by simp, by simp, rfl⟩
  case round =>
    obtain ⟨j, q, hj, rfl, rfl, hq, hu, hqs, rfl⟩ := hrel
    have HU := Lib.hid hu
    have HQ := Lib.hid hqs
    clear hu hqs
    by_cases hlt : j < B.size
    · have hi0 : (0 : Int) ≤ (j : Int) := by omega
      have hi1 : (j : Int) < (B.size : Int) := by omega
      have hl : j < B.data.toList.length := by simpa using hlt
      have hbj : B.data.toList[j] = B[j]'hlt := rfl
      have HJ := Lib.hid (byte_join q B j hlt)
      by_cases h39 : (B[j]'hlt).toNat = 39
      · have hc : B.data.toList[j] = 39 := hbj.trans (byte_eq39 h39)
        by_cases hend : j + 1 < B.size
        · have hl1 : j + 1 < B.data.toList.length := by simpa using hend
          have hi2 : (0 : Int) ≤ (j : Int) + 1 := by omega
          have hi3 : (j : Int) + 1 < (B.size : Int) := by omega
          have hi4 : ((j : Int) + 1).toNat = j + 1 := by omega
          by_cases h40 : (B[j + 1]'hend).toNat = 39
          · have hd : B.data.toList[j + 1] = 39 := byte_eq39 h40
            have HT := Lib.hid (two_step B.data.toList j hl1 hc hd)
            have HC := Lib.hid (byte_eq39 h39)
            clear hc hd hbj
            go_wp2
            all_goals
              refine ⟨⟨j + 2, q ++ [39], by omega, by go_num, ?_, by simp; omega, HU.out.trans (by rw [HT.out.2]; simp), HQ.out.trans HT.out.1, trivial⟩, by simp [intOf]; omega⟩
              rw [HJ.out, HC.out]
          · have HB := Lib.hid (quoR_bad (HQ.out.trans (qs_lone B.data.toList j hl1 hc (byte_ne39 h40))))
            clear hc hbj
            go_wp2
            all_goals first
              | (go_ret2; exact ⟨by rw [HB.out]; rfl, rfl⟩)
              | (exfalso; rename_i h; simp at h; omega)
        · have HB := Lib.hid (quoR_bad (HQ.out.trans (qs_end B.data.toList j hl hc (by simp; omega))))
          have hi3 : ((j : Int) + 1) = (B.size : Int) := by omega
          clear hc hbj
          go_wp2
          all_goals (go_ret2; exact ⟨by rw [HB.out]; rfl, rfl⟩)
      · have hc : ¬ B.data.toList[j] = 39 := fun e => byte_ne39 h39 (hbj.symm.trans e)
        have HN := Lib.hid (qs_next B.data.toList j hl hc)
        have HM := Lib.hid (und_step B.data.toList j hl hc)
        have HD := Lib.hid hbj
        clear hc hbj
        go_wp2
        refine ⟨⟨j + 1, q ++ [B[j]'hlt], by omega, by go_num, ?_, by simp; omega, HU.out.trans (by rw [HM.out, HD.out]; simp), HQ.out.trans HN.out, trivial⟩, by simp [intOf]; omega⟩
        rw [HJ.out]
    · have HG := Lib.hid (quoR_good (by simp; omega) HQ.out HU.out)
      go_wp2
      go_ret2
      exact ⟨by rw [HG.out]; rfl, rfl⟩
end Go.Proofs.YtcngoffmkbobhaaGreatDoor
