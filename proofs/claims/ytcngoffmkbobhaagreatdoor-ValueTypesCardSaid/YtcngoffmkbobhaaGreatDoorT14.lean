import Derived.Test.YtcngoffmkbobhaaGreatDoorT13
namespace Go.Proofs.YtcngoffmkbobhaaGreatDoor
open Go.RowKit

/-- What Parse tells of bytes: an error, the kind, the number, the bytes. -/
def parseE (l : List UInt8) : Int × Int × Int × List UInt8 :=
  if l = [110, 117, 108, 108] then (0, 0, 0, [])
  else if l = [102, 97, 108, 115, 101] then (0, 1, 0, [])
  else if l = [116, 114, 117, 101] then (0, 1, 1, [])
  else if Lib.hasPrefix l [39] = true then
    if Lib.hasSuffix (Lib.trimPrefix l [39]) [39] = true then
      if qs (Lib.trimSuffix (Lib.trimPrefix l [39]) [39]) false = true then
        if (Lib.replaceAll (Lib.trimSuffix (Lib.trimPrefix l [39]) [39]) [39, 39] [39]).length ≤ 1000 then (0, 3, 0, Lib.replaceAll (Lib.trimSuffix (Lib.trimPrefix l [39]) [39]) [39, 39] [39]) else (3, 0, 0, [])
      else (110, 0, 0, [])
    else (110, 0, 0, [])
  else if Lib.hasPrefix l [120, 39] = true then
    if Lib.hasSuffix (Lib.trimPrefix l [120, 39]) [39] = true then
      if (Lib.trimSuffix (Lib.trimPrefix l [120, 39]) [39]).length % 2 = 0 then
        match unhex (Lib.trimSuffix (Lib.trimPrefix l [120, 39]) [39]) with
        | some u => if u.length ≤ 1000 then (0, 4, 0, u) else (3, 0, 0, [])
        | none => (110, 0, 0, [])
      else (110, 0, 0, [])
    else (110, 0, 0, [])
  else match Lib.parseIntB 64 l with
    | .ok n => if Lib.itoa n = l then (0, 2, n, []) else (110, 0, 0, [])
    | _ => (110, 0, 0, [])

theorem toL (s : ByteArray) : s.toList = s.data.toList := ByteArray.toList_eq s
theorem beq_t {s : ByteArray} {l : List UInt8} (h : s.data.toList = l) : (s.toList == l) = true := by rw [toL, h]; simp
theorem beq_f {s : ByteArray} {l : List UInt8} (h : ¬ s.data.toList = l) : (s.toList == l) = false := by rw [toL]; simpa using h
theorem nt {b : Bool} (h : ¬ b = true) : Hid (b = false) := by cases b <;> simp_all [Hid]
theorem tp_le (l p : List UInt8) : (Lib.trimPrefix l p).length ≤ l.length := by unfold Lib.trimPrefix; split <;> simp
theorem ts_le (l p : List UInt8) : (Lib.trimSuffix l p).length ≤ l.length := by unfold Lib.trimSuffix; split <;> simp
theorem sz (l : List UInt8) : (⟨l.toArray⟩ : ByteArray).size = l.length := size_of_list l

theorem parse_any (s : ByteArray) (hs : s.size ≤ 1000000) (w : World) (hw : Base w) :
    Calls Tryz.prog 29 #[.string s] w fun r w' => r = .returned (.tuple #[.agg #[.int .i64 (parseE s.data.toList).2.1, .int .i64 (parseE s.data.toList).2.2.1, .string ⟨(parseE s.data.toList).2.2.2.toArray⟩], .int .i64 (parseE s.data.toList).1]) ∧ Below w.heap.size w w' := by
  have hl : s.data.toList.length = s.size := (Lib.size_eq s).symm
  unfold parseE
  by_cases g0 : s.data.toList = [110, 117, 108, 108]
  · rw [if_pos g0]
    exact parse_ok s ⟨#[]⟩ 0 0 (fun b w0 w a1 a2 a3 a4 a5 a6 => value_null b s w0 w a1 a2 hs a3 a4 a5 a6 (beq_t g0)) w hw
  rw [if_neg g0]
  by_cases g1 : s.data.toList = [102, 97, 108, 115, 101]
  · rw [if_pos g1]
    exact parse_ok s ⟨#[]⟩ 1 0 (fun b w0 w a1 a2 a3 a4 a5 a6 => value_false b s w0 w a1 a2 hs a3 a4 a5 a6 (beq_f g0) (beq_t g1)) w hw
  rw [if_neg g1]
  by_cases g2 : s.data.toList = [116, 114, 117, 101]
  · rw [if_pos g2]
    exact parse_ok s ⟨#[]⟩ 1 1 (fun b w0 w a1 a2 a3 a4 a5 a6 => value_true b s w0 w a1 a2 hs a3 a4 a5 a6 (beq_f g0) (beq_f g1) (beq_t g2)) w hw
  rw [if_neg g2]
  have r39 : (restOf s ⟨#[39]⟩).data.toList = Lib.trimPrefix s.data.toList [39] := by simp [restOf]
  have r120 : (restOf s ⟨#[120, 39]⟩).data.toList = Lib.trimPrefix s.data.toList [120, 39] := by simp [restOf]
  have z39 : (restOf s ⟨#[39]⟩).size ≤ 1000000 := by rw [Lib.size_eq, r39]; have := tp_le s.data.toList [39]; omega
  have z120 : (restOf s ⟨#[120, 39]⟩).size ≤ 1000000 := by rw [Lib.size_eq, r120]; have := tp_le s.data.toList [120, 39]; omega
  by_cases p0 : Lib.hasPrefix s.data.toList [39] = true
  · rw [if_pos p0]
    by_cases q0 : Lib.hasSuffix (Lib.trimPrefix s.data.toList [39]) [39] = true
    · rw [if_pos q0]
      have zb : (⟨(Lib.trimSuffix (restOf s ⟨#[39]⟩).data.toList [39]).toArray⟩ : ByteArray).size ≤ 1000000 := by
        rw [sz, r39]; have := ts_le (Lib.trimPrefix s.data.toList [39]) [39]; have := tp_le s.data.toList [39]; omega
      by_cases t0 : qs (Lib.trimSuffix (Lib.trimPrefix s.data.toList [39]) [39]) false = true
      · rw [if_pos t0]
        by_cases u0 : (Lib.replaceAll (Lib.trimSuffix (Lib.trimPrefix s.data.toList [39]) [39]) [39, 39] [39]).length ≤ 1000
        · rw [if_pos u0]
          rw [← r39]
          exact parse_ok s _ 3 0 (fun b w0 w a1 a2 a3 a4 a5 a6 => value_text_ok b s w0 w a1 a2 hs a3 a4 a5 a6 (beq_f g0) (beq_f g1) (beq_f g2) p0 z39 (by rw [r39]; exact q0) zb (by rw [r39]; exact t0) (by rw [sz]; simpa [r39] using u0)) w hw
        · rw [if_neg u0]
          exact parse_no s 3 (fun b w0 w a1 a2 a3 a4 a5 a6 => value_text_long b s w0 w a1 a2 hs a3 a4 a5 a6 (beq_f g0) (beq_f g1) (beq_f g2) p0 z39 (by rw [r39]; exact q0) zb (by rw [r39]; exact t0) (by rw [sz]; simp only [r39]; omega)) w hw
      · rw [if_neg t0]
        exact parse_no s 110 (fun b w0 w a1 a2 a3 a4 a5 a6 => value_text_bad b s w0 w a1 a2 hs a3 a4 a5 a6 (beq_f g0) (beq_f g1) (beq_f g2) p0 z39 (by rw [r39]; exact q0) zb (by rw [r39]; exact nt t0)) w hw
    · rw [if_neg q0]
      exact parse_no s 110 (fun b w0 w a1 a2 a3 a4 a5 a6 => value_text_open b s w0 w a1 a2 hs a3 a4 a5 a6 (beq_f g0) (beq_f g1) (beq_f g2) p0 z39 (by rw [r39]; exact nt q0)) w hw
  rw [if_neg p0]
  have p0' : Hid (Lib.hasPrefix s.data.toList (⟨#[39]⟩ : ByteArray).data.toList = false) := nt p0
  by_cases p1 : Lib.hasPrefix s.data.toList [120, 39] = true
  · rw [if_pos p1]
    by_cases q0 : Lib.hasSuffix (Lib.trimPrefix s.data.toList [120, 39]) [39] = true
    · rw [if_pos q0]
      have zb : (⟨(Lib.trimSuffix (restOf s ⟨#[120, 39]⟩).data.toList [39]).toArray⟩ : ByteArray).size ≤ 1000000 := by
        rw [sz, r120]; have := ts_le (Lib.trimPrefix s.data.toList [120, 39]) [39]; have := tp_le s.data.toList [120, 39]; omega
      by_cases e0 : (Lib.trimSuffix (Lib.trimPrefix s.data.toList [120, 39]) [39]).length % 2 = 0
      · rw [if_pos e0]
        split
        · rename_i u hu
          by_cases u0 : u.length ≤ 1000
          · rw [if_pos u0]
            exact parse_ok s _ 4 0 (fun b w0 w a1 a2 a3 a4 a5 a6 => value_blob_ok b s w0 w a1 a2 hs a3 a4 a5 a6 (beq_f g0) (beq_f g1) (beq_f g2) p0' p1 z120 (by rw [r120]; exact q0) zb u (by rw [sz, r120]; exact e0) (by rw [r120]; exact hu) (by rw [sz]; exact u0)) w hw
          · rw [if_neg u0]
            exact parse_no s 3 (fun b w0 w a1 a2 a3 a4 a5 a6 => value_blob_long b s w0 w a1 a2 hs a3 a4 a5 a6 (beq_f g0) (beq_f g1) (beq_f g2) p0' p1 z120 (by rw [r120]; exact q0) zb u (by rw [sz, r120]; exact e0) (by rw [r120]; exact hu) (by rw [sz]; omega)) w hw
        · rename_i hu
          exact parse_no s 110 (fun b w0 w a1 a2 a3 a4 a5 a6 => value_blob_bad b s w0 w a1 a2 hs a3 a4 a5 a6 (beq_f g0) (beq_f g1) (beq_f g2) p0' p1 z120 (by rw [r120]; exact q0) zb (by rw [sz, r120]; exact e0) (by rw [r120]; exact hu)) w hw
      · rw [if_neg e0]
        exact parse_no s 110 (fun b w0 w a1 a2 a3 a4 a5 a6 => value_blob_odd b s w0 w a1 a2 hs a3 a4 a5 a6 (beq_f g0) (beq_f g1) (beq_f g2) p0' p1 z120 (by rw [r120]; exact q0) zb (by rw [sz, r120]; omega)) w hw
    · rw [if_neg q0]
      exact parse_no s 110 (fun b w0 w a1 a2 a3 a4 a5 a6 => value_blob_open b s w0 w a1 a2 hs a3 a4 a5 a6 (beq_f g0) (beq_f g1) (beq_f g2) p0' p1 z120 (by rw [r120]; exact nt q0)) w hw
  rw [if_neg p1]
  have p1' : Hid (Lib.hasPrefix s.data.toList (⟨#[120, 39]⟩ : ByteArray).data.toList = false) := nt p1
  cases hn : Lib.parseIntB 64 s.data.toList with
  | ok n =>
    obtain ⟨b0, b1⟩ := Lib.parseIntB_bounds hn
    have b2 : ((2 ^ (64 - 1) : Nat) : Int) = 9223372036854775808 := by decide
    have b3 : n ≤ 9223372036854775807 := by omega
    by_cases i0 : Lib.itoa n = s.data.toList
    · simp only [if_pos i0]
      exact parse_ok s ⟨#[]⟩ 2 n (fun b w0 w a1 a2 a3 a4 a5 a6 => value_num_ok b s w0 w a1 a2 hs a3 a4 a5 a6 (beq_f g0) (beq_f g1) (beq_f g2) p0' p1' n b0 b3 hn (by rw [i0]; cases s; simp [Hid])) w hw
    · simp only [if_neg i0]
      exact parse_no s 110 (fun b w0 w a1 a2 a3 a4 a5 a6 => value_num_unlike b s w0 w a1 a2 hs a3 a4 a5 a6 (beq_f g0) (beq_f g1) (beq_f g2) p0' p1' n b0 b3 hn (by rw [toL]; simpa [Hid] using i0)) w hw
  | range => exact parse_no s 110 (fun b w0 w a1 a2 a3 a4 a5 a6 => value_num_range b s w0 w a1 a2 hs a3 a4 a5 a6 (beq_f g0) (beq_f g1) (beq_f g2) p0' p1' hn) w hw
  | _ => exact parse_no s 110 (fun b w0 w a1 a2 a3 a4 a5 a6 => value_num_none b s w0 w a1 a2 hs a3 a4 a5 a6 (beq_f g0) (beq_f g1) (beq_f g2) p0' p1' _ hn (Lib.hid (fun n h => by cases h)) (Lib.hid (fun h => by cases h))) w hw
end Go.Proofs.YtcngoffmkbobhaaGreatDoor
