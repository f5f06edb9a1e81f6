import Derived.Test.YtgadmbgnkccooaaO25
import Derived.Lib.SlBytesConst
namespace Go.Proofs.Ytgadmbgnkccooaa
open Go.RowKit Go.Shelf

theorem kbA {w w1 : World} {o : Obj} (h1 : Below (w.alloc o).heap.size (w.alloc o) w1) : Below w.heap.size w w1 := ((Below.refl _ _).alloc (Nat.le_refl _) o).trans (h1.mono (by simp))
theorem kbT {w w1 w2 : World} (h1 : Below w.heap.size w w1) (h2 : Below w1.heap.size w1 w2) : Below w.heap.size w w2 := h1.trans (h2.mono h1.size)
theorem kbS {w w1 : World} {o o' : Obj} (h1 : Below ((w.alloc o).heap.size + 1) ((w.alloc o).alloc o') w1) : Below w.heap.size w w1 := (((Below.refl _ _).alloc (Nat.le_refl _) o).alloc (by simp) o').trans (h1.mono (by simp; omega))
theorem num_any (n : Int) (w : World) : Calls Try.prog 15 #[.int .i64 n] w fun r w' => r = .returned (.int .i64 n) ∧ w = w' := by
  go_enter Try.func15, Try.ntmps15
  go_wp2
  go_ret
  exact ⟨rfl, rfl⟩
theorem bytesAt_mark (w : World) (l : List Nat) (t : TypeId) (fr : Nat × Nat) : BytesAt (w.alloc (.cells (l.map fun (v : Nat) => Value.int .u8 (v : Int)).toArray t fr)) (some ⟨w.heap.size, 0, none⟩) l := by
  intro i hi
  refine ⟨_, _, rfl, ?_⟩
  rw [World.cell?_alloc_mark]
  simp [List.getD_eq_getElem?_getD, hi]
theorem conv_digits (w : World) : (convert 23 23 (.slice (some ⟨w.heap.size, 0, none⟩) 9 9)).run Try.prog (w.alloc (.cells #[.int .u8 49, .int .u8 50, .int .u8 51, .int .u8 52, .int .u8 53, .int .u8 54, .int .u8 55, .int .u8 56, .int .u8 57] 5)) = .ok (.slice (some ⟨w.heap.size, 0, none⟩) 9 9) (w.alloc (.cells #[.int .u8 49, .int .u8 50, .int .u8 51, .int .u8 52, .int .u8 53, .int .u8 54, .int .u8 55, .int .u8 56, .int .u8 57] 5 (9, 10))) :=
  Lib.run_convert_bytes_const w 23 5 _ 9 9 Try.underlying23 Try.underlying5
set_option maxRecDepth 100000 in
set_option maxHeartbeats 4000000 in
theorem works_any (w : World) : Calls Try.prog 7 #[] w fun r w' => r = .returned (.bool true) ∧ Below w.heap.size w w' := by
  have R1 := Lib.hid read_a
  have R2 := Lib.hid read_b
  have NU := Lib.hid num_a
  have FO := Lib.hid four_a
  have ST := Lib.hid string_a
  have SA := Lib.hid sum_a
  have SN := Lib.hid sum_nil
  have NM := Lib.hid num_any
  go_enter Try.func7, Try.ntmps7
  go_wp2_with fail
  refine (R1.out _ _ (bytesAt_new _ [128, 0] _)).mono ?_
  rintro e w1 ⟨rfl, hb1⟩
  have HB1 := Lib.hid (kbA hb1)
  clear hb1
  go_wp2_with fail
  refine (R2.out _ _ (bytesAt_new _ [172, 2, 7] _)).mono ?_
  rintro e w2 ⟨rfl, hb2⟩
  have HB2 := Lib.hid (kbT HB1.out (kbA hb2))
  clear hb2
  go_wp2_with fail
  refine (NU.out _).mono ?_
  rintro e w3 ⟨t3, rfl, hr3⟩
  obtain ⟨p3, cap3, rfl, -, hcv3, hb3⟩ := hr3.str (n := 2) (s := ⟨#[172, 2]⟩) rfl rfl (by decide)
  have HB3 := Lib.hid (kbT HB2.out hb3)
  clear hb3 hr3
  go_wp2_with fail
  refine (NM.out _ _).mono ?_
  rintro e w9 ⟨rfl, rfl⟩
  go_wp2_with fail
  refine (NM.out _ _).mono ?_
  rintro e w9 ⟨rfl, rfl⟩
  go_wp2_with fail
  refine (FO.out _).mono ?_
  rintro e w4 ⟨t4, rfl, hr4⟩
  obtain ⟨p4, cap4, rfl, -, hcv4, hb4⟩ := hr4.str (n := 4) (s := ⟨#[0, 0, 1, 2]⟩) rfl rfl (by decide)
  have HB4 := Lib.hid (kbT HB3.out hb4)
  clear hb4 hr4
  go_wp2_with fail
  refine (ST.out _).mono ?_
  rintro e w5 ⟨t5, rfl, hr5⟩
  obtain ⟨p5, cap5, rfl, -, hcv5, hb5⟩ := hr5.str (n := 3) (s := ⟨#[2, 97, 98]⟩) rfl rfl (by decide)
  have HB5 := Lib.hid (kbT HB4.out hb5)
  clear hb5 hr5
  have hcs := conv_digits
  go_wp2_with fail
  have SA6 := SA.out (w5.alloc (.cells #[.int .u8 49, .int .u8 50, .int .u8 51, .int .u8 52, .int .u8 53, .int .u8 54, .int .u8 55, .int .u8 56, .int .u8 57] 5 (9, 10))) _ (bytesAt_mark w5 [49, 50, 51, 52, 53, 54, 55, 56, 57] 5 (9, 10))
  rw [World.size_alloc] at SA6
  refine SA6.mono ?_
  rintro e w6 ⟨rfl, hb6⟩
  have HB6 : Hid (Below w.heap.size w w6) := Lib.hid (kbT HB5.out ((((Below.refl _ _).alloc (Nat.le_refl _) _).alloc (by simp) _).trans (hb6.mono (by omega))))
  clear hb6 SA6
  go_wp2_with fail
  refine (SN.out _).mono ?_
  rintro e w7 ⟨rfl, hb7⟩
  have HB7 := Lib.hid (kbT HB6.out hb7)
  clear hb7
  go_wp2_with fail
  go_ret
  exact ⟨rfl, HB7.out⟩
end Go.Proofs.Ytgadmbgnkccooaa
