import Derived.Test.YtcngoffmkbobhaaGreatDoorT3
import Derived.Deep.AppendLies
import Derived.Laws.IdiomStrings
import Derived.Laws.BitsAllLaws
namespace Go.Proofs.YtcngoffmkbobhaaGreatDoor
open Go.RowKit
theorem info5 : (Tryz.prog.info? 5).map (fun i => (i.zero, i.size, i.bytes)) = some (some (.int .u8 0), 1, 1) := by kernel_rfl
def dg (n : Nat) : Nat := if n < 10 then 48 + n else 87 + n
def hexL (l : List UInt8) : List UInt8 := l.flatMap fun c => [(dg (c.toNat / 16)).toUInt8, (dg (c.toNat % 16)).toUInt8]
theorem dg_lt (n : Nat) (h : n < 16) : dg n < 256 := by unfold dg; split <;> omega
theorem hexL_take (l : List UInt8) (k : Nat) (h : k < l.length) : hexL (l.take (k + 1)) = hexL (l.take k) ++ [(dg (l[k].toNat / 16)).toUInt8, (dg (l[k].toNat % 16)).toUInt8] := by
  have e := List.take_succ_eq_append_getElem h
  unfold hexL
  rw [e, List.flatMap_append]
  rfl
theorem cells_two (a b : Nat) (ha : a < 256) (hb : b < 256) : Lib.byteCells [a.toUInt8, b.toUInt8] = [Value.int .u8 a, Value.int .u8 b] := by
  simp [Lib.byteCells, Nat.mod_eq_of_lt ha, Nat.mod_eq_of_lt hb]

theorem ret_str {a b : ByteArray} (h : a = b) : Ending.returned (.string a) = .returned (.string b) := by rw [h]
def DIG : ByteArray := ⟨#[48, 49, 50, 51, 52, 53, 54, 55, 56, 57, 97, 98, 99, 100, 101, 102]⟩
theorem dig_at : ∀ m : Fin 16, (DIG[m.val]'(m.isLt)).toNat = dg m.val := by decide
theorem dig_run (m : Nat) (i : Int) (hi : i = m) (h : m < 16) (w : World) : (Instr.index 9 (.string ⟨#[48, 49, 50, 51, 52, 53, 54, 55, 56, 57, 97, 98, 99, 100, 101, 102]⟩) (.int .u8 i)).run Tryz.prog w = .ok (.int .u8 (dg m)) w := by
  subst hi
  have hs : (⟨#[48, 49, 50, 51, 52, 53, 54, 55, 56, 57, 97, 98, 99, 100, 101, 102]⟩ : ByteArray).size = 16 := rfl
  rw [run_index_string w 9 _ .u8 _ Tryz.underlying9, dif_pos ⟨by omega, by rw [hs]; omega⟩]
  have := dig_at ⟨m, h⟩
  simp only [Int.toNat_natCast]
  rw [← this]
  rfl
theorem and15 (c : UInt8) : bits .and .u8 (c.toNat : Int) 15 = ((c.toNat % 16 : Nat) : Int) := by
  have h := u8_and_nat c.toNat 15 c.toNat_lt (by decide)
  rw [show ((15 : Nat) : Int) = (15 : Int) from rfl] at h
  rw [h]
  have : c.toNat &&& 15 = c.toNat % 16 := Nat.and_two_pow_sub_one_eq_mod c.toNat 4
  rw [this]

set_option maxRecDepth 100000 in
set_option maxHeartbeats 400000 in
theorem hex_any (s : ByteArray) (w : World) (hs : s.size ≤ 1000000) :
    Calls Tryz.prog 51 #[.string s] w fun r w' => r = .returned (.string ⟨(hexL s.data.toList).toArray⟩) ∧ Below w.heap.size w w' := by
  obtain ⟨j0, hi, hz0, hz1, hz2⟩ := info_parts info5
  go_enter Tryz.func51, Tryz.ntmps51
  go_wp2_with (at_make; refine wpList_make_own _ rfl _ _ 91 rfl w.heap.size 5 j0 (.int .u8 0) 1 Tryz.underlying91 hi hz0 hz1 .i64 .i64 _ (2 * s.size) rfl rfl (by omega) (by rw [hz2]; omega) (by unfold maxLen; omega) (Nat.le_refl _) ?_; intro w0 hown0 hgrow0)
  go_loopw [3, 11] (fun v i wr => ∃ k : Nat, k ≤ s.size ∧ i = .int .i64 k ∧ wr.ownsRow w.heap.size 5 1 v (2 * k) (Lib.byteCells (hexL (s.data.toList.take k))) ∧ Below w.heap.size w wr) (fun _ i _ => s.size - (intOf i).toNat)
  case atStart => exact ⟨0, Nat.zero_le _, rfl, hown0, (Below.refl _ _).grown hgrow0 (Nat.le_refl _) (fun k e => by cases e)⟩
  case round =>
    obtain ⟨k, hk, rfl, hown, hbel⟩ := hrel
    by_cases hlt : k < s.size
    · have hx1 : ∀ w, (Instr.index 9 (.string ⟨#[48, 49, 50, 51, 52, 53, 54, 55, 56, 57, 97, 98, 99, 100, 101, 102]⟩) (.int .u8 (↑s[k].toNat / 16))).run Tryz.prog w = .ok (.int .u8 (dg (s[k].toNat / 16))) w := dig_run _ _ (by omega) (by have := s[k].toNat_lt; omega)
      have hx2 : ∀ w, (Instr.index 9 (.string ⟨#[48, 49, 50, 51, 52, 53, 54, 55, 56, 57, 97, 98, 99, 100, 101, 102]⟩) (.int .u8 (bits .and .u8 (↑s[k].toNat) 15))).run Tryz.prog w = .ok (.int .u8 (dg (s[k].toNat % 16))) w := dig_run _ _ (and15 _) (by omega)
      have hbs : w.heap.size ≤ (wr.alloc (.cells #[.int .u8 (dg (s[k].toNat / 16)), .int .u8 (dg (s[k].toNat % 16))] 5)).drew.heap.size := by have := hbel.size; simp; omega
      go_wp2
      go_region_held3 (fun w' => True) (trivial) ((refine step_append_lies _ (by rfl) _ _ 91 (by rfl) w.heap.size 5 j0 (.int .u8 0) 1 1 Tryz.underlying91 hi hz0 hz1 hz2 (by rfl) (by omega) u3 (2 * k) _ (by rfl) (hown.alloc _).drew ⟨wr.heap.size, 0, none⟩ 2 2 [.int .u8 (dg (s[k].toNat / 16)), .int .u8 (dg (s[k].toNat % 16))] (by rfl) (by rfl) (World.news_of_block (heap_alloc_new wr _)) (by simp [Value.oneCell']) (by omega) (by unfold maxLen; omega) (by omega) hbs (wr.heap.size + 1) (by simp) ?_; intro g cap w1 hown1 hgrow1 hat1 hlt1))
      all_goals
        go_wp2
        have hbw : Below w.heap.size w w1 := (((hbel.alloc (by have := hbel.size; omega) _).drew).grown hgrow1 hbs (fun k hk => (hown.lt k hk).1))
        have he : hexL (s.data.toList.take (k + 1)) = _ := hexL_take s.data.toList k (by simpa using hlt)
        have hc2 := cells_two (dg (s[k].toNat / 16)) (dg (s[k].toNat % 16)) (dg_lt _ (by have := s[k].toNat_lt; omega)) (dg_lt _ (by omega))
        have hsk : s.data.toList[k]'(by simpa using hlt) = s[k] := rfl
        rw [hsk] at he
        refine ⟨⟨k + 1, by omega, by go_num, ?_, hbw⟩, by simp [intOf]; omega⟩
        rw [he, show Lib.byteCells (hexL (s.data.toList.take k) ++ [(dg (s[k].toNat / 16)).toUInt8, (dg (s[k].toNat % 16)).toUInt8]) = Lib.byteCells (hexL (s.data.toList.take k)) ++ [Value.int .u8 (dg (s[k].toNat / 16)), Value.int .u8 (dg (s[k].toNat % 16))] from by rw [← hc2]; simp [Lib.byteCells]]
        exact hown1
    · have HK : Hid (k = s.size) := (show k = s.size by omega)
      have hall : s.data.toList.take k = s.data.toList := List.take_of_length_le (by simp; omega)
      rw [hall] at hown
      have hln : (hexL s.data.toList).length = 2 * k := by
        have : ∀ l : List UInt8, (hexL l).length = 2 * l.length := by
          intro l
          induction l with
          | nil => rfl
          | cons a l ih => simp [hexL] at ih ⊢; omega
        rw [this, HK.out]; simp
      clear hall
      rcases hown.2 with ⟨rfl, h0⟩ | ⟨g, cap, cur, rfl, -, -, -, -, -, -⟩
      · have hcv : ∀ w, (convert 91 9 (.slice none 0 0)).run Tryz.prog w = .ok (.string ⟨#[]⟩) w := fun _ => by kernel_rfl
        have HN : Hid ((hexL s.data.toList) = []) := List.eq_nil_of_length_eq_zero (by omega)
        clear hln h0
        go_wp2
        go_ret
        exact ⟨ret_str (by rw [HN.out]), hbel⟩
      · obtain ⟨l, hl⟩ : ∃ l, l = hexL s.data.toList := ⟨_, rfl⟩
        rw [← hl] at hown hln
        have HL := Lib.hid hl
        clear hl
        have hcv := run_convert_bytes_back (P := Tryz.prog) wr 91 9 5 ⟨g, 0, none⟩ cap l Tryz.underlying91 Tryz.underlying5 Tryz.underlying9 (fun j hj => hown.cells (g := g) rfl j _ (by simp [Lib.byteCells, hj]))
        rw [hln] at hcv
        clear hln
        go_wp2
        go_ret
        exact ⟨ret_str (by rw [HL.out]), hbel⟩

set_option maxHeartbeats 400000 in
theorem lit5_any (b : Nat) (s : ByteArray) (w : World) (hs : s.size ≤ 1000000) (hl : (hexL s.data.toList).length ≤ 3000000) (h : w.cell? ⟨b, 2, none⟩ = some (.string s)) :
    Calls Tryz.prog 50 #[.pointer (some ⟨b, 0, none⟩)] w fun r w' => r = .returned (.string ⟨((120 : UInt8) :: 39 :: (hexL s.data.toList ++ [39])).toArray⟩) ∧ Below w.heap.size w w' := by
  go_enter Tryz.func50, Tryz.ntmps50
  go_wp2_with (go_at_call 51; refine (hex_any _ _ hs).mono ?_; rintro e w' ⟨rfl, hb⟩)
  go_ret
  refine ⟨?_, hb⟩
  simp [app_str]
end Go.Proofs.YtcngoffmkbobhaaGreatDoor
