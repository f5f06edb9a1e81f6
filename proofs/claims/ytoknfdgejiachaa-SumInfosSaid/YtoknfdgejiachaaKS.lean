import Derived.Test.YtoknfdgejiachaaKR
namespace Go.Proofs.Ytoknfdgejiachaa
open Go.RowKit Go.Shelf

/-- How Do's way ends. -/
def endV (p : V3 × Int) : Ending := if p.2 = 0 then .returned (val p.1) else .panicked (gaveUp p.2)
theorem endV_ok {p : V3 × Int} (h : p.2 = 0) : endV p = .returned (val p.1) := by unfold endV; rw [if_pos h]
theorem endV_no {p : V3 × Int} (h : p.2 ≠ 0) : endV p = .panicked (gaveUp p.2) := by unfold endV; rw [if_neg h]
theorem endV_num (q : Int × Int) : endV (numV q) = numEnd q := by
  by_cases h : q.2 = 0
  · have e : numV q = ((2, q.1, ⟨#[]⟩), 0) := by unfold numV; rw [if_pos h]
    rw [e, endV_ok rfl]
    unfold numEnd
    rw [if_pos h]
  · have e : numV q = (nul, q.2) := by unfold numV; rw [if_neg h]
    rw [e, endV_no (by simpa using h)]
    unfold numEnd
    rw [if_neg h]
theorem done_plain (o : Int) (E : V3 × Int) (p : Option Addr) (n cap : Nat) (F : Nat) (R : Value) (h13 : (o == 13) = false) (h14 : (o == 14) = false) (h17 : (o == 17) = false) (h18 : (o == 18) = false) (w : World)
    (N : Hid (∀ w', Below w.heap.size w w' → Calls Try.prog 51 #[.slice p n cap] w' fun r w2 => r = .returned (.bool false) ∧ Below w'.heap.size w' w2))
    (hen : ∀ (args : Array Value) (w : World), (callFunc F args).run Try.prog w = .ok (.enter F args) w)
    (hix : ∀ w : World, (Instr.index 61 (.agg TABLE) (.int .i64 o)).run Try.prog w = .ok R w)
    (hfd : ∀ w : World, (Instr.field 60 R 4).run Try.prog w = .ok (.func (.func F) #[] #[]) w)
    (WY : ∀ w', Below w.heap.size w w' → Calls Try.prog F #[.agg #[.slice p n cap, .int .i64 o]] w' fun r w2 => r = endV E ∧ Below w'.heap.size w' w2) :
    Calls Try.prog 28 #[.agg #[.slice p n cap, .int .i64 o]] w fun r w' => r = endV E ∧ Below w.heap.size w w' := by
  by_cases h : E.2 = 0
  · rw [endV_ok h] at *
    exact done_ok o E.1 p n cap F R h13 h14 h17 h18 w N hen hix hfd (Lib.hid WY)
  · rw [endV_no h] at *
    exact done_no o E.2 p n cap F R h13 h14 h17 h18 w N hen hix hfd (Lib.hid WY)
abbrev R_1 : Value := (.agg #[.string ⟨#[43]⟩, .int .i64 2, .int .i64 2, .int .i64 2, .func (.func 43) #[] #[]])
theorem ix_1 (w : World) : (Instr.index 61 (.agg TABLE) (.int .i64 1)).run Try.prog w = .ok R_1 w := by kernel_rfl
theorem fd_1 (w : World) : (Instr.field 60 R_1 4).run Try.prog w = .ok (.func (.func 43) #[] #[]) w := by kernel_rfl
abbrev R_2 : Value := (.agg #[.string ⟨#[45]⟩, .int .i64 2, .int .i64 2, .int .i64 2, .func (.func 43) #[] #[]])
theorem ix_2 (w : World) : (Instr.index 61 (.agg TABLE) (.int .i64 2)).run Try.prog w = .ok R_2 w := by kernel_rfl
theorem fd_2 (w : World) : (Instr.field 60 R_2 4).run Try.prog w = .ok (.func (.func 43) #[] #[]) w := by kernel_rfl
abbrev R_3 : Value := (.agg #[.string ⟨#[42]⟩, .int .i64 2, .int .i64 2, .int .i64 2, .func (.func 43) #[] #[]])
theorem ix_3 (w : World) : (Instr.index 61 (.agg TABLE) (.int .i64 3)).run Try.prog w = .ok R_3 w := by kernel_rfl
theorem fd_3 (w : World) : (Instr.field 60 R_3 4).run Try.prog w = .ok (.func (.func 43) #[] #[]) w := by kernel_rfl
abbrev R_4 : Value := (.agg #[.string ⟨#[47]⟩, .int .i64 2, .int .i64 2, .int .i64 2, .func (.func 43) #[] #[]])
theorem ix_4 (w : World) : (Instr.index 61 (.agg TABLE) (.int .i64 4)).run Try.prog w = .ok R_4 w := by kernel_rfl
theorem fd_4 (w : World) : (Instr.field 60 R_4 4).run Try.prog w = .ok (.func (.func 43) #[] #[]) w := by kernel_rfl
abbrev R_5 : Value := (.agg #[.string ⟨#[37]⟩, .int .i64 2, .int .i64 2, .int .i64 2, .func (.func 43) #[] #[]])
theorem ix_5 (w : World) : (Instr.index 61 (.agg TABLE) (.int .i64 5)).run Try.prog w = .ok R_5 w := by kernel_rfl
theorem fd_5 (w : World) : (Instr.field 60 R_5 4).run Try.prog w = .ok (.func (.func 43) #[] #[]) w := by kernel_rfl
abbrev R_6 : Value := (.agg #[.string ⟨#[124, 124]⟩, .int .i64 2, .int .i64 0, .int .i64 0, .func (.func 44) #[] #[]])
theorem ix_6 (w : World) : (Instr.index 61 (.agg TABLE) (.int .i64 6)).run Try.prog w = .ok R_6 w := by kernel_rfl
theorem fd_6 (w : World) : (Instr.field 60 R_6 4).run Try.prog w = .ok (.func (.func 44) #[] #[]) w := by kernel_rfl
abbrev R_7 : Value := (.agg #[.string ⟨#[61]⟩, .int .i64 2, .int .i64 0, .int .i64 1, .func (.func 45) #[] #[]])
theorem ix_7 (w : World) : (Instr.index 61 (.agg TABLE) (.int .i64 7)).run Try.prog w = .ok R_7 w := by kernel_rfl
theorem fd_7 (w : World) : (Instr.field 60 R_7 4).run Try.prog w = .ok (.func (.func 45) #[] #[]) w := by kernel_rfl
abbrev R_8 : Value := (.agg #[.string ⟨#[60, 62]⟩, .int .i64 2, .int .i64 0, .int .i64 1, .func (.func 45) #[] #[]])
theorem ix_8 (w : World) : (Instr.index 61 (.agg TABLE) (.int .i64 8)).run Try.prog w = .ok R_8 w := by kernel_rfl
theorem fd_8 (w : World) : (Instr.field 60 R_8 4).run Try.prog w = .ok (.func (.func 45) #[] #[]) w := by kernel_rfl
abbrev R_9 : Value := (.agg #[.string ⟨#[60]⟩, .int .i64 2, .int .i64 0, .int .i64 1, .func (.func 45) #[] #[]])
theorem ix_9 (w : World) : (Instr.index 61 (.agg TABLE) (.int .i64 9)).run Try.prog w = .ok R_9 w := by kernel_rfl
theorem fd_9 (w : World) : (Instr.field 60 R_9 4).run Try.prog w = .ok (.func (.func 45) #[] #[]) w := by kernel_rfl
abbrev R_10 : Value := (.agg #[.string ⟨#[60, 61]⟩, .int .i64 2, .int .i64 0, .int .i64 1, .func (.func 45) #[] #[]])
theorem ix_10 (w : World) : (Instr.index 61 (.agg TABLE) (.int .i64 10)).run Try.prog w = .ok R_10 w := by kernel_rfl
theorem fd_10 (w : World) : (Instr.field 60 R_10 4).run Try.prog w = .ok (.func (.func 45) #[] #[]) w := by kernel_rfl
abbrev R_11 : Value := (.agg #[.string ⟨#[62]⟩, .int .i64 2, .int .i64 0, .int .i64 1, .func (.func 45) #[] #[]])
theorem ix_11 (w : World) : (Instr.index 61 (.agg TABLE) (.int .i64 11)).run Try.prog w = .ok R_11 w := by kernel_rfl
theorem fd_11 (w : World) : (Instr.field 60 R_11 4).run Try.prog w = .ok (.func (.func 45) #[] #[]) w := by kernel_rfl
abbrev R_12 : Value := (.agg #[.string ⟨#[62, 61]⟩, .int .i64 2, .int .i64 0, .int .i64 1, .func (.func 45) #[] #[]])
theorem ix_12 (w : World) : (Instr.index 61 (.agg TABLE) (.int .i64 12)).run Try.prog w = .ok R_12 w := by kernel_rfl
theorem fd_12 (w : World) : (Instr.field 60 R_12 4).run Try.prog w = .ok (.func (.func 45) #[] #[]) w := by kernel_rfl
abbrev R_13 : Value := (.agg #[.string ⟨#[97, 110, 100]⟩, .int .i64 2, .int .i64 1, .int .i64 1, .func (.func 46) #[] #[]])
theorem ix_13 (w : World) : (Instr.index 61 (.agg TABLE) (.int .i64 13)).run Try.prog w = .ok R_13 w := by kernel_rfl
theorem fd_13 (w : World) : (Instr.field 60 R_13 4).run Try.prog w = .ok (.func (.func 46) #[] #[]) w := by kernel_rfl
abbrev R_14 : Value := (.agg #[.string ⟨#[111, 114]⟩, .int .i64 2, .int .i64 1, .int .i64 1, .func (.func 46) #[] #[]])
theorem ix_14 (w : World) : (Instr.index 61 (.agg TABLE) (.int .i64 14)).run Try.prog w = .ok R_14 w := by kernel_rfl
theorem fd_14 (w : World) : (Instr.field 60 R_14 4).run Try.prog w = .ok (.func (.func 46) #[] #[]) w := by kernel_rfl
abbrev R_15 : Value := (.agg #[.string ⟨#[45]⟩, .int .i64 1, .int .i64 2, .int .i64 2, .func (.func 43) #[] #[]])
theorem ix_15 (w : World) : (Instr.index 61 (.agg TABLE) (.int .i64 15)).run Try.prog w = .ok R_15 w := by kernel_rfl
theorem fd_15 (w : World) : (Instr.field 60 R_15 4).run Try.prog w = .ok (.func (.func 43) #[] #[]) w := by kernel_rfl
abbrev R_16 : Value := (.agg #[.string ⟨#[110, 111, 116]⟩, .int .i64 1, .int .i64 1, .int .i64 1, .func (.func 46) #[] #[]])
theorem ix_16 (w : World) : (Instr.index 61 (.agg TABLE) (.int .i64 16)).run Try.prog w = .ok R_16 w := by kernel_rfl
theorem fd_16 (w : World) : (Instr.field 60 R_16 4).run Try.prog w = .ok (.func (.func 46) #[] #[]) w := by kernel_rfl
abbrev R_17 : Value := (.agg #[.string ⟨#[105, 115, 32, 110, 117, 108, 108]⟩, .int .i64 1, .int .i64 0, .int .i64 1, .func (.func 47) #[] #[]])
theorem ix_17 (w : World) : (Instr.index 61 (.agg TABLE) (.int .i64 17)).run Try.prog w = .ok R_17 w := by kernel_rfl
theorem fd_17 (w : World) : (Instr.field 60 R_17 4).run Try.prog w = .ok (.func (.func 47) #[] #[]) w := by kernel_rfl
abbrev R_18 : Value := (.agg #[.string ⟨#[105, 115, 32, 110, 111, 116, 32, 110, 117, 108, 108]⟩, .int .i64 1, .int .i64 0, .int .i64 1, .func (.func 47) #[] #[]])
theorem ix_18 (w : World) : (Instr.index 61 (.agg TABLE) (.int .i64 18)).run Try.prog w = .ok R_18 w := by kernel_rfl
theorem fd_18 (w : World) : (Instr.field 60 R_18 4).run Try.prog w = .ok (.func (.func 47) #[] #[]) w := by kernel_rfl
abbrev R_19 : Value := (.agg #[.string ⟨#[108, 101, 110, 103, 116, 104]⟩, .int .i64 1, .int .i64 0, .int .i64 2, .func (.func 48) #[] #[]])
theorem ix_19 (w : World) : (Instr.index 61 (.agg TABLE) (.int .i64 19)).run Try.prog w = .ok R_19 w := by kernel_rfl
theorem fd_19 (w : World) : (Instr.field 60 R_19 4).run Try.prog w = .ok (.func (.func 48) #[] #[]) w := by kernel_rfl
abbrev R_20 : Value := (.agg #[.string ⟨#[97, 98, 115]⟩, .int .i64 1, .int .i64 2, .int .i64 2, .func (.func 43) #[] #[]])
theorem ix_20 (w : World) : (Instr.index 61 (.agg TABLE) (.int .i64 20)).run Try.prog w = .ok R_20 w := by kernel_rfl
theorem fd_20 (w : World) : (Instr.field 60 R_20 4).run Try.prog w = .ok (.func (.func 43) #[] #[]) w := by kernel_rfl
theorem en_43 (args : Array Value) (w : World) : (callFunc 43 args).run Try.prog w = .ok (.enter 43 args) w := enters_of Try.func43 (by kernel_rfl) rfl args w
theorem en_44 (args : Array Value) (w : World) : (callFunc 44 args).run Try.prog w = .ok (.enter 44 args) w := enters_of Try.func44 (by kernel_rfl) rfl args w
theorem en_45 (args : Array Value) (w : World) : (callFunc 45 args).run Try.prog w = .ok (.enter 45 args) w := enters_of Try.func45 (by kernel_rfl) rfl args w
theorem en_46 (args : Array Value) (w : World) : (callFunc 46 args).run Try.prog w = .ok (.enter 46 args) w := enters_of Try.func46 (by kernel_rfl) rfl args w
theorem en_47 (args : Array Value) (w : World) : (callFunc 47 args).run Try.prog w = .ok (.enter 47 args) w := enters_of Try.func47 (by kernel_rfl) rfl args w
theorem en_48 (args : Array Value) (w : World) : (callFunc 48 args).run Try.prog w = .ok (.enter 48 args) w := enters_of Try.func48 (by kernel_rfl) rfl args w
theorem en_60 (args : Array Value) (w : World) : (callFunc 60 args).run Try.prog w = .ok (.enter 60 args) w := enters_of Try.func60 (by kernel_rfl) rfl args w
theorem en_62 (args : Array Value) (w : World) : (callFunc 62 args).run Try.prog w = .ok (.enter 62 args) w := enters_of Try.func62 (by kernel_rfl) rfl args w
theorem en_64 (args : Array Value) (w : World) : (callFunc 64 args).run Try.prog w = .ok (.enter 64 args) w := enters_of Try.func64 (by kernel_rfl) rfl args w
theorem en_66 (args : Array Value) (w : World) : (callFunc 66 args).run Try.prog w = .ok (.enter 66 args) w := enters_of Try.func66 (by kernel_rfl) rfl args w
theorem en_68 (args : Array Value) (w : World) : (callFunc 68 args).run Try.prog w = .ok (.enter 68 args) w := enters_of Try.func68 (by kernel_rfl) rfl args w
theorem en_70 (args : Array Value) (w : World) : (callFunc 70 args).run Try.prog w = .ok (.enter 70 args) w := enters_of Try.func70 (by kernel_rfl) rfl args w
theorem en_71 (args : Array Value) (w : World) : (callFunc 71 args).run Try.prog w = .ok (.enter 71 args) w := enters_of Try.func71 (by kernel_rfl) rfl args w
theorem en_74 (args : Array Value) (w : World) : (callFunc 74 args).run Try.prog w = .ok (.enter 74 args) w := enters_of Try.func74 (by kernel_rfl) rfl args w
theorem en_75 (args : Array Value) (w : World) : (callFunc 75 args).run Try.prog w = .ok (.enter 75 args) w := enters_of Try.func75 (by kernel_rfl) rfl args w
theorem en_76 (args : Array Value) (w : World) : (callFunc 76 args).run Try.prog w = .ok (.enter 76 args) w := enters_of Try.func76 (by kernel_rfl) rfl args w
theorem en_77 (args : Array Value) (w : World) : (callFunc 77 args).run Try.prog w = .ok (.enter 77 args) w := enters_of Try.func77 (by kernel_rfl) rfl args w
theorem en_78 (args : Array Value) (w : World) : (callFunc 78 args).run Try.prog w = .ok (.enter 78 args) w := enters_of Try.func78 (by kernel_rfl) rfl args w
theorem en_79 (args : Array Value) (w : World) : (callFunc 79 args).run Try.prog w = .ok (.enter 79 args) w := enters_of Try.func79 (by kernel_rfl) rfl args w
theorem en_82 (args : Array Value) (w : World) : (callFunc 82 args).run Try.prog w = .ok (.enter 82 args) w := enters_of Try.func82 (by kernel_rfl) rfl args w
theorem en_84 (args : Array Value) (w : World) : (callFunc 84 args).run Try.prog w = .ok (.enter 84 args) w := enters_of Try.func84 (by kernel_rfl) rfl args w
theorem en_86 (args : Array Value) (w : World) : (callFunc 86 args).run Try.prog w = .ok (.enter 86 args) w := enters_of Try.func86 (by kernel_rfl) rfl args w
/-- Two values of a list in memory. -/
theorem tells_first (x : V3) (l : List V3) (B off cap : Nat) (hl : (x :: l).length ≤ 100000) (w : World) (hc : CellsOf w (some ⟨B, off, none⟩) (x :: l)) : Tells 58 (.slice (some ⟨B, off, none⟩) (x :: l).length cap) x w := fun w' hb => by
  obtain ⟨B', off', e, c0, c1, c2⟩ := cells_below hc hb 0 (by simp)
  injection e with e; injection e with e1 e2
  subst e1; subst e2
  exact first_any x.1 x.2.1 x.2.2 B off _ cap (by simp) hl w' (by simpa using c0) (by simpa using c1) (by simpa using c2)
theorem tells_last1 (x : V3) (B off cap : Nat) (w : World) (hc : CellsOf w (some ⟨B, off, none⟩) [x]) : Tells 59 (.slice (some ⟨B, off, none⟩) 1 cap) x w := fun w' hb => by
  obtain ⟨B', off', e, c0, c1, c2⟩ := cells_below hc hb 0 (by simp)
  injection e with e; injection e with e1 e2
  subst e1; subst e2
  exact last_1 x.1 x.2.1 x.2.2 B off cap w' (by simpa using c0) (by simpa using c1) (by simpa using c2)
theorem tells_last2 (x y : V3) (B off cap : Nat) (w : World) (hc : CellsOf w (some ⟨B, off, none⟩) [x, y]) : Tells 59 (.slice (some ⟨B, off, none⟩) 2 cap) y w := fun w' hb => by
  obtain ⟨B', off', e, c0, c1, c2⟩ := cells_below hc hb 1 (by simp)
  injection e with e; injection e with e1 e2
  subst e1; subst e2
  exact last_2 y.1 y.2.1 y.2.2 B off cap w' (by simpa using c0) (by simpa using c1) (by simpa using c2)
theorem null_no (l : List V3) (p : Option Addr) (cap : Nat) (hl : l.length ≤ 100000) (w : World) (hc : CellsOf w p l) (hf : FullTo l l.length) : ∀ w', Below w.heap.size w w' → Calls Try.prog 51 #[.slice p l.length cap] w' fun r w2 => r = .returned (.bool false) ∧ Below w'.heap.size w' w2 :=
  fun w' hb => anyNull_no l p cap w' hl (Lib.hid (cells_below hc hb)) (Lib.hid hf)
theorem null_yes (l : List V3) (p : Option Addr) (cap : Nat) (hl : l.length ≤ 100000) (w : World) (hc : CellsOf w p l) (hf : ¬ FullTo l l.length) : ∀ w', Below w.heap.size w w' → Calls Try.prog 51 #[.slice p l.length cap] w' fun r w2 => r = .returned (.bool true) ∧ Below w'.heap.size w' w2 :=
  fun w' hb => anyNull_yes l p cap w' hl (Lib.hid (cells_below hc hb)) (Lib.hid hf)
theorem full_two {x y : V3} : FullTo [x, y] 2 ↔ ¬ (x.1 = 0 ∨ y.1 = 0) := by
  constructor
  · intro h
    have h0 := h 0 (by omega)
    have h1 := h 1 (by omega)
    simp at h0 h1
    omega
  · intro h i hi
    rcases (show i = 0 ∨ i = 1 by omega) with rfl | rfl
    · simp; omega
    · simp; omega
theorem full_one {x : V3} : FullTo [x] 1 ↔ ¬ x.1 = 0 := by
  constructor
  · intro h
    have h0 := h 0 (by omega)
    simpa using h0
  · intro h i hi
    obtain rfl : i = 0 := by omega
    simpa using h
theorem truths_tell (l : List V3) (p : Option Addr) (cap : Nat) (hl : l.length ≤ 100000) (w : World) (hc : CellsOf w p l) : ∀ w', Below w.heap.size w w' → Calls Try.prog 81 #[.slice p l.length cap] w' (GivesInts w' (l.map knE)) :=
  fun w' hb => truths_any l p cap w' hl (Lib.hid (cells_below hc hb))
end Go.Proofs.Ytoknfdgejiachaa
