/- A disk as the document has it, in memory; a sector, read. -/
import Derived.Test.YthbnochlpnikaaaQ4
namespace Go.Proofs.Ythbnochlpnikaaa
open Go.RowKit Go.Shelf

/-- The four words of a disk. -/
structure RefAt (w : World) (s : DS) (p : Option Addr) (c : Nat) (q : Option Addr) (d : Nat) : Prop where
  pc : p = none → c = 0
  qd : q = none → d = 0
  cl : s.sync.length ≤ c ∧ c ≤ 9223372036854775807
  dl : s.loose.length ≤ d ∧ d ≤ 9223372036854775807
  sync : WritesAt w p s.sync
  loose : WritesAt w q s.loose
def refV (s : DS) (p : Option Addr) (c : Nat) (q : Option Addr) (d : Nat) : Value := .agg #[.int .i64 s.many, .slice p s.sync.length c, .slice q s.loose.length d, .int .i64 s.left]
theorem RefAt.below {w w' : World} {s : DS} {p : Option Addr} {c : Nat} {q : Option Addr} {d : Nat} (h : RefAt w s p c q d) (hb : Below w.heap.size w w') : RefAt w' s p c q d :=
  ⟨h.pc, h.qd, h.cl, h.dl, h.sync.below hb, h.loose.below hb⟩
def RefD (w : World) (v : Value) (s : DS) : Prop := ∃ p c q d, v = refV s p c q d ∧ RefAt w s p c q d
theorem RefD.below {w w' : World} {v : Value} {s : DS} (h : RefD w v s) (hb : Below w.heap.size w w') : RefD w' v s := by
  obtain ⟨p, c, q, d, e, h⟩ := h
  exact ⟨p, c, q, d, e, h.below hb⟩
set_option maxRecDepth 100000 in
/-- Writes are appended to the call's own, as one step of a region that draws. -/
theorem step_append_writes {ops : Array Oper} {o : Oper} {a : Act} {w : World} {K : Act → World → Prop} {Q : Exit → Act → World → Prop} {E : Prop} (hgd : o.guard = none) (s x : Operand)
    (ho : o.op = .call { callee := .builtin .append, args := #[s, x], argTypes := #[33, 33] })
    {w0 : World} {l m : List (Nat × ByteArray)} {v : Value} {q : Option Addr} {c : Nat} (hs : a.eval s = v) (hR : RowW w0 l v w) (hx : a.eval x = .slice q m.length c) (hq : q = none → c = 0) (hm : WritesAt w q m) (hb : l.length + m.length ≤ 100000)
    (h : ∀ v' w', RowW w0 (l ++ m) v' w' → K (a.put o.dst v') w') : if Region.wanted o (yielded ops a.tmps) = true then Oper.wp Try.prog o a w K Q else E := by
  have hw : Region.wanted o (yielded ops a.tmps) = true := by simp [Region.wanted, hgd]
  rw [if_pos hw]
  obtain ⟨j0, hj, hz0, hz1, hz2⟩ := info_parts infoW
  have hown := hR.1
  have hbs := hR.2.size
  cases q with
  | none =>
    have hm0 : m = [] := by
      cases m with
      | nil => rfl
      | cons b t => obtain ⟨B, off, e, -⟩ := hm 0 b rfl; cases e
    subst hm0
    have hc := hq rfl
    subst hc
    have hrun := run_append_owned_none (P := Try.prog) (w := w) w0.heap.size 33 o.type 80 j0 2 Try.underlying33 hj v _ _ hown
    unfold Oper.wp
    have hx' : a.eval x = .slice none 0 0 := hx
    simp [execOp, ho, resolve, invoke, builtin, hs, hx', hrun, Result.andThen]
    refine h v w ?_
    rw [List.append_nil]
    exact hR
  | some ad =>
    refine wp_append_own w s x _ ho w0.heap.size 80 j0 (.agg #[.int .i64 0, .string ⟨#[]⟩]) 2 24 Try.underlying33 hj hz0 hz1 hz2 rfl (by decide) v _ _ hs hown ad m.length c (wcells m) hx (wcells_length m) hm.news (wcells_one m) (by unfold maxLen; omega) (by omega) hbs ?_
    intro v' w' h1 h2 _
    refine h v' w' ⟨?_, hR.2.grown h2 hbs (fun j hj => (hown.lt j hj).1)⟩
    rw [List.length_append, wcells_append]
    exact h1
theorem kbX {w w1 : World} {o : Obj} (h : Below (w.alloc o).drew.heap.size (w.alloc o).drew w1) : Below w.heap.size w w1 :=
  (((Below.refl _ _).alloc (Nat.le_refl _) o).drew).trans (h.mono (by simp))
set_option maxRecDepth 100000 in
set_option maxHeartbeats 300000 in
theorem sector_any (s : DS) (p : Option Addr) (c : Nat) (q : Option Addr) (d : Nat) (k : Nat) (w : World) (hn : s.sync.length ≤ 50000) (hm : s.loose.length ≤ 50000) (R : Hid (RefAt w s p c q d)) :
    Calls Try.prog 36 #[refV s p c q d, .int .i64 k] w fun r w' => r = .returned (.string (sectorS s k)) ∧ Below w.heap.size w w' := by
  unfold refV
  generalize hW0 : w.alloc (.cells #[.int .i64 s.many, .slice p s.sync.length c, .slice q s.loose.length d, .int .i64 s.left] 35) = w0
  have B0 : Below w.heap.size w w0.drew := by subst hW0; exact ((Below.refl _ _).alloc (Nat.le_refl _) _).drew
  have RS := Lib.hid (R.out.sync.below B0)
  have RL := Lib.hid (R.out.loose.below B0)
  have hq1 := Lib.hid R.out.pc
  have hq2 := Lib.hid R.out.qd
  have hw0 : w.heap.size + 1 = w0.heap.size := by subst hW0; simp
  have HW := Lib.hid hw0
  have RowE : Hid (RowW w0.drew [] (.slice (some ⟨w0.heap.size, 0, none⟩) 0 0) (w0.alloc (.cells #[] 80)).drew) := Lib.hid (RowW.empty w0.drew)
  have x1 : w0.cell? ⟨w.heap.size, 1, none⟩ = some (.slice p s.sync.length c) := by subst hW0; go_cell
  have x2 : w0.cell? ⟨w.heap.size, 2, none⟩ = some (.slice q s.loose.length d) := by subst hW0; go_cell
  clear hw0
  have MK : Hid (∀ w', Below w0.drew.heap.size w0.drew w' → w'.cell? ⟨w.heap.size, 1, none⟩ = some (.slice p s.sync.length c) ∧ w'.cell? ⟨w.heap.size, 2, none⟩ = some (.slice q s.loose.length d) ∧ Below w0.drew.heap.size w0.drew w') := Lib.hid fun w' h => by
    have := HW.out
    exact ⟨(h.cell (p := ⟨w.heap.size, 1, none⟩) (by simp; omega)).trans (by simpa using x1), (h.cell (p := ⟨w.heap.size, 2, none⟩) (by simp; omega)).trans (by simpa using x2), h⟩
  go_enter Try.func36, Try.ntmps36
  go_wp2
  clear hW0 x1 x2
  have HBx : Hid (Below w0.drew.heap.size w0.drew (w0.alloc (.cells #[] 80)).drew) := Lib.hid RowE.out.2
  go_region_held3 (fun w' => w'.cell? ⟨w.heap.size, 1, none⟩ = some (.slice p s.sync.length c) ∧ w'.cell? ⟨w.heap.size, 2, none⟩ = some (.slice q s.loose.length d) ∧ Below w0.drew.heap.size w0.drew w')
    (first
      | assumption
      | (with_reducible exact MK.out _ (Below.refl _ _))
      | (with_reducible exact MK.out _ HBx.out))
    (first
      | (refine step_append_writes rfl (.tmp 5) (.tmp 7) rfl rfl RowE.out rfl hq1.out (RS.out.below HBx.out) (by simp; omega) ?_; intro v1 w1 hR1; have HBx := Lib.hid hR1.2; have RowB1 := Lib.hid hR1; clear hR1)
      | (refine step_append_writes rfl (.tmp 8) (.tmp 10) rfl rfl RowB1.out rfl hq2.out (RL.out.below HBx.out) (by simp; omega) ?_; intro v2 w2 hR2; have HBx := Lib.hid hR2.2; obtain ⟨p2, c2, rfl, -, -, hw2, -, -⟩ := hR2.at'; have LA := Lib.hid (last_any ([] ++ s.sync ++ s.loose) p2 c2 k _ (by simp; omega) (Lib.hid hw2)); simp only [List.nil_append, List.length_append] at LA; clear hw2 hR2)
      | (go_at_call 31; (with_reducible refine LA.out.mono ?_); rintro e w3 ⟨rfl, hb3⟩; have HBx := Lib.hid (below_any HBx.out hb3); clear hb3))
  go_wp2
  go_ret
  exact ⟨rfl, below_any B0 HBx.out⟩
end Go.Proofs.Ythbnochlpnikaaa
