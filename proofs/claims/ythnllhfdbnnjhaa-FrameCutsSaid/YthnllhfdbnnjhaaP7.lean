/- Package frame: parts as closures in a map, and laid one behind the other. -/
import Derived.Test.YthnllhfdbnnjhaaP6
import Derived.MapKept
namespace Go.Proofs.Ythnllhfdbnnjhaa
open Go.RowKit Go.Shelf Go.MapKept

theorem alloc_set (w : World) (o o' : Obj) : ({ w.alloc o with heap := (w.alloc o).heap.setIfInBounds w.heap.size o' } : World) = w.alloc o' := by
  simp only [World.alloc]
  congr 1
  apply Array.ext_getElem?
  intro i
  rw [Array.getElem?_setIfInBounds]
  by_cases h : w.heap.size = i
  · subst h; simp
  · have h' : ¬ i = w.heap.size := fun e => h e.symm
    simp [h, h', Array.getElem?_push]
/-- A new key into the map that was made last. -/
theorem put_new (w : World) {t k e : TypeId} {d : TypeDesc} (ht : Try.prog.underlying t = some (.map k e)) (hd : Try.prog.underlying k = some d) (es : Array MapEntry) (c : Nat) (key v : Value) (hk : IsKey d key) (hf : Instr.findNow d key es.toList 0 = some none) :
    (Instr.mapUpdate t (.map (some w.heap.size)) key v).run Try.prog (w.alloc (.map es c)) = .ok () (w.alloc (.map (es.push { key := key, val := v, born := c }) (c + 1))) := by
  have hb : (w.alloc (.map es c)).heap[w.heap.size]? = some (.map es c) := heap_alloc_last w _
  simp [Instr.mapUpdate, run_underlying ht, MapKept.run_getObj_map hb, run_checkKey hd hk, run_findKey hd hf, run_setObj_map _ hb, Result.andThen]
  exact alloc_set w _ _
/-- A key that is there. -/
theorem look_in (w : World) (M : Nat) {t k e : TypeId} {d : TypeDesc} (ht : Try.prog.underlying t = some (.map k e)) (hd : Try.prog.underlying k = some d) (es : Array MapEntry) (c : Nat) (key v : Value) (i : Nat) (hk : IsKey d key) (hf : Instr.findNow d key es.toList 0 = some (some (i, v)))
    (hb : w.heap[M]? = some (.map es c)) : (Instr.lookup t (.map (some M)) key false).run Try.prog w = .ok v w := by
  simp [Instr.lookup, run_underlying ht, MapKept.run_getObj_map hb, run_checkKey hd hk, run_findKey hd hf, Result.andThen]
theorem RowB.at2 {w w' : World} {l : List Nat} {t : Value} (h : RowB w l t w') :
    ∃ p cap, t = .slice p l.length cap ∧ l.length ≤ cap ∧ cap ≤ maxLen ∧ BytesAt w' p l ∧ (p = none → cap = 0) := by
  obtain ⟨p, cap, rfl, h1, h2, h3, -⟩ := h.at'
  refine ⟨p, cap, rfl, h1, h2, h3, fun hp => ?_⟩
  rcases h.1.2 with ⟨e, -⟩ | ⟨g, cap', cur, e, -⟩
  · injection e
  · subst hp
    injection e with e
    cases e
theorem RowB.later {w w1 w2 : World} {l : List Nat} {t : Value} (h : RowB w l t w1) (hb : Below w1.heap.size w1 w2) : RowB w l t w2 := by
  refine ⟨⟨h.1.1, ?_⟩, h.2.trans (hb.mono h.2.size)⟩
  rcases h.1.2 with h1 | ⟨g, cap, cur, e, h2, h3, h4⟩
  · exact .inl h1
  · exact .inr ⟨g, cap, cur, e, h2, (hb.block g (Array.getElem?_eq_some_iff.1 h3).1).trans h3, h4⟩
set_option maxRecDepth 100000 in
theorem smallFour_any (n : Nat) (hn : n < 4294967296) (w : World) : Calls Try.prog 68 #[.int .i64 n] w fun r w' => ∃ t, r = .returned t ∧ RowB w (fixE 4 n) t w' := by
  have C := Lib.hid fun w => four_any n w hn
  go_enter Try.func68, Try.ntmps68
  go_wp2_with (go_at_call 52; refine (C.out _).mono ?_; rintro e w' ⟨t, rfl, hr⟩)
  go_ret
  exact ⟨_, rfl, hr⟩
/-- The parts of a map that are named, each with the function behind it and the bytes that it tells. -/
structure PartsOk (w : World) (M A : Nat) (ps : List (Nat × Nat × List Nat)) : Prop where
  look : ∀ x ∈ ps, ∀ wr, Below w.heap.size w wr → (Instr.lookup 98 (.map (some M)) (.int .i64 (x.1 : Int)) false).run Try.prog wr = .ok (.func (.func x.2.1) #[] #[.pointer (some ⟨A, 0, none⟩)]) wr
  call : ∀ x ∈ ps, ∀ wr, Below w.heap.size w wr → Calls Try.prog x.2.1 #[.pointer (some ⟨A, 0, none⟩)] wr fun r w' => ∃ t, r = .returned t ∧ RowB wr x.2.2 t w'
  en : ∀ x ∈ ps, ∀ (args : Array Value) (w : World), (callFunc x.2.1 args).run Try.prog w = .ok (.enter x.2.1 args) w
  few : ∀ x ∈ ps, x.2.2.length ≤ 8
def partsL (ps : List (Nat × Nat × List Nat)) : List Nat := (ps.map fun x => x.2.2).flatten
theorem partsL_next {ps : List (Nat × Nat × List Nat)} {k : Nat} {x : Nat × Nat × List Nat} (h : ps[k]? = some x) : partsL (ps.take (k + 1)) = partsL (ps.take k) ++ x.2.2 := by
  obtain ⟨hk, e⟩ := List.getElem?_eq_some_iff.1 h
  unfold partsL
  rw [List.take_succ_eq_append_getElem hk, e]
  simp
theorem partsL_le {ps : List (Nat × Nat × List Nat)} (h : ∀ x ∈ ps, x.2.2.length ≤ 8) : (partsL ps).length ≤ 8 * ps.length := by
  induction ps with
  | nil => simp [partsL]
  | cons x ps ih =>
    have h1 := ih (fun y hy => h y (by simp [hy]))
    have h2 := h x (by simp)
    simp only [partsL, List.map_cons, List.flatten_cons, List.length_append, List.length_cons] at h1 ⊢
    omega
/-- Names of parts in a slice. -/
def NamesAt (w : World) (q : Nat) (ps : List (Nat × Nat × List Nat)) : Prop := ∀ k x, ps[k]? = some x → w.cell? ⟨q, k, none⟩ = some (.int .i64 (x.1 : Int))
set_option maxRecDepth 100000 in
set_option maxHeartbeats 1000000 in
theorem laid_any (ps : List (Nat × Nat × List Nat)) (M A q cap : Nat) (w : World) (hps : ps.length ≤ 100) (hP : Hid (PartsOk w M A ps)) (hQ : Hid (NamesAt w q ps)) :
    Calls Try.prog 51 #[.map (some M), .slice (some ⟨q, 0, none⟩) ps.length cap] w fun r w' => ∃ t, r = .returned t ∧ RowB w (partsL ps) t w' := by
  go_enter Try.func51, Try.ntmps51
  go_wp2
  have R0 : Hid (RowB w [] (.slice none 0 0) w) := Lib.hid ⟨World.ownsRow_nil _ _ _ _, Below.refl _ _⟩
  go_loopw [5, 10] (fun s i wr => ∃ k : Nat, k ≤ ps.length ∧ i = .int .i64 k ∧ Hid (RowB w (partsL (ps.take k)) s wr)) (fun _ i _ => ps.length - (intOf i).toNat)
  case atStart => exact ⟨0, Nat.zero_le _, rfl, R0⟩
  case round =>
    clear R0
    obtain ⟨k, hk, rfl, HR⟩ := hrel
    by_cases hlt : k < ps.length
    · obtain ⟨x, hx⟩ : ∃ x, ps[k]? = some x := ⟨_, List.getElem?_eq_getElem hlt⟩
      have hm := List.mem_of_getElem? hx
      have c := (HR.out.2.cell (lt_of_cell_some (hQ.out k x hx))).trans (hQ.out k x hx)
      have lk := hP.out.look x hm _ HR.out.2
      have CL := Lib.hid (hP.out.call x hm _ HR.out.2)
      have hen := hP.out.en x hm
      have HX := Lib.hid (partsL_next hx)
      have hfew := hP.out.few x hm
      have hfew2 : (partsL (ps.take k)).length ≤ 8 * 100 := by
        have h1 := partsL_le (ps := ps.take k) (fun y hy => hP.out.few y (List.mem_of_mem_take hy))
        rw [List.length_take] at h1
        omega
      have HSZ : Hid ((partsL (ps.take k)).length + x.2.2.length ≤ 100000) := Lib.hid (by omega)
      clear hx hm hfew hfew2
      obtain ⟨nm, F, l⟩ := x
      simp only at c lk CL hen HX HSZ
      go_wp2_with (first
        | ((with_reducible refine CL.out.mono ?_); rintro e w1 ⟨t, rfl, hr⟩; obtain ⟨p, cp, rfl, -, -, hby, hnn⟩ := hr.at2; have HNN := Lib.hid hnn; have HBY := Lib.hid hby; have HR1 : Hid (RowB w (partsL (ps.take k)) u5 w1) := Lib.hid (HR.out.later hr.2); clear hnn hby hr)
        | (at_builtin; refine wpList_append_bytes rfl _ _ rfl rfl HR1.out rfl HNN.out HBY.out HSZ.out ?_; intro v' w2 HR2; have HR2 := Lib.hid HR2))
      go_roundw
      case rel => exact ⟨k + 1, hlt, by first | rfl | go_num, by rw [HX.out]; exact HR2⟩
      case measure => simp [intOf]; omega
    · obtain rfl : k = ps.length := by omega
      go_wp2
      go_ret
      have := HR.out
      rw [List.take_length] at this
      exact ⟨_, rfl, this⟩
end Go.Proofs.Ythnllhfdbnnjhaa
