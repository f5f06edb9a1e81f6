/- Package frame: Cut. -/
import Derived.Test.YthnllhfdbnnjhaaR2
namespace Go.Proofs.Ythnllhfdbnnjhaa
open Go.RowKit Go.Shelf
attribute [local go_sem] Oper.semAt_some

set_option maxRecDepth 100000 in
set_option maxHeartbeats 1000000 in
theorem cut_any (l : List Nat) (p : Option Addr) (cap : Nat) (w : World) (hl : l.length ≤ 100000) (hc : BytesAt w p l) :
    Calls Try.prog 30 #[.slice p l.length cap] w fun r w' => ∃ Bo p2 c2, r = .returned (.func (.func 48) #[] #[.pointer (some ⟨Bo, 0, none⟩)]) ∧ w'.cell? ⟨Bo, 0, none⟩ = some (.slice p2 l.length c2) ∧ BytesAt w' p2 l ∧ l.length ≤ c2 ∧ c2 ≤ maxLen ∧ Below w.heap.size w w' ∧ w.heap.size ≤ Bo := by
  have hmf : ∀ (fn : Fn) (first cap : Array Value) (w : World), (Instr.makeFunc fn first cap).run Try.prog w = .ok (.func fn first cap) w := fun _ _ _ _ => rfl
  have CC := Lib.hid (clone_any l p cap w hl hc)
  have HL := Lib.hid hl
  generalize hn : l.length = n at *
  clear hl hc
  go_enter Try.func30, Try.ntmps30
  go_wp2_with (go_at_call 47; refine CC.out.mono ?_; rintro e w1 ⟨t, rfl, hr⟩; obtain ⟨p2, c2, rfl, h1, h2, h3, -⟩ := hr.at2; have HR := Lib.hid (And.intro hr.2 (And.intro h1 (And.intro h2 h3))); rw [hn]; clear hr h1 h2 h3)
  obtain ⟨hb, h1, h2, h3⟩ := HR.out
  have hb2 : Below w1.heap.size w1 (w1.alloc (.cells #[.slice p2 n c2] 39)) := (Below.refl _ _).alloc (Nat.le_refl _) _
  go_ret
  exact ⟨w1.heap.size, p2, c2, rfl, by go_cell, bytesAt_below h3 hb2, by omega, h2, kbT hb hb2, hb.size⟩
abbrev encC (l : List Nat) (x : Nat × Option Addr) : Array Value := #[.int .i64 (x.1 : Int), .slice x.2 (secL l x.1).length (secL l x.1).length]
def TC (l : List Nat) (x : Nat × Option Addr) (A : World) : Prop := BytesAt A x.2 (secL l x.1)
theorem bytesAt_put {w : World} {p : Option Addr} {l : List Nat} (h : BytesAt w p l) {i : Nat} {o o' : Obj} (ho : w.heap[i]? = some o) (hc : o.isCells = false) : BytesAt (w.putObj i o') p l := fun j hj => by
  obtain ⟨B, off, e, c⟩ := h j hj
  refine ⟨B, off, e, (World.cell?_of_block (World.putObj_heap_other ?_)).trans c⟩
  show B ≠ i
  rintro rfl
  unfold World.cell? at c
  simp only at c
  rw [ho] at c
  cases o <;> simp [Obj.isCells] at hc c
theorem rowB_base {w0 w : World} {l : List Nat} {p : Option Addr} {n c : Nat} (hr : RowB w0 l (.slice p n c) w) : ∀ B off, p = some ⟨B, off, none⟩ → w0.heap.size ≤ B := by
  rintro B off rfl
  rcases hr.1.2 with ⟨h, -⟩ | ⟨g, cap, cur, h, -, h3, -⟩
  · injection h with h1
    cases h1
  · injection h with h1
    injection h1 with h1
    injection h1 with h1
    subst h1
    exact (hr.1.lt B rfl).1
set_option maxRecDepth 100000 in
set_option maxHeartbeats 4000000 in
theorem cut_low (n : Nat) (hn : 5 ≤ n) (l : List Nat) (p : Option Addr) (c Bo : Nat) (w : World) (hl : l.length ≤ 100000) (hb : BytesAt w p l) (hx : w.cell? ⟨Bo, 0, none⟩ = some (.slice p l.length c)) :
    SeqLow Fence.wide n Try.prog 48 #[.pointer (some ⟨Bo, 0, none⟩)] (encC l) (fun k => k = Bo ∨ inB p l.length k) (TC l) (fun xs => xs.map (·.1) = List.range (secN l.length)) (fun pre => pre.map (·.1) <+: List.range (secN l.length)) (secN l.length) w := fun ly J Jx W hW hJ hJx hY h0 => by
  have hcW := (hW.cell (p := ⟨Bo, 0, none⟩) (lt_of_cell_some hx)).trans hx
  have hbW := bytesAt_below hb hW
  have HJ := Lib.hid hJ
  have HJx := Lib.hid hJx
  have HY := Lib.hid hY
  have H0 := Lib.hid h0
  have HB := Lib.hid hbW
  clear hJ hJx hY h0 hW hb hx hbW
  have CC := Lib.hid fun (w' : World) (h : Below W.heap.size W w') => clone_any l p c w' hl (bytesAt_below HB.out h)
  refine callsIn_of_wp_marks Try.func48 rfl trivial ?_ rfl
  simp only [Try.ntmps48, List.size_toArray, List.length_cons, List.length_nil, Nat.reduceAdd, Nat.reduceSub, Array.replicate_succ, Array.replicate_zero, List.push_toArray, List.append_toArray, List.nil_append, List.cons_append]
  have C0a : (W.alloc (.cells #[.func (.yield ly) #[] #[]] 95)).cell? ⟨Bo, 0, none⟩ = some (.slice p l.length c) := (World.cell?_alloc_old _ _ _ (by have := lt_of_cell_some hcW; show Bo ≠ _; simp only at this; omega)).trans hcW
  gi_wp2
  apply wpIn_scope_wide
  gi_wp2
  apply wpIn_label
  gi_wp2_with (first
    | (refine ⟨trivial, fun _ => by omega, (callsIn_wide.2 (CC.out _ ((Below.refl _ _).alloc (Nat.le_refl _) _))).mono ?_⟩; rintro e w1 ⟨t, rfl, hr⟩; obtain ⟨p2, c2, rfl, h1, h2, h3, -⟩ := hr.at2; have HR := Lib.hid (And.intro hr.2 (And.intro h1 (And.intro h2 (And.intro h3 (rowB_base hr))))); clear hr h1 h2 h3)
    | (refine ⟨trivial, fun _ => by omega, (callsIn_wide.2 (sectorsOf_any _ _ _ _)).mono ?_⟩; rintro e w' ⟨rfl, rfl⟩))
  obtain ⟨hb1, hc1, hc2, hby, hbs⟩ := HR.out
  have hs1 : W.heap.size + 1 ≤ w1.heap.size := by have := hb1.size; simp at this; omega
  have hbs' : ∀ k, inB p2 l.length k → W.heap.size ≤ k := fun k h => by obtain ⟨-, off, e⟩ := h; have := hbs k off e; simp at this; omega
  generalize hW0 : w1.alloc (.cells #[.slice p2 l.length c2] 39) = W0
  have b1 : Below w1.heap.size w1 W0 := by subst hW0; exact (Below.refl _ _).alloc (Nat.le_refl _) _
  have S0 : W0.heap.size = w1.heap.size + 1 := by subst hW0; simp
  have B0 : Below W.heap.size W W0 := (((Below.refl W.heap.size W).alloc (Nat.le_refl _) (.cells #[.func (.yield ly) #[] #[]] 95)).trans (hb1.mono (by simp))).trans (b1.mono (by omega))
  have C0 : W0.heap[W.heap.size]? = some (.cells #[.func (.yield ly) #[] #[]] 95 (0, 0)) := (b1.block _ (by omega)).trans ((hb1.block _ (by simp)).trans (World.alloc_heap_new W _))
  have C1 : W0.cell? ⟨w1.heap.size, 0, none⟩ = some (.slice p2 l.length c2) := by subst hW0; go_cell
  have M0 : BytesAt W0 p2 l := bytesAt_below hby b1
  have J0 : J [] W0 := HJ.out _ _ _ H0.out (Nat.le_refl _) B0
  clear hW0 H0 C0a CC HR hb1 hby b1 hbs
  refine range_norm 0 (fun D V => V.heap[D]? = some (.deferred (some [])) ∧ W.heap.size ≤ V.heap.size ∧ W0.heap.size ≤ D ∧ ((∃ xs : List (Nat × Option Addr), xs.map (·.1) = List.range (secN l.length) ∧ J xs V) ∨ ∃ pre : List (Nat × Option Addr), pre.map (·.1) <+: List.range (secN l.length) ∧ Jx pre V)) (fun _ _ h => h) ?_ ?_
  · refine' range_low (n := n) (ι := Unit) rfl (by omega) (gf := 63) (lb := #[.pointer (some ⟨w1.heap.size, 0, none⟩)]) rfl trivial (enters_of Try.func63 (by kernel_rfl) rfl)
      (sectors_low (n - 1) (by omega) l p2 c2 w1.heap.size W0 hl hc1 (by have := hc2; unfold maxLen at this; omega) M0 C1) (fun x _ V => TS p2 l x V) (fun x i A k o o' hk hc h => bytesAt_put h hk hc)
      (fun k h => h.elim (fun h => by omega) (fun h => inB_lt M0 h)) (Below.refl _ _) (fun _ => rfl)
      (fun pre V => ((∃ xs : List (Nat × Option Addr), xs.map (·.1) = pre ∧ J xs V) ∧ V.heap[W.heap.size]? = some (.cells #[.func (.yield ly) #[] #[]] 95 (0, 0))))
      (fun c pre V => c = .exit 0 ∧ W.heap.size ≤ V.heap.size ∧ ∃ xs : List (Nat × Option Addr), xs.map (·.1) = pre ∧ Jx xs V)
      (fun s A C h hB hb => ⟨by obtain ⟨xs, e, h⟩ := h.1; exact ⟨xs, e, HJ.out _ _ _ h (by omega) (hb.mono (by omega))⟩, (hb.block _ (by omega)).trans h.2⟩)
      (fun c s A C h hB hb => ⟨h.1, by have := hb.size; omega, by obtain ⟨xs, e, h⟩ := h.2.2; exact ⟨xs, e, HJx.out _ _ _ h (by omega) (hb.mono (by omega))⟩⟩)
      ⟨⟨[], rfl, J0⟩, C0⟩
      (fun x _ => { tmps := #[.func (.yield ly) #[] #[], .pointer (some ⟨Bo, 0, none⟩), .pointer (some ⟨W.heap.size, 0, none⟩), .int .i64 (x : Int), .slice (secP p2 x) (secL l x).length (secL l x).length, .slice p l.length c, .slice p2 l.length c2, .func (.func 63) #[] #[.pointer (some ⟨w1.heap.size, 0, none⟩)], .int .i64 (x : Int), .slice (secP p2 x) (secL l x).length (secL l x).length, undef, undef, undef, undef, undef], defers := [] }) ?assign ?body ?done ?stop
    case assign =>
      intro ly2 x V K hs hT hK
      gi_wp2
      exact hK () _ hT (Below.refl _ _)
    case body =>
      rintro ly2 pre x _ V ⟨⟨xs, rfl, hJ⟩, hb⟩ hs hlen hsp hT
      have hcy : V.cell? ⟨W.heap.size, 0, none⟩ = some (.func (.yield ly) #[] #[]) := cell_of_row V _ 0 _ 95 (0, 0) hb
      have hyY := HY.out xs (x, secP p2 x) V hJ (by omega) (by rw [← List.length_map (f := (·.1))]; exact hlen) (prefix_map hsp) hT
      obtain ⟨fn, tmps, assign, body, hy, hYR⟩ := hyY
      have wk : ∀ W3, KpB (fun k => k = Bo ∨ inB p l.length k) W.heap.size V W3 → KpB (fun k => k = w1.heap.size ∨ inB p2 l.length k) W0.heap.size V W3 := fun W3 hK3 => hK3.mono fun k h => .inl (h.elim (fun h => by omega) (fun h => h.elim (fun h => by omega) (hbs' k)))
      have hbl : W.heap.size < V.heap.size := (Array.getElem?_eq_some_iff.1 hb).1
      have fin1 : Hid (∀ W3, J (xs ++ [(x, secP p2 x)]) W3 → KpB (fun k => k = Bo ∨ inB p l.length k) W.heap.size V W3 → KpB (fun k => k = w1.heap.size ∨ inB p2 l.length k) W0.heap.size V W3 ∧ (∃ xs', List.map (fun x => x.fst) xs' = List.map (fun x => x.fst) xs ++ [x] ∧ J xs' W3) ∧ W3.heap[W.heap.size]? = some (.cells #[.func (.yield ly) #[] #[]] 95 (0, 0))) := Lib.hid fun W3 hJ3 hK3 =>
        ⟨wk W3 hK3, ⟨_, by rw [List.map_append]; rfl, hJ3⟩, (hK3.2 _ hbl (.inl (Nat.le_refl _))).trans hb⟩
      have fin2 : Hid (∀ W3, Jx (xs ++ [(x, secP p2 x)]) W3 → KpB (fun k => k = Bo ∨ inB p l.length k) W.heap.size V W3 → KpB (fun k => k = w1.heap.size ∨ inB p2 l.length k) W0.heap.size V W3 ∧ W.heap.size ≤ W3.heap.size ∧ ∃ xs', List.map (fun x => x.fst) xs' = List.map (fun x => x.fst) xs ++ [x] ∧ Jx xs' W3) := Lib.hid fun W3 hJ3 hK3 =>
        ⟨wk W3 hK3, Nat.le_trans (Nat.le_of_lt hbl) hK3.1, ⟨_, by rw [List.map_append]; rfl, hJ3⟩⟩
      clear wk hJ hT hlen hsp
      gi_wp2_with fail
      refine ⟨fun _ => by omega, (round_wide hYR).mono ?_⟩
      rintro e W3 (⟨rfl, hJ3, hK3⟩ | ⟨rfl, hJx3, hK3⟩)
      · have HF := Lib.hid (fin1.out W3 hJ3 hK3)
        clear hJ3 hK3 hYR hcy hb hy
        gi_wp2
        exact HF.out
      · have HF := Lib.hid (fin2.out W3 hJx3 hK3)
        clear hJx3 hK3 hYR hcy hb hy
        gi_wp2
        exact ⟨HF.out.1, rfl, HF.out.2⟩
    case done =>
      rintro D ys V hD rfl ⟨⟨xs, e, hJ⟩, hb⟩ hK
      exact ⟨.inl rfl, D, rfl, hK, by have := (Array.getElem?_eq_some_iff.1 hb).1; omega, hD, .inl ⟨xs, e, hJ⟩⟩
    case stop =>
      rintro D c pre V hD hsp ⟨rfl, hs, xs, rfl, hJ⟩ hK
      gi_wp2
      all_goals first | exact (by omega) | exact .inr ⟨xs, hsp, hJ⟩ | exact ⟨by omega, .inr ⟨xs, hsp, hJ⟩⟩ | exact hs
  · rintro D V ⟨hK, hs, hD, hJ⟩
    gi_wp2
    refine ⟨by simp, .inl ⟨_, _, rfl, run_takeDeferred hK, ?_⟩⟩
    refine ⟨_, results_none rfl _ _ _, ⟨_, rfl⟩, by simpa using hs, ?_⟩
    have hp : Below W.heap.size V (V.putObj D (.deferred none)) := belowK_b (w := W0) (by omega) V D _ (.deferred none) (by omega) hK rfl rfl
    rcases hJ with ⟨xs, e, h⟩ | ⟨pre, e, h⟩
    · exact .inl ⟨xs, e, HJ.out _ _ _ h hs hp⟩
    · exact .inr ⟨pre, e, HJx.out _ _ _ h hs hp⟩
end Go.Proofs.Ythnllhfdbnnjhaa
