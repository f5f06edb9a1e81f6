import Derived.Test.YtoknfdgejiachaaKD
import Derived.Outline
namespace Go.Proofs.Ytoknfdgejiachaa
open Go.RowKit Go.Shelf
attribute [local go_sem] Oper.semAt_some

/-- What the four variables of the function hold: o, the result, what was found, whether it was. -/
structure InfoAt (W : World) (b : Nat) (o : Int) (s : ByteArray) (m f k : Int) (is : Bool) : Prop where
  a : W.cell? ⟨b, 0, none⟩ = some (.int .i64 o)
  r0 : W.cell? ⟨b + 1, 0, none⟩ = some (.string ⟨#[]⟩)
  r1 : W.cell? ⟨b + 1, 1, none⟩ = some (.int .i64 0)
  r2 : W.cell? ⟨b + 1, 2, none⟩ = some (.int .i64 0)
  r3 : W.cell? ⟨b + 1, 3, none⟩ = some (.int .i64 0)
  g0 : W.frozen? ⟨b + 1, 0, none⟩ = false
  g1 : W.frozen? ⟨b + 1, 1, none⟩ = false
  g2 : W.frozen? ⟨b + 1, 2, none⟩ = false
  g3 : W.frozen? ⟨b + 1, 3, none⟩ = false
  f0 : W.cell? ⟨b + 1 + 1, 0, none⟩ = some (.string s)
  f1 : W.cell? ⟨b + 1 + 1, 1, none⟩ = some (.int .i64 m)
  f2 : W.cell? ⟨b + 1 + 1, 2, none⟩ = some (.int .i64 f)
  f3 : W.cell? ⟨b + 1 + 1, 3, none⟩ = some (.int .i64 k)
  h0 : W.frozen? ⟨b + 1 + 1, 0, none⟩ = false
  h1 : W.frozen? ⟨b + 1 + 1, 1, none⟩ = false
  h2 : W.frozen? ⟨b + 1 + 1, 2, none⟩ = false
  h3 : W.frozen? ⟨b + 1 + 1, 3, none⟩ = false
  i : W.cell? ⟨b + 1 + 1 + 1, 0, none⟩ = some (.bool is)
  j : W.frozen? ⟨b + 1 + 1 + 1, 0, none⟩ = false
theorem InfoAt.own {β : Type} {b : Nat} {o : Int} {s : ByteArray} {m f k : Int} {is : Bool} : Own (fun (_ : β) W => InfoAt W b o s m f k is) :=
  fun _ A B row hs hg hr => ⟨cell_kept hs.a hg hr, cell_kept hs.r0 hg hr, cell_kept hs.r1 hg hr, cell_kept hs.r2 hg hr, cell_kept hs.r3 hg hr,
    (frozen_kept hs.r0 hg hr).trans hs.g0, (frozen_kept hs.r1 hg hr).trans hs.g1, (frozen_kept hs.r2 hg hr).trans hs.g2, (frozen_kept hs.r3 hg hr).trans hs.g3,
    cell_kept hs.f0 hg hr, cell_kept hs.f1 hg hr, cell_kept hs.f2 hg hr, cell_kept hs.f3 hg hr,
    (frozen_kept hs.f0 hg hr).trans hs.h0, (frozen_kept hs.f1 hg hr).trans hs.h1, (frozen_kept hs.f2 hg hr).trans hs.h2, (frozen_kept hs.f3 hg hr).trans hs.h3,
    cell_kept hs.i hg hr, (frozen_kept hs.i hg hr).trans hs.j⟩
theorem ol_mem (x : Fin 20) : x ∈ ol := by unfold ol; rw [List.mem_ofFn]; exact ⟨x, rfl⟩
/-- The loop's own variable. -/
def RowAt (W : World) (b : Nat) (x : Fin 20) : Prop := W.cell? ⟨b, 0, none⟩ = some (.string (oname (x.val + 1))) ∧ W.cell? ⟨b, 1, none⟩ = some (.int .i64 (manyE (1 + (x.val : Int)))) ∧ W.cell? ⟨b, 2, none⟩ = some (.int .i64 (ofE (1 + (x.val : Int)))) ∧ W.cell? ⟨b, 3, none⟩ = some (.int .i64 (makeE (1 + (x.val : Int))))
theorem RowAt.own {β : Type} {b : Nat} {x : Fin 20} : Own (fun (_ : β) W => RowAt W b x) := fun _ A B row hs hg hr => ⟨cell_kept hs.1 hg hr, cell_kept hs.2.1 hg hr, cell_kept hs.2.2.1 hg hr, cell_kept hs.2.2.2 hg hr⟩
def infoFrame (o : Int) (n b : Nat) (x : Fin 20) : Act := { tmps := #[.int .i64 o, .pointer (some ⟨n, 0, none⟩), .pointer (some ⟨n + 1, 0, none⟩), .bool false, .pointer (some ⟨n + 1 + 1, 0, none⟩), .pointer (some ⟨n + 1 + 1 + 1, 0, none⟩), .int .i64 (1 + (x.val : Int)), .pointer (some ⟨b, 0, none⟩), info ⟨#[]⟩ 0 0 0, .func (.func 21) #[] #[], .int .i64 (1 + (x.val : Int)), info (oname (x.val + 1)) (manyE (1 + (x.val : Int))) (ofE (1 + (x.val : Int))) (makeE (1 + (x.val : Int))), undef, undef, undef, undef, undef, undef, undef], defers := [] }
set_option maxRecDepth 100000 in
set_option maxHeartbeats 4000000 in
theorem info_yes (o : Int) (h : 1 ≤ o ∧ o ≤ 20) (w : World) :
    Calls Try.prog 8 #[.int .i64 o] w fun r w' => r = .returned (.tuple #[info (oname o.toNat) (manyE o) (ofE o) (makeE o), .bool true]) ∧ Below w.heap.size w w' := by
  have H := Lib.hid h
  clear h
  refine (callsIn_wide (n := 5)).1 ?_
  refine callsIn_of_wp_marks Try.func8 rfl trivial ?_ rfl
  simp only [Try.ntmps8, List.size_toArray, List.length_cons, List.length_nil, Nat.reduceAdd, Nat.reduceSub, Array.replicate_succ, Array.replicate_zero, List.push_toArray, List.append_toArray, List.nil_append, List.cons_append]
  gi_wp2
  apply wpIn_scope_wide
  gi_wp2_with (refine ⟨trivial, ?_⟩; gi_at_call 11; refine (callsIn_wide.2 (opsF_any _)).mono ?_; rintro e w' ⟨rfl, rfl⟩)
  apply wpIn_label
  gi_wp2_with (refine ⟨trivial, ?_⟩; gi_at_call 11; refine (callsIn_wide.2 (opsF_any _)).mono ?_; rintro e w' ⟨rfl, rfl⟩)
  have F0 : InfoAt ((((w.alloc (Obj.cells #[Value.int IntKind.i64 o] 30)).alloc (Obj.cells #[Value.string { data := #[] }, Value.int IntKind.i64 0, Value.int IntKind.i64 0, Value.int IntKind.i64 0] 27)).alloc (Obj.cells #[Value.string { data := #[] }, Value.int IntKind.i64 0, Value.int IntKind.i64 0, Value.int IntKind.i64 0] 27)).alloc (Obj.cells #[Value.bool false] 4)) w.heap.size o ⟨#[]⟩ 0 0 0 false := by constructor <;> go_cell
  have B0 : Below w.heap.size w ((((w.alloc (Obj.cells #[Value.int IntKind.i64 o] 30)).alloc (Obj.cells #[Value.string { data := #[] }, Value.int IntKind.i64 0, Value.int IntKind.i64 0, Value.int IntKind.i64 0] 27)).alloc (Obj.cells #[Value.string { data := #[] }, Value.int IntKind.i64 0, Value.int IntKind.i64 0, Value.int IntKind.i64 0] 27)).alloc (Obj.cells #[Value.bool false] 4)) := ((((Below.refl _ _).alloc (Nat.le_refl _) _).alloc (by simp) _).alloc (by first | omega | (simp <;> omega)) _).alloc (by simp; omega) _
  have S0 : ((((w.alloc (Obj.cells #[Value.int IntKind.i64 o] 30)).alloc (Obj.cells #[Value.string { data := #[] }, Value.int IntKind.i64 0, Value.int IntKind.i64 0, Value.int IntKind.i64 0] 27)).alloc (Obj.cells #[Value.string { data := #[] }, Value.int IntKind.i64 0, Value.int IntKind.i64 0, Value.int IntKind.i64 0] 27)).alloc (Obj.cells #[Value.bool false] 4)).heap.size = w.heap.size + 4 := by simp
  generalize ((((w.alloc (Obj.cells #[Value.int IntKind.i64 o] 30)).alloc (Obj.cells #[Value.string { data := #[] }, Value.int IntKind.i64 0, Value.int IntKind.i64 0, Value.int IntKind.i64 0] 27)).alloc (Obj.cells #[Value.string { data := #[] }, Value.int IntKind.i64 0, Value.int IntKind.i64 0, Value.int IntKind.i64 0] 27)).alloc (Obj.cells #[Value.bool false] 4)) = W0 at F0 B0 S0 ⊢
  refine range_norm 0 (fun D W => InfoAt W w.heap.size o (oname o.toNat) (manyE o) (ofE o) (makeE o) true ∧ W.heap[D]? = some (.deferred (some [])) ∧ w.heap.size + 4 ≤ D ∧ Below w.heap.size w W) (fun _ _ h => h) ?_ ?_
  · refine' wpIn_rangeFunc_ownH (n := 5) rfl (by decide) (gf := 21) (lb := #[]) rfl trivial (enters_of Try.func21 (by kernel_rfl) rfl)
      (ops_stops (5 - 1) (by decide) _) kpC_t kpC_b (Below.refl _ _) (fun _ => rfl)
      (fun pre W => (InfoAt W w.heap.size o ⟨#[]⟩ 0 0 0 false ∧ (∀ y ∈ pre, ¬ (1 + (y.val : Int)) = o)) ∧ Below w.heap.size w W)
      (fun c pre W => ((c = .exit 0 ∧ (1 ≤ o ∧ o ≤ 20) ∧ InfoAt W w.heap.size o (oname o.toNat) (manyE o) (ofE o) (makeE o) true) ∧ Below w.heap.size w W))
      (OwnFrom.and (OwnFrom.and (Own.from InfoAt.own _) (ownFrom_pure _ (fun pre : List (Fin 20) => ∀ y ∈ pre, ¬ (1 + (y.val : Int)) = o))) (ownFrom_below (Nat.le_refl _) (by omega)))
      (fun c => OwnFrom.and (fun s A C row hs hg hr => ⟨hs.1, hs.2.1, Own.from InfoAt.own _ s A C row hs.2.2 hg hr⟩) (ownFrom_below (Nat.le_refl _) (by omega)))
      ⟨⟨F0, fun y hy => by cases hy⟩, B0⟩
      (fun x a' W => ∃ b, w.heap.size + 4 ≤ b ∧ a' = infoFrame o w.heap.size b x ∧ RowAt W b x)
      (fun x a' s A C row ⟨b, hb, e, hr⟩ hg hw => ⟨b, hb, e, Own.from RowAt.own _ s A C row hr hg hw⟩) ?assign ?body ?done ?stop
    case assign =>
      rintro l pre x W K ⟨⟨y, hne⟩, hB1⟩ hK
      have hl : W0.heap.size ≤ W.heap.size := by have h9 : w.heap.size + 1 + 1 + 1 < W.heap.size := lt_of_cell_some y.i; omega
      have hK' := hK (infoFrame o w.heap.size W.heap.size x) (W.alloc (.cells #[.string (oname (x.val + 1)), .int .i64 (manyE (1 + (x.val : Int))), .int .i64 (ofE (1 + (x.val : Int))), .int .i64 (makeE (1 + (x.val : Int)))] 27)) ((KeepsOthers.alloc _ _).from _) (KpC.of_below ((Below.refl _ _).alloc (Nat.le_refl _) _)) ⟨⟨Own.alloc InfoAt.own (s := ()) _ y, hne⟩, hB1.alloc hB1.size _⟩ ⟨_, by omega, rfl, by go_cell, by go_cell, by go_cell, by go_cell⟩
      clear hK
      gi_wp2
      exact hK'
    case body =>
      rintro l pre x a' W hl _ ⟨⟨y, hne⟩, hB1⟩ ⟨b, hb, rfl, z0, z1, z2, z3⟩ _
      have hxl := x.isLt
      obtain ⟨ya, yr0, yr1, yr2, yr3, yg0, yg1, yg2, yg3, yf0, yf1, yf2, yf3, yh0, yh1, yh2, yh3, yi, yj⟩ := y
      by_cases hx : 1 + (x.val : Int) = o
      · have ho : 1 ≤ o ∧ o ≤ 20 := by omega
        subst hx
        have e1 : (1 + (x.val : Int)).toNat = x.val + 1 := by omega
        rw [e1]
        clear hne e1
        unfold infoFrame
        gi_wp2
        refine ⟨((((KeepsOthers.setCell _ _ _).trans (KeepsOthers.setCell _ _ _)).trans (KeepsOthers.setCell _ _ _)).trans (KeepsOthers.setCell _ _ _)).trans (KeepsOthers.setCell _ _ _) |>.from _, ⟨rfl, by omega, ?_⟩, ?_⟩
        · constructor <;> first | go_cell | go_simp
        · exact ((((hB1.setCell (p := ⟨w.heap.size + 1 + 1, 0, none⟩) (by first | omega | (simp <;> omega)) _).setCell (p := ⟨w.heap.size + 1 + 1, 1, none⟩) (by first | omega | (simp <;> omega)) _).setCell (p := ⟨w.heap.size + 1 + 1, 2, none⟩) (by first | omega | (simp <;> omega)) _).setCell (p := ⟨w.heap.size + 1 + 1, 3, none⟩) (by first | omega | (simp <;> omega)) _).setCell (p := ⟨w.heap.size + 1 + 1 + 1, 0, none⟩) (by first | omega | (simp <;> omega)) _
      · have hx' : (1 + (x.val : Int) == o) = false := by simpa using hx
        unfold infoFrame
        gi_wp2
        exact ⟨(KeepsOthers.refl _).from _, KpC.refl _ _, ⟨⟨ya, yr0, yr1, yr2, yr3, yg0, yg1, yg2, yg3, yf0, yf1, yf2, yf3, yh0, yh1, yh2, yh3, yi, yj⟩, fun y hy => by
          rcases List.mem_append.1 hy with hy | hy
          · exact hne y hy
          · simp only [List.mem_singleton] at hy
            subst hy
            exact hx⟩, hB1⟩
    case done =>
      rintro D ys W hD rfl ⟨⟨y, hne⟩, hB1⟩ hK
      have := hne ⟨(o - 1).toNat, by have := H.out; omega⟩ (ol_mem _); exact absurd (by have := H.out; simp; omega) this
    case stop =>
      rintro D c pre W hD _ ⟨⟨rfl, ho, y⟩, hB1⟩ hK
      gi_wp2
      omega
  · rintro D W ⟨y, hK, hD, hB1⟩
    obtain ⟨ya, yr0, yr1, yr2, yr3, yg0, yg1, yg2, yg3, yf0, yf1, yf2, yf3, yh0, yh1, yh2, yh3, yi, yj⟩ := y
    gi_wp2
    gi_region
    all_goals gi_wp2
    all_goals
      rw [Exit.noGoto_ret]
      refine ⟨by simp, .inl ⟨_, _, rfl, run_takeDeferred ((((((KeepsOthers.setCell _ _ _).trans (KeepsOthers.setCell _ _ _)).trans (KeepsOthers.setCell _ _ _)).trans (KeepsOthers.setCell _ _ _)).same D _ hK rfl)), ?_⟩⟩
      have hb := belowK_b (n₀ := w.heap.size + 4) (w := W0) (by omega) (((((W.setCell ⟨w.heap.size + 1, 0, none⟩ (.string (oname o.toNat))).setCell ⟨w.heap.size + 1, 1, none⟩ (.int .i64 (manyE o))).setCell ⟨w.heap.size + 1, 2, none⟩ (.int .i64 (ofE o))).setCell ⟨w.heap.size + 1, 3, none⟩ (.int .i64 (makeE o))).drew) D _ (.deferred none) (by omega) (((((KeepsOthers.setCell _ _ _).trans (KeepsOthers.setCell _ _ _)).trans (KeepsOthers.setCell _ _ _)).trans (KeepsOthers.setCell _ _ _)).same D _ hK rfl) rfl rfl
      have q0 := (hb.cell (p := ⟨w.heap.size + 1, 0, none⟩) (by first | omega | (simp <;> omega))).trans (show _ = some (Value.string (oname o.toNat)) by go_cell)
      have q1 := (hb.cell (p := ⟨w.heap.size + 1, 1, none⟩) (by first | omega | (simp <;> omega))).trans (show _ = some (Value.int .i64 (manyE o)) by go_cell)
      have q2 := (hb.cell (p := ⟨w.heap.size + 1, 2, none⟩) (by first | omega | (simp <;> omega))).trans (show _ = some (Value.int .i64 (ofE o)) by go_cell)
      have q3 := (hb.cell (p := ⟨w.heap.size + 1, 3, none⟩) (by first | omega | (simp <;> omega))).trans (show _ = some (Value.int .i64 (makeE o)) by go_cell)
      have hfin : Below w.heap.size w ((((((W.setCell ⟨w.heap.size + 1, 0, none⟩ (.string (oname o.toNat))).setCell ⟨w.heap.size + 1, 1, none⟩ (.int .i64 (manyE o))).setCell ⟨w.heap.size + 1, 2, none⟩ (.int .i64 (ofE o))).setCell ⟨w.heap.size + 1, 3, none⟩ (.int .i64 (makeE o))).drew).putObj D (.deferred none)) := (((((hB1.setCell (p := ⟨w.heap.size + 1, 0, none⟩) (by first | omega | (simp <;> omega)) _).setCell (p := ⟨w.heap.size + 1, 1, none⟩) (by first | omega | (simp <;> omega)) _).setCell (p := ⟨w.heap.size + 1, 2, none⟩) (by first | omega | (simp <;> omega)) _).setCell (p := ⟨w.heap.size + 1, 3, none⟩) (by first | omega | (simp <;> omega)) _).drew).trans (hb.mono (by omega))
      clear hb
      generalize (((((W.setCell ⟨w.heap.size + 1, 0, none⟩ (.string (oname o.toNat))).setCell ⟨w.heap.size + 1, 1, none⟩ (.int .i64 (manyE o))).setCell ⟨w.heap.size + 1, 2, none⟩ (.int .i64 (ofE o))).setCell ⟨w.heap.size + 1, 3, none⟩ (.int .i64 (makeE o))).drew).putObj D (.deferred none) = WF at q0 q1 q2 q3 hfin ⊢
      refine ⟨.tuple #[info (oname o.toNat) (manyE o) (ofE o) (makeE o), .bool true], ?_, rfl, hfin⟩
      simp [results, Try.results8, go_sem, q0, q1, q2, q3]
set_option maxRecDepth 100000 in
set_option maxHeartbeats 4000000 in
theorem info_no (o : Int) (h : ¬ (1 ≤ o ∧ o ≤ 20)) (w : World) :
    Calls Try.prog 8 #[.int .i64 o] w fun r w' => r = .returned (.tuple #[info ⟨#[]⟩ 0 0 0, .bool false]) ∧ Below w.heap.size w w' := by
  have H := Lib.hid h
  clear h
  refine (callsIn_wide (n := 5)).1 ?_
  refine callsIn_of_wp_marks Try.func8 rfl trivial ?_ rfl
  simp only [Try.ntmps8, List.size_toArray, List.length_cons, List.length_nil, Nat.reduceAdd, Nat.reduceSub, Array.replicate_succ, Array.replicate_zero, List.push_toArray, List.append_toArray, List.nil_append, List.cons_append]
  gi_wp2
  apply wpIn_scope_wide
  gi_wp2_with (refine ⟨trivial, ?_⟩; gi_at_call 11; refine (callsIn_wide.2 (opsF_any _)).mono ?_; rintro e w' ⟨rfl, rfl⟩)
  apply wpIn_label
  gi_wp2_with (refine ⟨trivial, ?_⟩; gi_at_call 11; refine (callsIn_wide.2 (opsF_any _)).mono ?_; rintro e w' ⟨rfl, rfl⟩)
  have F0 : InfoAt ((((w.alloc (Obj.cells #[Value.int IntKind.i64 o] 30)).alloc (Obj.cells #[Value.string { data := #[] }, Value.int IntKind.i64 0, Value.int IntKind.i64 0, Value.int IntKind.i64 0] 27)).alloc (Obj.cells #[Value.string { data := #[] }, Value.int IntKind.i64 0, Value.int IntKind.i64 0, Value.int IntKind.i64 0] 27)).alloc (Obj.cells #[Value.bool false] 4)) w.heap.size o ⟨#[]⟩ 0 0 0 false := by constructor <;> go_cell
  have B0 : Below w.heap.size w ((((w.alloc (Obj.cells #[Value.int IntKind.i64 o] 30)).alloc (Obj.cells #[Value.string { data := #[] }, Value.int IntKind.i64 0, Value.int IntKind.i64 0, Value.int IntKind.i64 0] 27)).alloc (Obj.cells #[Value.string { data := #[] }, Value.int IntKind.i64 0, Value.int IntKind.i64 0, Value.int IntKind.i64 0] 27)).alloc (Obj.cells #[Value.bool false] 4)) := ((((Below.refl _ _).alloc (Nat.le_refl _) _).alloc (by simp) _).alloc (by first | omega | (simp <;> omega)) _).alloc (by simp; omega) _
  have S0 : ((((w.alloc (Obj.cells #[Value.int IntKind.i64 o] 30)).alloc (Obj.cells #[Value.string { data := #[] }, Value.int IntKind.i64 0, Value.int IntKind.i64 0, Value.int IntKind.i64 0] 27)).alloc (Obj.cells #[Value.string { data := #[] }, Value.int IntKind.i64 0, Value.int IntKind.i64 0, Value.int IntKind.i64 0] 27)).alloc (Obj.cells #[Value.bool false] 4)).heap.size = w.heap.size + 4 := by simp
  generalize ((((w.alloc (Obj.cells #[Value.int IntKind.i64 o] 30)).alloc (Obj.cells #[Value.string { data := #[] }, Value.int IntKind.i64 0, Value.int IntKind.i64 0, Value.int IntKind.i64 0] 27)).alloc (Obj.cells #[Value.string { data := #[] }, Value.int IntKind.i64 0, Value.int IntKind.i64 0, Value.int IntKind.i64 0] 27)).alloc (Obj.cells #[Value.bool false] 4)) = W0 at F0 B0 S0 ⊢
  refine range_norm 0 (fun D W => InfoAt W w.heap.size o ⟨#[]⟩ 0 0 0 false ∧ W.heap[D]? = some (.deferred (some [])) ∧ w.heap.size + 4 ≤ D ∧ Below w.heap.size w W) (fun _ _ h => h) ?_ ?_
  · refine' wpIn_rangeFunc_ownH (n := 5) rfl (by decide) (gf := 21) (lb := #[]) rfl trivial (enters_of Try.func21 (by kernel_rfl) rfl)
      (ops_stops (5 - 1) (by decide) _) kpC_t kpC_b (Below.refl _ _) (fun _ => rfl)
      (fun pre W => (InfoAt W w.heap.size o ⟨#[]⟩ 0 0 0 false ∧ (∀ y ∈ pre, ¬ (1 + (y.val : Int)) = o)) ∧ Below w.heap.size w W)
      (fun c pre W => ((c = .exit 0 ∧ (1 ≤ o ∧ o ≤ 20) ∧ InfoAt W w.heap.size o (oname o.toNat) (manyE o) (ofE o) (makeE o) true) ∧ Below w.heap.size w W))
      (OwnFrom.and (OwnFrom.and (Own.from InfoAt.own _) (ownFrom_pure _ (fun pre : List (Fin 20) => ∀ y ∈ pre, ¬ (1 + (y.val : Int)) = o))) (ownFrom_below (Nat.le_refl _) (by omega)))
      (fun c => OwnFrom.and (fun s A C row hs hg hr => ⟨hs.1, hs.2.1, Own.from InfoAt.own _ s A C row hs.2.2 hg hr⟩) (ownFrom_below (Nat.le_refl _) (by omega)))
      ⟨⟨F0, fun y hy => by cases hy⟩, B0⟩
      (fun x a' W => ∃ b, w.heap.size + 4 ≤ b ∧ a' = infoFrame o w.heap.size b x ∧ RowAt W b x)
      (fun x a' s A C row ⟨b, hb, e, hr⟩ hg hw => ⟨b, hb, e, Own.from RowAt.own _ s A C row hr hg hw⟩) ?assign ?body ?done ?stop
    case assign =>
      rintro l pre x W K ⟨⟨y, hne⟩, hB1⟩ hK
      have hl : W0.heap.size ≤ W.heap.size := by have h9 : w.heap.size + 1 + 1 + 1 < W.heap.size := lt_of_cell_some y.i; omega
      have hK' := hK (infoFrame o w.heap.size W.heap.size x) (W.alloc (.cells #[.string (oname (x.val + 1)), .int .i64 (manyE (1 + (x.val : Int))), .int .i64 (ofE (1 + (x.val : Int))), .int .i64 (makeE (1 + (x.val : Int)))] 27)) ((KeepsOthers.alloc _ _).from _) (KpC.of_below ((Below.refl _ _).alloc (Nat.le_refl _) _)) ⟨⟨Own.alloc InfoAt.own (s := ()) _ y, hne⟩, hB1.alloc hB1.size _⟩ ⟨_, by omega, rfl, by go_cell, by go_cell, by go_cell, by go_cell⟩
      clear hK
      gi_wp2
      exact hK'
    case body =>
      rintro l pre x a' W hl _ ⟨⟨y, hne⟩, hB1⟩ ⟨b, hb, rfl, z0, z1, z2, z3⟩ _
      have hxl := x.isLt
      obtain ⟨ya, yr0, yr1, yr2, yr3, yg0, yg1, yg2, yg3, yf0, yf1, yf2, yf3, yh0, yh1, yh2, yh3, yi, yj⟩ := y
      by_cases hx : 1 + (x.val : Int) = o
      · have ho : 1 ≤ o ∧ o ≤ 20 := by omega
        exact absurd (by omega) H.out
      · have hx' : (1 + (x.val : Int) == o) = false := by simpa using hx
        unfold infoFrame
        gi_wp2
        exact ⟨(KeepsOthers.refl _).from _, KpC.refl _ _, ⟨⟨ya, yr0, yr1, yr2, yr3, yg0, yg1, yg2, yg3, yf0, yf1, yf2, yf3, yh0, yh1, yh2, yh3, yi, yj⟩, fun y hy => by
          rcases List.mem_append.1 hy with hy | hy
          · exact hne y hy
          · simp only [List.mem_singleton] at hy
            subst hy
            exact hx⟩, hB1⟩
    case done =>
      rintro D ys W hD rfl ⟨⟨y, hne⟩, hB1⟩ hK
      exact ⟨.inl rfl, D, rfl, y, hK, by omega, hB1⟩
    case stop =>
      rintro D c pre W hD _ ⟨⟨rfl, ho, y⟩, hB1⟩ hK
      exact absurd ho H.out
  · rintro D W ⟨y, hK, hD, hB1⟩
    obtain ⟨ya, yr0, yr1, yr2, yr3, yg0, yg1, yg2, yg3, yf0, yf1, yf2, yf3, yh0, yh1, yh2, yh3, yi, yj⟩ := y
    gi_wp2
    gi_region
    all_goals gi_wp2
    all_goals
      rw [Exit.noGoto_ret]
      refine ⟨by simp, .inl ⟨_, _, rfl, run_takeDeferred ((((((KeepsOthers.setCell _ _ _).trans (KeepsOthers.setCell _ _ _)).trans (KeepsOthers.setCell _ _ _)).trans (KeepsOthers.setCell _ _ _)).same D _ hK rfl)), ?_⟩⟩
      have hb := belowK_b (n₀ := w.heap.size + 4) (w := W0) (by omega) (((((W.setCell ⟨w.heap.size + 1, 0, none⟩ (.string ⟨#[]⟩)).setCell ⟨w.heap.size + 1, 1, none⟩ (.int .i64 0)).setCell ⟨w.heap.size + 1, 2, none⟩ (.int .i64 0)).setCell ⟨w.heap.size + 1, 3, none⟩ (.int .i64 0)).drew) D _ (.deferred none) (by omega) (((((KeepsOthers.setCell _ _ _).trans (KeepsOthers.setCell _ _ _)).trans (KeepsOthers.setCell _ _ _)).trans (KeepsOthers.setCell _ _ _)).same D _ hK rfl) rfl rfl
      have q0 := (hb.cell (p := ⟨w.heap.size + 1, 0, none⟩) (by first | omega | (simp <;> omega))).trans (show _ = some (Value.string ⟨#[]⟩) by go_cell)
      have q1 := (hb.cell (p := ⟨w.heap.size + 1, 1, none⟩) (by first | omega | (simp <;> omega))).trans (show _ = some (Value.int .i64 0) by go_cell)
      have q2 := (hb.cell (p := ⟨w.heap.size + 1, 2, none⟩) (by first | omega | (simp <;> omega))).trans (show _ = some (Value.int .i64 0) by go_cell)
      have q3 := (hb.cell (p := ⟨w.heap.size + 1, 3, none⟩) (by first | omega | (simp <;> omega))).trans (show _ = some (Value.int .i64 0) by go_cell)
      have hfin : Below w.heap.size w ((((((W.setCell ⟨w.heap.size + 1, 0, none⟩ (.string ⟨#[]⟩)).setCell ⟨w.heap.size + 1, 1, none⟩ (.int .i64 0)).setCell ⟨w.heap.size + 1, 2, none⟩ (.int .i64 0)).setCell ⟨w.heap.size + 1, 3, none⟩ (.int .i64 0)).drew).putObj D (.deferred none)) := (((((hB1.setCell (p := ⟨w.heap.size + 1, 0, none⟩) (by first | omega | (simp <;> omega)) _).setCell (p := ⟨w.heap.size + 1, 1, none⟩) (by first | omega | (simp <;> omega)) _).setCell (p := ⟨w.heap.size + 1, 2, none⟩) (by first | omega | (simp <;> omega)) _).setCell (p := ⟨w.heap.size + 1, 3, none⟩) (by first | omega | (simp <;> omega)) _).drew).trans (hb.mono (by omega))
      clear hb
      generalize (((((W.setCell ⟨w.heap.size + 1, 0, none⟩ (.string ⟨#[]⟩)).setCell ⟨w.heap.size + 1, 1, none⟩ (.int .i64 0)).setCell ⟨w.heap.size + 1, 2, none⟩ (.int .i64 0)).setCell ⟨w.heap.size + 1, 3, none⟩ (.int .i64 0)).drew).putObj D (.deferred none) = WF at q0 q1 q2 q3 hfin ⊢
      refine ⟨.tuple #[info ⟨#[]⟩ 0 0 0, .bool false], ?_, rfl, hfin⟩
      simp [results, Try.results8, go_sem, q0, q1, q2, q3]
/-- What an operator is. -/
def isOp (o : Int) : Bool := decide (1 ≤ o ∧ o ≤ 20)
theorem info_any (o : Int) (w : World) :
    Calls Try.prog 8 #[.int .i64 o] w fun r w' => r = .returned (.tuple #[infoV o, .bool (isOp o)]) ∧ Below w.heap.size w w' := by
  by_cases h : 1 ≤ o ∧ o ≤ 20
  · have e1 : infoV o = info (oname o.toNat) (manyE o) (ofE o) (makeE o) := by unfold infoV; rw [if_neg (by omega)]
    have e2 : isOp o = true := by unfold isOp; simpa using h
    rw [e1, e2]
    exact info_yes o h w
  · have e1 : infoV o = info ⟨#[]⟩ 0 0 0 := by unfold infoV; rw [if_pos (by omega)]
    have e2 : isOp o = false := by unfold isOp; simpa using h
    rw [e1, e2]
    exact info_no o h w
end Go.Proofs.Ytoknfdgejiachaa
