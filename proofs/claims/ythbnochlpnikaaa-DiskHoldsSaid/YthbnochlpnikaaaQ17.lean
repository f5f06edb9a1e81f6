/- A row of truths of the call's own that grows: its block is the old one, or a new one. -/
import Derived.Test.YthbnochlpnikaaaQ16
import Derived.Deep.DeepAppendRoom
namespace Go.Proofs.Ythbnochlpnikaaa
open Go.RowKit Go.Shelf

theorem infoB : (Try.prog.info? 4).map (fun i => (i.zero, i.size, i.bytes)) = some (some (.bool false), 1, 1) := by kernel_rfl
theorem ownsRow_base {w : World} {b b' : Nat} {e : TypeId} {size : Nat} {v : Value} {n : Nat} {xs : List Value} (h : w.ownsRow b e size v n xs) (hb : b' ≤ b) : w.ownsRow b' e size v n xs := by
  refine ⟨h.1, ?_⟩
  rcases h.2 with h | ⟨g, cap, cur, e, hg, rest⟩
  · exact .inl h
  · exact .inr ⟨g, cap, cur, e, Nat.le_trans hb hg, rest⟩
theorem ownsRow_kept {w w' : World} {b : Nat} {e : TypeId} {size : Nat} {v : Value} {n : Nat} {xs : List Value} (h : w.ownsRow b e size v n xs) (hk : ∀ j, v.ownBlock = some j → w'.heap[j]? = w.heap[j]?) : w'.ownsRow b e size v n xs := by
  refine ⟨h.1, ?_⟩
  rcases h.2 with h | ⟨g, cap, cur, rfl, hg, hh, rest⟩
  · exact .inl h
  · exact .inr ⟨g, cap, cur, rfl, hg, (hk g rfl).trans hh, rest⟩
theorem grown_any {w w' : World} {row : Option Nat} (h : w.grownBy w' none) : w.grownBy w' row := ⟨h.os, h.tape, h.output, h.size, fun k hk _ => h.block k hk (by simp)⟩
theorem ownsRow_new {w : World} {b : Nat} {e : TypeId} {size : Nat} {v : Value} {n : Nat} {xs : List Value} (h : w.ownsRow b e size v n xs) : ∀ j, v.ownBlock = some j → b ≤ j := fun j hj => (h.lt j hj).1
set_option maxRecDepth 100000 in
theorem wpList_append_true {ops : Array Oper} {rest : List Oper} {o : Oper} {a : Act} {w : World} {Q : Exit → Act → World → Prop} (hgd : o.guard = none) (s x : Operand)
    (ho : o.op = .call { callee := .builtin .append, args := #[s, x], argTypes := #[23, 23] })
    {base n B : Nat} {v : Value} (hs : a.eval s = v) (hown : w.ownsRow base 4 1 v n (List.replicate n (.bool true))) (hx : a.eval x = .slice (some ⟨B, 0, none⟩) 1 1) (hm : w.cell? ⟨B, 0, none⟩ = some (.bool true)) (hn : n ≤ 100000) (hbase : base ≤ w.heap.size)
    (h : ∀ v' w', w'.ownsRow base 4 1 v' (n + 1) (List.replicate (n + 1) (.bool true)) → w.grownBy w' v.ownBlock → (∀ j, v'.ownBlock = some j → v.ownBlock = some j ∨ w.heap.size ≤ j) → wpList Try.prog ops Q rest (a.put o.dst v') w') : wpList Try.prog ops Q (o :: rest) a w := by
  obtain ⟨j0, hj, hz0, hz1, hz2⟩ := info_parts infoB
  have hnews : ∀ (j : Nat) (u : Value), [Value.bool true][j]? = some u → w.cell? ((⟨B, 0, none⟩ : Addr).add j) = some u := fun j u hu => by
    cases j with
    | zero => simp at hu; subst hu; rw [addr_plain]; exact hm
    | succ j => simp at hu
  have h1 : ∀ u ∈ [Value.bool true], u.oneCell' = true := fun u hu => by simp at hu; subst hu; rfl
  have hrep : List.replicate n (Value.bool true) ++ [.bool true] = List.replicate (n + 1) (.bool true) := by rw [List.replicate_succ']
  have hlen := hown.1
  rcases hown.2 with ⟨rfl, rfl⟩ | ⟨g, cap, cur, rfl, hbg, hg, hnc, hcm, hcs, htake⟩
  · refine wpList_append_grows w hgd s x _ ho 4 j0 (.bool false) 1 1 Try.underlying23 hj hz0 hz1 hz2 rfl (by decide) none 0 0 [] hs (fun _ => ⟨rfl, rfl⟩) rfl (fun b hb => by cases hb) ⟨B, 0, none⟩ 1 1 [.bool true] hx rfl hnews h1 (by omega) (by unfold maxLen; omega) (by omega) ?_
    intro v' w' hv hgr
    exact h v' w' (ownsRow_base hv hbase) (grown_any hgr) (fun j hj => .inr (ownsRow_new hv j hj))
  · by_cases hroom : n + 1 ≤ cap
    · refine wpList_append_own_spare w hgd s x _ ho base 4 j0 1 Try.underlying23 hj hz1 g n cap _ hs hown ⟨B, 0, none⟩ 1 1 [.bool true] hx rfl hnews h1 hroom ?_
      intro w' hv hgr
      exact h _ w' (by rw [← hrep]; exact hv) hgr (fun j hj => .inl hj)
    · refine wpList_append_grows w hgd s x _ ho 4 j0 (.bool false) 1 1 Try.underlying23 hj hz0 hz1 hz2 rfl (by decide) (some ⟨g, 0, none⟩) n cap (List.replicate n (.bool true)) hs (fun hb => by cases hb) hlen (fun b hb j u hu => by
        injection hb with hb
        subst hb
        exact hown.cells (g := g) rfl j u hu) ⟨B, 0, none⟩ 1 1 [.bool true] hx rfl hnews h1 (by omega) (by unfold maxLen; omega) (by omega) ?_
      intro v' w' hv hgr
      rw [hrep] at hv
      exact h v' w' (ownsRow_base hv hbase) (grown_any hgr) (fun j hj => .inr (ownsRow_new hv j hj))
end Go.Proofs.Ythbnochlpnikaaa
