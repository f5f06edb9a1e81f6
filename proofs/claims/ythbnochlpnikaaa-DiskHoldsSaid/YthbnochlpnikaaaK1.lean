/- Sectors as arrays of bytes, and maps of them. -/
import Derived.Test.YthbnochlpnikaaaQ13
import Derived.Maps.OwnSet
import Derived.Maps.OwnOps
import Derived.Maps.Ext
import Derived.Laws.Rows
import Derived.Laws.Tables
import Derived.Laws.CopyOwn
import Derived.Deep.WholeRow
import Derived.Shelf.SlicesE.Kit
namespace Go.Proofs.Ythbnochlpnikaaa
open Go.RowKit Go.Shelf

/-- The cells of a sector. -/
def bL (b : ByteArray) : List Value := b.data.toList.map fun (c : UInt8) => Value.int .u8 (c.toNat : Int)
def bV (b : ByteArray) : Array Value := (bL b).toArray
theorem bL_length (b : ByteArray) : (bL b).length = b.size := by
  unfold bL
  rw [List.length_map, Array.length_toList]
  rfl
theorem bV_size (b : ByteArray) : (bV b).size = b.size := by
  unfold bV
  rw [List.size_toArray, bL_length]
theorem bL_one (b : ByteArray) : ∀ u ∈ bL b, u.oneCell' = true := fun u hu => by
  obtain ⟨c, _, rfl⟩ := List.mem_map.1 hu
  rfl
theorem bV_one (b : ByteArray) : (bV b).all (·.oneCell') = true := by
  rw [Array.all_eq_true_iff_forall_mem]
  intro u hu
  exact bL_one b u (by simpa [bV] using hu)
theorem bL_inj {a b : ByteArray} (h : bL a = bL b) : a = b := by
  obtain ⟨⟨a⟩⟩ := a
  obtain ⟨⟨b⟩⟩ := b
  simp only [bL] at h
  congr 2
  refine List.map_inj_right (f := fun (c : UInt8) => Value.int .u8 (c.toNat : Int)) ?_ |>.1 h
  intro x y e
  simp only [Value.int.injEq, true_and] at e
  exact UInt8.toNat_inj.1 (by exact_mod_cast e)
theorem bV_inj {a b : ByteArray} (h : bV a = bV b) : a = b := bL_inj (by simpa [bV] using h)
theorem bL_strOf (l : List Nat) (h : ∀ b ∈ l, b < 256) : bL (strOf l) = u8s l := by
  simp only [bL, strOf, u8s, List.map_map]
  refine List.map_congr_left fun x hx => ?_
  have := h x hx
  simp [Nat.mod_eq_of_lt this]
theorem bL_zero : bL (secS 0) = List.replicate 64 (.int .u8 0) := by
  rw [secS, bL_strOf _ (by intro b hb; rw [List.mem_replicate] at hb; omega)]
  simp [u8s]
theorem bytes_of (b : ByteArray) : ∃ l : List Nat, l.length = b.size ∧ (∀ x ∈ l, x < 256) ∧ b = strOf l := by
  refine ⟨b.data.toList.map (·.toNat), ?_, fun x hx => ?_, ?_⟩
  · rw [List.length_map, Array.length_toList]
    rfl
  · obtain ⟨c, _, rfl⟩ := List.mem_map.1 hx
    exact c.toNat_lt
  · obtain ⟨⟨l⟩⟩ := b
    unfold strOf
    congr 1
    rw [List.map_map, show (UInt8.ofNat ∘ fun (x : UInt8) => x.toNat) = id from funext fun c => by simp]
    simp
theorem zero_sec (w : World) : (zeroValue 76).run Try.prog w = .ok (.agg (bV (secS 0))) w := by
  rw [Try.zeroValue76, bV, bL_zero]
  rfl

/-- How a sector reads. -/
def secD (b : ByteArray) : DataW Unit := .lit (.string b.data.toList)
theorem secD_inj {a b : ByteArray} (h : secD a = secD b) : a = b := by
  obtain ⟨⟨a⟩⟩ := a
  obtain ⟨⟨b⟩⟩ := b
  simp [secD] at h
  subst h
  rfl
open Classical in
noncomputable def secR (v : Value) : Option (DataW Unit × List MemPlace) := if h : ∃ b : ByteArray, b.size = 64 ∧ v = .agg (bV b) then some (secD h.choose, []) else none
theorem secR_mk {b : ByteArray} (h : b.size = 64) : secR (.agg (bV b)) = some (secD b, []) := by
  have hx : ∃ c : ByteArray, c.size = 64 ∧ Value.agg (bV b) = .agg (bV c) := ⟨b, h, rfl⟩
  unfold secR
  rw [dif_pos hx]
  have := hx.choose_spec.2
  injection this with this
  rw [← bV_inj this]
theorem secR_inv {v : Value} {z : DataW Unit × List MemPlace} (h : secR v = some z) : ∃ b : ByteArray, b.size = 64 ∧ v = .agg (bV b) ∧ z = (secD b, []) := by
  unfold secR at h
  split at h
  · rename_i hx
    injection h with h
    exact ⟨hx.choose, hx.choose_spec.1, hx.choose_spec.2, h.symm⟩
  · cases h

def kL (k : Nat) : Lit := .int .i64 (k : Int)
theorem kL_inj {i j : Nat} (h : kL i = kL j) : i = j := by
  simp only [kL, Lit.int.injEq, true_and] at h
  exact_mod_cast h
theorem kL_wf {k : Nat} (h : k < 40000) : (kL k).wf = true := by
  simp [kL, Lit.wf, IntKind.min, IntKind.max, IntKind.signed, IntKind.bits]
  omega
def upd (f : Nat → ByteArray) (k : Nat) (b : ByteArray) : Nat → ByteArray := fun j => if j = k then b else f j
/-- A datum that tells what the sectors are: those that are noughts are left out. -/
structure DatIs (D : DataW Unit) (m : Nat) (f : Nat → ByteArray) : Prop where
  at' : ∀ k, k < m → D.atKey (kL k) (secD (secS 0)) = secD (f k)
  has : ∀ k, k < m → Maps.has D (kL k) = decide (f k ≠ secS 0)
  only : ∀ kl, Maps.has D kl = true → ∃ k, k < m ∧ kl = kL k
theorem kL_key (k : Nat) : WideAt.IsKeyLit (kL k) := by unfold kL; exact trivial
theorem DatIs.empty (m : Nat) : DatIs (.map []) m (fun _ => secS 0) := ⟨fun k _ => rfl, fun k _ => by simp [Maps.has], fun kl h => by simp [Maps.has] at h⟩
theorem DatIs.put {D : DataW Unit} {m : Nat} {f : Nat → ByteArray} (h : DatIs D m f) (hm : Maps.IsMap D) {k : Nat} (hk : k < m) {b : ByteArray} (hb : b ≠ secS 0) : DatIs (D.put (kL k) (secD b)) m (upd f k b) := by
  refine ⟨fun j hj => ?_, fun j hj => ?_, fun kl hkl => ?_⟩
  · by_cases e : j = k
    · subst e
      rw [Maps.atKey_put_same hm (kL_key _)]
      simp [upd]
    · rw [Maps.atKey_put_other (fun x => e (kL_inj x))]
      rw [h.at' j hj]
      simp [upd, e]
  · by_cases e : j = k
    · subst e
      rw [Maps.has_put_same hm (kL_key _)]
      simp [upd, hb]
    · rw [Maps.has_put_other (fun x => e (kL_inj x)), h.has j hj]
      simp [upd, e]
  · by_cases e : kl = kL k
    · exact ⟨k, hk, e⟩
    · rw [Maps.has_put_other e] at hkl
      exact h.only kl hkl
theorem DatIs.del {D : DataW Unit} {m : Nat} {f : Nat → ByteArray} (h : DatIs D m f) {k : Nat} : DatIs (D.del (kL k)) m (upd f k (secS 0)) := by
  refine ⟨fun j hj => ?_, fun j hj => ?_, fun kl hkl => ?_⟩
  · by_cases e : j = k
    · subst e
      rw [Maps.atKey_del_same]
      simp [upd]
    · rw [Maps.atKey_del_other (fun x => e (kL_inj x))]
      rw [h.at' j hj]
      simp [upd, e]
  · by_cases e : j = k
    · subst e
      rw [Maps.has_del_same]
      simp [upd]
    · rw [Maps.has_del_other (fun x => e (kL_inj x)), h.has j hj]
      simp [upd, e]
  · by_cases e : kl = kL k
    · subst e; rw [Maps.has_del_same] at hkl; cases hkl
    · rw [Maps.has_del_other e] at hkl
      exact h.only kl hkl
theorem length_le_of_nodup {α : Type} [DecidableEq α] : ∀ (l m : List α), l.Nodup → (∀ x ∈ l, x ∈ m) → l.length ≤ m.length
  | [], _, _, _ => Nat.zero_le _
  | x :: l, m, hn, hs => by
    have hx : x ∈ m := hs x (by simp)
    have ih := length_le_of_nodup l (m.erase x) (List.nodup_cons.1 hn).2 (fun y hy => by
      refine (List.mem_erase_of_ne ?_).2 (hs y (by simp [hy]))
      rintro rfl
      exact (List.nodup_cons.1 hn).1 hy)
    rw [List.length_erase_of_mem hx] at ih
    have := List.length_pos_of_mem hx
    simp only [List.length_cons]
    omega
theorem law3 : Maps.Keyed Try.prog 3 := Maps.int_keyed Try.underlying3
theorem key3 {k : Nat} (h : k < 40000) : keyOf Try.prog 3 (.int .i64 (k : Int)) = some (kL k) := Maps.keyOf_int_mk Try.underlying3 (kL_wf h)
theorem own_small {w : World} {b n m : Nat} {D : DataW Unit} {f : Nat → ByteArray} (h : w.ownsMap Try.prog 3 secR b n D) (hd : DatIs D m f) (hm : m ≤ 40000) : w.ownsMap Try.prog 3 secR b 40000 D := by
  obtain ⟨l, hl, hp, hkey⟩ := h.canon law3
  have hp := Maps.apart_of_rising hp
  obtain ⟨es, clock, hb, F, hs, hD⟩ := h
  refine ⟨es, clock, hb, F, ?_, hD⟩
  have e1 : es.size = Maps.size D := by rw [hD, Maps.size_eq, length_read]
  rw [e1]
  subst hl
  rw [Maps.size_eq]
  letI : DecidableEq Lit := fun a b => Classical.propDecidable _
  have h1 := length_le_of_nodup (l.map (·.1)) ((List.range m).map kL) (by
    unfold List.Nodup
    rw [List.pairwise_map]
    exact hp) (fun x hx => by
      obtain ⟨p, hp1, rfl⟩ := List.mem_map.1 hx
      have : Maps.has (.map l : DataW Unit) p.1 = true := by
        rw [Maps.has_eq, List.any_eq_true]
        exact ⟨p, hp1, WideAt.sameKey_self (hkey p hp1)⟩
      obtain ⟨k, hk, e⟩ := hd.only _ this
      rw [e]
      exact List.mem_map.2 ⟨k, List.mem_range.2 hk, rfl⟩)
  simp at h1
  omega
end Go.Proofs.Ythbnochlpnikaaa
