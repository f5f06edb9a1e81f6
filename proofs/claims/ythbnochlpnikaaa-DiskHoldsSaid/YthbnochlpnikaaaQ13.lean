/- What the calls of package disk answer, bundled: the statements' walks ask this alone. -/
import Derived.Test.YthbnochlpnikaaaQ11
import Derived.Test.YthbnochlpnikaaaQ10
import Derived.Test.YthbnochlpnikaaaQ12
namespace Go.Proofs.Ythbnochlpnikaaa
open Go.RowKit Go.Shelf

/-- Of what lay there nothing is changed but the blocks F. -/
structure Apart (F : Nat → Prop) (w w' : World) : Prop where
  os : w'.os = w.os
  tape : w'.tape = w.tape
  output : w'.output = w.output
  size : w.heap.size ≤ w'.heap.size
  block : ∀ k, k < w.heap.size → ¬ F k → w'.heap[k]? = w.heap[k]?
theorem Apart.below {F : Nat → Prop} {w0 w w' : World} (h : Apart F w w') (b : Below w0.heap.size w0 w) (hF : ∀ k, F k → w0.heap.size ≤ k) : Below w0.heap.size w0 w' :=
  ⟨h.os.trans b.os, h.tape.trans b.tape, h.output.trans b.output, Nat.le_trans b.size h.size, fun k hk => (h.block k (Nat.lt_of_lt_of_le hk b.size) (fun f => by have := hF k f; omega)).trans (b.block k hk)⟩
theorem Below.apart {w w' : World} (h : Below w.heap.size w w') (F : Nat → Prop) : Apart F w w' := ⟨h.os, h.tape, h.output, h.size, fun k hk _ => h.block k hk⟩
def DiskRep := World → Value → DS → (Nat → Prop) → Prop
/-- A disk behind a call that changes it. -/
def Goes (Rep : DiskRep) (d : Value) (s : DS) (F : Nat → Prop) (w w' : World) : Prop := ∃ F', Rep w' d s F' ∧ (∀ k, F' k → F k ∨ w.heap.size ≤ k) ∧ Apart F w w'
/-- A list of bytes that is handed in. -/
structure BytesIn (w : World) (F : Nat → Prop) (p : Option Addr) (l : List Nat) (cap : Nat) : Prop where
  at' : BytesAt w p l
  byte : ∀ b ∈ l, b < 256
  nil : p = none → cap = 0
  cap : l.length ≤ cap ∧ cap ≤ 9223372036854775807
  apart : l ≠ [] → ∀ B off, p = some ⟨B, off, none⟩ → ¬ F B
structure BoolsIn (w : World) (F : Nat → Prop) (p : Option Addr) (l : List Bool) (cap : Nat) : Prop where
  at' : BoolsAt w p l
  nil : p = none → cap = 0
  cap : l.length ≤ cap ∧ cap ≤ 9223372036854775807
  apart : l ≠ [] → ∀ B off, p = some ⟨B, off, none⟩ → ¬ F B
/-- Bytes that a call tells, in memory of its own (of whatever kind). -/
def TellB (w : World) (l : List Nat) (t : Value) (w' : World) : Prop := (∃ p cap, t = .slice p l.length cap ∧ l.length ≤ cap ∧ cap ≤ maxLen ∧ BytesAt w' p l ∧ ∀ a, p = some a → w.heap.size ≤ a.block) ∧ Below w.heap.size w w'
theorem TellB.at' {w w' : World} {l : List Nat} {t : Value} (h : TellB w l t w') : ∃ p cap, t = .slice p l.length cap ∧ l.length ≤ cap ∧ cap ≤ maxLen ∧ BytesAt w' p l ∧ ∀ a, p = some a → w.heap.size ≤ a.block := h.1
structure DiskOk (Rep : DiskRep) : Prop where
  low : ∀ w d s F, Rep w d s F → ∀ k, F k → k < w.heap.size
  keep : ∀ w w' d s F, Rep w d s F → w.heap.size ≤ w'.heap.size → (∀ k, F k → w'.heap[k]? = w.heap[k]?) → Rep w' d s F
  new : ∀ (n : Nat) w, 1 ≤ n ∧ n ≤ 40000 → Calls Try.prog 7 #[.int .i64 n] w fun r w' => ∃ d F, r = .returned (.tuple #[d, .int .i64 0]) ∧ Rep w' d (newS n) F ∧ (∀ k, F k → w.heap.size ≤ k) ∧ Below w.heap.size w w'
  write : ∀ w d s F (k : Int) p l cap, Rep w d s F → Whole s → Few s → l.length ≤ 200 → BytesIn w F p l cap → Calls Try.prog 15 #[d, .int .i64 k, .slice p l.length cap] w fun r w' => r = .returned (.int .i64 (writeS s k (strOf l)).2) ∧ Goes Rep d (writeS s k (strOf l)).1 F w w'
  sync : ∀ w d s F, Rep w d s F → Whole s → Few s → Calls Try.prog 17 #[d] w fun r w' => r = .returned (.int .i64 (syncS s).2) ∧ Goes Rep d (syncS s).1 F w w'
  stop : ∀ w d s F (n : Int), Rep w d s F → Whole s → -9223372036854775808 ≤ n ∧ n ≤ 9223372036854775807 → Calls Try.prog 20 #[d, .int .i64 n] w fun r w' => r = .returned (.int .i64 (stopS s n).2) ∧ Goes Rep d (stopS s n).1 F w w'
  crash : ∀ w d s F (tear : Int) p keep cap, Rep w d s F → Whole s → Few s → keep.length ≤ 1000 → BoolsIn w F p keep cap → Calls Try.prog 18 #[d, .int .i64 tear, .slice p keep.length cap] w fun r w' => r = .returned (.int .i64 (crashS s tear keep).2) ∧ Goes Rep d (crashS s tear keep).1 F w w'
  read : ∀ w d s F (k : Int), Rep w d s F → Whole s → Few s → Calls Try.prog 19 #[d, .int .i64 k] w fun r w' => ∃ t l, r = .returned (.tuple #[t, .int .i64 (readS s k).2]) ∧ TellB w l t w' ∧ (∀ b ∈ l, b < 256) ∧ strOf l = (readS s k).1
  copy : ∀ w d s F, Rep w d s F → Whole s → Few s → Calls Try.prog 10 #[d] w fun r w' => ∃ d' F', r = .returned d' ∧ Rep w' d' s F' ∧ (∀ k, F' k → w.heap.size ≤ k) ∧ Below w.heap.size w w'
/-- A disk that was made since w0, all of it below m. -/
def Held (Rep : DiskRep) (w0 : World) (m : Nat) (w : World) (d : Value) (s : DS) : Prop := ∃ F, Rep w d s F ∧ ∀ k, F k → w0.heap.size ≤ k ∧ k < m
section
variable {Rep : DiskRep}
theorem Held.kept (S : DiskOk Rep) {w0 w w' : World} {m : Nat} {d : Value} {s : DS} (h : Held Rep w0 m w d s) (b : Below w.heap.size w w') : Held Rep w0 m w' d s := by
  obtain ⟨F, h, hF⟩ := h
  exact ⟨F, S.keep _ _ _ _ _ h b.size (fun k hk => b.block k (S.low _ _ _ _ h k hk)), hF⟩
theorem Held.goes (S : DiskOk Rep) {w0 w w' : World} {d : Value} {s : DS} {F : Nat → Prop} (hF : ∀ k, F k → w0.heap.size ≤ k) (hb : Below w0.heap.size w0 w) (h : Goes Rep d s F w w') : Held Rep w0 w'.heap.size w' d s ∧ Below w0.heap.size w0 w' := by
  obtain ⟨F', hR, h1, h2⟩ := h
  refine ⟨⟨F', hR, fun k hk => ⟨?_, S.low _ _ _ _ hR k hk⟩⟩, h2.below hb hF⟩
  rcases h1 k hk with h | h
  · exact hF k h
  · exact Nat.le_trans hb.size h
theorem held_new (S : DiskOk Rep) (n : Nat) (w : World) (hn : 1 ≤ n ∧ n ≤ 40000) : Calls Try.prog 7 #[.int .i64 n] w fun r w' => ∃ d, r = .returned (.tuple #[d, .int .i64 0]) ∧ Held Rep w w'.heap.size w' d (newS n) ∧ Below w.heap.size w w' := by
  refine (S.new n w hn).mono ?_
  rintro e w' ⟨d, F, rfl, hR, hF, hb⟩
  exact ⟨d, rfl, ⟨F, hR, fun k hk => ⟨hF k hk, S.low _ _ _ _ hR k hk⟩⟩, hb⟩
/-- A sector of one byte is written. -/
theorem held_write (S : DiskOk Rep) {w0 w : World} {m : Nat} {d : Value} {s : DS} (k : Int) (B cap c : Nat) (h : Held Rep w0 m w d s) (hb : Below w0.heap.size w0 w) (hw : Whole s) (hf : Few s) (hc : c < 256) (hB : m ≤ B) (hR : BytesAt w (some ⟨B, 0, none⟩) (List.replicate 64 c)) (h64 : 64 ≤ cap ∧ cap ≤ 9223372036854775807) :
    Calls Try.prog 15 #[d, .int .i64 k, .slice (some ⟨B, 0, none⟩) 64 cap] w fun r w' => r = .returned (.int .i64 (writeS s k (secS c)).2) ∧ Held Rep w0 w'.heap.size w' d (writeS s k (secS c)).1 ∧ Below w0.heap.size w0 w' := by
  obtain ⟨F, h, hF⟩ := h
  have := S.write w d s F k (some ⟨B, 0, none⟩) (List.replicate 64 c) cap h hw hf (by simp) ⟨hR, fun b hb => by rw [List.mem_replicate] at hb; omega, fun e => (by cases e), by rw [List.length_replicate]; exact h64, fun _ B' off e => by injection e with e; injection e with e1 e2; subst e1; exact fun f => by have := (hF _ f).2; omega⟩
  rw [List.length_replicate] at this
  refine this.mono ?_
  rintro e w' ⟨rfl, hg⟩
  exact ⟨rfl, Held.goes S (fun k hk => (hF k hk).1) hb hg⟩
theorem held_sync (S : DiskOk Rep) {w0 w : World} {m : Nat} {d : Value} {s : DS} (h : Held Rep w0 m w d s) (hb : Below w0.heap.size w0 w) (hw : Whole s) (hf : Few s) :
    Calls Try.prog 17 #[d] w fun r w' => r = .returned (.int .i64 (syncS s).2) ∧ Held Rep w0 w'.heap.size w' d (syncS s).1 ∧ Below w0.heap.size w0 w' := by
  obtain ⟨F, h, hF⟩ := h
  refine (S.sync w d s F h hw hf).mono ?_
  rintro e w' ⟨rfl, hg⟩
  exact ⟨rfl, Held.goes S (fun k hk => (hF k hk).1) hb hg⟩
theorem held_stop (S : DiskOk Rep) {w0 w : World} {m : Nat} {d : Value} {s : DS} (n : Int) (hn : -9223372036854775808 ≤ n ∧ n ≤ 9223372036854775807) (h : Held Rep w0 m w d s) (hb : Below w0.heap.size w0 w) (hw : Whole s) :
    Calls Try.prog 20 #[d, .int .i64 n] w fun r w' => r = .returned (.int .i64 (stopS s n).2) ∧ Held Rep w0 w'.heap.size w' d (stopS s n).1 ∧ Below w0.heap.size w0 w' := by
  obtain ⟨F, h, hF⟩ := h
  refine (S.stop w d s F n h hw hn).mono ?_
  rintro e w' ⟨rfl, hg⟩
  exact ⟨rfl, Held.goes S (fun k hk => (hF k hk).1) hb hg⟩
theorem held_crash (S : DiskOk Rep) {w0 w : World} {m : Nat} {d : Value} {s : DS} (tear : Int) (p : Option Addr) (keep : List Bool) (cap : Nat) (h : Held Rep w0 m w d s) (hb : Below w0.heap.size w0 w) (hw : Whole s) (hf : Few s) (hk : keep.length ≤ 1000) (hB : BoolsAt w p keep) (hn : p = none → cap = 0) (hc : keep.length ≤ cap ∧ cap ≤ 9223372036854775807) (hp : keep ≠ [] → ∀ B off, p = some ⟨B, off, none⟩ → B < w0.heap.size ∨ m ≤ B) :
    Calls Try.prog 18 #[d, .int .i64 tear, .slice p keep.length cap] w fun r w' => r = .returned (.int .i64 (crashS s tear keep).2) ∧ Held Rep w0 w'.heap.size w' d (crashS s tear keep).1 ∧ Below w0.heap.size w0 w' := by
  obtain ⟨F, h, hF⟩ := h
  refine (S.crash w d s F tear p keep cap h hw hf hk ⟨hB, hn, hc, fun ne B off e f => by have := hF _ f; have := hp ne B off e; omega⟩).mono ?_
  rintro e w' ⟨rfl, hg⟩
  exact ⟨rfl, Held.goes S (fun k hk => (hF k hk).1) hb hg⟩
theorem held_read (S : DiskOk Rep) {w0 w : World} {m : Nat} {d : Value} {s : DS} (k : Int) (h : Held Rep w0 m w d s) (hw : Whole s) (hf : Few s) :
    Calls Try.prog 19 #[d, .int .i64 k] w fun r w' => ∃ t l, r = .returned (.tuple #[t, .int .i64 (readS s k).2]) ∧ TellB w l t w' ∧ (∀ b ∈ l, b < 256) ∧ strOf l = (readS s k).1 := by
  obtain ⟨F, h, hF⟩ := h
  exact S.read w d s F k h hw hf
end
end Go.Proofs.Ythbnochlpnikaaa
