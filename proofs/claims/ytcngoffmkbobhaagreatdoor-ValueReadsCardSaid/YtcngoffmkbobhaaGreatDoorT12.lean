import Derived.Test.YtcngoffmkbobhaaGreatDoorT11
namespace Go.Proofs.YtcngoffmkbobhaaGreatDoor
open Go.RowKit

set_option maxRecDepth 100000 in
set_option maxHeartbeats 1000000 in
theorem value_blob_open (b : Nat) (s : ByteArray) (w0 w : World) (hw0 : Base w0) (hw : Below w0.heap.size w0 w) (hs : s.size ≤ 1000000) (hB : w0.heap.size ≤ b) (hlt : b < w.heap.size) (h : w.cell? ⟨b, 0, none⟩ = some (.string s)) (hf : w.frozen? ⟨b, 0, none⟩ = false)
    (h1 : (s.toList == [110, 117, 108, 108]) = false) (h2 : (s.toList == [102, 97, 108, 115, 101]) = false) (h3 : (s.toList == [116, 114, 117, 101]) = false) (hp1 : Hid (Lib.hasPrefix s.data.toList (⟨#[39]⟩ : ByteArray).data.toList = false)) (hp : Hid (Lib.hasPrefix s.data.toList (⟨#[120, 39]⟩ : ByteArray).data.toList = true)) (hr : (restOf s (⟨#[120, 39]⟩ : ByteArray)).size ≤ 1000000) (hsuf : Hid (Lib.hasSuffix (restOf s (⟨#[120, 39]⟩ : ByteArray)).data.toList [39] = false)) :
    Calls Tryz.prog 54 #[.pointer (some ⟨b, 0, none⟩)] w fun r w' => r = gaveUp 110 ∧ Below w0.heap.size w0 w' := by
  have c1 : ∀ o, (w.alloc o).cell? ⟨b, 0, none⟩ = some (.string s) := fun o => (World.cell?_alloc_past _ _ _ hlt).trans h
  have f1 : ∀ c t, (w.alloc (.cells c t)).frozen? ⟨b, 0, none⟩ = false := fun c t => (World.frozen?_alloc_past _ _ _ hlt).trans hf
  have hsz : ∀ t, (w.setCell ⟨b, 0, none⟩ t).heap.size = w.heap.size := fun t => by simp
  have cs1 : ∀ t, (w.setCell ⟨b, 0, none⟩ (.string t)).cell? ⟨b, 0, none⟩ = some (.string t) := fun t => World.cell?_setCell_same _ _ _ h
  have fs1 : ∀ t, (w.setCell ⟨b, 0, none⟩ (.string t)).frozen? ⟨b, 0, none⟩ = false := fun t => by rw [World.frozen?_setCell]; exact hf
  have c2 : ∀ o t, ((w.setCell ⟨b, 0, none⟩ (.string t)).alloc o).cell? ⟨b, 0, none⟩ = some (.string t) := fun o t => (World.cell?_alloc_past _ _ _ (by rw [hsz]; exact hlt)).trans (cs1 t)
  have f2 : ∀ o t, ((w.setCell ⟨b, 0, none⟩ (.string t)).alloc o).frozen? ⟨b, 0, none⟩ = false := fun o t => (World.frozen?_alloc_past _ _ _ (by rw [hsz]; exact hlt)).trans (fs1 t)
  have c3 : ∀ o t u, (((w.setCell ⟨b, 0, none⟩ (.string t)).setCell ⟨b, 0, none⟩ (.string u)).alloc o).cell? ⟨b, 0, none⟩ = some (.string u) := fun o t u => (World.cell?_alloc_past _ _ _ (by simp; exact hlt)).trans (World.cell?_setCell_same _ _ _ (cs1 t))
  have hb1 : ∀ t u o, Below w0.heap.size w0 (((w.setCell ⟨b, 0, none⟩ (.string t)).setCell ⟨b, 0, none⟩ (.string u)).alloc o) := fun t u o => ((hw.setCell (p := ⟨b, 0, none⟩) hB _).setCell (p := ⟨b, 0, none⟩) hB _).alloc (by have := hw.size; simp; omega) o
  have HB1 : Below w0.heap.size w0 (((w.setCell ⟨b, 0, none⟩ (.string s)).setCell ⟨b, 0, none⟩ (.string (restOf s ⟨#[120, 39]⟩))).alloc resObj) := hb1 s (restOf s ⟨#[120, 39]⟩) resObj
  clear hsz cs1 fs1 hb1
  go_enter Tryz.func54, Tryz.ntmps54
  go_wp2_with (first | (go_at_call 65; refine (take_any _ _ _ _ (c1 _) (f1 _ _)).mono ?_; rintro e w2 ⟨rfl, rfl⟩; rw [hp1.out, restOf_no _ _ hp1.out]) | (go_at_call 65; with_reducible refine (take_any _ _ _ _ (c2 _ _) (f2 _ _)).mono ?_; rintro e w2 ⟨rfl, rfl⟩; rw [hp.out]) | (go_at_call 68; refine (body_no _ _ _ hr (c3 _ _ _) hsuf).mono ?_; rintro e w3 ⟨rfl, rfl⟩))
  exact ⟨rfl, rfl, HB1⟩

set_option maxRecDepth 100000 in
set_option maxHeartbeats 1000000 in
theorem value_blob_bad (b : Nat) (s : ByteArray) (w0 w : World) (hw0 : Base w0) (hw : Below w0.heap.size w0 w) (hs : s.size ≤ 1000000) (hB : w0.heap.size ≤ b) (hlt : b < w.heap.size) (h : w.cell? ⟨b, 0, none⟩ = some (.string s)) (hf : w.frozen? ⟨b, 0, none⟩ = false)
    (h1 : (s.toList == [110, 117, 108, 108]) = false) (h2 : (s.toList == [102, 97, 108, 115, 101]) = false) (h3 : (s.toList == [116, 114, 117, 101]) = false) (hp1 : Hid (Lib.hasPrefix s.data.toList (⟨#[39]⟩ : ByteArray).data.toList = false)) (hp : Hid (Lib.hasPrefix s.data.toList (⟨#[120, 39]⟩ : ByteArray).data.toList = true)) (hr : (restOf s (⟨#[120, 39]⟩ : ByteArray)).size ≤ 1000000) (hsuf : Hid (Lib.hasSuffix (restOf s (⟨#[120, 39]⟩ : ByteArray)).data.toList [39] = true)) (hbs : (⟨(Lib.trimSuffix (restOf s (⟨#[120, 39]⟩ : ByteArray)).data.toList [39]).toArray⟩ : ByteArray).size ≤ 1000000) (hev : (⟨(Lib.trimSuffix (restOf s (⟨#[120, 39]⟩ : ByteArray)).data.toList [39]).toArray⟩ : ByteArray).size % 2 = 0) (hq : Hid (unhex (⟨(Lib.trimSuffix (restOf s (⟨#[120, 39]⟩ : ByteArray)).data.toList [39]).toArray⟩ : ByteArray).data.toList = none)) :
    Calls Tryz.prog 54 #[.pointer (some ⟨b, 0, none⟩)] w fun r w' => r = gaveUp 110 ∧ Below w0.heap.size w0 w' := by
  have c1 : ∀ o, (w.alloc o).cell? ⟨b, 0, none⟩ = some (.string s) := fun o => (World.cell?_alloc_past _ _ _ hlt).trans h
  have f1 : ∀ c t, (w.alloc (.cells c t)).frozen? ⟨b, 0, none⟩ = false := fun c t => (World.frozen?_alloc_past _ _ _ hlt).trans hf
  have hsz : ∀ t, (w.setCell ⟨b, 0, none⟩ t).heap.size = w.heap.size := fun t => by simp
  have cs1 : ∀ t, (w.setCell ⟨b, 0, none⟩ (.string t)).cell? ⟨b, 0, none⟩ = some (.string t) := fun t => World.cell?_setCell_same _ _ _ h
  have fs1 : ∀ t, (w.setCell ⟨b, 0, none⟩ (.string t)).frozen? ⟨b, 0, none⟩ = false := fun t => by rw [World.frozen?_setCell]; exact hf
  have c2 : ∀ o t, ((w.setCell ⟨b, 0, none⟩ (.string t)).alloc o).cell? ⟨b, 0, none⟩ = some (.string t) := fun o t => (World.cell?_alloc_past _ _ _ (by rw [hsz]; exact hlt)).trans (cs1 t)
  have f2 : ∀ o t, ((w.setCell ⟨b, 0, none⟩ (.string t)).alloc o).frozen? ⟨b, 0, none⟩ = false := fun o t => (World.frozen?_alloc_past _ _ _ (by rw [hsz]; exact hlt)).trans (fs1 t)
  have c3 : ∀ o t u, (((w.setCell ⟨b, 0, none⟩ (.string t)).setCell ⟨b, 0, none⟩ (.string u)).alloc o).cell? ⟨b, 0, none⟩ = some (.string u) := fun o t u => (World.cell?_alloc_past _ _ _ (by simp; exact hlt)).trans (World.cell?_setCell_same _ _ _ (cs1 t))
  have hb1 : ∀ t u o, Below w0.heap.size w0 (((w.setCell ⟨b, 0, none⟩ (.string t)).setCell ⟨b, 0, none⟩ (.string u)).alloc o) := fun t u o => ((hw.setCell (p := ⟨b, 0, none⟩) hB _).setCell (p := ⟨b, 0, none⟩) hB _).alloc (by have := hw.size; simp; omega) o
  have HB1 : Below w0.heap.size w0 (((w.setCell ⟨b, 0, none⟩ (.string s)).setCell ⟨b, 0, none⟩ (.string (restOf s ⟨#[120, 39]⟩))).alloc resObj) := hb1 s (restOf s ⟨#[120, 39]⟩) resObj
  clear hsz cs1 fs1 hb1
  go_enter Tryz.func54, Tryz.ntmps54
  go_wp2_with (first | (go_at_call 65; refine (take_any _ _ _ _ (c1 _) (f1 _ _)).mono ?_; rintro e w2 ⟨rfl, rfl⟩; rw [hp1.out, restOf_no _ _ hp1.out]) | (go_at_call 65; with_reducible refine (take_any _ _ _ _ (c2 _ _) (f2 _ _)).mono ?_; rintro e w2 ⟨rfl, rfl⟩; rw [hp.out]) | (go_at_call 68; refine (body_ok _ _ _ hr (c3 _ _ _) hsuf).mono ?_; rintro e w3 ⟨rfl, rfl⟩) | (go_at_call 69; refine (paired_bad _ _ hbs hev hq).mono ?_; rintro e w4 ⟨rfl, hb4⟩))
  exact ⟨rfl, rfl, HB1.trans (hb4.mono (by have := HB1.size; simpa using this))⟩

set_option maxRecDepth 100000 in
set_option maxHeartbeats 1000000 in
theorem value_blob_odd (b : Nat) (s : ByteArray) (w0 w : World) (hw0 : Base w0) (hw : Below w0.heap.size w0 w) (hs : s.size ≤ 1000000) (hB : w0.heap.size ≤ b) (hlt : b < w.heap.size) (h : w.cell? ⟨b, 0, none⟩ = some (.string s)) (hf : w.frozen? ⟨b, 0, none⟩ = false)
    (h1 : (s.toList == [110, 117, 108, 108]) = false) (h2 : (s.toList == [102, 97, 108, 115, 101]) = false) (h3 : (s.toList == [116, 114, 117, 101]) = false) (hp1 : Hid (Lib.hasPrefix s.data.toList (⟨#[39]⟩ : ByteArray).data.toList = false)) (hp : Hid (Lib.hasPrefix s.data.toList (⟨#[120, 39]⟩ : ByteArray).data.toList = true)) (hr : (restOf s (⟨#[120, 39]⟩ : ByteArray)).size ≤ 1000000) (hsuf : Hid (Lib.hasSuffix (restOf s (⟨#[120, 39]⟩ : ByteArray)).data.toList [39] = true)) (hbs : (⟨(Lib.trimSuffix (restOf s (⟨#[120, 39]⟩ : ByteArray)).data.toList [39]).toArray⟩ : ByteArray).size ≤ 1000000) (hev : (⟨(Lib.trimSuffix (restOf s (⟨#[120, 39]⟩ : ByteArray)).data.toList [39]).toArray⟩ : ByteArray).size % 2 = 1) :
    Calls Tryz.prog 54 #[.pointer (some ⟨b, 0, none⟩)] w fun r w' => r = gaveUp 110 ∧ Below w0.heap.size w0 w' := by
  have c1 : ∀ o, (w.alloc o).cell? ⟨b, 0, none⟩ = some (.string s) := fun o => (World.cell?_alloc_past _ _ _ hlt).trans h
  have f1 : ∀ c t, (w.alloc (.cells c t)).frozen? ⟨b, 0, none⟩ = false := fun c t => (World.frozen?_alloc_past _ _ _ hlt).trans hf
  have hsz : ∀ t, (w.setCell ⟨b, 0, none⟩ t).heap.size = w.heap.size := fun t => by simp
  have cs1 : ∀ t, (w.setCell ⟨b, 0, none⟩ (.string t)).cell? ⟨b, 0, none⟩ = some (.string t) := fun t => World.cell?_setCell_same _ _ _ h
  have fs1 : ∀ t, (w.setCell ⟨b, 0, none⟩ (.string t)).frozen? ⟨b, 0, none⟩ = false := fun t => by rw [World.frozen?_setCell]; exact hf
  have c2 : ∀ o t, ((w.setCell ⟨b, 0, none⟩ (.string t)).alloc o).cell? ⟨b, 0, none⟩ = some (.string t) := fun o t => (World.cell?_alloc_past _ _ _ (by rw [hsz]; exact hlt)).trans (cs1 t)
  have f2 : ∀ o t, ((w.setCell ⟨b, 0, none⟩ (.string t)).alloc o).frozen? ⟨b, 0, none⟩ = false := fun o t => (World.frozen?_alloc_past _ _ _ (by rw [hsz]; exact hlt)).trans (fs1 t)
  have c3 : ∀ o t u, (((w.setCell ⟨b, 0, none⟩ (.string t)).setCell ⟨b, 0, none⟩ (.string u)).alloc o).cell? ⟨b, 0, none⟩ = some (.string u) := fun o t u => (World.cell?_alloc_past _ _ _ (by simp; exact hlt)).trans (World.cell?_setCell_same _ _ _ (cs1 t))
  have hb1 : ∀ t u o, Below w0.heap.size w0 (((w.setCell ⟨b, 0, none⟩ (.string t)).setCell ⟨b, 0, none⟩ (.string u)).alloc o) := fun t u o => ((hw.setCell (p := ⟨b, 0, none⟩) hB _).setCell (p := ⟨b, 0, none⟩) hB _).alloc (by have := hw.size; simp; omega) o
  have HB1 : Below w0.heap.size w0 (((w.setCell ⟨b, 0, none⟩ (.string s)).setCell ⟨b, 0, none⟩ (.string (restOf s ⟨#[120, 39]⟩))).alloc resObj) := hb1 s (restOf s ⟨#[120, 39]⟩) resObj
  clear hsz cs1 fs1 hb1
  go_enter Tryz.func54, Tryz.ntmps54
  go_wp2_with (first | (go_at_call 65; refine (take_any _ _ _ _ (c1 _) (f1 _ _)).mono ?_; rintro e w2 ⟨rfl, rfl⟩; rw [hp1.out, restOf_no _ _ hp1.out]) | (go_at_call 65; with_reducible refine (take_any _ _ _ _ (c2 _ _) (f2 _ _)).mono ?_; rintro e w2 ⟨rfl, rfl⟩; rw [hp.out]) | (go_at_call 68; refine (body_ok _ _ _ hr (c3 _ _ _) hsuf).mono ?_; rintro e w3 ⟨rfl, rfl⟩) | (go_at_call 69; refine (paired_odd _ _ hbs hev).mono ?_; rintro e w4 ⟨rfl, hb4⟩))
  exact ⟨rfl, rfl, HB1.trans (hb4.mono (by have := HB1.size; simpa using this))⟩

set_option maxRecDepth 100000 in
set_option maxHeartbeats 1000000 in
theorem value_blob_long (b : Nat) (s : ByteArray) (w0 w : World) (hw0 : Base w0) (hw : Below w0.heap.size w0 w) (hs : s.size ≤ 1000000) (hB : w0.heap.size ≤ b) (hlt : b < w.heap.size) (h : w.cell? ⟨b, 0, none⟩ = some (.string s)) (hf : w.frozen? ⟨b, 0, none⟩ = false)
    (h1 : (s.toList == [110, 117, 108, 108]) = false) (h2 : (s.toList == [102, 97, 108, 115, 101]) = false) (h3 : (s.toList == [116, 114, 117, 101]) = false) (hp1 : Hid (Lib.hasPrefix s.data.toList (⟨#[39]⟩ : ByteArray).data.toList = false)) (hp : Hid (Lib.hasPrefix s.data.toList (⟨#[120, 39]⟩ : ByteArray).data.toList = true)) (hr : (restOf s (⟨#[120, 39]⟩ : ByteArray)).size ≤ 1000000) (hsuf : Hid (Lib.hasSuffix (restOf s (⟨#[120, 39]⟩ : ByteArray)).data.toList [39] = true)) (hbs : (⟨(Lib.trimSuffix (restOf s (⟨#[120, 39]⟩ : ByteArray)).data.toList [39]).toArray⟩ : ByteArray).size ≤ 1000000) (out : List UInt8) (hev : (⟨(Lib.trimSuffix (restOf s (⟨#[120, 39]⟩ : ByteArray)).data.toList [39]).toArray⟩ : ByteArray).size % 2 = 0) (hq : Hid (unhex (⟨(Lib.trimSuffix (restOf s (⟨#[120, 39]⟩ : ByteArray)).data.toList [39]).toArray⟩ : ByteArray).data.toList = some out)) (hlen : 1000 < (⟨out.toArray⟩ : ByteArray).size) :
    Calls Tryz.prog 54 #[.pointer (some ⟨b, 0, none⟩)] w fun r w' => r = gaveUp 3 ∧ Below w0.heap.size w0 w' := by
  have c1 : ∀ o, (w.alloc o).cell? ⟨b, 0, none⟩ = some (.string s) := fun o => (World.cell?_alloc_past _ _ _ hlt).trans h
  have f1 : ∀ c t, (w.alloc (.cells c t)).frozen? ⟨b, 0, none⟩ = false := fun c t => (World.frozen?_alloc_past _ _ _ hlt).trans hf
  have hsz : ∀ t, (w.setCell ⟨b, 0, none⟩ t).heap.size = w.heap.size := fun t => by simp
  have cs1 : ∀ t, (w.setCell ⟨b, 0, none⟩ (.string t)).cell? ⟨b, 0, none⟩ = some (.string t) := fun t => World.cell?_setCell_same _ _ _ h
  have fs1 : ∀ t, (w.setCell ⟨b, 0, none⟩ (.string t)).frozen? ⟨b, 0, none⟩ = false := fun t => by rw [World.frozen?_setCell]; exact hf
  have c2 : ∀ o t, ((w.setCell ⟨b, 0, none⟩ (.string t)).alloc o).cell? ⟨b, 0, none⟩ = some (.string t) := fun o t => (World.cell?_alloc_past _ _ _ (by rw [hsz]; exact hlt)).trans (cs1 t)
  have f2 : ∀ o t, ((w.setCell ⟨b, 0, none⟩ (.string t)).alloc o).frozen? ⟨b, 0, none⟩ = false := fun o t => (World.frozen?_alloc_past _ _ _ (by rw [hsz]; exact hlt)).trans (fs1 t)
  have c3 : ∀ o t u, (((w.setCell ⟨b, 0, none⟩ (.string t)).setCell ⟨b, 0, none⟩ (.string u)).alloc o).cell? ⟨b, 0, none⟩ = some (.string u) := fun o t u => (World.cell?_alloc_past _ _ _ (by simp; exact hlt)).trans (World.cell?_setCell_same _ _ _ (cs1 t))
  have hb1 : ∀ t u o, Below w0.heap.size w0 (((w.setCell ⟨b, 0, none⟩ (.string t)).setCell ⟨b, 0, none⟩ (.string u)).alloc o) := fun t u o => ((hw.setCell (p := ⟨b, 0, none⟩) hB _).setCell (p := ⟨b, 0, none⟩) hB _).alloc (by have := hw.size; simp; omega) o
  have HB1 : Below w0.heap.size w0 (((w.setCell ⟨b, 0, none⟩ (.string s)).setCell ⟨b, 0, none⟩ (.string (restOf s ⟨#[120, 39]⟩))).alloc resObj) := hb1 s (restOf s ⟨#[120, 39]⟩) resObj
  have hszW : Hid (w.heap.size = ((w.setCell ⟨b, 0, none⟩ (.string s)).setCell ⟨b, 0, none⟩ (.string (restOf s ⟨#[120, 39]⟩))).heap.size) := (show w.heap.size = ((w.setCell ⟨b, 0, none⟩ (.string s)).setCell ⟨b, 0, none⟩ (.string (restOf s ⟨#[120, 39]⟩))).heap.size by simp)
  clear hsz cs1 fs1 hb1
  go_enter Tryz.func54, Tryz.ntmps54
  go_wp2_with (first | (go_at_call 65; refine (take_any _ _ _ _ (c1 _) (f1 _ _)).mono ?_; rintro e w2 ⟨rfl, rfl⟩; rw [hp1.out, restOf_no _ _ hp1.out]) | (go_at_call 65; with_reducible refine (take_any _ _ _ _ (c2 _ _) (f2 _ _)).mono ?_; rintro e w2 ⟨rfl, rfl⟩; rw [hp.out]) | (go_at_call 68; refine (body_ok _ _ _ hr (c3 _ _ _) hsuf).mono ?_; rintro e w3 ⟨rfl, rfl⟩) | (go_at_call 69; refine (paired_ok _ out _ hbs hev hq).mono ?_; rintro e w4 ⟨rfl, hb4⟩; obtain ⟨k0, k1, k2, f0, f1, f2⟩ := res_facts hszW.out hb4) | (go_at_call 66; refine (few_no _ hlen _).mono ?_; rintro e w5 ⟨rfl, rfl⟩))
  exact ⟨rfl, rfl, HB1.trans (hb4.mono (by have := HB1.size; simpa using this))⟩

set_option maxRecDepth 100000 in
set_option maxHeartbeats 1000000 in
theorem value_blob_ok (b : Nat) (s : ByteArray) (w0 w : World) (hw0 : Base w0) (hw : Below w0.heap.size w0 w) (hs : s.size ≤ 1000000) (hB : w0.heap.size ≤ b) (hlt : b < w.heap.size) (h : w.cell? ⟨b, 0, none⟩ = some (.string s)) (hf : w.frozen? ⟨b, 0, none⟩ = false)
    (h1 : (s.toList == [110, 117, 108, 108]) = false) (h2 : (s.toList == [102, 97, 108, 115, 101]) = false) (h3 : (s.toList == [116, 114, 117, 101]) = false) (hp1 : Hid (Lib.hasPrefix s.data.toList (⟨#[39]⟩ : ByteArray).data.toList = false)) (hp : Hid (Lib.hasPrefix s.data.toList (⟨#[120, 39]⟩ : ByteArray).data.toList = true)) (hr : (restOf s (⟨#[120, 39]⟩ : ByteArray)).size ≤ 1000000) (hsuf : Hid (Lib.hasSuffix (restOf s (⟨#[120, 39]⟩ : ByteArray)).data.toList [39] = true)) (hbs : (⟨(Lib.trimSuffix (restOf s (⟨#[120, 39]⟩ : ByteArray)).data.toList [39]).toArray⟩ : ByteArray).size ≤ 1000000) (out : List UInt8) (hev : (⟨(Lib.trimSuffix (restOf s (⟨#[120, 39]⟩ : ByteArray)).data.toList [39]).toArray⟩ : ByteArray).size % 2 = 0) (hq : Hid (unhex (⟨(Lib.trimSuffix (restOf s (⟨#[120, 39]⟩ : ByteArray)).data.toList [39]).toArray⟩ : ByteArray).data.toList = some out)) (hlen : (⟨out.toArray⟩ : ByteArray).size ≤ 1000) :
    Calls Tryz.prog 54 #[.pointer (some ⟨b, 0, none⟩)] w fun r w' => r = .returned (.agg #[.int .i64 4, .int .i64 0, .string ⟨out.toArray⟩]) ∧ Below w0.heap.size w0 w' := by
  have c1 : ∀ o, (w.alloc o).cell? ⟨b, 0, none⟩ = some (.string s) := fun o => (World.cell?_alloc_past _ _ _ hlt).trans h
  have f1 : ∀ c t, (w.alloc (.cells c t)).frozen? ⟨b, 0, none⟩ = false := fun c t => (World.frozen?_alloc_past _ _ _ hlt).trans hf
  have hsz : ∀ t, (w.setCell ⟨b, 0, none⟩ t).heap.size = w.heap.size := fun t => by simp
  have cs1 : ∀ t, (w.setCell ⟨b, 0, none⟩ (.string t)).cell? ⟨b, 0, none⟩ = some (.string t) := fun t => World.cell?_setCell_same _ _ _ h
  have fs1 : ∀ t, (w.setCell ⟨b, 0, none⟩ (.string t)).frozen? ⟨b, 0, none⟩ = false := fun t => by rw [World.frozen?_setCell]; exact hf
  have c2 : ∀ o t, ((w.setCell ⟨b, 0, none⟩ (.string t)).alloc o).cell? ⟨b, 0, none⟩ = some (.string t) := fun o t => (World.cell?_alloc_past _ _ _ (by rw [hsz]; exact hlt)).trans (cs1 t)
  have f2 : ∀ o t, ((w.setCell ⟨b, 0, none⟩ (.string t)).alloc o).frozen? ⟨b, 0, none⟩ = false := fun o t => (World.frozen?_alloc_past _ _ _ (by rw [hsz]; exact hlt)).trans (fs1 t)
  have c3 : ∀ o t u, (((w.setCell ⟨b, 0, none⟩ (.string t)).setCell ⟨b, 0, none⟩ (.string u)).alloc o).cell? ⟨b, 0, none⟩ = some (.string u) := fun o t u => (World.cell?_alloc_past _ _ _ (by simp; exact hlt)).trans (World.cell?_setCell_same _ _ _ (cs1 t))
  have hb1 : ∀ t u o, Below w0.heap.size w0 (((w.setCell ⟨b, 0, none⟩ (.string t)).setCell ⟨b, 0, none⟩ (.string u)).alloc o) := fun t u o => ((hw.setCell (p := ⟨b, 0, none⟩) hB _).setCell (p := ⟨b, 0, none⟩) hB _).alloc (by have := hw.size; simp; omega) o
  have HB1 : Below w0.heap.size w0 (((w.setCell ⟨b, 0, none⟩ (.string s)).setCell ⟨b, 0, none⟩ (.string (restOf s ⟨#[120, 39]⟩))).alloc resObj) := hb1 s (restOf s ⟨#[120, 39]⟩) resObj
  have hszW : Hid (w.heap.size = ((w.setCell ⟨b, 0, none⟩ (.string s)).setCell ⟨b, 0, none⟩ (.string (restOf s ⟨#[120, 39]⟩))).heap.size) := (show w.heap.size = ((w.setCell ⟨b, 0, none⟩ (.string s)).setCell ⟨b, 0, none⟩ (.string (restOf s ⟨#[120, 39]⟩))).heap.size by simp)
  clear hsz cs1 fs1 hb1
  go_enter Tryz.func54, Tryz.ntmps54
  go_wp2_with (first | (go_at_call 65; refine (take_any _ _ _ _ (c1 _) (f1 _ _)).mono ?_; rintro e w2 ⟨rfl, rfl⟩; rw [hp1.out, restOf_no _ _ hp1.out]) | (go_at_call 65; with_reducible refine (take_any _ _ _ _ (c2 _ _) (f2 _ _)).mono ?_; rintro e w2 ⟨rfl, rfl⟩; rw [hp.out]) | (go_at_call 68; refine (body_ok _ _ _ hr (c3 _ _ _) hsuf).mono ?_; rintro e w3 ⟨rfl, rfl⟩) | (go_at_call 69; refine (paired_ok _ out _ hbs hev hq).mono ?_; rintro e w4 ⟨rfl, hb4⟩; obtain ⟨k0, k1, k2, f0, f1, f2⟩ := res_facts hszW.out hb4) | (go_at_call 66; refine (few_ok _ hlen _).mono ?_; rintro e w5 ⟨rfl, rfl⟩))
  refine bodyPost_ret (v := .agg #[.int .i64 4, .int .i64 0, .string ⟨out.toArray⟩]) ?_ rfl ⟨rfl, ?_⟩
  · simp [results, Tryz.results54, go_sem, k0, k1, k2]
  · have h4 := HB1.trans (hb4.mono (by have := HB1.size; simpa using this))
    exact (((h4.setCell hw.size _).setCell hw.size _).setCell hw.size _)

set_option maxRecDepth 100000 in
set_option maxHeartbeats 1000000 in
theorem value_num_ok (b : Nat) (s : ByteArray) (w0 w : World) (hw0 : Base w0) (hw : Below w0.heap.size w0 w) (hs : s.size ≤ 1000000) (hB : w0.heap.size ≤ b) (hlt : b < w.heap.size) (h : w.cell? ⟨b, 0, none⟩ = some (.string s)) (hf : w.frozen? ⟨b, 0, none⟩ = false)
    (h1 : (s.toList == [110, 117, 108, 108]) = false) (h2 : (s.toList == [102, 97, 108, 115, 101]) = false) (h3 : (s.toList == [116, 114, 117, 101]) = false) (hp1 : Hid (Lib.hasPrefix s.data.toList (⟨#[39]⟩ : ByteArray).data.toList = false)) (hp2 : Hid (Lib.hasPrefix s.data.toList (⟨#[120, 39]⟩ : ByteArray).data.toList = false)) (n : Int) (h0 : -9223372036854775808 ≤ n) (hmx : n ≤ 9223372036854775807) (hc : Hid (Lib.parseIntB 64 s.data.toList = .ok n)) (hn : Hid ((⟨(Lib.itoa n).toArray⟩ : ByteArray) = s)) :
    Calls Tryz.prog 54 #[.pointer (some ⟨b, 0, none⟩)] w fun r w' => r = .returned (.agg #[.int .i64 2, .int .i64 n, .string ⟨#[]⟩]) ∧ Below w0.heap.size w0 w' := by
  have c1 : ∀ o, (w.alloc o).cell? ⟨b, 0, none⟩ = some (.string s) := fun o => (World.cell?_alloc_past _ _ _ hlt).trans h
  have f1 : ∀ c t, (w.alloc (.cells c t)).frozen? ⟨b, 0, none⟩ = false := fun c t => (World.frozen?_alloc_past _ _ _ hlt).trans hf
  have hsz : ∀ t, (w.setCell ⟨b, 0, none⟩ t).heap.size = w.heap.size := fun t => by simp
  have cs1 : ∀ t, (w.setCell ⟨b, 0, none⟩ (.string t)).cell? ⟨b, 0, none⟩ = some (.string t) := fun t => World.cell?_setCell_same _ _ _ h
  have fs1 : ∀ t, (w.setCell ⟨b, 0, none⟩ (.string t)).frozen? ⟨b, 0, none⟩ = false := fun t => by rw [World.frozen?_setCell]; exact hf
  have c2 : ∀ o t, ((w.setCell ⟨b, 0, none⟩ (.string t)).alloc o).cell? ⟨b, 0, none⟩ = some (.string t) := fun o t => (World.cell?_alloc_past _ _ _ (by rw [hsz]; exact hlt)).trans (cs1 t)
  have f2 : ∀ o t, ((w.setCell ⟨b, 0, none⟩ (.string t)).alloc o).frozen? ⟨b, 0, none⟩ = false := fun o t => (World.frozen?_alloc_past _ _ _ (by rw [hsz]; exact hlt)).trans (fs1 t)
  have c3 : ∀ o t u, (((w.setCell ⟨b, 0, none⟩ (.string t)).setCell ⟨b, 0, none⟩ (.string u)).alloc o).cell? ⟨b, 0, none⟩ = some (.string u) := fun o t u => (World.cell?_alloc_past _ _ _ (by simp; exact hlt)).trans (World.cell?_setCell_same _ _ _ (cs1 t))
  have hb1 : ∀ t u o, Below w0.heap.size w0 (((w.setCell ⟨b, 0, none⟩ (.string t)).setCell ⟨b, 0, none⟩ (.string u)).alloc o) := fun t u o => ((hw.setCell (p := ⟨b, 0, none⟩) hB _).setCell (p := ⟨b, 0, none⟩) hB _).alloc (by have := hw.size; simp; omega) o
  have HB1 : Below w0.heap.size w0 (((w.setCell ⟨b, 0, none⟩ (.string s)).setCell ⟨b, 0, none⟩ (.string s)).alloc resObj) := hb1 s s resObj
  have hszW : Hid (w.heap.size = ((w.setCell ⟨b, 0, none⟩ (.string s)).setCell ⟨b, 0, none⟩ (.string s)).heap.size) := (show w.heap.size = ((w.setCell ⟨b, 0, none⟩ (.string s)).setCell ⟨b, 0, none⟩ (.string s)).heap.size by simp)
  clear hsz cs1 fs1 hb1
  go_enter Tryz.func54, Tryz.ntmps54
  go_wp2_with (first | (go_at_call 65; refine (take_any _ _ _ _ (c1 _) (f1 _ _)).mono ?_; rintro e w2 ⟨rfl, rfl⟩; rw [hp1.out, restOf_no _ _ hp1.out]) | (go_at_call 65; with_reducible refine (take_any _ _ _ _ (c2 _ _) (f2 _ _)).mono ?_; rintro e w2 ⟨rfl, rfl⟩; rw [hp2.out, restOf_no _ _ hp2.out]) | (go_at_call 70; refine (number_ok s n _ (hw0.below HB1) hs h0 hmx hc.out hn).mono ?_; rintro e w4 ⟨rfl, hb4⟩; obtain ⟨k0, k1, k2, f0, f1, f2⟩ := res_facts hszW.out hb4))
  refine bodyPost_ret (v := .agg #[.int .i64 2, .int .i64 n, .string ⟨#[]⟩]) ?_ rfl ⟨rfl, ?_⟩
  · simp [results, Tryz.results54, go_sem, k0, k1, k2]
  · have h4 := HB1.trans (hb4.mono (by have := HB1.size; simpa using this))
    exact (((h4.setCell hw.size _).setCell hw.size _).setCell hw.size _)

set_option maxRecDepth 100000 in
set_option maxHeartbeats 1000000 in
theorem value_num_unlike (b : Nat) (s : ByteArray) (w0 w : World) (hw0 : Base w0) (hw : Below w0.heap.size w0 w) (hs : s.size ≤ 1000000) (hB : w0.heap.size ≤ b) (hlt : b < w.heap.size) (h : w.cell? ⟨b, 0, none⟩ = some (.string s)) (hf : w.frozen? ⟨b, 0, none⟩ = false)
    (h1 : (s.toList == [110, 117, 108, 108]) = false) (h2 : (s.toList == [102, 97, 108, 115, 101]) = false) (h3 : (s.toList == [116, 114, 117, 101]) = false) (hp1 : Hid (Lib.hasPrefix s.data.toList (⟨#[39]⟩ : ByteArray).data.toList = false)) (hp2 : Hid (Lib.hasPrefix s.data.toList (⟨#[120, 39]⟩ : ByteArray).data.toList = false)) (n : Int) (h0 : -9223372036854775808 ≤ n) (hmx : n ≤ 9223372036854775807) (hc : Hid (Lib.parseIntB 64 s.data.toList = .ok n)) (hn : Hid ((Lib.itoa n == s.toList) = false)) :
    Calls Tryz.prog 54 #[.pointer (some ⟨b, 0, none⟩)] w fun r w' => r = gaveUp 110 ∧ Below w0.heap.size w0 w' := by
  have c1 : ∀ o, (w.alloc o).cell? ⟨b, 0, none⟩ = some (.string s) := fun o => (World.cell?_alloc_past _ _ _ hlt).trans h
  have f1 : ∀ c t, (w.alloc (.cells c t)).frozen? ⟨b, 0, none⟩ = false := fun c t => (World.frozen?_alloc_past _ _ _ hlt).trans hf
  have hsz : ∀ t, (w.setCell ⟨b, 0, none⟩ t).heap.size = w.heap.size := fun t => by simp
  have cs1 : ∀ t, (w.setCell ⟨b, 0, none⟩ (.string t)).cell? ⟨b, 0, none⟩ = some (.string t) := fun t => World.cell?_setCell_same _ _ _ h
  have fs1 : ∀ t, (w.setCell ⟨b, 0, none⟩ (.string t)).frozen? ⟨b, 0, none⟩ = false := fun t => by rw [World.frozen?_setCell]; exact hf
  have c2 : ∀ o t, ((w.setCell ⟨b, 0, none⟩ (.string t)).alloc o).cell? ⟨b, 0, none⟩ = some (.string t) := fun o t => (World.cell?_alloc_past _ _ _ (by rw [hsz]; exact hlt)).trans (cs1 t)
  have f2 : ∀ o t, ((w.setCell ⟨b, 0, none⟩ (.string t)).alloc o).frozen? ⟨b, 0, none⟩ = false := fun o t => (World.frozen?_alloc_past _ _ _ (by rw [hsz]; exact hlt)).trans (fs1 t)
  have c3 : ∀ o t u, (((w.setCell ⟨b, 0, none⟩ (.string t)).setCell ⟨b, 0, none⟩ (.string u)).alloc o).cell? ⟨b, 0, none⟩ = some (.string u) := fun o t u => (World.cell?_alloc_past _ _ _ (by simp; exact hlt)).trans (World.cell?_setCell_same _ _ _ (cs1 t))
  have hb1 : ∀ t u o, Below w0.heap.size w0 (((w.setCell ⟨b, 0, none⟩ (.string t)).setCell ⟨b, 0, none⟩ (.string u)).alloc o) := fun t u o => ((hw.setCell (p := ⟨b, 0, none⟩) hB _).setCell (p := ⟨b, 0, none⟩) hB _).alloc (by have := hw.size; simp; omega) o
  have HB1 : Below w0.heap.size w0 (((w.setCell ⟨b, 0, none⟩ (.string s)).setCell ⟨b, 0, none⟩ (.string s)).alloc resObj) := hb1 s s resObj
  have hszW : Hid (w.heap.size = ((w.setCell ⟨b, 0, none⟩ (.string s)).setCell ⟨b, 0, none⟩ (.string s)).heap.size) := (show w.heap.size = ((w.setCell ⟨b, 0, none⟩ (.string s)).setCell ⟨b, 0, none⟩ (.string s)).heap.size by simp)
  clear hsz cs1 fs1 hb1
  go_enter Tryz.func54, Tryz.ntmps54
  go_wp2_with (first | (go_at_call 65; refine (take_any _ _ _ _ (c1 _) (f1 _ _)).mono ?_; rintro e w2 ⟨rfl, rfl⟩; rw [hp1.out, restOf_no _ _ hp1.out]) | (go_at_call 65; with_reducible refine (take_any _ _ _ _ (c2 _ _) (f2 _ _)).mono ?_; rintro e w2 ⟨rfl, rfl⟩; rw [hp2.out, restOf_no _ _ hp2.out]) | (go_at_call 70; refine (number_unlike s n _ (hw0.below HB1) hs h0 hmx hc.out hn.out).mono ?_; rintro e w4 ⟨rfl, hb4⟩))
  exact ⟨rfl, rfl, HB1.trans (hb4.mono (by have := HB1.size; simpa using this))⟩

set_option maxRecDepth 100000 in
set_option maxHeartbeats 1000000 in
theorem value_num_none (b : Nat) (s : ByteArray) (w0 w : World) (hw0 : Base w0) (hw : Below w0.heap.size w0 w) (hs : s.size ≤ 1000000) (hB : w0.heap.size ≤ b) (hlt : b < w.heap.size) (h : w.cell? ⟨b, 0, none⟩ = some (.string s)) (hf : w.frozen? ⟨b, 0, none⟩ = false)
    (h1 : (s.toList == [110, 117, 108, 108]) = false) (h2 : (s.toList == [102, 97, 108, 115, 101]) = false) (h3 : (s.toList == [116, 114, 117, 101]) = false) (hp1 : Hid (Lib.hasPrefix s.data.toList (⟨#[39]⟩ : ByteArray).data.toList = false)) (hp2 : Hid (Lib.hasPrefix s.data.toList (⟨#[120, 39]⟩ : ByteArray).data.toList = false)) (e : Lib.NumEnd Int) (hc : Hid (Lib.parseIntB 64 s.data.toList = e)) (he1 : Hid (∀ n, e ≠ .ok n)) (he2 : Hid (e ≠ .range)) :
    Calls Tryz.prog 54 #[.pointer (some ⟨b, 0, none⟩)] w fun r w' => r = gaveUp 110 ∧ Below w0.heap.size w0 w' := by
  have c1 : ∀ o, (w.alloc o).cell? ⟨b, 0, none⟩ = some (.string s) := fun o => (World.cell?_alloc_past _ _ _ hlt).trans h
  have f1 : ∀ c t, (w.alloc (.cells c t)).frozen? ⟨b, 0, none⟩ = false := fun c t => (World.frozen?_alloc_past _ _ _ hlt).trans hf
  have hsz : ∀ t, (w.setCell ⟨b, 0, none⟩ t).heap.size = w.heap.size := fun t => by simp
  have cs1 : ∀ t, (w.setCell ⟨b, 0, none⟩ (.string t)).cell? ⟨b, 0, none⟩ = some (.string t) := fun t => World.cell?_setCell_same _ _ _ h
  have fs1 : ∀ t, (w.setCell ⟨b, 0, none⟩ (.string t)).frozen? ⟨b, 0, none⟩ = false := fun t => by rw [World.frozen?_setCell]; exact hf
  have c2 : ∀ o t, ((w.setCell ⟨b, 0, none⟩ (.string t)).alloc o).cell? ⟨b, 0, none⟩ = some (.string t) := fun o t => (World.cell?_alloc_past _ _ _ (by rw [hsz]; exact hlt)).trans (cs1 t)
  have f2 : ∀ o t, ((w.setCell ⟨b, 0, none⟩ (.string t)).alloc o).frozen? ⟨b, 0, none⟩ = false := fun o t => (World.frozen?_alloc_past _ _ _ (by rw [hsz]; exact hlt)).trans (fs1 t)
  have c3 : ∀ o t u, (((w.setCell ⟨b, 0, none⟩ (.string t)).setCell ⟨b, 0, none⟩ (.string u)).alloc o).cell? ⟨b, 0, none⟩ = some (.string u) := fun o t u => (World.cell?_alloc_past _ _ _ (by simp; exact hlt)).trans (World.cell?_setCell_same _ _ _ (cs1 t))
  have hb1 : ∀ t u o, Below w0.heap.size w0 (((w.setCell ⟨b, 0, none⟩ (.string t)).setCell ⟨b, 0, none⟩ (.string u)).alloc o) := fun t u o => ((hw.setCell (p := ⟨b, 0, none⟩) hB _).setCell (p := ⟨b, 0, none⟩) hB _).alloc (by have := hw.size; simp; omega) o
  have HB1 : Below w0.heap.size w0 (((w.setCell ⟨b, 0, none⟩ (.string s)).setCell ⟨b, 0, none⟩ (.string s)).alloc resObj) := hb1 s s resObj
  have hszW : Hid (w.heap.size = ((w.setCell ⟨b, 0, none⟩ (.string s)).setCell ⟨b, 0, none⟩ (.string s)).heap.size) := (show w.heap.size = ((w.setCell ⟨b, 0, none⟩ (.string s)).setCell ⟨b, 0, none⟩ (.string s)).heap.size by simp)
  clear hsz cs1 fs1 hb1
  go_enter Tryz.func54, Tryz.ntmps54
  go_wp2_with (first | (go_at_call 65; refine (take_any _ _ _ _ (c1 _) (f1 _ _)).mono ?_; rintro e w2 ⟨rfl, rfl⟩; rw [hp1.out, restOf_no _ _ hp1.out]) | (go_at_call 65; with_reducible refine (take_any _ _ _ _ (c2 _ _) (f2 _ _)).mono ?_; rintro e w2 ⟨rfl, rfl⟩; rw [hp2.out, restOf_no _ _ hp2.out]) | (go_at_call 70; refine (number_none s e _ (hw0.below HB1) hs hc he1 he2).mono ?_; rintro e w4 ⟨rfl, hb4⟩))
  exact ⟨rfl, rfl, HB1.trans (hb4.mono (by have := HB1.size; simpa using this))⟩

set_option maxRecDepth 100000 in
set_option maxHeartbeats 1000000 in
theorem value_num_range (b : Nat) (s : ByteArray) (w0 w : World) (hw0 : Base w0) (hw : Below w0.heap.size w0 w) (hs : s.size ≤ 1000000) (hB : w0.heap.size ≤ b) (hlt : b < w.heap.size) (h : w.cell? ⟨b, 0, none⟩ = some (.string s)) (hf : w.frozen? ⟨b, 0, none⟩ = false)
    (h1 : (s.toList == [110, 117, 108, 108]) = false) (h2 : (s.toList == [102, 97, 108, 115, 101]) = false) (h3 : (s.toList == [116, 114, 117, 101]) = false) (hp1 : Hid (Lib.hasPrefix s.data.toList (⟨#[39]⟩ : ByteArray).data.toList = false)) (hp2 : Hid (Lib.hasPrefix s.data.toList (⟨#[120, 39]⟩ : ByteArray).data.toList = false)) (hc : Hid (Lib.parseIntB 64 s.data.toList = .range)) :
    Calls Tryz.prog 54 #[.pointer (some ⟨b, 0, none⟩)] w fun r w' => r = gaveUp 110 ∧ Below w0.heap.size w0 w' := by
  have c1 : ∀ o, (w.alloc o).cell? ⟨b, 0, none⟩ = some (.string s) := fun o => (World.cell?_alloc_past _ _ _ hlt).trans h
  have f1 : ∀ c t, (w.alloc (.cells c t)).frozen? ⟨b, 0, none⟩ = false := fun c t => (World.frozen?_alloc_past _ _ _ hlt).trans hf
  have hsz : ∀ t, (w.setCell ⟨b, 0, none⟩ t).heap.size = w.heap.size := fun t => by simp
  have cs1 : ∀ t, (w.setCell ⟨b, 0, none⟩ (.string t)).cell? ⟨b, 0, none⟩ = some (.string t) := fun t => World.cell?_setCell_same _ _ _ h
  have fs1 : ∀ t, (w.setCell ⟨b, 0, none⟩ (.string t)).frozen? ⟨b, 0, none⟩ = false := fun t => by rw [World.frozen?_setCell]; exact hf
  have c2 : ∀ o t, ((w.setCell ⟨b, 0, none⟩ (.string t)).alloc o).cell? ⟨b, 0, none⟩ = some (.string t) := fun o t => (World.cell?_alloc_past _ _ _ (by rw [hsz]; exact hlt)).trans (cs1 t)
  have f2 : ∀ o t, ((w.setCell ⟨b, 0, none⟩ (.string t)).alloc o).frozen? ⟨b, 0, none⟩ = false := fun o t => (World.frozen?_alloc_past _ _ _ (by rw [hsz]; exact hlt)).trans (fs1 t)
  have c3 : ∀ o t u, (((w.setCell ⟨b, 0, none⟩ (.string t)).setCell ⟨b, 0, none⟩ (.string u)).alloc o).cell? ⟨b, 0, none⟩ = some (.string u) := fun o t u => (World.cell?_alloc_past _ _ _ (by simp; exact hlt)).trans (World.cell?_setCell_same _ _ _ (cs1 t))
  have hb1 : ∀ t u o, Below w0.heap.size w0 (((w.setCell ⟨b, 0, none⟩ (.string t)).setCell ⟨b, 0, none⟩ (.string u)).alloc o) := fun t u o => ((hw.setCell (p := ⟨b, 0, none⟩) hB _).setCell (p := ⟨b, 0, none⟩) hB _).alloc (by have := hw.size; simp; omega) o
  have HB1 : Below w0.heap.size w0 (((w.setCell ⟨b, 0, none⟩ (.string s)).setCell ⟨b, 0, none⟩ (.string s)).alloc resObj) := hb1 s s resObj
  have hszW : Hid (w.heap.size = ((w.setCell ⟨b, 0, none⟩ (.string s)).setCell ⟨b, 0, none⟩ (.string s)).heap.size) := (show w.heap.size = ((w.setCell ⟨b, 0, none⟩ (.string s)).setCell ⟨b, 0, none⟩ (.string s)).heap.size by simp)
  clear hsz cs1 fs1 hb1
  go_enter Tryz.func54, Tryz.ntmps54
  go_wp2_with (first | (go_at_call 65; refine (take_any _ _ _ _ (c1 _) (f1 _ _)).mono ?_; rintro e w2 ⟨rfl, rfl⟩; rw [hp1.out, restOf_no _ _ hp1.out]) | (go_at_call 65; with_reducible refine (take_any _ _ _ _ (c2 _ _) (f2 _ _)).mono ?_; rintro e w2 ⟨rfl, rfl⟩; rw [hp2.out, restOf_no _ _ hp2.out]) | (go_at_call 70; refine (number_range s _ (hw0.below HB1) hs hc.out).mono ?_; rintro e w4 ⟨rfl, hb4⟩))
  exact ⟨rfl, rfl, HB1.trans (hb4.mono (by have := HB1.size; simpa using this))⟩
end Go.Proofs.YtcngoffmkbobhaaGreatDoor
