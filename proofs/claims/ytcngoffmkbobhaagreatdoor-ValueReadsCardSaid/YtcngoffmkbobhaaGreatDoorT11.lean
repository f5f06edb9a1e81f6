import Derived.Test.YtcngoffmkbobhaaGreatDoorT10
namespace Go.Proofs.YtcngoffmkbobhaaGreatDoor
open Go.RowKit

set_option maxRecDepth 100000 in
set_option maxHeartbeats 1000000 in
theorem value_text_open (b : Nat) (s : ByteArray) (w0 w : World) (hw0 : Base w0) (hw : Below w0.heap.size w0 w) (hs : s.size ≤ 1000000) (hB : w0.heap.size ≤ b) (hlt : b < w.heap.size) (h : w.cell? ⟨b, 0, none⟩ = some (.string s)) (hf : w.frozen? ⟨b, 0, none⟩ = false)
    (h1 : (s.toList == [110, 117, 108, 108]) = false) (h2 : (s.toList == [102, 97, 108, 115, 101]) = false) (h3 : (s.toList == [116, 114, 117, 101]) = false) (hp : Hid (Lib.hasPrefix s.data.toList (⟨#[39]⟩ : ByteArray).data.toList = true)) (hr : (restOf s (⟨#[39]⟩ : ByteArray)).size ≤ 1000000) (hsuf : Hid (Lib.hasSuffix (restOf s (⟨#[39]⟩ : ByteArray)).data.toList [39] = false)) :
    Calls Tryz.prog 54 #[.pointer (some ⟨b, 0, none⟩)] w fun r w' => r = gaveUp 110 ∧ Below w0.heap.size w0 w' := by
  have c1 : ∀ o, (w.alloc o).cell? ⟨b, 0, none⟩ = some (.string s) := fun o => (World.cell?_alloc_past _ _ _ hlt).trans h
  have f1 : ∀ c t, (w.alloc (.cells c t)).frozen? ⟨b, 0, none⟩ = false := fun c t => (World.frozen?_alloc_past _ _ _ hlt).trans hf
  have hsz : ∀ t, (w.setCell ⟨b, 0, none⟩ t).heap.size = w.heap.size := fun t => by simp
  have cs1 : ∀ t, (w.setCell ⟨b, 0, none⟩ (.string t)).cell? ⟨b, 0, none⟩ = some (.string t) := fun t => World.cell?_setCell_same _ _ _ h
  have fs1 : ∀ t, (w.setCell ⟨b, 0, none⟩ (.string t)).frozen? ⟨b, 0, none⟩ = false := fun t => by rw [World.frozen?_setCell]; exact hf
  have c2 : ∀ o t, ((w.setCell ⟨b, 0, none⟩ (.string t)).alloc o).cell? ⟨b, 0, none⟩ = some (.string t) := fun o t => (World.cell?_alloc_past _ _ _ (by rw [hsz]; exact hlt)).trans (cs1 t)
  have f2 : ∀ o t, ((w.setCell ⟨b, 0, none⟩ (.string t)).alloc o).frozen? ⟨b, 0, none⟩ = false := fun o t => (World.frozen?_alloc_past _ _ _ (by rw [hsz]; exact hlt)).trans (fs1 t)
  have hb1 : ∀ t o, Below w0.heap.size w0 ((w.setCell ⟨b, 0, none⟩ (.string t)).alloc o) := fun t o => (hw.setCell (p := ⟨b, 0, none⟩) hB _).alloc (by have := hw.size; simp; omega) o
  have HB1 : Below w0.heap.size w0 ((w.setCell ⟨b, 0, none⟩ (.string (restOf s ⟨#[39]⟩))).alloc resObj) := hb1 (restOf s ⟨#[39]⟩) resObj
  clear hsz cs1 fs1 hb1
  go_enter Tryz.func54, Tryz.ntmps54
  go_wp2_with (first | (go_at_call 65; refine (take_any _ _ _ _ (c1 _) (f1 _ _)).mono ?_; rintro e w2 ⟨rfl, rfl⟩; rw [hp.out]) | (go_at_call 68; refine (body_no _ _ _ hr (c2 _ _) hsuf).mono ?_; rintro e w3 ⟨rfl, rfl⟩))
  exact ⟨rfl, rfl, HB1⟩

set_option maxRecDepth 100000 in
set_option maxHeartbeats 1000000 in
theorem value_text_bad (b : Nat) (s : ByteArray) (w0 w : World) (hw0 : Base w0) (hw : Below w0.heap.size w0 w) (hs : s.size ≤ 1000000) (hB : w0.heap.size ≤ b) (hlt : b < w.heap.size) (h : w.cell? ⟨b, 0, none⟩ = some (.string s)) (hf : w.frozen? ⟨b, 0, none⟩ = false)
    (h1 : (s.toList == [110, 117, 108, 108]) = false) (h2 : (s.toList == [102, 97, 108, 115, 101]) = false) (h3 : (s.toList == [116, 114, 117, 101]) = false) (hp : Hid (Lib.hasPrefix s.data.toList (⟨#[39]⟩ : ByteArray).data.toList = true)) (hr : (restOf s (⟨#[39]⟩ : ByteArray)).size ≤ 1000000) (hsuf : Hid (Lib.hasSuffix (restOf s (⟨#[39]⟩ : ByteArray)).data.toList [39] = true)) (hbs : (⟨(Lib.trimSuffix (restOf s (⟨#[39]⟩ : ByteArray)).data.toList [39]).toArray⟩ : ByteArray).size ≤ 1000000) (hq : Hid (qs (⟨(Lib.trimSuffix (restOf s (⟨#[39]⟩ : ByteArray)).data.toList [39]).toArray⟩ : ByteArray).data.toList false = false)) :
    Calls Tryz.prog 54 #[.pointer (some ⟨b, 0, none⟩)] w fun r w' => r = gaveUp 110 ∧ Below w0.heap.size w0 w' := by
  have c1 : ∀ o, (w.alloc o).cell? ⟨b, 0, none⟩ = some (.string s) := fun o => (World.cell?_alloc_past _ _ _ hlt).trans h
  have f1 : ∀ c t, (w.alloc (.cells c t)).frozen? ⟨b, 0, none⟩ = false := fun c t => (World.frozen?_alloc_past _ _ _ hlt).trans hf
  have hsz : ∀ t, (w.setCell ⟨b, 0, none⟩ t).heap.size = w.heap.size := fun t => by simp
  have cs1 : ∀ t, (w.setCell ⟨b, 0, none⟩ (.string t)).cell? ⟨b, 0, none⟩ = some (.string t) := fun t => World.cell?_setCell_same _ _ _ h
  have fs1 : ∀ t, (w.setCell ⟨b, 0, none⟩ (.string t)).frozen? ⟨b, 0, none⟩ = false := fun t => by rw [World.frozen?_setCell]; exact hf
  have c2 : ∀ o t, ((w.setCell ⟨b, 0, none⟩ (.string t)).alloc o).cell? ⟨b, 0, none⟩ = some (.string t) := fun o t => (World.cell?_alloc_past _ _ _ (by rw [hsz]; exact hlt)).trans (cs1 t)
  have f2 : ∀ o t, ((w.setCell ⟨b, 0, none⟩ (.string t)).alloc o).frozen? ⟨b, 0, none⟩ = false := fun o t => (World.frozen?_alloc_past _ _ _ (by rw [hsz]; exact hlt)).trans (fs1 t)
  have hb1 : ∀ t o, Below w0.heap.size w0 ((w.setCell ⟨b, 0, none⟩ (.string t)).alloc o) := fun t o => (hw.setCell (p := ⟨b, 0, none⟩) hB _).alloc (by have := hw.size; simp; omega) o
  have HB1 : Below w0.heap.size w0 ((w.setCell ⟨b, 0, none⟩ (.string (restOf s ⟨#[39]⟩))).alloc resObj) := hb1 (restOf s ⟨#[39]⟩) resObj
  clear hsz cs1 fs1 hb1
  go_enter Tryz.func54, Tryz.ntmps54
  go_wp2_with (first | (go_at_call 65; refine (take_any _ _ _ _ (c1 _) (f1 _ _)).mono ?_; rintro e w2 ⟨rfl, rfl⟩; rw [hp.out]) | (go_at_call 68; refine (body_ok _ _ _ hr (c2 _ _) hsuf).mono ?_; rintro e w3 ⟨rfl, rfl⟩) | (go_at_call 67; refine (quoted_no _ _ hbs hq).mono ?_; rintro e w4 ⟨rfl, hb4⟩))
  exact ⟨rfl, rfl, HB1.trans (hb4.mono (by have := HB1.size; simpa using this))⟩

set_option maxRecDepth 100000 in
set_option maxHeartbeats 1000000 in
theorem value_text_long (b : Nat) (s : ByteArray) (w0 w : World) (hw0 : Base w0) (hw : Below w0.heap.size w0 w) (hs : s.size ≤ 1000000) (hB : w0.heap.size ≤ b) (hlt : b < w.heap.size) (h : w.cell? ⟨b, 0, none⟩ = some (.string s)) (hf : w.frozen? ⟨b, 0, none⟩ = false)
    (h1 : (s.toList == [110, 117, 108, 108]) = false) (h2 : (s.toList == [102, 97, 108, 115, 101]) = false) (h3 : (s.toList == [116, 114, 117, 101]) = false) (hp : Hid (Lib.hasPrefix s.data.toList (⟨#[39]⟩ : ByteArray).data.toList = true)) (hr : (restOf s (⟨#[39]⟩ : ByteArray)).size ≤ 1000000) (hsuf : Hid (Lib.hasSuffix (restOf s (⟨#[39]⟩ : ByteArray)).data.toList [39] = true)) (hbs : (⟨(Lib.trimSuffix (restOf s (⟨#[39]⟩ : ByteArray)).data.toList [39]).toArray⟩ : ByteArray).size ≤ 1000000) (hq : Hid (qs (⟨(Lib.trimSuffix (restOf s (⟨#[39]⟩ : ByteArray)).data.toList [39]).toArray⟩ : ByteArray).data.toList false = true)) (hlen : 1000 < (⟨(Lib.replaceAll (⟨(Lib.trimSuffix (restOf s (⟨#[39]⟩ : ByteArray)).data.toList [39]).toArray⟩ : ByteArray).data.toList [39, 39] [39]).toArray⟩ : ByteArray).size) :
    Calls Tryz.prog 54 #[.pointer (some ⟨b, 0, none⟩)] w fun r w' => r = gaveUp 3 ∧ Below w0.heap.size w0 w' := by
  have c1 : ∀ o, (w.alloc o).cell? ⟨b, 0, none⟩ = some (.string s) := fun o => (World.cell?_alloc_past _ _ _ hlt).trans h
  have f1 : ∀ c t, (w.alloc (.cells c t)).frozen? ⟨b, 0, none⟩ = false := fun c t => (World.frozen?_alloc_past _ _ _ hlt).trans hf
  have hsz : ∀ t, (w.setCell ⟨b, 0, none⟩ t).heap.size = w.heap.size := fun t => by simp
  have cs1 : ∀ t, (w.setCell ⟨b, 0, none⟩ (.string t)).cell? ⟨b, 0, none⟩ = some (.string t) := fun t => World.cell?_setCell_same _ _ _ h
  have fs1 : ∀ t, (w.setCell ⟨b, 0, none⟩ (.string t)).frozen? ⟨b, 0, none⟩ = false := fun t => by rw [World.frozen?_setCell]; exact hf
  have c2 : ∀ o t, ((w.setCell ⟨b, 0, none⟩ (.string t)).alloc o).cell? ⟨b, 0, none⟩ = some (.string t) := fun o t => (World.cell?_alloc_past _ _ _ (by rw [hsz]; exact hlt)).trans (cs1 t)
  have f2 : ∀ o t, ((w.setCell ⟨b, 0, none⟩ (.string t)).alloc o).frozen? ⟨b, 0, none⟩ = false := fun o t => (World.frozen?_alloc_past _ _ _ (by rw [hsz]; exact hlt)).trans (fs1 t)
  have hb1 : ∀ t o, Below w0.heap.size w0 ((w.setCell ⟨b, 0, none⟩ (.string t)).alloc o) := fun t o => (hw.setCell (p := ⟨b, 0, none⟩) hB _).alloc (by have := hw.size; simp; omega) o
  have HB1 : Below w0.heap.size w0 ((w.setCell ⟨b, 0, none⟩ (.string (restOf s ⟨#[39]⟩))).alloc resObj) := hb1 (restOf s ⟨#[39]⟩) resObj
  have hszW : Hid (w.heap.size = (w.setCell ⟨b, 0, none⟩ (.string (restOf s ⟨#[39]⟩))).heap.size) := (show w.heap.size = (w.setCell ⟨b, 0, none⟩ (.string (restOf s ⟨#[39]⟩))).heap.size by simp)
  clear hsz cs1 fs1 hb1
  go_enter Tryz.func54, Tryz.ntmps54
  go_wp2_with (first | (go_at_call 65; refine (take_any _ _ _ _ (c1 _) (f1 _ _)).mono ?_; rintro e w2 ⟨rfl, rfl⟩; rw [hp.out]) | (go_at_call 68; refine (body_ok _ _ _ hr (c2 _ _) hsuf).mono ?_; rintro e w3 ⟨rfl, rfl⟩) | (go_at_call 67; refine (quoted_ok _ _ (hw0.below HB1) hbs hq).mono ?_; rintro e w4 ⟨rfl, hb4⟩; obtain ⟨k0, k1, k2, f0, f1, f2⟩ := res_facts hszW.out hb4) | (go_at_call 66; refine (few_no _ hlen _).mono ?_; rintro e w5 ⟨rfl, rfl⟩))
  exact ⟨rfl, rfl, HB1.trans (hb4.mono (by have := HB1.size; simpa using this))⟩

set_option maxRecDepth 100000 in
set_option maxHeartbeats 1000000 in
theorem value_text_ok (b : Nat) (s : ByteArray) (w0 w : World) (hw0 : Base w0) (hw : Below w0.heap.size w0 w) (hs : s.size ≤ 1000000) (hB : w0.heap.size ≤ b) (hlt : b < w.heap.size) (h : w.cell? ⟨b, 0, none⟩ = some (.string s)) (hf : w.frozen? ⟨b, 0, none⟩ = false)
    (h1 : (s.toList == [110, 117, 108, 108]) = false) (h2 : (s.toList == [102, 97, 108, 115, 101]) = false) (h3 : (s.toList == [116, 114, 117, 101]) = false) (hp : Hid (Lib.hasPrefix s.data.toList (⟨#[39]⟩ : ByteArray).data.toList = true)) (hr : (restOf s (⟨#[39]⟩ : ByteArray)).size ≤ 1000000) (hsuf : Hid (Lib.hasSuffix (restOf s (⟨#[39]⟩ : ByteArray)).data.toList [39] = true)) (hbs : (⟨(Lib.trimSuffix (restOf s (⟨#[39]⟩ : ByteArray)).data.toList [39]).toArray⟩ : ByteArray).size ≤ 1000000) (hq : Hid (qs (⟨(Lib.trimSuffix (restOf s (⟨#[39]⟩ : ByteArray)).data.toList [39]).toArray⟩ : ByteArray).data.toList false = true)) (hlen : (⟨(Lib.replaceAll (⟨(Lib.trimSuffix (restOf s (⟨#[39]⟩ : ByteArray)).data.toList [39]).toArray⟩ : ByteArray).data.toList [39, 39] [39]).toArray⟩ : ByteArray).size ≤ 1000) :
    Calls Tryz.prog 54 #[.pointer (some ⟨b, 0, none⟩)] w fun r w' => r = .returned (.agg #[.int .i64 3, .int .i64 0, .string ⟨(Lib.replaceAll (⟨(Lib.trimSuffix (restOf s (⟨#[39]⟩ : ByteArray)).data.toList [39]).toArray⟩ : ByteArray).data.toList [39, 39] [39]).toArray⟩]) ∧ Below w0.heap.size w0 w' := by
  have c1 : ∀ o, (w.alloc o).cell? ⟨b, 0, none⟩ = some (.string s) := fun o => (World.cell?_alloc_past _ _ _ hlt).trans h
  have f1 : ∀ c t, (w.alloc (.cells c t)).frozen? ⟨b, 0, none⟩ = false := fun c t => (World.frozen?_alloc_past _ _ _ hlt).trans hf
  have hsz : ∀ t, (w.setCell ⟨b, 0, none⟩ t).heap.size = w.heap.size := fun t => by simp
  have cs1 : ∀ t, (w.setCell ⟨b, 0, none⟩ (.string t)).cell? ⟨b, 0, none⟩ = some (.string t) := fun t => World.cell?_setCell_same _ _ _ h
  have fs1 : ∀ t, (w.setCell ⟨b, 0, none⟩ (.string t)).frozen? ⟨b, 0, none⟩ = false := fun t => by rw [World.frozen?_setCell]; exact hf
  have c2 : ∀ o t, ((w.setCell ⟨b, 0, none⟩ (.string t)).alloc o).cell? ⟨b, 0, none⟩ = some (.string t) := fun o t => (World.cell?_alloc_past _ _ _ (by rw [hsz]; exact hlt)).trans (cs1 t)
  have f2 : ∀ o t, ((w.setCell ⟨b, 0, none⟩ (.string t)).alloc o).frozen? ⟨b, 0, none⟩ = false := fun o t => (World.frozen?_alloc_past _ _ _ (by rw [hsz]; exact hlt)).trans (fs1 t)
  have hb1 : ∀ t o, Below w0.heap.size w0 ((w.setCell ⟨b, 0, none⟩ (.string t)).alloc o) := fun t o => (hw.setCell (p := ⟨b, 0, none⟩) hB _).alloc (by have := hw.size; simp; omega) o
  have HB1 : Below w0.heap.size w0 ((w.setCell ⟨b, 0, none⟩ (.string (restOf s ⟨#[39]⟩))).alloc resObj) := hb1 (restOf s ⟨#[39]⟩) resObj
  have hszW : Hid (w.heap.size = (w.setCell ⟨b, 0, none⟩ (.string (restOf s ⟨#[39]⟩))).heap.size) := (show w.heap.size = (w.setCell ⟨b, 0, none⟩ (.string (restOf s ⟨#[39]⟩))).heap.size by simp)
  clear hsz cs1 fs1 hb1
  go_enter Tryz.func54, Tryz.ntmps54
  go_wp2_with (first | (go_at_call 65; refine (take_any _ _ _ _ (c1 _) (f1 _ _)).mono ?_; rintro e w2 ⟨rfl, rfl⟩; rw [hp.out]) | (go_at_call 68; refine (body_ok _ _ _ hr (c2 _ _) hsuf).mono ?_; rintro e w3 ⟨rfl, rfl⟩) | (go_at_call 67; refine (quoted_ok _ _ (hw0.below HB1) hbs hq).mono ?_; rintro e w4 ⟨rfl, hb4⟩; obtain ⟨k0, k1, k2, f0, f1, f2⟩ := res_facts hszW.out hb4) | (go_at_call 66; refine (few_ok _ hlen _).mono ?_; rintro e w5 ⟨rfl, rfl⟩))
  refine bodyPost_ret (v := .agg #[.int .i64 3, .int .i64 0, .string ⟨(Lib.replaceAll (⟨(Lib.trimSuffix (restOf s (⟨#[39]⟩ : ByteArray)).data.toList [39]).toArray⟩ : ByteArray).data.toList [39, 39] [39]).toArray⟩]) ?_ rfl ⟨rfl, ?_⟩
  · simp [results, Tryz.results54, go_sem, k0, k1, k2]
  · have h4 := HB1.trans (hb4.mono (by have := HB1.size; simpa using this))
    exact (((h4.setCell hw.size _).setCell hw.size _).setCell hw.size _)
end Go.Proofs.YtcngoffmkbobhaaGreatDoor
