/-
  The document's reader: a word that must come; its atom. (Written by gen_rdq2.py.)
-/
import Derived.Test.YtkpdddlonmkebaaDoorRdQ1
namespace Go.Proofs.YtkpdddlonmkebaaDoor
open Go.RowKit Rd

theorem lit_list (a : Array UInt8) (s : List UInt8) (h : a.toList = s) : (⟨a⟩ : ByteArray).toList = s := (Lib.toList_data _).trans h
theorem qsign_no (l : List W4) (A : Option Addr) (c rb i : Nat) (s : ByteArray) (w : World) (h : QdS l A c rb w i 0 0 ⟨#[]⟩) (hs : Rd.sees l i 4 s.toList = false) :
    Calls Tryd.prog 38 #[.pointer (some ⟨rb, 0, none⟩), .string s] w fun e w' => e = .returned (.bool false) ∧ Below w.heap.size w w' :=
  (sign_no l A c rb i 0 ⟨#[]⟩ s w h hs).mono fun e w' ⟨he, m, hm⟩ => ⟨he, by subst hm; exact below_drewN (Below.refl _ _) m⟩
theorem qkey_no (l : List W4) (A : Option Addr) (c rb i : Nat) (s : ByteArray) (w : World) (h : QdS l A c rb w i 0 0 ⟨#[]⟩) (hs : Rd.sees l i 3 s.toList = false) :
    Calls Tryd.prog 87 #[.pointer (some ⟨rb, 0, none⟩), .string s] w fun e w' => e = .returned (.bool false) ∧ Below w.heap.size w w' :=
  (key_no l A c rb i 0 ⟨#[]⟩ s w h hs).mono fun e w' ⟨he, m, hm⟩ => ⟨he, by subst hm; exact below_drewN (Below.refl _ _) m⟩

set_option maxHeartbeats 4000000 in
set_option maxRecDepth 100000 in
theorem qwant_yes (l : List W4) (A : Option Addr) (c rb i : Nat) (s : ByteArray) (w : World) (h : QdS l A c rb w i 0 0 ⟨#[]⟩) (hs : Rd.sees l i 4 s.toList = true) :
    Calls Tryd.prog 88 #[.pointer (some ⟨rb, 0, none⟩), .string s] w fun e w' => e = .returned (.tuple #[]) ∧ QGo l A c rb w (i + 1) 0 0 ⟨#[]⟩ w' := by
  have CS := Lib.hid (sign_yes l A c rb i 0 ⟨#[]⟩ s w h hs)
  clear h hs
  go_enter Tryd.func88, Tryd.ntmps88
  go_wp2_with fail
  refine CS.out.mono ?_
  rintro e w2 ⟨rfl, hg⟩
  go_wp2_with fail
  change bodyPost _ _ _ _ _ _
  go_end0
  exact ⟨rfl, hg⟩
set_option maxHeartbeats 4000000 in
set_option maxRecDepth 100000 in
theorem qwant_no (l : List W4) (A : Option Addr) (c rb i : Nat) (s : ByteArray) (w : World) (h : QdS l A c rb w i 0 0 ⟨#[]⟩) (hs : Rd.sees l i 4 s.toList = false) :
    Calls Tryd.prog 88 #[.pointer (some ⟨rb, 0, none⟩), .string s] w fun e w' => e = .returned (.tuple #[]) ∧ QGo l A c rb w i 40 (fAt l i) (fWord l i) w' := by
  have CS := Lib.hid (qsign_no l A c rb i s w h hs)
  have H := Lib.hid h
  clear h hs
  go_enter Tryd.func88, Tryd.ntmps88
  go_wp2_with fail
  refine CS.out.mono ?_
  rintro e w2 ⟨rfl, hb⟩
  have CW := Lib.hid (wrong_any l A c rb i 0 ⟨#[]⟩ w2 (H.out.below hb))
  have HB := Lib.hid (only_below (rb := rb) hb)
  clear hb
  go_wp2_with fail
  refine CW.out.mono ?_
  rintro e w3 ⟨rfl, hq, hg⟩
  go_wp2_with fail
  change bodyPost _ _ _ _ _ _
  go_end0
  exact ⟨rfl, hq, only_trans HB.out hg⟩
set_option maxHeartbeats 4000000 in
set_option maxRecDepth 100000 in
theorem qwant_flt (l : List W4) (A : Option Addr) (c rb i : Nat) (E a : Int) (sf : ByteArray) (s : ByteArray) (w : World) (h : QdS l A c rb w i E a sf) (hE : E ≠ 0) :
    Calls Tryd.prog 88 #[.pointer (some ⟨rb, 0, none⟩), .string s] w fun e w' => e = .returned (.tuple #[]) ∧ w' = w := by
  have CS := Lib.hid (sign_flt l A c rb i E a sf s w h hE)
  have CW := Lib.hid (wrong_flt l A c rb i E a sf w h hE)
  clear h hE
  go_enter Tryd.func88, Tryd.ntmps88
  go_wp2_with fail
  refine CS.out.mono ?_
  rintro e w2 ⟨rfl, rfl⟩
  go_wp2_with fail
  refine CW.out.mono ?_
  rintro e w3 ⟨rfl, rfl⟩
  go_wp2_with fail
  change bodyPost _ _ _ _ _ _
  go_end0
  exact ⟨rfl, rfl⟩

def QOk (l : List W4) (A : Option Addr) (c rb : Nat) (w : World) (k : Int) (kids : Fo) (j : Nat) (e : Ending) (w' : World) : Prop :=
  ∃ G m cg, e = .returned (.agg #[.int .i8 k, .slice G m cg]) ∧ Far w.heap.size w' k kids G m cg ∧ QRd w' rb A l.length c j 0 0 ⟨#[]⟩ ∧ w.grownBy w' (some rb)
/-- what it leaves behind the first fault: any type, and the reader as it was -/
def QIdle (l : List W4) (A : Option Addr) (c rb : Nat) (w : World) (i : Nat) (E a : Int) (s : ByteArray) (e : Ending) (w' : World) : Prop :=
  ∃ k G m cg, e = .returned (.agg #[.int .i8 k, .slice G m cg]) ∧ QRd w' rb A l.length c i E a s ∧ w.grownBy w' (some rb)
def QBad (l : List W4) (A : Option Addr) (c rb : Nat) (w : World) (q : Nat) (e : Ending) (w' : World) : Prop :=
  ∃ i, i ≤ l.length ∧ QIdle l A c rb w i 40 (fAt l q) (fWord l q) e w'
/-- what a reading leaves -/
def QPost (l : List W4) (A : Option Addr) (c rb : Nat) (w : World) (t : Tg) (e : Ending) (w' : World) : Prop :=
  (∃ k kids j, R l t (.ok k kids j) ∧ QOk l A c rb w k kids j e w') ∨ (∃ q, R l t (.bad q) ∧ QBad l A c rb w q e w')
theorem QIdle.from {l : List W4} {A : Option Addr} {c rb i : Nat} {w u : World} {E a : Int} {s : ByteArray} {e : Ending} {w' : World} (h : QIdle l A c rb u i E a s e w') (hg : w.grownBy u (some rb)) : QIdle l A c rb w i E a s e w' := by
  obtain ⟨k, G, m, cg, he, hr, hb⟩ := h
  exact ⟨k, G, m, cg, he, hr, only_trans hg hb⟩
theorem qrd_far {w : World} {rb n c i X : Nat} {A : Option Addr} {E a : Int} {s : ByteArray} (h : QRd w rb A n c i E a s) (hX : X ≠ rb) (o : Nat) (v : Value) : QRd (w.setCell ⟨X, o, none⟩ v) rb A n c i E a s := by
  unfold QRd at h ⊢
  rw [Below.heap_setCell _ _ _ _ (fun e => hX e.symm)]
  exact h
theorem sees_k {l : List W4} {i : Nat} {k k' : Int} {s s' : List UInt8} (h : sees l i k s = true) (hne : k ≠ k' ∨ s ≠ s') : sees l i k' s' = false := by
  unfold sees at h ⊢
  split at h
  · rename_i x hx
    simp only [Bool.and_eq_true, beq_iff_eq] at h
    obtain ⟨h1, h2⟩ := h
    rcases hne with hn | hn
    · have : (x.kind == k') = false := by simp; intro e; exact hn (by rw [← h1, e])
      rw [this]; rfl
    · have : (x.text.toList == s') = false := by simp; intro e; exact hn (by rw [← h2, e])
      rw [this]; simp
  · cases h

set_option maxHeartbeats 4000000 in
set_option maxRecDepth 100000 in
theorem qatom_0 (l : List W4) (A : Option Addr) (c rb i : Nat) (w : World) (h : QdS l A c rb w i 0 0 ⟨#[]⟩) (hs : Rd.sees l i 4 [63] = true) :
    Calls Tryd.prog 78 #[.pointer (some ⟨rb, 0, none⟩)] w (QPost l A c rb w (.one i)) := by
  have hY : Rd.sees l i 4 ((⟨#[63]⟩ : ByteArray).toList) = true := by rw [lit_list _ [63] rfl]; exact hs
  have HI := Lib.hid (show i + 1 ≤ l.length from Rd.sees_lt hs)
  have HB := Lib.hid (show Rd.sees l i 4 [40] = false from sees_k hs (by decide))
  have HK := Lib.hid (show Rd.atK l i = some 0 from by
    unfold Rd.atK
    rw [if_pos (show Rd.sees l i 4 [63] = true from hs)]
    )
  clear hs
  have hne : w.heap.size ≠ rb := by have := heap_lt h.rdr; omega
  have hb0 : Below w.heap.size w (w.alloc (.cells #[.int .i8 0, .slice none 0 0] 29)) := (Below.refl _ _).alloc (Nat.le_refl _) _
  have HX1 := Lib.hid (heap_new w (.cells #[.int .i8 0, .slice none 0 0] 29))
  have HS1 := Lib.hid (h.below hb0)
  have HG1 := Lib.hid (only_below (rb := rb) hb0)
  have HL := Lib.hid h.le
  clear hb0 h
  generalize hw1 : w.alloc (.cells #[.int .i8 0, .slice none 0 0] 29) = w1 at *
  have HW := Lib.hid hw1
  clear hw1
  go_enter Tryd.func78, Tryd.ntmps78
  go_wp2_with fail
  rw [HW.out]
  refine (sign_yes l A c rb i 0 ⟨#[]⟩ ⟨#[63]⟩ w1 HS1.out hY).mono ?_
  rintro e w2 ⟨rfl, hR, hg⟩
  have HS2 := Lib.hid (HS1.out.step hg hR (HI.out))
  have HX2 := Lib.hid (heap_grown hg hne HX1.out)
  have HG2 := Lib.hid (only_trans HG1.out hg)
  clear hR hg HS1 HX1 HG1
  obtain ⟨x0, x1, f0, f1, xl⟩ := own2 HX2.out
  go_wp2_with fail
  refine bodyPost_ret (v := .agg #[.int .i8 0, .slice none 0 0]) (by simp [results, Tryd.results78, go_sem, *]) rfl ?_
  exact .inl ⟨0, .nil, i + 1, .word HK.out HB.out, none, 0, 0, rfl, far_nil _ _ 0 (by decide) (by decide), qrd_far (qrd_far HS2.out.rdr hne _ _) hne _ _, only_setCell (only_setCell HG2.out (.inr (Nat.le_refl _)) _) (.inr (Nat.le_refl _)) _⟩

set_option maxHeartbeats 4000000 in
set_option maxRecDepth 100000 in
theorem qatom_1 (l : List W4) (A : Option Addr) (c rb i : Nat) (w : World) (h : QdS l A c rb w i 0 0 ⟨#[]⟩) (hs : Rd.sees l i 3 [105, 110, 116] = true) :
    Calls Tryd.prog 78 #[.pointer (some ⟨rb, 0, none⟩)] w (QPost l A c rb w (.one i)) := by
  have hY : Rd.sees l i 3 ((⟨#[105, 110, 116]⟩ : ByteArray).toList) = true := by rw [lit_list _ [105, 110, 116] rfl]; exact hs
  have hN0 : Rd.sees l i 4 ((⟨#[63]⟩ : ByteArray).toList) = false := by rw [lit_list _ [63] rfl]; exact sees_k hs (by decide)
  have HI := Lib.hid (show i + 1 ≤ l.length from Rd.sees_lt hs)
  have HB := Lib.hid (show Rd.sees l i 4 [40] = false from sees_k hs (by decide))
  have HK := Lib.hid (show Rd.atK l i = some 1 from by
    unfold Rd.atK
    rw [if_neg (by rw [show Rd.sees l i 4 [63] = false from sees_k hs (by decide)]; simp)]
    rw [if_pos (show Rd.sees l i 3 sInt = true from hs)]
    )
  clear hs
  have hne : w.heap.size ≠ rb := by have := heap_lt h.rdr; omega
  have hb0 : Below w.heap.size w (w.alloc (.cells #[.int .i8 0, .slice none 0 0] 29)) := (Below.refl _ _).alloc (Nat.le_refl _) _
  have HX1 := Lib.hid (heap_new w (.cells #[.int .i8 0, .slice none 0 0] 29))
  have HS1 := Lib.hid (h.below hb0)
  have HG1 := Lib.hid (only_below (rb := rb) hb0)
  have HL := Lib.hid h.le
  clear hb0 h
  generalize hw1 : w.alloc (.cells #[.int .i8 0, .slice none 0 0] 29) = w1 at *
  have HW := Lib.hid hw1
  clear hw1
  go_enter Tryd.func78, Tryd.ntmps78
  go_wp2_with fail
  rw [HW.out]
  refine (qsign_no l A c rb i ⟨#[63]⟩ w1 HS1.out hN0).mono ?_
  rintro e w2 ⟨rfl, hb⟩
  have HS2 := Lib.hid (HS1.out.below hb)
  have HX2 := Lib.hid (heap_below hb (heap_lt HX1.out) HX1.out)
  have HG2 := Lib.hid (only_trans HG1.out (only_below (rb := rb) hb))
  clear hb HS1 HX1 HG1
  go_wp2_with fail
  refine (key_yes l A c rb i 0 ⟨#[]⟩ ⟨#[105, 110, 116]⟩ w2 HS2.out hY).mono ?_
  rintro e w3 ⟨rfl, hR, hg⟩
  have HS3 := Lib.hid (HS2.out.step hg hR (HI.out))
  have HX3 := Lib.hid (heap_grown hg hne HX2.out)
  have HG3 := Lib.hid (only_trans HG2.out hg)
  clear hR hg HS2 HX2 HG2
  obtain ⟨x0, x1, f0, f1, xl⟩ := own2 HX3.out
  go_wp2_with fail
  refine bodyPost_ret (v := .agg #[.int .i8 1, .slice none 0 0]) (by simp [results, Tryd.results78, go_sem, *]) rfl ?_
  exact .inl ⟨1, .nil, i + 1, .word HK.out HB.out, none, 0, 0, rfl, far_nil _ _ 1 (by decide) (by decide), qrd_far (qrd_far HS3.out.rdr hne _ _) hne _ _, only_setCell (only_setCell HG3.out (.inr (Nat.le_refl _)) _) (.inr (Nat.le_refl _)) _⟩

set_option maxHeartbeats 4000000 in
set_option maxRecDepth 100000 in
theorem qatom_2 (l : List W4) (A : Option Addr) (c rb i : Nat) (w : World) (h : QdS l A c rb w i 0 0 ⟨#[]⟩) (hs : Rd.sees l i 3 [98, 111, 111, 108] = true) :
    Calls Tryd.prog 78 #[.pointer (some ⟨rb, 0, none⟩)] w (QPost l A c rb w (.one i)) := by
  have hY : Rd.sees l i 3 ((⟨#[98, 111, 111, 108]⟩ : ByteArray).toList) = true := by rw [lit_list _ [98, 111, 111, 108] rfl]; exact hs
  have hN0 : Rd.sees l i 4 ((⟨#[63]⟩ : ByteArray).toList) = false := by rw [lit_list _ [63] rfl]; exact sees_k hs (by decide)
  have hN1 : Rd.sees l i 3 ((⟨#[105, 110, 116]⟩ : ByteArray).toList) = false := by rw [lit_list _ [105, 110, 116] rfl]; exact sees_k hs (by decide)
  have HI := Lib.hid (show i + 1 ≤ l.length from Rd.sees_lt hs)
  have HB := Lib.hid (show Rd.sees l i 4 [40] = false from sees_k hs (by decide))
  have HK := Lib.hid (show Rd.atK l i = some 2 from by
    unfold Rd.atK
    rw [if_neg (by rw [show Rd.sees l i 4 [63] = false from sees_k hs (by decide)]; simp)]
    rw [if_neg (by rw [show Rd.sees l i 3 sInt = false from sees_k hs (by decide)]; simp)]
    rw [if_pos (show Rd.sees l i 3 sBool = true from hs)]
    )
  clear hs
  have hne : w.heap.size ≠ rb := by have := heap_lt h.rdr; omega
  have hb0 : Below w.heap.size w (w.alloc (.cells #[.int .i8 0, .slice none 0 0] 29)) := (Below.refl _ _).alloc (Nat.le_refl _) _
  have HX1 := Lib.hid (heap_new w (.cells #[.int .i8 0, .slice none 0 0] 29))
  have HS1 := Lib.hid (h.below hb0)
  have HG1 := Lib.hid (only_below (rb := rb) hb0)
  have HL := Lib.hid h.le
  clear hb0 h
  generalize hw1 : w.alloc (.cells #[.int .i8 0, .slice none 0 0] 29) = w1 at *
  have HW := Lib.hid hw1
  clear hw1
  go_enter Tryd.func78, Tryd.ntmps78
  go_wp2_with fail
  rw [HW.out]
  refine (qsign_no l A c rb i ⟨#[63]⟩ w1 HS1.out hN0).mono ?_
  rintro e w2 ⟨rfl, hb⟩
  have HS2 := Lib.hid (HS1.out.below hb)
  have HX2 := Lib.hid (heap_below hb (heap_lt HX1.out) HX1.out)
  have HG2 := Lib.hid (only_trans HG1.out (only_below (rb := rb) hb))
  clear hb HS1 HX1 HG1
  go_wp2_with fail
  refine (qkey_no l A c rb i ⟨#[105, 110, 116]⟩ w2 HS2.out hN1).mono ?_
  rintro e w3 ⟨rfl, hb⟩
  have HS3 := Lib.hid (HS2.out.below hb)
  have HX3 := Lib.hid (heap_below hb (heap_lt HX2.out) HX2.out)
  have HG3 := Lib.hid (only_trans HG2.out (only_below (rb := rb) hb))
  clear hb HS2 HX2 HG2
  go_wp2_with fail
  refine (key_yes l A c rb i 0 ⟨#[]⟩ ⟨#[98, 111, 111, 108]⟩ w3 HS3.out hY).mono ?_
  rintro e w4 ⟨rfl, hR, hg⟩
  have HS4 := Lib.hid (HS3.out.step hg hR (HI.out))
  have HX4 := Lib.hid (heap_grown hg hne HX3.out)
  have HG4 := Lib.hid (only_trans HG3.out hg)
  clear hR hg HS3 HX3 HG3
  obtain ⟨x0, x1, f0, f1, xl⟩ := own2 HX4.out
  go_wp2_with fail
  refine bodyPost_ret (v := .agg #[.int .i8 2, .slice none 0 0]) (by simp [results, Tryd.results78, go_sem, *]) rfl ?_
  exact .inl ⟨2, .nil, i + 1, .word HK.out HB.out, none, 0, 0, rfl, far_nil _ _ 2 (by decide) (by decide), qrd_far (qrd_far HS4.out.rdr hne _ _) hne _ _, only_setCell (only_setCell HG4.out (.inr (Nat.le_refl _)) _) (.inr (Nat.le_refl _)) _⟩

theorem atK_none {l : List W4} {i : Nat} (h : atK l i = none) : sees l i 4 [63] = false ∧ sees l i 3 sInt = false ∧ sees l i 3 sBool = false := by
  unfold atK at h
  split at h
  · cases h
  · rename_i h1
    split at h
    · cases h
    · rename_i h2
      split at h
      · cases h
      · rename_i h3
        exact ⟨by simpa using h1, by simpa using h2, by simpa using h3⟩
set_option maxHeartbeats 4000000 in
set_option maxRecDepth 100000 in
theorem qatom_no (l : List W4) (A : Option Addr) (c rb i : Nat) (w : World) (h : QdS l A c rb w i 0 0 ⟨#[]⟩) (hk : Rd.atK l i = none) (hb : Rd.sees l i 4 [40] = false) :
    Calls Tryd.prog 78 #[.pointer (some ⟨rb, 0, none⟩)] w (QPost l A c rb w (.one i)) := by
  have hN0 : Rd.sees l i 4 ((⟨#[63]⟩ : ByteArray).toList) = false := by rw [lit_list _ [63] rfl]; exact (atK_none hk).1
  have hN1 : Rd.sees l i 3 ((⟨#[105, 110, 116]⟩ : ByteArray).toList) = false := by rw [lit_list _ [105, 110, 116] rfl]; exact (atK_none hk).2.1
  have hN2 : Rd.sees l i 3 ((⟨#[98, 111, 111, 108]⟩ : ByteArray).toList) = false := by rw [lit_list _ [98, 111, 111, 108] rfl]; exact (atK_none hk).2.2
  have hN3 : Rd.sees l i 4 ((⟨#[40]⟩ : ByteArray).toList) = false := by rw [lit_list _ [40] rfl]; exact hb
  have HK := Lib.hid hk
  have HB := Lib.hid hb
  clear hk hb
  have hne : w.heap.size ≠ rb := by have := heap_lt h.rdr; omega
  have hb0 : Below w.heap.size w (w.alloc (.cells #[.int .i8 0, .slice none 0 0] 29)) := (Below.refl _ _).alloc (Nat.le_refl _) _
  have HX1 := Lib.hid (heap_new w (.cells #[.int .i8 0, .slice none 0 0] 29))
  have HS1 := Lib.hid (h.below hb0)
  have HG1 := Lib.hid (only_below (rb := rb) hb0)
  have HL := Lib.hid h.le
  clear hb0 h
  generalize hw1 : w.alloc (.cells #[.int .i8 0, .slice none 0 0] 29) = w1 at *
  have HW := Lib.hid hw1
  clear hw1
  go_enter Tryd.func78, Tryd.ntmps78
  go_wp2_with fail
  rw [HW.out]
  refine (qsign_no l A c rb i ⟨#[63]⟩ w1 HS1.out hN0).mono ?_
  rintro e w2 ⟨rfl, hb⟩
  have HS2 := Lib.hid (HS1.out.below hb)
  have HX2 := Lib.hid (heap_below hb (heap_lt HX1.out) HX1.out)
  have HG2 := Lib.hid (only_trans HG1.out (only_below (rb := rb) hb))
  clear hb HS1 HX1 HG1
  go_wp2_with fail
  refine (qkey_no l A c rb i ⟨#[105, 110, 116]⟩ w2 HS2.out hN1).mono ?_
  rintro e w3 ⟨rfl, hb⟩
  have HS3 := Lib.hid (HS2.out.below hb)
  have HX3 := Lib.hid (heap_below hb (heap_lt HX2.out) HX2.out)
  have HG3 := Lib.hid (only_trans HG2.out (only_below (rb := rb) hb))
  clear hb HS2 HX2 HG2
  go_wp2_with fail
  refine (qkey_no l A c rb i ⟨#[98, 111, 111, 108]⟩ w3 HS3.out hN2).mono ?_
  rintro e w4 ⟨rfl, hb⟩
  have HS4 := Lib.hid (HS3.out.below hb)
  have HX4 := Lib.hid (heap_below hb (heap_lt HX3.out) HX3.out)
  have HG4 := Lib.hid (only_trans HG3.out (only_below (rb := rb) hb))
  clear hb HS3 HX3 HG3
  go_wp2_with fail
  refine (qsign_no l A c rb i ⟨#[40]⟩ w4 HS4.out hN3).mono ?_
  rintro e w5 ⟨rfl, hb⟩
  have HS5 := Lib.hid (HS4.out.below hb)
  have HX5 := Lib.hid (heap_below hb (heap_lt HX4.out) HX4.out)
  have HG5 := Lib.hid (only_trans HG4.out (only_below (rb := rb) hb))
  clear hb HS4 HX4 HG4
  go_wp2_with fail
  refine (wrong_any l A c rb i 0 ⟨#[]⟩ w5 HS5.out).mono ?_
  rintro e w6 ⟨rfl, hR, hg⟩
  have HX6 := Lib.hid (heap_grown hg hne HX5.out)
  have HG6 := Lib.hid (only_trans HG5.out hg)
  have HR6 := Lib.hid hR
  clear hR hg
  obtain ⟨x0, x1, f0, f1, xl⟩ := own2 HX6.out
  go_wp2_with fail
  refine bodyPost_ret (v := .agg #[.int .i8 0, .slice none 0 0]) (by simp [results, Tryd.results78, go_sem, *]) rfl ?_
  exact .inr ⟨i, .no HK.out HB.out, i, HL.out, 0, none, 0, 0, rfl, qrd_far (qrd_far HR6.out hne _ _) hne _ _, only_setCell (only_setCell HG6.out (.inr (Nat.le_refl _)) _) (.inr (Nat.le_refl _)) _⟩

set_option maxHeartbeats 4000000 in
set_option maxRecDepth 100000 in
theorem qatom_flt (l : List W4) (A : Option Addr) (c rb i : Nat) (E a : Int) (sf : ByteArray) (w : World) (h : QdS l A c rb w i E a sf) (hE : E ≠ 0) :
    Calls Tryd.prog 78 #[.pointer (some ⟨rb, 0, none⟩)] w (QIdle l A c rb w i E a sf) := by
  have hne : w.heap.size ≠ rb := by have := heap_lt h.rdr; omega
  have hb0 : Below w.heap.size w (w.alloc (.cells #[.int .i8 0, .slice none 0 0] 29)) := (Below.refl _ _).alloc (Nat.le_refl _) _
  have HX1 := Lib.hid (heap_new w (.cells #[.int .i8 0, .slice none 0 0] 29))
  have HS1 := Lib.hid (h.below hb0)
  have HG1 := Lib.hid (only_below (rb := rb) hb0)
  have HL := Lib.hid h.le
  clear hb0 h
  generalize hw1 : w.alloc (.cells #[.int .i8 0, .slice none 0 0] 29) = w1 at *
  have HW := Lib.hid hw1
  clear hw1
  go_enter Tryd.func78, Tryd.ntmps78
  go_wp2_with fail
  rw [HW.out]
  refine (sign_flt l A c rb i E a sf ⟨#[63]⟩ w1 HS1.out hE).mono ?_
  rintro e w2 ⟨rfl, hw⟩
  rw [hw]
  go_wp2_with fail
  refine (key_flt l A c rb i E a sf ⟨#[105, 110, 116]⟩ w1 HS1.out hE).mono ?_
  rintro e w3 ⟨rfl, hw⟩
  rw [hw]
  go_wp2_with fail
  refine (key_flt l A c rb i E a sf ⟨#[98, 111, 111, 108]⟩ w1 HS1.out hE).mono ?_
  rintro e w4 ⟨rfl, hw⟩
  rw [hw]
  go_wp2_with fail
  refine (sign_flt l A c rb i E a sf ⟨#[40]⟩ w1 HS1.out hE).mono ?_
  rintro e w5 ⟨rfl, hw⟩
  rw [hw]
  go_wp2_with fail
  refine (wrong_flt l A c rb i E a sf w1 HS1.out hE).mono ?_
  rintro e w6 ⟨rfl, hw⟩
  rw [hw]
  obtain ⟨x0, x1, f0, f1, xl⟩ := own2 HX1.out
  go_wp2_with fail
  refine bodyPost_ret (v := .agg #[.int .i8 0, .slice none 0 0]) (by simp [results, Tryd.results78, go_sem, *]) rfl ?_
  exact ⟨0, none, 0, 0, rfl, qrd_far (qrd_far HS1.out.rdr hne _ _) hne _ _, only_setCell (only_setCell HG1.out (.inr (Nat.le_refl _)) _) (.inr (Nat.le_refl _)) _⟩
end Go.Proofs.YtkpdddlonmkebaaDoor
