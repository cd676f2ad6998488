/-
  The document's reader: an atom in brackets; prod and sum. (Written by gen_rdq3.py.)
-/
import Derived.Test.YtkpdddlonmkebaaDoorRdQ2
import Derived.Test.YtkpdddlonmkebaaDoorRd7
import Derived.Test.YtkpdddlonmkebaaDoorRefFn
namespace Go.Proofs.YtkpdddlonmkebaaDoor
open Go.RowKit Rd

theorem QPost.four {l : List W4} {A : Option Addr} {c rb i : Nat} {w : World} {e : Ending} {w' : World} (h : QPost l A c rb w (.one i) e w') : QPost l A c rb w (.wh 4 i) e w' := by
  rcases h with ⟨k, kids, j, hR, hO⟩ | ⟨q, hR, hB⟩
  · exact .inl ⟨k, kids, j, hR.four, hO⟩
  · exact .inr ⟨q, hR.four, hB⟩
/-- the loop's state: the part so far is in the box X -/
structure QSt (l : List W4) (A : Option Addr) (c rb least i : Nat) (w : World) (X : Nat) (k : Int) (kids : Fo) (j : Nat) (G : Option Addr) (mg cg : Nat) (wr : World) : Prop where
  gt : i ≤ j
  rd : QdS l A c rb wr j 0 0 ⟨#[]⟩
  box : wr.heap[X]? = some (.cells #[.int .i8 k, .slice G mg cg] 29)
  res : wr.heap[w.heap.size]? = some (.cells #[.int .i8 0, .slice none 0 0] 29)
  far : FarP (fun b => w.heap.size < b ∧ b ≠ X) wr k kids G mg cg
  only : w.grownBy wr (some rb)
  on : ∀ r, R l (.lp least k kids j) r → R l (.wh least i) r
  ends : opK l j = 0 ∨ binds (opK l j) ≤ least
/-- behind the first fault -/
structure QBt (l : List W4) (A : Option Addr) (c rb least i : Nat) (w : World) (X q : Nat) (k : Int) (G : Option Addr) (mg cg i' : Nat) (wr : World) : Prop where
  rd : QdS l A c rb wr i' 40 (fAt l q) (fWord l q)
  box : wr.heap[X]? = some (.cells #[.int .i8 k, .slice G mg cg] 29)
  res : wr.heap[w.heap.size]? = some (.cells #[.int .i8 0, .slice none 0 0] 29)
  only : w.grownBy wr (some rb)
  bad : R l (.wh least i) (.bad q)
theorem QSt.done {l : List W4} {A : Option Addr} {c rb least i j X mg cg : Nat} {w wr w5 : World} {k : Int} {kids : Fo} {G : Option Addr} (h : QSt l A c rb least i w X k kids j G mg cg wr) (hb : Below wr.heap.size wr w5) (hwr : w.heap.size ≠ rb) (hs : opK l j = 0 ∨ binds (opK l j) < least) :
    QPost l A c rb w (.wh least i) (.returned (.agg #[.int .i8 k, .slice G mg cg])) ((w5.setCell ⟨w.heap.size, 0, none⟩ (.int .i8 k)).setCell ⟨w.heap.size, 1, none⟩ (.slice G mg cg)) := by
  refine .inl ⟨k, kids, j, h.on _ (.stop hs), G, mg, cg, rfl, ?_, qrd_far (qrd_far (h.rd.below hb).rdr hwr _ _) hwr _ _, only_setCell (only_setCell (only_trans h.only (only_below hb)) (.inr (Nat.le_refl _)) _) (.inr (Nat.le_refl _)) _⟩
  have h1 := (h.far.below hb).keep (w' := (w5.setCell ⟨w.heap.size, 0, none⟩ (.int .i8 k)).setCell ⟨w.heap.size, 1, none⟩ (.slice G mg cg)) fun b o v hP hc => by
    rw [World.cell?_setCell_other _ _ _ _ (fun e => by injection e with e; omega), World.cell?_setCell_other _ _ _ _ (fun e => by injection e with e; omega)]
    exact hc
  exact h1.mono fun b o v _ hP => Nat.le_of_lt hP.1
theorem QBt.done {l : List W4} {A : Option Addr} {c rb least i X q mg cg i' : Nat} {w wr : World} {k : Int} {G : Option Addr} (h : QBt l A c rb least i w X q k G mg cg i' wr) (hwr : w.heap.size ≠ rb) :
    QPost l A c rb w (.wh least i) (.returned (.agg #[.int .i8 k, .slice G mg cg])) ((wr.setCell ⟨w.heap.size, 0, none⟩ (.int .i8 k)).setCell ⟨w.heap.size, 1, none⟩ (.slice G mg cg)) :=
  .inr ⟨q, h.bad, i', h.rd.le, k, G, mg, cg, rfl, qrd_far (qrd_far h.rd.rdr hwr _ _) hwr _ _, only_setCell (only_setCell h.only (.inr (Nat.le_refl _)) _) (.inr (Nat.le_refl _)) _⟩
theorem qds_far {l : List W4} {A : Option Addr} {c rb i X : Nat} {E a : Int} {s : ByteArray} {w : World} (h : QdS l A c rb w i E a s) (hX : X ≠ rb) {k : Int} {G : Option Addr} {m cg : Nat} {t : TypeId} (hbx : w.heap[X]? = some (.cells #[.int .i8 k, .slice G m cg] t (0, 0))) (u v : Value) : QdS l A c rb ((w.setCell ⟨X, 0, none⟩ u).setCell ⟨X, 1, none⟩ v) i E a s := by
  refine ⟨qrd_far (qrd_far h.rdr hX _ _) hX _ _, fun q x hx => ?_, h.ne, h.le, h.len⟩
  obtain ⟨g, p, e, c0, c1, c2, c3⟩ := h.row q x hx
  have hgX : g ≠ X := by
    intro e2; subst e2
    simp only [World.cell?, hbx] at c0 c1
    rcases Nat.lt_or_ge (p + q * 4) 1 with hlt | hge
    · have e1 : p + q * 4 = 0 := by omega
      simp [e1] at c1
    · rcases Nat.lt_or_ge (p + q * 4) 2 with hlt | hge
      · have e1 : p + q * 4 = 1 := by omega
        simp [e1] at c0
      · simp [hge] at c0
  have hc := fun (a : Nat) (z : Value) (hv : w.cell? ⟨g, a, none⟩ = some z) => (show ((w.setCell ⟨X, 0, none⟩ u).setCell ⟨X, 1, none⟩ v).cell? ⟨g, a, none⟩ = some z by
    rw [World.cell?_setCell_other _ _ _ _ (fun e => hgX (by injection e with e1 e2; omega)), World.cell?_setCell_other _ _ _ _ (fun e => hgX (by injection e with e1 e2; omega))]; exact hv)
  exact ⟨g, p, e, hc _ _ c0, hc _ _ c1, hc _ _ c2, hc _ _ c3⟩
theorem QBt.next {l : List W4} {A : Option Addr} {c rb least i X q i' : Nat} {w w8 : World} {k : Int} {G : Option Addr} {mg cg : Nat} (hX : w.heap.size < X) (hrb : rb < w.heap.size) (hS : QdS l A c rb w8 i' 40 (fAt l q) (fWord l q))
    (hx : w8.heap[X]? = some (.cells #[.int .i8 k, .slice G mg cg] 29)) (hz : w8.heap[w.heap.size]? = some (.cells #[.int .i8 0, .slice none 0 0] 29)) (hg : w.grownBy w8 (some rb)) (hR : R l (.wh least i) (.bad q)) (o : Int) (G' : Option Addr) (m' c' : Nat) :
    QBt l A c rb least i w X q o G' m' c' i' ((w8.setCell ⟨X, 0, none⟩ (.int .i8 o)).setCell ⟨X, 1, none⟩ (.slice G' m' c')) :=
  ⟨qds_far hS (by omega) hx _ _, set_two hx, by rw [Below.heap_setCell _ _ _ _ (show w.heap.size ≠ X by omega), Below.heap_setCell _ _ _ _ (show w.heap.size ≠ X by omega)]; exact hz,
    only_setCell (only_setCell hg (.inr (Nat.le_of_lt hX)) _) (.inr (Nat.le_of_lt hX)) _, hR⟩
/-- a word between two parts, and the part behind it: u holds the second part in Y, w5 the two in N -/
theorem QSt.next {l : List W4} {A : Option Addr} {c rb least i j j2 X mg cg m2 c2 N : Nat} {w wr w7 u w5 : World} {k k2 : Int} {kids kids2 : Fo} {G G2 : Option Addr} (h : QSt l A c rb least i w X k kids j G mg cg wr) (g7 : wr.grownBy w7 (some rb))
    (hX : w.heap.size < X) (hrb : rb < w.heap.size) (o : Int) (ho : opK l j = o) (h3 : o = 4 ∨ o = 5) (hbl : binds o = least) (hrg : rgt o = least + 1) (hok : R l (.wh (least + 1) (j + 1)) (.ok k2 kids2 j2)) (hF : Far w7.heap.size u k2 kids2 G2 m2 c2) (hR : QRd u rb A l.length c j2 0 0 ⟨#[]⟩) (hg : w7.grownBy u (some rb))
    (hb : Below u.heap.size u w5) (hN : u.heap.size ≤ N) (hY : w5.heap[N]? = some (.cells #[.int .i8 k, .slice G mg cg, .int .i8 k2, .slice G2 m2 c2] 29 (0, 0))) :
    QSt l A c rb least i w X o (two k kids k2 kids2) j2 (some ⟨N, 0, none⟩) 2 2 ((w5.setCell ⟨X, 0, none⟩ (.int .i8 o)).setCell ⟨X, 1, none⟩ (.slice (some ⟨N, 0, none⟩) 2 2)) := by
  have hXr : X ≠ rb := by omega
  have h0 : opK l j ≠ 0 := by rw [ho]; rcases h3 with rfl | rfl <;> decide
  have hg2 := only_trans g7 hg
  have hj := hok.goes (show j + 1 ≤ l.length from opK_lt h0)
  simp only [Tg.start] at hj
  have hXl := heap_lt h.box
  have h7 := g7.size
  have hu := hg.size
  have hbox := heap_below hb (show X < u.heap.size by omega) (heap_grown hg2 hXr h.box)
  have hres := heap_below hb (show w.heap.size < u.heap.size by omega) (heap_grown hg2 (show w.heap.size ≠ rb by omega) h.res)
  obtain ⟨y0, y1, y2, y3, -⟩ := own4 hY
  have hon := only_setCell (only_setCell (only_trans (only_trans h.only hg2) (only_below (rb := rb) hb)) (.inr (Nat.le_of_lt hX)) (.int .i8 o) (p := ⟨X, 0, none⟩)) (.inr (Nat.le_of_lt hX)) (.slice (some ⟨N, 0, none⟩) 2 2) (p := ⟨X, 1, none⟩)
  have hRd := qrd_far (qrd_far (heap_below hb (heap_lt hR) hR : QRd _ rb A l.length c j2 0 0 ⟨#[]⟩) hXr 0 (.int .i8 o)) hXr 1 (.slice (some ⟨N, 0, none⟩) 2 2)
  have F1 := ((h.far.keep (w' := u) fun b q v hP hc => by
    rw [World.cell?_of_block (hg2.block b (Ty.cell_lt hc) (fun e => by injection e with e; omega))]; exact hc).below hb)
  have F2 := (hF.toP.mono (Q := fun b => w.heap.size < b ∧ b ≠ X) (fun b q v _ (hP : w7.heap.size ≤ b) => ⟨by omega, by omega⟩)).below hb
  have hro : w.grownBy ((w5.setCell ⟨X, 0, none⟩ (.int .i8 o)).setCell ⟨X, 1, none⟩ (.slice (some ⟨N, 0, none⟩) 2 2)) (some rb) := hon
  have hgt := h.gt
  refine ⟨by omega, ⟨hRd, ?_, h.rd.ne, hj.2, h.rd.len⟩, set_two hbox, ?_, ?_, hon, fun r hr => h.on r (.op h0 (by rw [ho, hbl]; exact Nat.le_refl _) (by rw [ho, hrg]; exact hok) (by rw [ho]; exact hr)), ?_⟩
  · have h1 := (h.rd.row.grown h.rd.ne hg2).below hb
    intro q x hx
    obtain ⟨g, p, e, c0, c1, c2, c3⟩ := h1 q x hx
    have hgX : g ≠ X := by
      intro e2; subst e2
      obtain ⟨g', p', e', d0, -, -, -⟩ := h.rd.row q x hx
      rw [e'] at e; injection e with e; injection e with e1 e2; subst e1; subst e2
      obtain ⟨b0, b1, -, -, -⟩ := own2 h.box
      simp only [World.cell?, h.box] at d0
      have : p' + q * 4 = 0 := by
        rcases Nat.lt_or_ge (p' + q * 4) 2 with hlt | hge
        · rcases Nat.lt_or_ge (p' + q * 4) 1 with hlt | hge
          · omega
          · have e1 : p' + q * 4 = 1 := by omega
            simp [e1] at d0
        · simp [hge] at d0
      obtain ⟨g'', p'', e'', -, d1, -, -⟩ := h.rd.row q x hx
      rw [e'] at e''; injection e'' with e3; injection e3 with e1 e2; subst e1; subst e2
      simp [World.cell?, h.box, this] at d1
    have hc := fun (a : Nat) (v : Value) (hv : w5.cell? ⟨g, a, none⟩ = some v) => (show ((w5.setCell ⟨X, 0, none⟩ (.int .i8 o)).setCell ⟨X, 1, none⟩ (.slice (some ⟨N, 0, none⟩) 2 2)).cell? ⟨g, a, none⟩ = some v by
      rw [World.cell?_setCell_other _ _ _ _ (fun e => hgX (by injection e with e1 e2; omega)), World.cell?_setCell_other _ _ _ _ (fun e => hgX (by injection e with e1 e2; omega))]; exact hv)
    exact ⟨g, p, e, hc _ _ c0, hc _ _ c1, hc _ _ c2, hc _ _ c3⟩
  · rw [Below.heap_setCell _ _ _ _ (show w.heap.size ≠ X by omega), Below.heap_setCell _ _ _ _ (show w.heap.size ≠ X by omega)]
    exact hres
  · have F := far_two (k := o) F1 F2 (show w.heap.size < N ∧ N ≠ X by omega) y0 y1 y2 y3 (by rcases h3 with rfl | rfl <;> decide)
    exact F.keep fun b q v hP hc => by
      rw [World.cell?_setCell_other _ _ _ _ (fun e => by injection e with e; omega), World.cell?_setCell_other _ _ _ _ (fun e => by injection e with e; omega)]
      exact hc
  · have := hok.ends
    rcases this with h | h
    · exact .inl h
    · exact .inr (by omega)

set_option maxHeartbeats 4000000 in
set_option maxRecDepth 100000 in
theorem qatom_br (l : List W4) (A : Option Addr) (c rb i : Nat) (w : World) (h : QdS l A c rb w i 0 0 ⟨#[]⟩) (hs : Rd.sees l i 4 [40] = true)
    (hT : ∀ W : World, QdS l A c rb W (i + 1) 0 0 ⟨#[]⟩ → Calls Tryd.prog 22 #[.pointer (some ⟨rb, 0, none⟩)] W (QPost l A c rb W (.wh 1 (i + 1)))) :
    Calls Tryd.prog 78 #[.pointer (some ⟨rb, 0, none⟩)] w (QPost l A c rb w (.one i)) := by
  have hN0 : Rd.sees l i 4 ((⟨#[63]⟩ : ByteArray).toList) = false := by rw [lit_list _ [63] rfl]; exact sees_k hs (by decide)
  have hN1 : Rd.sees l i 3 ((⟨#[105, 110, 116]⟩ : ByteArray).toList) = false := by rw [lit_list _ [105, 110, 116] rfl]; exact sees_k hs (by decide)
  have hN2 : Rd.sees l i 3 ((⟨#[98, 111, 111, 108]⟩ : ByteArray).toList) = false := by rw [lit_list _ [98, 111, 111, 108] rfl]; exact sees_k hs (by decide)
  have hY : Rd.sees l i 4 ((⟨#[40]⟩ : ByteArray).toList) = true := by rw [lit_list _ [40] rfl]; exact hs
  have HI := Lib.hid (show i + 1 ≤ l.length from Rd.sees_lt hs)
  have HO := Lib.hid hs
  have HT := Lib.hid hT
  have hrb := heap_lt h.rdr
  clear hs hT
  have hne : w.heap.size ≠ rb := by have := heap_lt h.rdr; omega
  have hb0 : Below w.heap.size w (w.alloc (.cells #[.int .i8 0, .slice none 0 0] 29)) := (Below.refl _ _).alloc (Nat.le_refl _) _
  have HX1 := Lib.hid (heap_new w (.cells #[.int .i8 0, .slice none 0 0] 29))
  have HS1 := Lib.hid (h.below hb0)
  have HG1 := Lib.hid (only_below (rb := rb) hb0)
  have HL := Lib.hid h.le
  clear hb0 h
  generalize hw1 : w.alloc (.cells #[.int .i8 0, .slice none 0 0] 29) = w1 at *
  have HW := Lib.hid hw1
  clear hw1
  go_enter Tryd.func78, Tryd.ntmps78
  go_wp2_with fail
  rw [HW.out]
  refine (qsign_no l A c rb i ⟨#[63]⟩ w1 HS1.out hN0).mono ?_
  rintro e w2 ⟨rfl, hb⟩
  have HS2 := Lib.hid (HS1.out.below hb)
  have HX2 := Lib.hid (heap_below hb (heap_lt HX1.out) HX1.out)
  have HG2 := Lib.hid (only_trans HG1.out (only_below (rb := rb) hb))
  clear hb HS1 HX1 HG1
  go_wp2_with fail
  refine (qkey_no l A c rb i ⟨#[105, 110, 116]⟩ w2 HS2.out hN1).mono ?_
  rintro e w3 ⟨rfl, hb⟩
  have HS3 := Lib.hid (HS2.out.below hb)
  have HX3 := Lib.hid (heap_below hb (heap_lt HX2.out) HX2.out)
  have HG3 := Lib.hid (only_trans HG2.out (only_below (rb := rb) hb))
  clear hb HS2 HX2 HG2
  go_wp2_with fail
  refine (qkey_no l A c rb i ⟨#[98, 111, 111, 108]⟩ w3 HS3.out hN2).mono ?_
  rintro e w4 ⟨rfl, hb⟩
  have HS4 := Lib.hid (HS3.out.below hb)
  have HX4 := Lib.hid (heap_below hb (heap_lt HX3.out) HX3.out)
  have HG4 := Lib.hid (only_trans HG3.out (only_below (rb := rb) hb))
  clear hb HS3 HX3 HG3
  go_wp2_with fail
  refine (sign_yes l A c rb i 0 ⟨#[]⟩ ⟨#[40]⟩ w4 HS4.out hY).mono ?_
  rintro e w5 ⟨rfl, hR, hg⟩
  have HS5 := Lib.hid (HS4.out.step hg hR (HI.out))
  have HX5 := Lib.hid (heap_grown hg hne HX4.out)
  have HG5 := Lib.hid (only_trans HG4.out hg)
  clear hR hg HS4 HX4 HG4
  go_wp2_with fail
  refine (HT.out w5 HS5.out).mono ?_
  rintro e w6 (⟨k, kids, j, hRk, G, m, cg, rfl, hF, hR, hg⟩ | ⟨q, hRq, i', hi', k, G, m, cg, rfl, hR, hg⟩)
  · have hj := hRk.goes (show i + 1 ≤ l.length from HI.out)
    have hbx : Below w6.heap.size w6 (w6.alloc (.cells #[.int .i8 k, .slice G m cg] 29)) := (Below.refl _ _).alloc (Nat.le_refl _) _
    have hu := hg.size
    have h51 := HG5.out.size
    have h1l := heap_lt HX5.out
    have HBX := Lib.hid (heap_new w6 (.cells #[.int .i8 k, .slice G m cg] 29))
    have HX7 := Lib.hid (heap_old (heap_grown hg hne HX5.out) (.cells #[.int .i8 k, .slice G m cg] 29))
    have HG7 := Lib.hid (only_alloc (only_trans HG5.out hg) (.cells #[.int .i8 k, .slice G m cg] 29))
    have hxl : w6.heap.size ≠ rb := by have := heap_lt hR; omega
    have hxp : w6.heap.size ≠ w.heap.size := by omega
    have HS7 := Lib.hid (((HS5.out.step hg hR hj.2).below hbx))
    have HF7 := Lib.hid (hF.below hbx)
    have HRK := Lib.hid hRk
    clear hbx hj hF hR hg hRk
    go_wp2_with fail
    generalize w6.alloc (.cells #[.int .i8 k, .slice G m cg] 29) = w7 at *
    cases hc : Rd.sees l j 4 [41] with
    | true =>
      have HC := Lib.hid hc
      have hY2 : Rd.sees l j 4 ((⟨#[41]⟩ : ByteArray).toList) = true := by rw [lit_list _ [41] rfl]; exact hc
      clear hc
      refine (qwant_yes l A c rb j ⟨#[41]⟩ w7 HS7.out hY2).mono ?_
      rintro e w8 ⟨rfl, hR, hg⟩
      have HX8 := Lib.hid (heap_grown hg hne HX7.out)
      have HB8 := Lib.hid (heap_grown hg hxl HBX.out)
      have HG8 := Lib.hid (only_trans HG7.out hg)
      have HF8 := Lib.hid (show Far w5.heap.size w8 k kids G m cg from HF7.out.keep fun b o v hb hc => by rw [World.cell?_of_block (hg.block b (Ty.cell_lt hc) (fun e => by injection e with e; omega))]; exact hc)
      have HR8 := Lib.hid hR
      clear hR hg
      obtain ⟨x0, x1, f0, f1, xl⟩ := own2 HX8.out
      obtain ⟨b0, b1, -, -, bl⟩ := own2 HB8.out
      go_wp2_with fail
      refine bodyPost_ret (v := .agg #[.int .i8 k, .slice G m cg]) (by simp [results, Tryd.results78, go_sem, *]) rfl ?_
      refine .inl ⟨k, kids, j + 1, .br HO.out HRK.out HC.out, G, m, cg, rfl, ?_, qrd_far (qrd_far HR8.out hne _ _) hne _ _, only_setCell (only_setCell HG8.out (.inr (Nat.le_refl _)) _) (.inr (Nat.le_refl _)) _⟩
      exact (HF8.out.keep fun b o v hb hc => by
        rw [World.cell?_setCell_other _ _ _ _ (fun e => by injection e with e1 e2; omega), World.cell?_setCell_other _ _ _ _ (fun e => by injection e with e1 e2; omega)]; exact hc).low (by omega)
    | false =>
      have HC := Lib.hid hc
      have hY2 : Rd.sees l j 4 ((⟨#[41]⟩ : ByteArray).toList) = false := by rw [lit_list _ [41] rfl]; exact hc
      clear hc
      refine (qwant_no l A c rb j ⟨#[41]⟩ w7 HS7.out hY2).mono ?_
      rintro e w8 ⟨rfl, hR, hg⟩
      have HX8 := Lib.hid (heap_grown hg hne HX7.out)
      have HB8 := Lib.hid (heap_grown hg hxl HBX.out)
      have HG8 := Lib.hid (only_trans HG7.out hg)
      have HR8 := Lib.hid hR
      clear hR hg
      obtain ⟨x0, x1, f0, f1, xl⟩ := own2 HX8.out
      obtain ⟨b0, b1, -, -, bl⟩ := own2 HB8.out
      go_wp2_with fail
      refine bodyPost_ret (v := .agg #[.int .i8 k, .slice G m cg]) (by simp [results, Tryd.results78, go_sem, *]) rfl ?_
      exact .inr ⟨j, .brNo HO.out HRK.out HC.out, j, HS7.out.le, k, G, m, cg, rfl, qrd_far (qrd_far HR8.out hne _ _) hne _ _, only_setCell (only_setCell HG8.out (.inr (Nat.le_refl _)) _) (.inr (Nat.le_refl _)) _⟩
  · have hbx : Below w6.heap.size w6 (w6.alloc (.cells #[.int .i8 k, .slice G m cg] 29)) := (Below.refl _ _).alloc (Nat.le_refl _) _
    have hu := hg.size
    have h51 := HG5.out.size
    have h1l := heap_lt HX5.out
    have HBX := Lib.hid (heap_new w6 (.cells #[.int .i8 k, .slice G m cg] 29))
    have HX7 := Lib.hid (heap_old (heap_grown hg hne HX5.out) (.cells #[.int .i8 k, .slice G m cg] 29))
    have HG7 := Lib.hid (only_alloc (only_trans HG5.out hg) (.cells #[.int .i8 k, .slice G m cg] 29))
    have hxl : w6.heap.size ≠ rb := by have := heap_lt hR; omega
    have hxp : w6.heap.size ≠ w.heap.size := by omega
    have HS7 := Lib.hid (((HS5.out.step hg hR hi').below hbx))
    have HRQ := Lib.hid hRq
    clear hbx hR hg hRq
    go_wp2_with fail
    generalize w6.alloc (.cells #[.int .i8 k, .slice G m cg] 29) = w7 at *
    refine (qwant_flt l A c rb i' 40 _ _ ⟨#[41]⟩ w7 HS7.out (by decide)).mono ?_
    rintro e w8 ⟨rfl, hw⟩
    rw [hw]
    obtain ⟨x0, x1, f0, f1, xl⟩ := own2 HX7.out
    obtain ⟨b0, b1, -, -, bl⟩ := own2 HBX.out
    go_wp2_with fail
    refine bodyPost_ret (v := .agg #[.int .i8 k, .slice G m cg]) (by simp [results, Tryd.results78, go_sem, *]) rfl ?_
    exact .inr ⟨q, .brBad HO.out HRQ.out, i', HS7.out.le, k, G, m, cg, rfl, qrd_far (qrd_far HS7.out.rdr hne _ _) hne _ _, only_setCell (only_setCell HG7.out (.inr (Nat.le_refl _)) _) (.inr (Nat.le_refl _)) _⟩

theorem qatom_any (l : List W4) (A : Option Addr) (c rb i : Nat) (w : World) (h : QdS l A c rb w i 0 0 ⟨#[]⟩)
    (hT : Rd.sees l i 4 [40] = true → ∀ W : World, QdS l A c rb W (i + 1) 0 0 ⟨#[]⟩ → Calls Tryd.prog 22 #[.pointer (some ⟨rb, 0, none⟩)] W (QPost l A c rb W (.wh 1 (i + 1)))) :
    Calls Tryd.prog 78 #[.pointer (some ⟨rb, 0, none⟩)] w (QPost l A c rb w (.one i)) := by
  cases hb : Rd.sees l i 4 [40] with
  | true => exact qatom_br l A c rb i w h hb (hT hb)
  | false =>
    cases hk : Rd.atK l i with
    | none => exact qatom_no l A c rb i w h hk hb
    | some k =>
      unfold Rd.atK at hk
      split at hk
      · exact qatom_0 l A c rb i w h ‹_›
      · split at hk
        · exact qatom_1 l A c rb i w h ‹_›
        · split at hk
          · exact qatom_2 l A c rb i w h ‹_›
          · cases hk

theorem prod_word {l : List W4} {j : Nat} (_h : binds (opK l j) ≤ 3) : (sees l j 4 [42] = true → opK l j = 4) ∧ (sees l j 4 [42] = false → opK l j = 0 ∨ binds (opK l j) < 3) := by
  unfold opK
  cases h1 : sees l j 4 sArrow with
  | true => exact ⟨fun h2 => (by rw [sees_k h1 (by decide)] at h2; cases h2), fun _ => (by simp [binds])⟩
  | false =>
    cases h2 : sees l j 4 [42] with
    | true => exact ⟨fun _ => (by simp), fun h3 => (by cases h3)⟩
    | false =>
      exact ⟨fun h4 => (by cases h4), fun _ => (by cases h3 : sees l j 4 [43] <;> simp [binds])⟩
set_option maxHeartbeats 8000000 in
set_option maxRecDepth 100000 in
theorem qprod_any (l : List W4) (A : Option Addr) (c rb i : Nat) (w : World) (h : QdS l A c rb w i 0 0 ⟨#[]⟩)
    (hI : ∀ (W : World) (j : Nat), i ≤ j → QdS l A c rb W j 0 0 ⟨#[]⟩ → Calls Tryd.prog 78 #[.pointer (some ⟨rb, 0, none⟩)] W (QPost l A c rb W (.wh 4 j))) :
    Calls Tryd.prog 62 #[.pointer (some ⟨rb, 0, none⟩)] w (QPost l A c rb w (.wh 3 i)) := by
  have hrb := heap_lt h.rdr
  have HN := Lib.hid hI
  clear hI
  have hne : w.heap.size ≠ rb := by have := heap_lt h.rdr; omega
  have hb0 : Below w.heap.size w (w.alloc (.cells #[.int .i8 0, .slice none 0 0] 29)) := (Below.refl _ _).alloc (Nat.le_refl _) _
  have HX1 := Lib.hid (heap_new w (.cells #[.int .i8 0, .slice none 0 0] 29))
  have HS1 := Lib.hid (h.below hb0)
  have HG1 := Lib.hid (only_below (rb := rb) hb0)
  have HL := Lib.hid h.le
  clear hb0 h
  generalize hw1 : w.alloc (.cells #[.int .i8 0, .slice none 0 0] 29) = w1 at *
  have HW := Lib.hid hw1
  clear hw1
  go_enter Tryd.func62, Tryd.ntmps62
  go_wp2_with fail
  rw [HW.out]
  refine (HN.out w1 i (Nat.le_refl _) HS1.out).mono ?_
  rintro e w2 (⟨k, kids, j, hRk, G, m, cg, rfl, hF, hR, hg⟩ | ⟨q, hRq, i', hi', k, G, m, cg, rfl, hR, hg⟩)
  all_goals
    have hbx : Below w2.heap.size w2 (w2.alloc (.cells #[.int .i8 k, .slice G m cg] 29)) := (Below.refl _ _).alloc (Nat.le_refl _) _
    have hu := hg.size
    have h1l := heap_lt HX1.out
    have hXg : w.heap.size < w2.heap.size := by omega
    have hXr : w2.heap.size ≠ rb := by omega
    have HBX := Lib.hid (heap_new w2 (.cells #[.int .i8 k, .slice G m cg] 29))
    have HX3 := Lib.hid (heap_old (heap_grown hg hne HX1.out) (.cells #[.int .i8 k, .slice G m cg] 29))
    have HG3 := Lib.hid (only_alloc (only_trans HG1.out hg) (.cells #[.int .i8 k, .slice G m cg] 29))
    go_wp2_with fail
  · have hj := hRk.goes (show i ≤ l.length from HL.out)
    have HQ3 := Lib.hid (show QSt l A c rb 3 i w w2.heap.size k kids j G m cg (w2.alloc (.cells #[.int .i8 k, .slice G m cg] 29)) from by
      have hj1 : i + 1 ≤ j := hj.1
      refine ⟨by omega, (HS1.out.step hg hR hj.2).below hbx, HBX.out, HX3.out, ?_, HG3.out, fun r hr => hRk.join (by omega) hr, ?_⟩
      · exact (hF.toP.mono (fun b o v hc (hb : w1.heap.size ≤ b) => (⟨by omega, by have := Ty.cell_lt hc; omega⟩ : w.heap.size < b ∧ b ≠ w2.heap.size))).below hbx
      · rcases hRk.ends with e | e
        · exact .inl e
        · exact .inr (by omega))
    clear hbx hj hF hR hg hRk HBX HX3 HG3 HS1 HX1 HG1 HW hu h1l
    generalize w2.alloc (.cells #[.int .i8 k, .slice G m cg] 29) = w3 at *
    generalize w2.heap.size = X at *
    go_loopg [8] (l.length - j + 1) (fun g v wr => (∃ k kids j G mg cg, g = l.length - j + 1 ∧ Hid (QSt l A c rb 3 i w X k kids j G mg cg wr)) ∨ (∃ q k G mg cg i', g = 0 ∧ Hid (QBt l A c rb 3 i w X q k G mg cg i' wr)))
    case atStart => exact .inl ⟨k, kids, j, G, m, cg, rfl, HQ3⟩
    case round =>
      rcases hrel with ⟨k, kids, j, G, mg, cg, hgk, HW⟩ | ⟨q, k, G, mg, cg, i', hgk, HB⟩
      · have hs := HW.out.rd
        have hjl := hs.le
        have hble : binds (opK l j) ≤ 3 := by
          rcases HW.out.ends with e | e
          · rw [e]; decide
          · exact e
        cases hc : Rd.sees l j 4 [42] with
        | false =>
          have HE := Lib.hid ((prod_word hble).2 hc)
          have hY : Rd.sees l j 4 ((⟨#[42]⟩ : ByteArray).toList) = false := by rw [lit_list _ [42] rfl]; exact hc
          have CS := Lib.hid (qsign_no l A c rb j ⟨#[42]⟩ wr hs hY)
          clear hc hs hY hble
          go_wp2_with fail
          refine CS.out.mono ?_
          rintro e w5 ⟨rfl, hb⟩
          obtain ⟨b0, b1, bf0, bf1, bl⟩ := own2 (heap_below hb (heap_lt HW.out.box) HW.out.box)
          obtain ⟨d0, d1, df0, df1, dl⟩ := own2 (heap_below hb (heap_lt HW.out.res) HW.out.res)
          have HB := Lib.hid hb
          clear hb
          go_wp2_with fail
          refine bodyPost_ret (v := .agg #[.int .i8 k, .slice G mg cg]) (by simp [results, Tryd.results62, go_sem, *]) rfl (HW.out.done HB.out hne HE.out)
        | true =>
          have HE := Lib.hid ((prod_word hble).1 hc)
          have hjlt := Rd.sees_lt hc
          have HJ := Lib.hid (show j + 1 ≤ l.length from hjlt)
          have hY : Rd.sees l j 4 ((⟨#[42]⟩ : ByteArray).toList) = true := by rw [lit_list _ [42] rfl]; exact hc
          have CS := Lib.hid (sign_yes l A c rb j 0 ⟨#[]⟩ ⟨#[42]⟩ wr hs hY)
          have HSR := Lib.hid hs
          clear hc hs hY hble
          go_wp2_with fail
          refine CS.out.mono ?_
          rintro e w5 ⟨rfl, hR, hg⟩
          have HS5 := Lib.hid (HSR.out.step hg hR HJ.out)
          have HG5 := Lib.hid hg
          have CI := Lib.hid (HN.out w5 (j + 1) (by have := HW.out.gt; omega) HS5.out)
          clear hR hg
          go_wp2_with fail
          refine CI.out.mono ?_
          rintro e w6 (⟨k2, kids2, j2, hR2, G2, m2, c2, rfl, hF, hR, hg6⟩ | ⟨q, hRq, i', hi', k2, G2, m2, c2, rfl, hR, hg6⟩)
          · have hbx : Below w6.heap.size w6 (w6.alloc (.cells #[.int .i8 k2, .slice G2 m2 c2] 29)) := (Below.refl _ _).alloc (Nat.le_refl _) _
            have hg2 := only_trans HG5.out hg6
            have hx6 := heap_grown hg2 hXr HW.out.box
            have hy7 := heap_new w6 (.cells #[.int .i8 k2, .slice G2 m2 c2] 29)
            have HX7 := Lib.hid (heap_old hx6 (.cells #[.int .i8 k2, .slice G2 m2 c2] 29))
            obtain ⟨x0, x1, xf0, xf1, xl⟩ := own2 HX7.out
            obtain ⟨y0, y1, yf0, yf1, yl⟩ := own2 hy7
            have HB7 := Lib.hid hbx
            have HF := Lib.hid hF
            have HR6 := Lib.hid hR
            have HG6 := Lib.hid hg6
            have HR2 := Lib.hid hR2
            have HJ2 := Lib.hid (show j + 1 + 1 ≤ j2 ∧ j2 ≤ l.length from hR2.goes HJ.out)
            clear hbx hg2 hx6 hy7 hF hR hg6 hR2
            go_wp2_with fail
            refine (of_raw 4 k G mg cg k2 G2 m2 c2 _).mono ?_
            rintro e w8 ⟨N, rfl, hN, hY, hb8⟩
            have hb := HB7.out.trans (hb8.mono HB7.out.size)
            have hNl : w6.heap.size ≤ N := Nat.le_trans HB7.out.size hN
            have HF8 := Lib.hid (HW.out.next HG5.out hXg hrb 4 HE.out (by decide) (by decide) (by decide) HR2.out HF.out HR6.out HG6.out hb hNl hY)
            have HX8 := Lib.hid (heap_below hb8 (heap_lt HX7.out) HX7.out)
            clear x0 x1 xf0 xf1 xl y0 y1 yf0 yf1 yl hb hNl hb8 hY hN
            obtain ⟨x0, x1, xf0, xf1, xl⟩ := own2 HX8.out
            go_wp2_with fail
            go_roundg (l.length - j2 + 1)
            case measure => have := HJ2.out; omega
            case rel => exact .inl ⟨_, _, _, _, _, _, rfl, HF8⟩
          · have hbx : Below w6.heap.size w6 (w6.alloc (.cells #[.int .i8 k2, .slice G2 m2 c2] 29)) := (Below.refl _ _).alloc (Nat.le_refl _) _
            have hg2 := only_trans HG5.out hg6
            have hx6 := heap_grown hg2 hXr HW.out.box
            have hy7 := heap_new w6 (.cells #[.int .i8 k2, .slice G2 m2 c2] 29)
            have HX7 := Lib.hid (heap_old hx6 (.cells #[.int .i8 k2, .slice G2 m2 c2] 29))
            have HZ7 := Lib.hid (heap_old (heap_grown hg2 hne HW.out.res) (.cells #[.int .i8 k2, .slice G2 m2 c2] 29))
            have HS7 := Lib.hid ((HS5.out.step hg6 hR hi').below hbx)
            have HG7 := Lib.hid (only_alloc (only_trans HW.out.only hg2) (.cells #[.int .i8 k2, .slice G2 m2 c2] 29))
            have HRQ := Lib.hid (show R l (.wh 3 i) (.bad q) from HW.out.on _ (.opBad (by rw [HE.out]; decide) (by rw [HE.out]; decide) (by rw [HE.out]; exact hRq)))
            obtain ⟨x0, x1, xf0, xf1, xl⟩ := own2 HX7.out
            obtain ⟨y0, y1, yf0, yf1, yl⟩ := own2 hy7
            clear hbx hg2 hx6 hy7 hR hg6 hRq
            go_wp2_with fail
            generalize w6.alloc (.cells #[.int .i8 k2, .slice G2 m2 c2] 29) = w7 at *
            refine (of_raw 4 k G mg cg k2 G2 m2 c2 _).mono ?_
            rintro e w8 ⟨N, rfl, hN, hY, hb8⟩
            have HX8 := Lib.hid (heap_below hb8 (heap_lt HX7.out) HX7.out)
            have HF8 := Lib.hid (QBt.next hXg hrb (HS7.out.below hb8) HX8.out (heap_below hb8 (heap_lt HZ7.out) HZ7.out) (only_trans HG7.out (only_below hb8)) HRQ.out 4 (some ⟨N, 0, none⟩) 2 2)
            clear x0 x1 xf0 xf1 xl y0 y1 yf0 yf1 yl hb8 hY hN
            obtain ⟨x0, x1, xf0, xf1, xl⟩ := own2 HX8.out
            go_wp2_with fail
            go_roundg 0
            case measure => omega
            case rel => exact .inr ⟨_, _, _, _, _, _, rfl, HF8⟩
      · have CS := Lib.hid (sign_flt l A c rb i' 40 _ _ ⟨#[42]⟩ wr HB.out.rd (by decide))
        go_wp2_with fail
        refine CS.out.mono ?_
        rintro e w5 ⟨rfl, hw⟩
        rw [hw]
        obtain ⟨b0, b1, bf0, bf1, bl⟩ := own2 HB.out.box
        obtain ⟨d0, d1, df0, df1, dl⟩ := own2 HB.out.res
        go_wp2_with fail
        refine bodyPost_ret (v := .agg #[.int .i8 k, .slice G mg cg]) (by simp [results, Tryd.results62, go_sem, *]) rfl (HB.out.done hne)
  · have HQ3 := Lib.hid (show QBt l A c rb 3 i w w2.heap.size q k G m cg i' (w2.alloc (.cells #[.int .i8 k, .slice G m cg] 29)) from
      ⟨(HS1.out.step hg hR hi').below hbx, HBX.out, HX3.out, HG3.out, hRq.joinBad (by omega)⟩)
    clear hbx hR hg hRq HBX HX3 HG3 HS1 HX1 HG1 HW hu h1l
    generalize w2.alloc (.cells #[.int .i8 k, .slice G m cg] 29) = w3 at *
    generalize w2.heap.size = X at *
    go_loopg [8] 0 (fun g v wr => g = 0 ∧ wr = w3)
    case atStart => exact ⟨rfl, rfl⟩
    case round =>
      obtain ⟨hgk, rfl⟩ := hrel
      have CS := Lib.hid (sign_flt l A c rb i' 40 _ _ ⟨#[42]⟩ wr HQ3.out.rd (by decide))
      go_wp2_with fail
      refine CS.out.mono ?_
      rintro e w5 ⟨rfl, hw⟩
      rw [hw]
      obtain ⟨b0, b1, bf0, bf1, bl⟩ := own2 HQ3.out.box
      obtain ⟨d0, d1, df0, df1, dl⟩ := own2 HQ3.out.res
      go_wp2_with fail
      refine bodyPost_ret (v := .agg #[.int .i8 k, .slice G m cg]) (by simp [results, Tryd.results62, go_sem, *]) rfl (HQ3.out.done hne)

theorem sum_word {l : List W4} {j : Nat} (h : binds (opK l j) ≤ 2) : (sees l j 4 [43] = true → opK l j = 5) ∧ (sees l j 4 [43] = false → opK l j = 0 ∨ binds (opK l j) < 2) := by
  unfold opK at h ⊢
  cases h1 : sees l j 4 sArrow with
  | true => exact ⟨fun h2 => (by rw [sees_k h1 (by decide)] at h2; cases h2), fun _ => (by simp [binds])⟩
  | false =>
    cases h2 : sees l j 4 [42] with
    | true => rw [h1, h2] at h; simp [binds] at h
    | false =>
      
      cases h3 : sees l j 4 [43] with
      | true => exact ⟨fun _ => (by simp), fun h4 => (by cases h4)⟩
      | false => exact ⟨fun h4 => (by cases h4), fun _ => (by simp)⟩
set_option maxHeartbeats 8000000 in
set_option maxRecDepth 100000 in
theorem qsum_any (l : List W4) (A : Option Addr) (c rb i : Nat) (w : World) (h : QdS l A c rb w i 0 0 ⟨#[]⟩)
    (hI : ∀ (W : World) (j : Nat), i ≤ j → QdS l A c rb W j 0 0 ⟨#[]⟩ → Calls Tryd.prog 62 #[.pointer (some ⟨rb, 0, none⟩)] W (QPost l A c rb W (.wh 3 j))) :
    Calls Tryd.prog 37 #[.pointer (some ⟨rb, 0, none⟩)] w (QPost l A c rb w (.wh 2 i)) := by
  have hrb := heap_lt h.rdr
  have HN := Lib.hid hI
  clear hI
  have hne : w.heap.size ≠ rb := by have := heap_lt h.rdr; omega
  have hb0 : Below w.heap.size w (w.alloc (.cells #[.int .i8 0, .slice none 0 0] 29)) := (Below.refl _ _).alloc (Nat.le_refl _) _
  have HX1 := Lib.hid (heap_new w (.cells #[.int .i8 0, .slice none 0 0] 29))
  have HS1 := Lib.hid (h.below hb0)
  have HG1 := Lib.hid (only_below (rb := rb) hb0)
  have HL := Lib.hid h.le
  clear hb0 h
  generalize hw1 : w.alloc (.cells #[.int .i8 0, .slice none 0 0] 29) = w1 at *
  have HW := Lib.hid hw1
  clear hw1
  go_enter Tryd.func37, Tryd.ntmps37
  go_wp2_with fail
  rw [HW.out]
  refine (HN.out w1 i (Nat.le_refl _) HS1.out).mono ?_
  rintro e w2 (⟨k, kids, j, hRk, G, m, cg, rfl, hF, hR, hg⟩ | ⟨q, hRq, i', hi', k, G, m, cg, rfl, hR, hg⟩)
  all_goals
    have hbx : Below w2.heap.size w2 (w2.alloc (.cells #[.int .i8 k, .slice G m cg] 29)) := (Below.refl _ _).alloc (Nat.le_refl _) _
    have hu := hg.size
    have h1l := heap_lt HX1.out
    have hXg : w.heap.size < w2.heap.size := by omega
    have hXr : w2.heap.size ≠ rb := by omega
    have HBX := Lib.hid (heap_new w2 (.cells #[.int .i8 k, .slice G m cg] 29))
    have HX3 := Lib.hid (heap_old (heap_grown hg hne HX1.out) (.cells #[.int .i8 k, .slice G m cg] 29))
    have HG3 := Lib.hid (only_alloc (only_trans HG1.out hg) (.cells #[.int .i8 k, .slice G m cg] 29))
    go_wp2_with fail
  · have hj := hRk.goes (show i ≤ l.length from HL.out)
    have HQ3 := Lib.hid (show QSt l A c rb 2 i w w2.heap.size k kids j G m cg (w2.alloc (.cells #[.int .i8 k, .slice G m cg] 29)) from by
      have hj1 : i + 1 ≤ j := hj.1
      refine ⟨by omega, (HS1.out.step hg hR hj.2).below hbx, HBX.out, HX3.out, ?_, HG3.out, fun r hr => hRk.join (by omega) hr, ?_⟩
      · exact (hF.toP.mono (fun b o v hc (hb : w1.heap.size ≤ b) => (⟨by omega, by have := Ty.cell_lt hc; omega⟩ : w.heap.size < b ∧ b ≠ w2.heap.size))).below hbx
      · rcases hRk.ends with e | e
        · exact .inl e
        · exact .inr (by omega))
    clear hbx hj hF hR hg hRk HBX HX3 HG3 HS1 HX1 HG1 HW hu h1l
    generalize w2.alloc (.cells #[.int .i8 k, .slice G m cg] 29) = w3 at *
    generalize w2.heap.size = X at *
    go_loopg [8] (l.length - j + 1) (fun g v wr => (∃ k kids j G mg cg, g = l.length - j + 1 ∧ Hid (QSt l A c rb 2 i w X k kids j G mg cg wr)) ∨ (∃ q k G mg cg i', g = 0 ∧ Hid (QBt l A c rb 2 i w X q k G mg cg i' wr)))
    case atStart => exact .inl ⟨k, kids, j, G, m, cg, rfl, HQ3⟩
    case round =>
      rcases hrel with ⟨k, kids, j, G, mg, cg, hgk, HW⟩ | ⟨q, k, G, mg, cg, i', hgk, HB⟩
      · have hs := HW.out.rd
        have hjl := hs.le
        have hble : binds (opK l j) ≤ 2 := by
          rcases HW.out.ends with e | e
          · rw [e]; decide
          · exact e
        cases hc : Rd.sees l j 4 [43] with
        | false =>
          have HE := Lib.hid ((sum_word hble).2 hc)
          have hY : Rd.sees l j 4 ((⟨#[43]⟩ : ByteArray).toList) = false := by rw [lit_list _ [43] rfl]; exact hc
          have CS := Lib.hid (qsign_no l A c rb j ⟨#[43]⟩ wr hs hY)
          clear hc hs hY hble
          go_wp2_with fail
          refine CS.out.mono ?_
          rintro e w5 ⟨rfl, hb⟩
          obtain ⟨b0, b1, bf0, bf1, bl⟩ := own2 (heap_below hb (heap_lt HW.out.box) HW.out.box)
          obtain ⟨d0, d1, df0, df1, dl⟩ := own2 (heap_below hb (heap_lt HW.out.res) HW.out.res)
          have HB := Lib.hid hb
          clear hb
          go_wp2_with fail
          refine bodyPost_ret (v := .agg #[.int .i8 k, .slice G mg cg]) (by simp [results, Tryd.results37, go_sem, *]) rfl (HW.out.done HB.out hne HE.out)
        | true =>
          have HE := Lib.hid ((sum_word hble).1 hc)
          have hjlt := Rd.sees_lt hc
          have HJ := Lib.hid (show j + 1 ≤ l.length from hjlt)
          have hY : Rd.sees l j 4 ((⟨#[43]⟩ : ByteArray).toList) = true := by rw [lit_list _ [43] rfl]; exact hc
          have CS := Lib.hid (sign_yes l A c rb j 0 ⟨#[]⟩ ⟨#[43]⟩ wr hs hY)
          have HSR := Lib.hid hs
          clear hc hs hY hble
          go_wp2_with fail
          refine CS.out.mono ?_
          rintro e w5 ⟨rfl, hR, hg⟩
          have HS5 := Lib.hid (HSR.out.step hg hR HJ.out)
          have HG5 := Lib.hid hg
          have CI := Lib.hid (HN.out w5 (j + 1) (by have := HW.out.gt; omega) HS5.out)
          clear hR hg
          go_wp2_with fail
          refine CI.out.mono ?_
          rintro e w6 (⟨k2, kids2, j2, hR2, G2, m2, c2, rfl, hF, hR, hg6⟩ | ⟨q, hRq, i', hi', k2, G2, m2, c2, rfl, hR, hg6⟩)
          · have hbx : Below w6.heap.size w6 (w6.alloc (.cells #[.int .i8 k2, .slice G2 m2 c2] 29)) := (Below.refl _ _).alloc (Nat.le_refl _) _
            have hg2 := only_trans HG5.out hg6
            have hx6 := heap_grown hg2 hXr HW.out.box
            have hy7 := heap_new w6 (.cells #[.int .i8 k2, .slice G2 m2 c2] 29)
            have HX7 := Lib.hid (heap_old hx6 (.cells #[.int .i8 k2, .slice G2 m2 c2] 29))
            obtain ⟨x0, x1, xf0, xf1, xl⟩ := own2 HX7.out
            obtain ⟨y0, y1, yf0, yf1, yl⟩ := own2 hy7
            have HB7 := Lib.hid hbx
            have HF := Lib.hid hF
            have HR6 := Lib.hid hR
            have HG6 := Lib.hid hg6
            have HR2 := Lib.hid hR2
            have HJ2 := Lib.hid (show j + 1 + 1 ≤ j2 ∧ j2 ≤ l.length from hR2.goes HJ.out)
            clear hbx hg2 hx6 hy7 hF hR hg6 hR2
            go_wp2_with fail
            refine (of_raw 5 k G mg cg k2 G2 m2 c2 _).mono ?_
            rintro e w8 ⟨N, rfl, hN, hY, hb8⟩
            have hb := HB7.out.trans (hb8.mono HB7.out.size)
            have hNl : w6.heap.size ≤ N := Nat.le_trans HB7.out.size hN
            have HF8 := Lib.hid (HW.out.next HG5.out hXg hrb 5 HE.out (by decide) (by decide) (by decide) HR2.out HF.out HR6.out HG6.out hb hNl hY)
            have HX8 := Lib.hid (heap_below hb8 (heap_lt HX7.out) HX7.out)
            clear x0 x1 xf0 xf1 xl y0 y1 yf0 yf1 yl hb hNl hb8 hY hN
            obtain ⟨x0, x1, xf0, xf1, xl⟩ := own2 HX8.out
            go_wp2_with fail
            go_roundg (l.length - j2 + 1)
            case measure => have := HJ2.out; omega
            case rel => exact .inl ⟨_, _, _, _, _, _, rfl, HF8⟩
          · have hbx : Below w6.heap.size w6 (w6.alloc (.cells #[.int .i8 k2, .slice G2 m2 c2] 29)) := (Below.refl _ _).alloc (Nat.le_refl _) _
            have hg2 := only_trans HG5.out hg6
            have hx6 := heap_grown hg2 hXr HW.out.box
            have hy7 := heap_new w6 (.cells #[.int .i8 k2, .slice G2 m2 c2] 29)
            have HX7 := Lib.hid (heap_old hx6 (.cells #[.int .i8 k2, .slice G2 m2 c2] 29))
            have HZ7 := Lib.hid (heap_old (heap_grown hg2 hne HW.out.res) (.cells #[.int .i8 k2, .slice G2 m2 c2] 29))
            have HS7 := Lib.hid ((HS5.out.step hg6 hR hi').below hbx)
            have HG7 := Lib.hid (only_alloc (only_trans HW.out.only hg2) (.cells #[.int .i8 k2, .slice G2 m2 c2] 29))
            have HRQ := Lib.hid (show R l (.wh 2 i) (.bad q) from HW.out.on _ (.opBad (by rw [HE.out]; decide) (by rw [HE.out]; decide) (by rw [HE.out]; exact hRq)))
            obtain ⟨x0, x1, xf0, xf1, xl⟩ := own2 HX7.out
            obtain ⟨y0, y1, yf0, yf1, yl⟩ := own2 hy7
            clear hbx hg2 hx6 hy7 hR hg6 hRq
            go_wp2_with fail
            generalize w6.alloc (.cells #[.int .i8 k2, .slice G2 m2 c2] 29) = w7 at *
            refine (of_raw 5 k G mg cg k2 G2 m2 c2 _).mono ?_
            rintro e w8 ⟨N, rfl, hN, hY, hb8⟩
            have HX8 := Lib.hid (heap_below hb8 (heap_lt HX7.out) HX7.out)
            have HF8 := Lib.hid (QBt.next hXg hrb (HS7.out.below hb8) HX8.out (heap_below hb8 (heap_lt HZ7.out) HZ7.out) (only_trans HG7.out (only_below hb8)) HRQ.out 5 (some ⟨N, 0, none⟩) 2 2)
            clear x0 x1 xf0 xf1 xl y0 y1 yf0 yf1 yl hb8 hY hN
            obtain ⟨x0, x1, xf0, xf1, xl⟩ := own2 HX8.out
            go_wp2_with fail
            go_roundg 0
            case measure => omega
            case rel => exact .inr ⟨_, _, _, _, _, _, rfl, HF8⟩
      · have CS := Lib.hid (sign_flt l A c rb i' 40 _ _ ⟨#[43]⟩ wr HB.out.rd (by decide))
        go_wp2_with fail
        refine CS.out.mono ?_
        rintro e w5 ⟨rfl, hw⟩
        rw [hw]
        obtain ⟨b0, b1, bf0, bf1, bl⟩ := own2 HB.out.box
        obtain ⟨d0, d1, df0, df1, dl⟩ := own2 HB.out.res
        go_wp2_with fail
        refine bodyPost_ret (v := .agg #[.int .i8 k, .slice G mg cg]) (by simp [results, Tryd.results37, go_sem, *]) rfl (HB.out.done hne)
  · have HQ3 := Lib.hid (show QBt l A c rb 2 i w w2.heap.size q k G m cg i' (w2.alloc (.cells #[.int .i8 k, .slice G m cg] 29)) from
      ⟨(HS1.out.step hg hR hi').below hbx, HBX.out, HX3.out, HG3.out, hRq.joinBad (by omega)⟩)
    clear hbx hR hg hRq HBX HX3 HG3 HS1 HX1 HG1 HW hu h1l
    generalize w2.alloc (.cells #[.int .i8 k, .slice G m cg] 29) = w3 at *
    generalize w2.heap.size = X at *
    go_loopg [8] 0 (fun g v wr => g = 0 ∧ wr = w3)
    case atStart => exact ⟨rfl, rfl⟩
    case round =>
      obtain ⟨hgk, rfl⟩ := hrel
      have CS := Lib.hid (sign_flt l A c rb i' 40 _ _ ⟨#[43]⟩ wr HQ3.out.rd (by decide))
      go_wp2_with fail
      refine CS.out.mono ?_
      rintro e w5 ⟨rfl, hw⟩
      rw [hw]
      obtain ⟨b0, b1, bf0, bf1, bl⟩ := own2 HQ3.out.box
      obtain ⟨d0, d1, df0, df1, dl⟩ := own2 HQ3.out.res
      go_wp2_with fail
      refine bodyPost_ret (v := .agg #[.int .i8 k, .slice G m cg]) (by simp [results, Tryd.results37, go_sem, *]) rfl (HQ3.out.done hne)

set_option maxHeartbeats 4000000 in
set_option maxRecDepth 100000 in
theorem arrow_word {l : List W4} {j : Nat} (h : opK l j = 0 ∨ binds (opK l j) < 2) : (sees l j 4 [45, 62] = true → opK l j = 3) ∧ (sees l j 4 [45, 62] = false → opK l j = 0) := by
  unfold opK at h ⊢
  cases h1 : sees l j 4 sArrow with
  | true => exact ⟨fun _ => (by simp), fun h2 => (by rw [show sees l j 4 [45, 62] = sees l j 4 sArrow from rfl, h1] at h2; cases h2)⟩
  | false =>
    rw [h1] at h
    refine ⟨fun h2 => (by rw [show sees l j 4 [45, 62] = sees l j 4 sArrow from rfl, h1] at h2; cases h2), fun _ => ?_⟩
    cases h2 : sees l j 4 [42] with
    | true => rw [h2] at h; simp [binds] at h
    | false =>
      rw [h2] at h
      cases h3 : sees l j 4 [43] with
      | true => rw [h3] at h; simp [binds] at h
      | false => simp
set_option maxHeartbeats 8000000 in
set_option maxRecDepth 100000 in
theorem qtype_step (l : List W4) (A : Option Addr) (c rb i : Nat) (w : World) (h : QdS l A c rb w i 0 0 ⟨#[]⟩)
    (hI : ∀ (W : World), QdS l A c rb W i 0 0 ⟨#[]⟩ → Calls Tryd.prog 37 #[.pointer (some ⟨rb, 0, none⟩)] W (QPost l A c rb W (.wh 2 i)))
    (hT : ∀ (W : World) (j : Nat), i < j → QdS l A c rb W j 0 0 ⟨#[]⟩ → Calls Tryd.prog 22 #[.pointer (some ⟨rb, 0, none⟩)] W (QPost l A c rb W (.wh 1 j))) :
    Calls Tryd.prog 22 #[.pointer (some ⟨rb, 0, none⟩)] w (QPost l A c rb w (.wh 1 i)) := by
  have hrb := heap_lt h.rdr
  have HN := Lib.hid hI
  have HT := Lib.hid hT
  clear hI hT
  have hne : w.heap.size ≠ rb := by have := heap_lt h.rdr; omega
  have hb0 : Below w.heap.size w (w.alloc (.cells #[.int .i8 0, .slice none 0 0] 29)) := (Below.refl _ _).alloc (Nat.le_refl _) _
  have HX1 := Lib.hid (heap_new w (.cells #[.int .i8 0, .slice none 0 0] 29))
  have HS1 := Lib.hid (h.below hb0)
  have HG1 := Lib.hid (only_below (rb := rb) hb0)
  have HL := Lib.hid h.le
  clear hb0 h
  generalize hw1 : w.alloc (.cells #[.int .i8 0, .slice none 0 0] 29) = w1 at *
  have HW := Lib.hid hw1
  clear hw1
  go_enter Tryd.func22, Tryd.ntmps22
  go_wp2_with fail
  rw [HW.out]
  refine (HN.out w1 HS1.out).mono ?_
  rintro e w2 (⟨k, kids, j, hRk, G, mg, cg, rfl, hF, hR, hg⟩ | ⟨q, hRq, i', hi', k, G, mg, cg, rfl, hR, hg⟩)
  all_goals
    have hbx : Below w2.heap.size w2 (w2.alloc (.cells #[.int .i8 k, .slice G mg cg] 29)) := (Below.refl _ _).alloc (Nat.le_refl _) _
    have hu := hg.size
    have h1l := heap_lt HX1.out
    have hXg : w.heap.size < w2.heap.size := by omega
    have hXr : w2.heap.size ≠ rb := by omega
    have HBX := Lib.hid (heap_new w2 (.cells #[.int .i8 k, .slice G mg cg] 29))
    have HX3 := Lib.hid (heap_old (heap_grown hg hne HX1.out) (.cells #[.int .i8 k, .slice G mg cg] 29))
    have HG3 := Lib.hid (only_alloc (only_trans HG1.out hg) (.cells #[.int .i8 k, .slice G mg cg] 29))
    go_wp2_with fail
  · have hj := hRk.goes (show i ≤ l.length from HL.out)
    have hj1 : i + 1 ≤ j := hj.1
    have hends : opK l j = 0 ∨ binds (opK l j) < 2 := hRk.ends
    have HS3 := Lib.hid ((HS1.out.step hg hR hj.2).below hbx)
    have HF3 := Lib.hid ((hF.toP.mono (Q := fun b => w.heap.size < b ∧ b ≠ w2.heap.size) (fun b o v hc (hb : w1.heap.size ≤ b) => (⟨by omega, by have := Ty.cell_lt hc; omega⟩ : w.heap.size < b ∧ b ≠ w2.heap.size))).below hbx)
    have HRK := Lib.hid hRk
    clear hbx hj hF hR hg hRk HS1 HX1 HG1 HW hu h1l
    generalize w2.alloc (.cells #[.int .i8 k, .slice G mg cg] 29) = w3 at *
    generalize w2.heap.size = X at *
    cases hc : Rd.sees l j 4 [45, 62] with
    | false =>
      have HE := Lib.hid ((arrow_word hends).2 hc)
      have hY : Rd.sees l j 4 ((⟨#[45, 62]⟩ : ByteArray).toList) = false := by rw [lit_list _ [45, 62] rfl]; exact hc
      clear hc hends
      refine (qsign_no l A c rb j ⟨#[45, 62]⟩ w3 HS3.out hY).mono ?_
      rintro e w5 ⟨rfl, hb⟩
      obtain ⟨b0, b1, bf0, bf1, bl⟩ := own2 (heap_below hb (heap_lt HBX.out) HBX.out)
      obtain ⟨d0, d1, df0, df1, dl⟩ := own2 (heap_below hb (heap_lt HX3.out) HX3.out)
      have HB := Lib.hid hb
      clear hb
      go_wp2_with fail
      refine bodyPost_ret (v := .agg #[.int .i8 k, .slice G mg cg]) (by simp [results, Tryd.results22, go_sem, *]) rfl ?_
      have HQ := (⟨by omega, HS3.out, HBX.out, HX3.out, HF3.out, HG3.out, fun r hr => HRK.out.join (by omega) hr, .inl HE.out⟩ : QSt l A c rb 1 i w X k kids j G mg cg w3)
      exact HQ.done HB.out hne (.inl HE.out)
    | true =>
      have HE := Lib.hid ((arrow_word hends).1 hc)
      have hjlt := Rd.sees_lt hc
      have HJ := Lib.hid (show j + 1 ≤ l.length from hjlt)
      have hY : Rd.sees l j 4 ((⟨#[45, 62]⟩ : ByteArray).toList) = true := by rw [lit_list _ [45, 62] rfl]; exact hc
      clear hc hends
      refine (sign_yes l A c rb j 0 ⟨#[]⟩ ⟨#[45, 62]⟩ w3 HS3.out hY).mono ?_
      rintro e w5 ⟨rfl, hR, hg⟩
      have HS5 := Lib.hid (HS3.out.step hg hR HJ.out)
      have HG5 := Lib.hid hg
      have CI := Lib.hid (HT.out w5 (j + 1) (by omega) HS5.out)
      clear hR hg
      go_wp2_with fail
      refine CI.out.mono ?_
      rintro e w6 (⟨k2, kids2, j2, hR2, G2, m2, c2, rfl, hF, hR, hg6⟩ | ⟨q, hRq, i', hi', k2, G2, m2, c2, rfl, hR, hg6⟩)
      all_goals
        have hbx : Below w6.heap.size w6 (w6.alloc (.cells #[.int .i8 k2, .slice G2 m2 c2] 29)) := (Below.refl _ _).alloc (Nat.le_refl _) _
        have hg2 := only_trans HG5.out hg6
        have h57 := HG5.out.size
        have h67 := hg6.size
        have hx6 := heap_grown hg2 hXr HBX.out
        have hXl := heap_lt HBX.out
        have hy7 := heap_new w6 (.cells #[.int .i8 k2, .slice G2 m2 c2] 29)
        have HX7 := Lib.hid (heap_old hx6 (.cells #[.int .i8 k2, .slice G2 m2 c2] 29))
        have HZ7 := Lib.hid (heap_old (heap_grown hg2 hne HX3.out) (.cells #[.int .i8 k2, .slice G2 m2 c2] 29))
        have HG7 := Lib.hid (only_alloc (only_trans HG3.out hg2) (.cells #[.int .i8 k2, .slice G2 m2 c2] 29))
        obtain ⟨x0, x1, xf0, xf1, xl⟩ := own2 HX7.out
        obtain ⟨y0, y1, yf0, yf1, yl⟩ := own2 hy7
        have HB7 := Lib.hid hbx
      · have HR7 := Lib.hid (heap_old hR (.cells #[.int .i8 k2, .slice G2 m2 c2] 29))
        have HF7 := Lib.hid (hF.below hbx)
        have HK7 := Lib.hid (show FarP (fun b => w.heap.size < b ∧ b ≠ X) (w6.alloc (.cells #[.int .i8 k2, .slice G2 m2 c2] 29)) k kids G mg cg from
          (HF3.out.keep (w' := w6) fun b q v hP hc => by
            rw [World.cell?_of_block (hg2.block b (Ty.cell_lt hc) (fun e => by injection e with e; omega))]; exact hc).below hbx)
        have HR2 := Lib.hid hR2
        clear hbx hg2 hx6 hy7 hF hR hg6 hR2
        go_wp2_with fail
        generalize w6.alloc (.cells #[.int .i8 k2, .slice G2 m2 c2] 29) = w7 at *
        refine (of_raw 3 k G mg cg k2 G2 m2 c2 _).mono ?_
        rintro e w8 ⟨N, rfl, hN, hY, hb8⟩
        obtain ⟨n0, n1, n2, n3, -⟩ := own4 hY
        have h78 := HB7.out.size
        have F := far_two (k := 3) (HK7.out.below hb8) (((HF7.out.below hb8).low (n0 := w5.heap.size) (Nat.le_refl _)).toP.mono (Q := fun b => w.heap.size < b ∧ b ≠ X) (fun b q v _ (hP : w5.heap.size ≤ b) => ⟨by omega, by omega⟩)) (show w.heap.size < N ∧ N ≠ X by omega) n0 n1 n2 n3 (by decide)
        have HF8 := Lib.hid F
        have HR8 := Lib.hid (heap_below hb8 (heap_lt HR7.out) HR7.out)
        have HG8 := Lib.hid (only_trans HG7.out (only_below (rb := rb) hb8))
        have hz8 := heap_below hb8 (heap_lt HZ7.out) HZ7.out
        clear x0 x1 xf0 xf1 xl y0 y1 yf0 yf1 yl hb8 hY hN F n0 n1 n2 n3
        obtain ⟨z0, z1, zf0, zf1, zl⟩ := own2 hz8
        go_wp2_with fail
        refine bodyPost_ret (v := .agg #[.int .i8 3, .slice (some ⟨N, 0, none⟩) 2 2]) (by simp [results, Tryd.results22, go_sem, *]) rfl ?_
        have hst : opK l j2 = 0 ∨ binds (opK l j2) < 1 := HR2.out.ends
        have hRR : R l (.wh 1 i) (.ok 3 (two k kids k2 kids2) j2) := HRK.out.join (by omega) (.op (by rw [HE.out]; decide) (by rw [HE.out]; decide) (by rw [HE.out]; exact HR2.out) (by rw [HE.out]; exact .stop hst))
        refine .inl ⟨3, _, j2, hRR, _, _, _, rfl, ?_, qrd_far (qrd_far HR8.out hne _ _) hne _ _, only_setCell (only_setCell HG8.out (.inr (Nat.le_refl _)) _) (.inr (Nat.le_refl _)) _⟩
        have h1 := HF8.out.keep (w' := (w8.setCell ⟨w.heap.size, 0, none⟩ (.int .i8 3)).setCell ⟨w.heap.size, 1, none⟩ (.slice (some ⟨N, 0, none⟩) 2 2)) fun b o v hP hc => by
          rw [World.cell?_setCell_other _ _ _ _ (fun e => by injection e with e; omega), World.cell?_setCell_other _ _ _ _ (fun e => by injection e with e; omega)]
          exact hc
        exact h1.mono fun b o v _ hP => Nat.le_of_lt hP.1
      · have HS7 := Lib.hid ((HS5.out.step hg6 hR hi').below hbx)
        have HRQ := Lib.hid (show R l (.wh 1 i) (.bad q) from HRK.out.join (by omega) (.opBad (by rw [HE.out]; decide) (by rw [HE.out]; decide) (by rw [HE.out]; exact hRq)))
        clear hbx hg2 hx6 hy7 hR hg6 hRq
        go_wp2_with fail
        generalize w6.alloc (.cells #[.int .i8 k2, .slice G2 m2 c2] 29) = w7 at *
        refine (of_raw 3 k G mg cg k2 G2 m2 c2 _).mono ?_
        rintro e w8 ⟨N, rfl, hN, hY, hb8⟩
        have HS8 := Lib.hid (HS7.out.below hb8)
        have HG8 := Lib.hid (only_trans HG7.out (only_below (rb := rb) hb8))
        have hz8 := heap_below hb8 (heap_lt HZ7.out) HZ7.out
        clear x0 x1 xf0 xf1 xl y0 y1 yf0 yf1 yl hb8 hY hN
        obtain ⟨z0, z1, zf0, zf1, zl⟩ := own2 hz8
        go_wp2_with fail
        refine bodyPost_ret (v := .agg #[.int .i8 3, .slice (some ⟨N, 0, none⟩) 2 2]) (by simp [results, Tryd.results22, go_sem, *]) rfl ?_
        exact .inr ⟨q, HRQ.out, i', HS8.out.le, _, _, _, _, rfl, qrd_far (qrd_far HS8.out.rdr hne _ _) hne _ _, only_setCell (only_setCell HG8.out (.inr (Nat.le_refl _)) _) (.inr (Nat.le_refl _)) _⟩
  · have HS3 := Lib.hid ((HS1.out.step hg hR hi').below hbx)
    have HRQ := Lib.hid (show R l (.wh 1 i) (.bad q) from hRq.joinBad (by omega))
    clear hbx hR hg hRq HS1 HX1 HG1 HW hu h1l
    generalize w2.alloc (.cells #[.int .i8 k, .slice G mg cg] 29) = w3 at *
    generalize w2.heap.size = X at *
    refine (sign_flt l A c rb i' 40 _ _ ⟨#[45, 62]⟩ w3 HS3.out (by decide)).mono ?_
    rintro e w5 ⟨rfl, hw⟩
    rw [hw]
    obtain ⟨b0, b1, bf0, bf1, bl⟩ := own2 HBX.out
    obtain ⟨d0, d1, df0, df1, dl⟩ := own2 HX3.out
    go_wp2_with fail
    refine bodyPost_ret (v := .agg #[.int .i8 k, .slice G mg cg]) (by simp [results, Tryd.results22, go_sem, *]) rfl ?_
    exact .inr ⟨q, HRQ.out, i', HS3.out.le, _, _, _, _, rfl, qrd_far (qrd_far HS3.out.rdr hne _ _) hne _ _, only_setCell (only_setCell HG3.out (.inr (Nat.le_refl _)) _) (.inr (Nat.le_refl _)) _⟩

theorem qtype_lt (l : List W4) (A : Option Addr) (c rb : Nat) : ∀ (n i : Nat) (w : World), l.length - i < n → QdS l A c rb w i 0 0 ⟨#[]⟩ →
    Calls Tryd.prog 22 #[.pointer (some ⟨rb, 0, none⟩)] w (QPost l A c rb w (.wh 1 i))
  | 0, _, _, h, _ => absurd h (by omega)
  | n + 1, i, w, hn, h => by
    have hT : ∀ (W : World) (j : Nat), i < j → QdS l A c rb W j 0 0 ⟨#[]⟩ → Calls Tryd.prog 22 #[.pointer (some ⟨rb, 0, none⟩)] W (QPost l A c rb W (.wh 1 j)) :=
      fun W j hj hs => qtype_lt l A c rb n j W (by have := hs.le; omega) hs
    refine qtype_step l A c rb i w h (fun W hs => qsum_any l A c rb i W hs fun W j hj hs => qprod_any l A c rb j W hs fun W j2 hj2 hs => ?_) hT
    exact (qatom_any l A c rb j2 W hs fun _ W hs => hT W (j2 + 1) (by omega) hs).mono fun _ _ h => h.four
/-- the document's reader reads by the grammar, to its end or to the word that can't stand there -/
theorem qtype_any (l : List W4) (A : Option Addr) (c rb i : Nat) (w : World) (h : QdS l A c rb w i 0 0 ⟨#[]⟩) :
    Calls Tryd.prog 22 #[.pointer (some ⟨rb, 0, none⟩)] w (QPost l A c rb w (.wh 1 i)) :=
  qtype_lt l A c rb _ i w (Nat.lt_succ_self _) h
end Go.Proofs.YtkpdddlonmkebaaDoor
