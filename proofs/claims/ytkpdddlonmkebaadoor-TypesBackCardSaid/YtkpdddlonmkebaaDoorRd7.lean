/-
  The reader: as much as binds so tightly.
-/
import Derived.Test.YtkpdddlonmkebaaDoorRd6
import Derived.Deep.LoopGhost
namespace Go.Proofs.YtkpdddlonmkebaaDoor
open Go.RowKit Rd

/-- a type that lies in such blocks alone -/
def FarP (P : Nat → Prop) (w : World) (k : Int) (kids : Fo) (G : Option Addr) (m c : Nat) : Prop := ∀ u : World, (∀ b o v, P b → w.cell? ⟨b, o, none⟩ = some v → u.cell? ⟨b, o, none⟩ = some v) → Ty.Is u k kids G m c
theorem FarP.is {P : Nat → Prop} {w : World} {k : Int} {kids : Fo} {G : Option Addr} {m c : Nat} (h : FarP P w k kids G m c) : Ty.Is w k kids G m c := h w fun _ _ _ _ h => h
theorem FarP.keep {P : Nat → Prop} {w w' : World} {k : Int} {kids : Fo} {G : Option Addr} {m c : Nat} (h : FarP P w k kids G m c) (hk : ∀ b o v, P b → w.cell? ⟨b, o, none⟩ = some v → w'.cell? ⟨b, o, none⟩ = some v) : FarP P w' k kids G m c :=
  fun u hu => h u fun b o v hb hc => hu b o v hb (hk b o v hb hc)
theorem FarP.mono {P Q : Nat → Prop} {w : World} {k : Int} {kids : Fo} {G : Option Addr} {m c : Nat} (h : FarP P w k kids G m c) (hq : ∀ b o v, w.cell? ⟨b, o, none⟩ = some v → P b → Q b) : FarP Q w k kids G m c :=
  fun u hu => h u fun b o v hb hc => hu b o v (hq b o v hc hb) hc
theorem Far.toP {n0 : Nat} {w : World} {k : Int} {kids : Fo} {G : Option Addr} {m c : Nat} (h : Far n0 w k kids G m c) : FarP (fun b => n0 ≤ b) w k kids G m c := h
theorem FarP.below {P : Nat → Prop} {w w' : World} {k : Int} {kids : Fo} {G : Option Addr} {m c : Nat} (h : FarP P w k kids G m c) (hb : Below w.heap.size w w') : FarP P w' k kids G m c :=
  h.keep fun b o v _ hc => by rw [hb.cell (p := ⟨b, o, none⟩) (Ty.cell_lt hc)]; exact hc
/-- two types in a row of their own -/
theorem far_two {P : Nat → Prop} {w : World} {k k1 k2 : Int} {kids1 kids2 : Fo} {G1 G2 : Option Addr} {m1 m2 c1 c2 Y : Nat} (h1 : FarP P w k1 kids1 G1 m1 c1) (h2 : FarP P w k2 kids2 G2 m2 c2) (hY : P Y)
    (y0 : w.cell? ⟨Y, 0, none⟩ = some (.int .i8 k1)) (y1 : w.cell? ⟨Y, 1, none⟩ = some (.slice G1 m1 c1)) (y2 : w.cell? ⟨Y, 2, none⟩ = some (.int .i8 k2)) (y3 : w.cell? ⟨Y, 3, none⟩ = some (.slice G2 m2 c2)) (hk : -128 ≤ k ∧ k ≤ 127) :
    FarP P w k (two k1 kids1 k2 kids2) (some ⟨Y, 0, none⟩) 2 2 := by
  intro u hu
  have i1 := h1 u hu
  have i2 := h2 u hu
  have e1 := i1.n_eq
  have e2 := i2.n_eq
  subst e1; subst e2
  refine ⟨⟨Y, 0, G1, c1, rfl, ⟨i1.lo, i1.hi⟩, ?_, ?_, i1.n_le, i1.c_le, i1.lies, Y, 0, G2, c2, rfl, ⟨i2.lo, i2.hi⟩, ?_, ?_, i2.n_le, i2.c_le, i2.lies, trivial⟩, rfl, by omega, by decide, hk.1, hk.2⟩
  · exact hu Y _ _ hY y0
  · exact hu Y _ _ hY y1
  · exact hu Y _ _ hY y2
  · exact hu Y _ _ hY y3

/-- the loop's state: the part so far is in the box X -/
structure WSt (l : List W4) (A : Option Addr) (c rb least i : Nat) (w : World) (X : Nat) (k : Int) (kids : Fo) (j : Nat) (G : Option Addr) (mg cg : Nat) (wr : World) : Prop where
  gt : i + 1 ≤ j
  rd : RdS l A c rb wr j
  box : wr.heap[X]? = some (.cells #[.int .i8 k, .slice G mg cg] 29)
  res : wr.heap[w.heap.size]? = some (.cells #[.int .i8 0, .slice none 0 0] 29)
  far : FarP (fun b => w.heap.size < b ∧ b ≠ X) wr k kids G mg cg
  only : w.grownBy wr (some rb)
  on : ∀ r, R l (.lp least k kids j) r → R l (.wh least i) r

/-- a way that ends in a panic, inside a region whose order is drawn: what is left to show, as the end of a region of no operations -/
theorem panic_end' {P : Program} {G : Prop} {w : World} (h : wpAny P .any #[] (fun _ _ _ => G) 0 #[] { tmps := #[], defers := [] } w) : G := h.2
theorem set_two {w : World} {X : Nat} {a b u v : Value} {t : TypeId} (h : w.heap[X]? = some (.cells #[a, b] t (0, 0))) : ((w.setCell ⟨X, 0, none⟩ u).setCell ⟨X, 1, none⟩ v).heap[X]? = some (.cells #[u, v] t (0, 0)) := by
  simp [World.setCell, Array.getElem?_modify, h]
theorem rdr_far {w : World} {rb n c i X : Nat} {A : Option Addr} (h : Rdr w rb A n c i) (hX : X ≠ rb) (o : Nat) (v : Value) : Rdr (w.setCell ⟨X, o, none⟩ v) rb A n c i := by
  unfold Rdr at h ⊢
  rw [Below.heap_setCell _ _ _ _ (fun e => hX e.symm)]
  exact h
/-- the part so far is the answer -/
theorem WSt.done {l : List W4} {A : Option Addr} {c rb least i j X mg cg : Nat} {w wr w5 : World} {k : Int} {kids : Fo} {G : Option Addr} (h : WSt l A c rb least i w X k kids j G mg cg wr) (hb : Below wr.heap.size wr w5) (hwr : w.heap.size ≠ rb) (hs : opK l j = 0 ∨ binds (opK l j) < least) :
    RPost l A c rb w (.wh least i) (.returned (.agg #[.int .i8 k, .slice G mg cg])) ((w5.setCell ⟨w.heap.size, 0, none⟩ (.int .i8 k)).setCell ⟨w.heap.size, 1, none⟩ (.slice G mg cg)) := by
  refine .inl ⟨k, kids, j, h.on _ (.stop hs), G, mg, cg, rfl, ?_, rdr_far (rdr_far (h.rd.below hb).rdr hwr _ _) hwr _ _, only_setCell (only_setCell (only_trans h.only (only_below hb)) (.inr (Nat.le_refl _)) _) (.inr (Nat.le_refl _)) _⟩
  have h1 := (h.far.below hb).keep (w' := (w5.setCell ⟨w.heap.size, 0, none⟩ (.int .i8 k)).setCell ⟨w.heap.size, 1, none⟩ (.slice G mg cg)) fun b o v hP hc => by
    rw [World.cell?_setCell_other _ _ _ _ (fun e => by injection e with e; omega), World.cell?_setCell_other _ _ _ _ (fun e => by injection e with e; omega)]
    exact hc
  exact h1.mono fun b o v _ hP => Nat.le_of_lt hP.1
/-- a word between two parts, and the part behind it -/
theorem WSt.next {l : List W4} {A : Option Addr} {c rb least i j j2 X mg cg m2 c2 : Nat} {w wr w7 u : World} {k k2 : Int} {kids kids2 : Fo} {G G2 : Option Addr} (h : WSt l A c rb least i w X k kids j G mg cg wr) (g7 : wr.grownBy w7 (some rb))
    (hH : RdS l A c rb w i) (hX : w.heap.size < X) (hle : least ≤ binds (opK l j)) (h0 : opK l j ≠ 0) (hok : R l (.wh (rgt (opK l j)) (j + 1)) (.ok k2 kids2 j2)) (hF : Far w7.heap.size u k2 kids2 G2 m2 c2) (hR : Rdr u rb A l.length c j2) (hg : w7.grownBy u (some rb)) (o : Int) (ho : opK l j = o) (t : TypeId) :
    WSt l A c rb least i w X o (two k kids k2 kids2) j2 (some ⟨u.heap.size, 0, none⟩) 2 2 (((u.setCell ⟨X, 0, none⟩ (.int .i8 o)).setCell ⟨X, 1, none⟩ (.slice (some ⟨u.heap.size, 0, none⟩) 2 2)).alloc (.cells #[.int .i8 k, .slice G mg cg, .int .i8 k2, .slice G2 m2 c2] t)) := by
  have hX9 := heap_lt (heap_grown (only_trans g7 hg) (show X ≠ rb by have := heap_lt hH.rdr; omega) h.box)
  rw [← World.setCell_alloc_past _ X 1 _ (by simpa using hX9), ← World.setCell_alloc_past _ X 0 _ hX9]
  have hrb := heap_lt hH.rdr
  have hXr : X ≠ rb := by omega
  have hg2 := only_trans g7 hg
  have hj := hok.goes (show j + 1 ≤ l.length from opK_lt h0)
  simp only [Tg.start] at hj
  have hbox := heap_old (heap_grown hg2 hXr h.box) (.cells #[.int .i8 k, .slice G mg cg, .int .i8 k2, .slice G2 m2 c2] t)
  have hres := heap_old (heap_grown hg2 (show w.heap.size ≠ rb by omega) h.res) (.cells #[.int .i8 k, .slice G mg cg, .int .i8 k2, .slice G2 m2 c2] t)
  have hXl := heap_lt h.box
  have hgt := h.gt
  have h7 := g7.size
  have hu := hg.size
  have hb : Below u.heap.size u (u.alloc (.cells #[.int .i8 k, .slice G mg cg, .int .i8 k2, .slice G2 m2 c2] t)) := (Below.refl _ _).alloc (Nat.le_refl _) _
  obtain ⟨y0, y1, y2, y3, -⟩ := own4 (heap_new u (.cells #[.int .i8 k, .slice G mg cg, .int .i8 k2, .slice G2 m2 c2] t))
  have hon := only_setCell (only_setCell (only_trans (only_trans h.only hg2) (only_below (rb := rb) hb)) (.inr (Nat.le_of_lt hX)) (.int .i8 o) (p := ⟨X, 0, none⟩)) (.inr (Nat.le_of_lt hX)) (.slice (some ⟨u.heap.size, 0, none⟩) 2 2) (p := ⟨X, 1, none⟩)
  have hRd := rdr_far (rdr_far (heap_below hb (heap_lt hR) hR : Rdr _ rb A l.length c j2) hXr 0 (.int .i8 o)) hXr 1 (.slice (some ⟨u.heap.size, 0, none⟩) 2 2)
  have F1 := ((h.far.keep (w' := u) fun b q v hP hc => by
    rw [World.cell?_of_block (hg2.block b (Ty.cell_lt hc) (fun e => by injection e with e; omega))]; exact hc).below hb)
  have F2 := (hF.toP.mono (Q := fun b => w.heap.size < b ∧ b ≠ X) (fun b q v _ (hP : w7.heap.size ≤ b) => ⟨by omega, by omega⟩)).below hb
  refine ⟨by omega, hH.step hon hRd (by omega), set_two hbox, ?_, ?_, hon, fun r hr => h.on r (.op h0 hle hok (by rw [ho]; exact hr))⟩
  · rw [Below.heap_setCell _ _ _ _ (show w.heap.size ≠ X by omega), Below.heap_setCell _ _ _ _ (show w.heap.size ≠ X by omega)]
    exact hres
  · have F := far_two (k := o) F1 F2 (show w.heap.size < u.heap.size ∧ u.heap.size ≠ X by omega) y0 y1 y2 y3 (by rcases opK_cases l j with e | e | e | e <;> rw [ho] at e <;> omega)
    exact F.keep fun b q v hP hc => by
      rw [World.cell?_setCell_other _ _ _ _ (fun e => by injection e with e; omega), World.cell?_setCell_other _ _ _ _ (fun e => by injection e with e; omega)]
      exact hc

set_option maxHeartbeats 8000000 in
set_option maxRecDepth 100000 in
theorem whole_step (l : List W4) (A : Option Addr) (c rb i least : Nat) (w : World) (h : RdS l A c rb w i) (h4 : least ≤ 4)
    (hw : ∀ (W : World) (j q : Nat), i < j → q ≤ 4 → RdS l A c rb W j → Calls Tryd.prog 20 #[.pointer (some ⟨rb, 0, none⟩), .int .i64 q] W (RPost l A c rb W (.wh q j))) :
    Calls Tryd.prog 20 #[.pointer (some ⟨rb, 0, none⟩), .int .i64 least] w (RPost l A c rb w (.wh least i)) := by
  have CA := Lib.hid (fun (W : World) (hs : RdS l A c rb W i) => atom_any l A c rb i W hs (fun _ U hu => hw U (i + 1) 1 (by omega) (by omega) hu))
  have H := Lib.hid h
  have HWH := Lib.hid hw
  have HX0 := Lib.hid (heap_new w (.cells #[.int .i8 0, .slice none 0 0] 29))
  have HB0 := Lib.hid (show Below w.heap.size w (w.alloc (.cells #[.int .i8 0, .slice none 0 0] 29)) from (Below.refl _ _).alloc (Nat.le_refl _) _)
  clear h hw
  go_enter Tryd.func20, Tryd.ntmps20
  go_wp2_with fail
  have HS0 := Lib.hid (H.out.below HB0.out)
  have HG0 := Lib.hid (only_below (rb := rb) HB0.out)
  generalize w.alloc (.cells #[.int .i8 0, .slice none 0 0] 29) = w1 at *
  refine (CA.out _ HS0.out).mono ?_
  rintro e w2 (⟨k, kids, j, hRk, G, mg, cg, rfl, hF, hRd, hg⟩ | ⟨q, hRq, hB⟩)
  · have hjl := hRk.goes (show i ≤ l.length from H.out.le)
    have hij : i + 1 ≤ j := hjl.1
    have hjj : j ≤ l.length := hjl.2
    have hx2 := heap_grown hg (show w.heap.size ≠ rb by have := heap_lt H.out.rdr; omega) HX0.out
    have HS2 := Lib.hid (HS0.out.step hg hRd hjj)
    have HX2 := Lib.hid hx2
    have HG2 := Lib.hid (only_trans HG0.out hg)
    have HF2 := Lib.hid hF
    have HR2 := Lib.hid hRk
    clear hjl hx2 hF hRd hg hRk
    go_wp2_with fail
    have HW3 := Lib.hid (show WSt l A c rb least i w w2.heap.size k kids j G mg cg (w2.alloc (.cells #[.int .i8 k, .slice G mg cg] 29)) from by
      have hb3 : Below w2.heap.size w2 (w2.alloc (.cells #[.int .i8 k, .slice G mg cg] 29)) := (Below.refl _ _).alloc (Nat.le_refl _) _
      refine ⟨hij, HS2.out.below hb3, heap_new w2 _, heap_old HX2.out _, ?_, only_alloc HG2.out _, fun r hr => .whGo HR2.out hr⟩
      have h1 := heap_lt HX0.out
      exact (HF2.out.toP.mono (fun b o v hc (hb : w1.heap.size ≤ b) => (⟨by omega, by have := Ty.cell_lt hc; omega⟩ : w.heap.size < b ∧ b ≠ w2.heap.size))).below hb3)
    have hXn : w2.heap.size ≠ w.heap.size := by have := heap_lt HX2.out; omega
    have hXr : w2.heap.size ≠ rb := by have := heap_lt HS2.out.rdr; omega
    have hwr : w.heap.size ≠ rb := by have := heap_lt H.out.rdr; omega
    have hXg : w.heap.size < w2.heap.size := heap_lt HX2.out
    generalize w2.alloc (.cells #[.int .i8 k, .slice G mg cg] 29) = w3 at *
    clear HS2 HX2 HG2 HF2 HR2 hij hjj HX0 HB0 HS0 HG0 CA
    generalize hXX : w2.heap.size = X at *
    clear hXX
    go_loopg [9] (l.length - j) (fun g v wr => ∃ k kids j G mg cg, g = l.length - j ∧ Hid (WSt l A c rb least i w X k kids j G mg cg wr))
    case atStart => exact ⟨k, kids, j, G, mg, cg, rfl, HW3⟩
    case round =>
      obtain ⟨k, kids, j, G, mg, cg, hgk, HW⟩ := hrel
      have hs := HW.out.rd
      have hjl : j ≤ l.length := hs.le
      have CK := Lib.hid (kind2_any l A c rb j wr (Nat.le_of_lt hs.len) hs.le hs.sh hs.rdr hs.row)
      clear hs
      by_cases h0 : Rd.opK l j = 0
      · have hv : kind2V l j = .tuple #[.int .i8 0, .bool false] := by unfold kind2V; rw [if_pos h0]
        rw [hv] at CK
        have H0 := Lib.hid h0
        clear hv h0
        go_wp2_with fail
        refine CK.out.mono ?_
        rintro e w5 ⟨rfl, hb⟩
        have x5 := heap_below hb (heap_lt HW.out.box) HW.out.box
        have y5 := heap_below hb (heap_lt HW.out.res) HW.out.res
        obtain ⟨b0, b1, bf0, bf1, bl⟩ := own2 x5
        obtain ⟨d0, d1, df0, df1, dl⟩ := own2 y5
        have HB := Lib.hid hb
        clear x5 y5 hb
        go_wp2_with fail
        refine bodyPost_ret (v := .agg #[.int .i8 k, .slice G mg cg]) (by simp [results, Tryd.results20, go_sem, *]) rfl (HW.out.done HB.out hwr (.inl H0.out))
      · have hv : kind2V l j = .tuple #[.int .i8 (Rd.opK l j), .bool true] := by unfold kind2V; rw [if_neg h0]
        rw [hv] at CK
        obtain ⟨o, ho⟩ : ∃ o, o = Rd.opK l j := ⟨_, rfl⟩
        rw [← ho] at CK
        have ho3 : o = 3 ∨ o = 4 ∨ o = 5 := by
          rcases opK_cases l j with e | e | e | e
          · exact absurd e h0
          · left; omega
          · right; left; omega
          · right; right; omega
        have H0 := Lib.hid h0
        have HO := Lib.hid ho
        have hjlt := opK_lt h0
        clear hv h0 ho
        go_wp2_with fail
        refine CK.out.mono ?_
        rintro e w5 ⟨rfl, hb⟩
        have HS5 := Lib.hid (HW.out.rd.below hb)
        have x5 := heap_below hb (heap_lt HW.out.box) HW.out.box
        have y5 := heap_below hb (heap_lt HW.out.res) HW.out.res
        have hsh := HS5.out.sh
        obtain ⟨b0, b1, bf0, bf1, bl⟩ := own2 x5
        obtain ⟨d0, d1, df0, df1, dl⟩ := own2 y5
        have HX5 := Lib.hid x5
        have HB := Lib.hid hb
        obtain ⟨sl, sc⟩ := hsh
        have s15 := sc 15 _ rfl
        have s19 := sc 19 _ rfl
        have s23 := sc 23 _ rfl
        clear x5 y5 hb sc
        have HO3 := Lib.hid ho3
        have hbk : Hid (w5.cell? ⟨0, o.toNat * 4 + 3, none⟩ = some (.int .i64 (binds o))) := Lib.hid (by
          rcases HO3.out with rfl | rfl | rfl
          · exact s15
          · exact s19
          · exact s23)
        by_cases hlt : binds o < least
        · have HL := Lib.hid (show opK l j = 0 ∨ binds (opK l j) < least from .inr (by rw [← HO.out]; exact hlt))
          rcases ho3 with rfl | rfl | rfl
          · have hlt2 : (1 : Int) < least := by
              have e : binds 3 = 1 := by decide
              omega
            clear hlt hbk
            go_wp2_with fail
            refine bodyPost_ret (v := .agg #[.int .i8 k, .slice G mg cg]) (by simp [results, Tryd.results20, go_sem, *]) rfl (HW.out.done HB.out hwr HL.out)
          · have hlt2 : (3 : Int) < least := by
              have e : binds 4 = 3 := by decide
              omega
            clear hlt hbk
            go_wp2_with fail
            refine bodyPost_ret (v := .agg #[.int .i8 k, .slice G mg cg]) (by simp [results, Tryd.results20, go_sem, *]) rfl (HW.out.done HB.out hwr HL.out)
          · have hlt2 : (2 : Int) < least := by
              have e : binds 5 = 2 := by decide
              omega
            clear hlt hbk
            go_wp2_with fail
            refine bodyPost_ret (v := .agg #[.int .i8 k, .slice G mg cg]) (by simp [results, Tryd.results20, go_sem, *]) rfl (HW.out.done HB.out hwr HL.out)
        · have HL := Lib.hid (show least ≤ binds (opK l j) from by rw [← HO.out]; omega)
          have hg6 : w5.grownBy (w5.setCell ⟨rb, 1, none⟩ (.int .i64 ((j : Int) + 1))) (some rb) := only_setCell (only_refl w5 rb) (.inl rfl) _
          have hr6 := rdr_set HS5.out.rdr (j + 1)
          rw [show ((j + 1 : Nat) : Int) = (j : Int) + 1 by omega] at hr6
          have HS6 := Lib.hid (HS5.out.step hg6 hr6 (by omega))
          have HG6 := Lib.hid (only_trans (only_below HB.out) hg6)
          have HX6 := Lib.hid (heap_grown hg6 hXr HX5.out)
          clear hg6 hr6
          obtain ⟨r, hr⟩ := R.wh_total l (rgt (opK l j)) (j + 1)
          have HJ := Lib.hid (show i < j + 1 from by have := HW.out.gt; omega)
          have HRR := Lib.hid hr
          clear hr
          rcases ho3 with rfl | rfl | rfl
          · have hlt2 : (least : Int) ≤ 1 := by
              have e : binds 3 = 1 := by decide
              omega
            clear hlt hbk
            have hbX := Lib.hid s15
            obtain ⟨lf, cn⟩ := needsR_any 3 HO3.out _ HS6.out.sh
            have CN := Lib.hid (show Calls Tryd.prog 36 #[.int .i8 3] (w5.setCell ⟨rb, 1, none⟩ (.int .i64 ((j : Int) + 1))) (fun e w' => e = .returned (.tuple #[.int .i64 lf, .int .i64 1]) ∧ w' = w5.setCell ⟨rb, 1, none⟩ (.int .i64 ((j : Int) + 1))) from cn)
            clear cn
            clear s15 s19 s23 d0 d1 df0 df1
            have sX := hbX.out
            clear hbX
            go_upto_region 5 with fail
            have HGK := Lib.hid (And.intro hgk hjlt)
            clear sX hlt2 b0 b1 bf0 bf1 bl dl sl hgk hjl hjlt h4
            obtain ⟨r0, r1, rf0, rf1, rl⟩ := own2 HS5.out.rdr
            have hjj : (j : Int) + 1 ≤ 9223372036854775807 := by have := HS5.out.len; have := HS5.out.le; unfold maxLen at *; omega
            go_upto_region 6 with fail

            clear r0 r1 rf0 rf1 rl
            go_wp2_with fail
            refine CN.out.mono ?_
            rintro e w6 ⟨rfl, hw6⟩
            subst hw6
            go_upto_region 7 with fail
            generalize w5.setCell ⟨rb, 1, none⟩ (.int .i64 ((j : Int) + 1)) = w6 at *
            obtain ⟨z0, z1, zf0, zf1, zl⟩ := own2 HX6.out
            have HD := Lib.hid (Below.refl w6.heap.size w6).drew
            have hr := HRR.out
            rw [← HO.out] at hr
            clear HRR
            cases r with
            | bad q =>
              have CB := Lib.hid (fun (U : World) (hb : Below w6.heap.size w6 U) => (show Calls Tryd.prog 20 #[.pointer (some ⟨rb, 0, none⟩), .int .i64 1] U (fun e u => RBad l rb U q e u) from
                (HWH.out U (j + 1) (rgt 3) HJ.out (by decide) (HS6.out.below hb)).mono fun e u hp => by
                  rcases hp with ⟨k2, kids2, j2, hR2, -⟩ | ⟨q2, hR2, hB⟩
                  · cases hr.det hR2
                  · injection hr.det hR2 with e; subst e; exact hB))
              have HRB := Lib.hid (show R l (.wh least i) (.bad q) from HW.out.on _ (.opBad H0.out HL.out (by rw [← HO.out]; exact hr)))
              have HGB := Lib.hid (only_trans HW.out.only (only_trans HG6.out (only_below (rb := rb) HD.out)))
              clear hr
              have D0 := HD.out
              go_region_with (first
                | (go_at_call 20; (with_reducible refine (CB.out _ D0).mono ?_); rintro e u hB; have HP := Lib.hid (show RPost l A c rb w (.wh least i) e u from .inr ⟨q, HRB.out, hB.from HGB.out⟩); obtain ⟨g, rfl, -⟩ := hB; refine panic_end' (P := Tryd.prog) (w := u) ?_))
              all_goals exact ⟨rfl, HP.out⟩
            | ok k2 kids2 j2 =>
              have CB := Lib.hid (fun (U : World) (hb : Below w6.heap.size w6 U) => (show Calls Tryd.prog 20 #[.pointer (some ⟨rb, 0, none⟩), .int .i64 1] U (fun e u => ROk l A c rb U k2 kids2 j2 e u) from
                (HWH.out U (j + 1) (rgt 3) HJ.out (by decide) (HS6.out.below hb)).mono fun e u hp => by
                  rcases hp with ⟨k3, kids3, j3, hR2, hO⟩ | ⟨q2, hR2, hB⟩
                  · injection hr.det hR2 with e1 e2 e3; subst e1; subst e2; subst e3; exact hO
                  · cases hr.det hR2))
              have HNX := Lib.hid (fun (u : World) (G2 : Option Addr) (m2 c2 : Nat) (hF : Far w6.drew.heap.size u k2 kids2 G2 m2 c2) (hR : Rdr u rb A l.length c j2) (hg : w6.drew.grownBy u (some rb)) (t : TypeId) =>
                HW.out.next (only_trans HG6.out (only_below HD.out)) H.out hXg HL.out H0.out (by rw [← HO.out]; exact hr) hF hR hg 3 HO.out.symm t)
              have HGD := Lib.hid (heap_grown (only_below (rb := rb) HD.out) hXr HX6.out)
              have hj2 := hr.goes (show j + 1 ≤ l.length from HS6.out.le)
              have HJ2 := Lib.hid (show j + 1 + 1 ≤ j2 ∧ j2 ≤ l.length from hj2)
              have HR := Lib.hid hr
              clear hr hj2
              go_region_law (first
                | (go_simp; go_at_call 20; (with_reducible refine (CB.out _ HD.out).mono ?_); rintro e u ⟨G2, m2, c2, rfl, hF, hR, hg⟩; have FIN := Lib.hid (HNX.out u G2 m2 c2 hF hR hg); obtain ⟨q0, q1, qf0, qf1, ql⟩ := own2 (heap_grown hg hXr HGD.out); clear hF hR hg; go_wp2_with fail))
              all_goals
                go_wp2_with fail
                go_roundg (l.length - j2)
                case measure => have := HJ2.out; have := HGK.out; omega
                case rel => exact ⟨_, _, _, _, _, _, rfl, Lib.hid (FIN.out _)⟩
          · have hlt2 : (least : Int) ≤ 3 := by
              have e : binds 4 = 3 := by decide
              omega
            clear hlt hbk
            have hbX := Lib.hid s19
            obtain ⟨lf, cn⟩ := needsR_any 4 HO3.out _ HS6.out.sh
            have CN := Lib.hid (show Calls Tryd.prog 36 #[.int .i8 4] (w5.setCell ⟨rb, 1, none⟩ (.int .i64 ((j : Int) + 1))) (fun e w' => e = .returned (.tuple #[.int .i64 lf, .int .i64 4]) ∧ w' = w5.setCell ⟨rb, 1, none⟩ (.int .i64 ((j : Int) + 1))) from cn)
            clear cn
            clear s15 s19 s23 d0 d1 df0 df1
            have sX := hbX.out
            clear hbX
            go_upto_region 5 with fail
            have HGK := Lib.hid (And.intro hgk hjlt)
            clear sX hlt2 b0 b1 bf0 bf1 bl dl sl hgk hjl hjlt h4
            obtain ⟨r0, r1, rf0, rf1, rl⟩ := own2 HS5.out.rdr
            have hjj : (j : Int) + 1 ≤ 9223372036854775807 := by have := HS5.out.len; have := HS5.out.le; unfold maxLen at *; omega
            go_upto_region 6 with fail

            clear r0 r1 rf0 rf1 rl
            go_wp2_with fail
            refine CN.out.mono ?_
            rintro e w6 ⟨rfl, hw6⟩
            subst hw6
            go_upto_region 7 with fail
            generalize w5.setCell ⟨rb, 1, none⟩ (.int .i64 ((j : Int) + 1)) = w6 at *
            obtain ⟨z0, z1, zf0, zf1, zl⟩ := own2 HX6.out
            have HD := Lib.hid (Below.refl w6.heap.size w6).drew
            have hr := HRR.out
            rw [← HO.out] at hr
            clear HRR
            cases r with
            | bad q =>
              have CB := Lib.hid (fun (U : World) (hb : Below w6.heap.size w6 U) => (show Calls Tryd.prog 20 #[.pointer (some ⟨rb, 0, none⟩), .int .i64 4] U (fun e u => RBad l rb U q e u) from
                (HWH.out U (j + 1) (rgt 4) HJ.out (by decide) (HS6.out.below hb)).mono fun e u hp => by
                  rcases hp with ⟨k2, kids2, j2, hR2, -⟩ | ⟨q2, hR2, hB⟩
                  · cases hr.det hR2
                  · injection hr.det hR2 with e; subst e; exact hB))
              have HRB := Lib.hid (show R l (.wh least i) (.bad q) from HW.out.on _ (.opBad H0.out HL.out (by rw [← HO.out]; exact hr)))
              have HGB := Lib.hid (only_trans HW.out.only (only_trans HG6.out (only_below (rb := rb) HD.out)))
              clear hr
              have D0 := HD.out
              go_region_with (first
                | (go_at_call 20; (with_reducible refine (CB.out _ D0).mono ?_); rintro e u hB; have HP := Lib.hid (show RPost l A c rb w (.wh least i) e u from .inr ⟨q, HRB.out, hB.from HGB.out⟩); obtain ⟨g, rfl, -⟩ := hB; refine panic_end' (P := Tryd.prog) (w := u) ?_))
              all_goals exact ⟨rfl, HP.out⟩
            | ok k2 kids2 j2 =>
              have CB := Lib.hid (fun (U : World) (hb : Below w6.heap.size w6 U) => (show Calls Tryd.prog 20 #[.pointer (some ⟨rb, 0, none⟩), .int .i64 4] U (fun e u => ROk l A c rb U k2 kids2 j2 e u) from
                (HWH.out U (j + 1) (rgt 4) HJ.out (by decide) (HS6.out.below hb)).mono fun e u hp => by
                  rcases hp with ⟨k3, kids3, j3, hR2, hO⟩ | ⟨q2, hR2, hB⟩
                  · injection hr.det hR2 with e1 e2 e3; subst e1; subst e2; subst e3; exact hO
                  · cases hr.det hR2))
              have HNX := Lib.hid (fun (u : World) (G2 : Option Addr) (m2 c2 : Nat) (hF : Far w6.drew.heap.size u k2 kids2 G2 m2 c2) (hR : Rdr u rb A l.length c j2) (hg : w6.drew.grownBy u (some rb)) (t : TypeId) =>
                HW.out.next (only_trans HG6.out (only_below HD.out)) H.out hXg HL.out H0.out (by rw [← HO.out]; exact hr) hF hR hg 4 HO.out.symm t)
              have HGD := Lib.hid (heap_grown (only_below (rb := rb) HD.out) hXr HX6.out)
              have hj2 := hr.goes (show j + 1 ≤ l.length from HS6.out.le)
              have HJ2 := Lib.hid (show j + 1 + 1 ≤ j2 ∧ j2 ≤ l.length from hj2)
              have HR := Lib.hid hr
              clear hr hj2
              go_region_law (first
                | (go_simp; go_at_call 20; (with_reducible refine (CB.out _ HD.out).mono ?_); rintro e u ⟨G2, m2, c2, rfl, hF, hR, hg⟩; have FIN := Lib.hid (HNX.out u G2 m2 c2 hF hR hg); obtain ⟨q0, q1, qf0, qf1, ql⟩ := own2 (heap_grown hg hXr HGD.out); clear hF hR hg; go_wp2_with fail))
              all_goals
                go_wp2_with fail
                go_roundg (l.length - j2)
                case measure => have := HJ2.out; have := HGK.out; omega
                case rel => exact ⟨_, _, _, _, _, _, rfl, Lib.hid (FIN.out _)⟩
          · have hlt2 : (least : Int) ≤ 2 := by
              have e : binds 5 = 2 := by decide
              omega
            clear hlt hbk
            have hbX := Lib.hid s23
            obtain ⟨lf, cn⟩ := needsR_any 5 HO3.out _ HS6.out.sh
            have CN := Lib.hid (show Calls Tryd.prog 36 #[.int .i8 5] (w5.setCell ⟨rb, 1, none⟩ (.int .i64 ((j : Int) + 1))) (fun e w' => e = .returned (.tuple #[.int .i64 lf, .int .i64 3]) ∧ w' = w5.setCell ⟨rb, 1, none⟩ (.int .i64 ((j : Int) + 1))) from cn)
            clear cn
            clear s15 s19 s23 d0 d1 df0 df1
            have sX := hbX.out
            clear hbX
            go_upto_region 5 with fail
            have HGK := Lib.hid (And.intro hgk hjlt)
            clear sX hlt2 b0 b1 bf0 bf1 bl dl sl hgk hjl hjlt h4
            obtain ⟨r0, r1, rf0, rf1, rl⟩ := own2 HS5.out.rdr
            have hjj : (j : Int) + 1 ≤ 9223372036854775807 := by have := HS5.out.len; have := HS5.out.le; unfold maxLen at *; omega
            go_upto_region 6 with fail

            clear r0 r1 rf0 rf1 rl
            go_wp2_with fail
            refine CN.out.mono ?_
            rintro e w6 ⟨rfl, hw6⟩
            subst hw6
            go_upto_region 7 with fail
            generalize w5.setCell ⟨rb, 1, none⟩ (.int .i64 ((j : Int) + 1)) = w6 at *
            obtain ⟨z0, z1, zf0, zf1, zl⟩ := own2 HX6.out
            have HD := Lib.hid (Below.refl w6.heap.size w6).drew
            have hr := HRR.out
            rw [← HO.out] at hr
            clear HRR
            cases r with
            | bad q =>
              have CB := Lib.hid (fun (U : World) (hb : Below w6.heap.size w6 U) => (show Calls Tryd.prog 20 #[.pointer (some ⟨rb, 0, none⟩), .int .i64 3] U (fun e u => RBad l rb U q e u) from
                (HWH.out U (j + 1) (rgt 5) HJ.out (by decide) (HS6.out.below hb)).mono fun e u hp => by
                  rcases hp with ⟨k2, kids2, j2, hR2, -⟩ | ⟨q2, hR2, hB⟩
                  · cases hr.det hR2
                  · injection hr.det hR2 with e; subst e; exact hB))
              have HRB := Lib.hid (show R l (.wh least i) (.bad q) from HW.out.on _ (.opBad H0.out HL.out (by rw [← HO.out]; exact hr)))
              have HGB := Lib.hid (only_trans HW.out.only (only_trans HG6.out (only_below (rb := rb) HD.out)))
              clear hr
              have D0 := HD.out
              go_region_with (first
                | (go_at_call 20; (with_reducible refine (CB.out _ D0).mono ?_); rintro e u hB; have HP := Lib.hid (show RPost l A c rb w (.wh least i) e u from .inr ⟨q, HRB.out, hB.from HGB.out⟩); obtain ⟨g, rfl, -⟩ := hB; refine panic_end' (P := Tryd.prog) (w := u) ?_))
              all_goals exact ⟨rfl, HP.out⟩
            | ok k2 kids2 j2 =>
              have CB := Lib.hid (fun (U : World) (hb : Below w6.heap.size w6 U) => (show Calls Tryd.prog 20 #[.pointer (some ⟨rb, 0, none⟩), .int .i64 3] U (fun e u => ROk l A c rb U k2 kids2 j2 e u) from
                (HWH.out U (j + 1) (rgt 5) HJ.out (by decide) (HS6.out.below hb)).mono fun e u hp => by
                  rcases hp with ⟨k3, kids3, j3, hR2, hO⟩ | ⟨q2, hR2, hB⟩
                  · injection hr.det hR2 with e1 e2 e3; subst e1; subst e2; subst e3; exact hO
                  · cases hr.det hR2))
              have HNX := Lib.hid (fun (u : World) (G2 : Option Addr) (m2 c2 : Nat) (hF : Far w6.drew.heap.size u k2 kids2 G2 m2 c2) (hR : Rdr u rb A l.length c j2) (hg : w6.drew.grownBy u (some rb)) (t : TypeId) =>
                HW.out.next (only_trans HG6.out (only_below HD.out)) H.out hXg HL.out H0.out (by rw [← HO.out]; exact hr) hF hR hg 5 HO.out.symm t)
              have HGD := Lib.hid (heap_grown (only_below (rb := rb) HD.out) hXr HX6.out)
              have hj2 := hr.goes (show j + 1 ≤ l.length from HS6.out.le)
              have HJ2 := Lib.hid (show j + 1 + 1 ≤ j2 ∧ j2 ≤ l.length from hj2)
              have HR := Lib.hid hr
              clear hr hj2
              go_region_law (first
                | (go_simp; go_at_call 20; (with_reducible refine (CB.out _ HD.out).mono ?_); rintro e u ⟨G2, m2, c2, rfl, hF, hR, hg⟩; have FIN := Lib.hid (HNX.out u G2 m2 c2 hF hR hg); obtain ⟨q0, q1, qf0, qf1, ql⟩ := own2 (heap_grown hg hXr HGD.out); clear hF hR hg; go_wp2_with fail))
              all_goals
                go_wp2_with fail
                go_roundg (l.length - j2)
                case measure => have := HJ2.out; have := HGK.out; omega
                case rel => exact ⟨_, _, _, _, _, _, rfl, Lib.hid (FIN.out _)⟩
  · have HP := Lib.hid (show RPost l A c rb w (.wh least i) e w2 from .inr ⟨q, .whBad hRq, hB.from HG0.out⟩)
    obtain ⟨g, rfl, -⟩ := hB
    exact ⟨rfl, HP.out⟩

theorem whole_lt (l : List W4) (A : Option Addr) (c rb : Nat) : ∀ (n least i : Nat) (w : World), l.length - i < n → least ≤ 4 → RdS l A c rb w i →
    Calls Tryd.prog 20 #[.pointer (some ⟨rb, 0, none⟩), .int .i64 least] w (RPost l A c rb w (.wh least i))
  | 0, _, _, _, h, _, _ => absurd h (by omega)
  | n + 1, least, i, w, hn, h4, h => whole_step l A c rb i least w h h4 fun W j q hj hq hs => whole_lt l A c rb n q j W (by have := hs.le; omega) hq hs
/-- whole reads by the grammar, to its end or to the word that can't stand there -/
theorem whole_any (l : List W4) (A : Option Addr) (c rb least i : Nat) (w : World) (h4 : least ≤ 4) (h : RdS l A c rb w i) :
    Calls Tryd.prog 20 #[.pointer (some ⟨rb, 0, none⟩), .int .i64 least] w (RPost l A c rb w (.wh least i)) :=
  whole_lt l A c rb _ least i w (Nat.lt_succ_self _) h4 h
end Go.Proofs.YtkpdddlonmkebaaDoor
