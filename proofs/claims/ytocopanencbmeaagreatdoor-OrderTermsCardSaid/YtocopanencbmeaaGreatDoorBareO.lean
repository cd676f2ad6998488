/-
  terms.bare.
-/
import Derived.Test.YtocopanencbmeaaGreatDoorCopyT
import Derived.Test.YtocopanencbmeaaGreatDoorTmAlike
namespace Go.Proofs.YtocopanencbmeaaGreatDoor
open Go.RowKit

/-- the copy's block, the result's block -/
structure BareRel (w wx : World) (B R : Nat) (a : Hd) (q : Pl) : Prop where
  bx : wx.heap[B]? = some (.cells #[.int .i8 a.kind, .string a.name, .string a.arg, .int .i64 a.num, .int .i8 a.tk, .slice q.TA q.tn q.tc, .int .i8 a.uk, .slice q.UA q.un q.uc, .int .i64 a.label, .int .i64 a.pos, .slice q.A q.n q.c] 28 (0, 0))
  rx : wx.heap[R]? = some (.cells #[.int .i8 0, .string ⟨#[]⟩, .string ⟨#[]⟩, .int .i64 0, .int .i8 0, .slice none 0 0, .int .i8 0, .slice none 0 0, .int .i64 0, .int .i64 0, .slice none 0 0] 28 (0, 0))
  below : Below w.heap.size w wx
  gt : w.heap.size < B
  ne : R ≠ B
/-- behind the types -/
structure BareRel2 (w wx : World) (B R : Nat) (a : Hd) (q q2 : Pl) : Prop where
  rel : BareRel w wx B R a q2
  ty : Ty.Is (mask (fun b => decide (B < b)) wx) a.tk a.tkids q2.TA q2.tn q2.tc
  tu : Ty.Is (mask (fun b => decide (B < b)) wx) a.uk a.ukids q2.UA q2.un q2.uc
  A : q2.A = q.A
  n : q2.n = q.n
  c : q2.c = q.c

theorem BareRel.names {w u : World} {B R : Nat} {a : Hd} {q : Pl} (hB : u.heap[B]? = some (.cells #[.int .i8 a.kind, .string a.name, .string a.arg, .int .i64 a.num, .int .i8 a.tk, .slice q.TA q.tn q.tc, .int .i8 a.uk, .slice q.UA q.un q.uc, .int .i64 a.label, .int .i64 a.pos, .slice q.A q.n q.c] 28 (0, 0))) (hR : u.heap[R]? = some (.cells #[.int .i8 0, .string ⟨#[]⟩, .string ⟨#[]⟩, .int .i64 0, .int .i8 0, .slice none 0 0, .int .i8 0, .slice none 0 0, .int .i64 0, .int .i64 0, .slice none 0 0] 28 (0, 0))) (hb : Below w.heap.size w u) (hg : w.heap.size < B) (hne : R ≠ B) :
    BareRel w ((u.setCell ⟨B, 1, none⟩ (.string a.name)).setCell ⟨B, 2, none⟩ (.string a.arg)) B R a q := by
  refine ⟨?_, ?_, (hb.setCell (p := ⟨B, 1, none⟩) (Nat.le_of_lt hg) _).setCell (p := ⟨B, 2, none⟩) (Nat.le_of_lt hg) _, hg, hne⟩
  · simp [World.setCell, Array.getElem?_modify, hB]
  · rw [Below.heap_setCell _ _ _ R hne, Below.heap_setCell _ _ _ R hne]; exact hR
theorem BareRel.types {w u v : World} {B R : Nat} {a : Hd} {q : Pl} {G1 G2 : Option Addr} {m1 c1 m2 c2 n1 n2 : Nat} (hB : v.heap[B]? = some (.cells #[.int .i8 a.kind, .string a.name, .string a.arg, .int .i64 a.num, .int .i8 a.tk, .slice q.TA q.tn q.tc, .int .i8 a.uk, .slice q.UA q.un q.uc, .int .i64 a.label, .int .i64 a.pos, .slice q.A q.n q.c] 28 (0, 0))) (hR : v.heap[R]? = some (.cells #[.int .i8 0, .string ⟨#[]⟩, .string ⟨#[]⟩, .int .i64 0, .int .i8 0, .slice none 0 0, .int .i8 0, .slice none 0 0, .int .i64 0, .int .i64 0, .slice none 0 0] 28 (0, 0))) (hb : Below w.heap.size w v) (hg : w.heap.size < B) (hne : R ≠ B)
    (h1 : Ty.Is (mask (fun b => decide (n1 ≤ b)) u) a.tk a.tkids G1 m1 c1) (hn1 : B < n1) (huv : Below u.heap.size u v) (h2 : Ty.Is (mask (fun b => decide (n2 ≤ b)) v) a.uk a.ukids G2 m2 c2) (hn2 : B < n2) :
    BareRel2 w ((((v.setCell ⟨B, 4, none⟩ (.int .i8 a.tk)).setCell ⟨B, 5, none⟩ (.slice G1 m1 c1)).setCell ⟨B, 6, none⟩ (.int .i8 a.uk)).setCell ⟨B, 7, none⟩ (.slice G2 m2 c2)) B R a q ⟨G1, m1, c1, G2, m2, c2, q.A, q.n, q.c⟩ := by
  have hoth : ∀ (b o : Nat) (x : Value), b ≠ B → v.cell? ⟨b, o, none⟩ = some x → ((((v.setCell ⟨B, 4, none⟩ (.int .i8 a.tk)).setCell ⟨B, 5, none⟩ (.slice G1 m1 c1)).setCell ⟨B, 6, none⟩ (.int .i8 a.uk)).setCell ⟨B, 7, none⟩ (.slice G2 m2 c2)).cell? ⟨b, o, none⟩ = some x := by
    intro b o x hbB hx
    rw [World.cell?_setCell_other _ _ _ _ (fun e => hbB (by injection e with e; exact e.symm)), World.cell?_setCell_other _ _ _ _ (fun e => hbB (by injection e with e; exact e.symm)), World.cell?_setCell_other _ _ _ _ (fun e => hbB (by injection e with e; exact e.symm)), World.cell?_setCell_other _ _ _ _ (fun e => hbB (by injection e with e; exact e.symm))]
    exact hx
  refine ⟨⟨?_, ?_, (((hb.setCell (p := ⟨B, 4, none⟩) (Nat.le_of_lt hg) _).setCell (p := ⟨B, 5, none⟩) (Nat.le_of_lt hg) _).setCell (p := ⟨B, 6, none⟩) (Nat.le_of_lt hg) _).setCell (p := ⟨B, 7, none⟩) (Nat.le_of_lt hg) _, hg, hne⟩, ?_, ?_, rfl, rfl, rfl⟩
  · simp [World.setCell, Array.getElem?_modify, hB]
  · rw [Below.heap_setCell _ _ _ R hne, Below.heap_setCell _ _ _ R hne, Below.heap_setCell _ _ _ R hne, Below.heap_setCell _ _ _ R hne]; exact hR
  · refine h1.kept (kept_mask fun b o x hP hx => ?_)
    have hP' : n1 ≤ b := by simpa using hP
    exact ⟨by simp; omega, hoth b o x (by omega) (by rw [huv.cell (p := ⟨b, o, none⟩) (Ty.cell_lt hx)]; exact hx)⟩
  · refine h2.kept (kept_mask fun b o x hP hx => ?_)
    have hP' : n2 ≤ b := by simpa using hP
    exact ⟨by simp; omega, hoth b o x (by omega) hx⟩

theorem Tm.cnt_small {h : Hd} (hs : Tm.tyN h ≤ 8192) : Ty.nodes (Tm.cnt h).tkids ≤ 8192 ∧ Ty.nodes (Tm.cnt h).ukids ≤ 8192 := by
  unfold Tm.tyN at hs
  unfold Tm.cnt
  dsimp only
  constructor
  · cases ht : Tm.hasType h.kind
    · simp [Ty.nodes]
    · rw [ht] at hs; simp only [if_true] at hs ⊢
      have : Ty.nod h.tkids = min (Ty.nodes h.tkids + 1) 8193 := rfl
      omega
  · cases ht : Tm.hasTo h.kind
    · simp [Ty.nodes]
    · rw [ht] at hs; simp only [if_true] at hs ⊢
      have : Ty.nod h.ukids = min (Ty.nodes h.ukids + 1) 8193 := rfl
      omega

theorem bare_far {u3 : World} {B R b o : Nat} {x v0 v1 v2 v3 v4 v5 v6 v7 v8 v9 v10 : Value} (h1 : b ≠ B) (h2 : b ≠ R) : ((((((((((((u3.setCell ⟨B, 10, none⟩ x).setCell ⟨R, 0, none⟩ v0).setCell ⟨R, 1, none⟩ v1).setCell ⟨R, 2, none⟩ v2).setCell ⟨R, 3, none⟩ v3).setCell ⟨R, 4, none⟩ v4).setCell ⟨R, 5, none⟩ v5).setCell ⟨R, 6, none⟩ v6).setCell ⟨R, 7, none⟩ v7).setCell ⟨R, 8, none⟩ v8).setCell ⟨R, 9, none⟩ v9).setCell ⟨R, 10, none⟩ v10).cell? ⟨b, o, none⟩ = u3.cell? ⟨b, o, none⟩ :=
  World.cell?_of_block (by rw [Below.heap_setCell _ _ _ b h2, Below.heap_setCell _ _ _ b h2, Below.heap_setCell _ _ _ b h2, Below.heap_setCell _ _ _ b h2, Below.heap_setCell _ _ _ b h2, Below.heap_setCell _ _ _ b h2, Below.heap_setCell _ _ _ b h2, Below.heap_setCell _ _ _ b h2, Below.heap_setCell _ _ _ b h2, Below.heap_setCell _ _ _ b h2, Below.heap_setCell _ _ _ b h2, Below.heap_setCell _ _ _ b h1])

theorem cf_bare (args : Array Value) (W : World) : (callFunc 16 args).run Tryz.prog W = .ok (.enter 16 args) W := by simp [go_sem]

attribute [local go_sem ↓] Go.wp_at_zero Go.wp_at_succ
set_option maxHeartbeats 8000000 in
set_option maxRecDepth 100000 in
theorem bare_any (K : Nat) : ∀ (h : Hd) (kids : Tm) (p : Pl) (w : World), Tm.nodes kids < K → Tm.tyN h + Tm.nodes kids ≤ 8192 → Tm.Is w h kids p → TShapes w →
    Calls Tryz.prog 16 #[.agg #[.int .i8 h.kind, .string h.name, .string h.arg, .int .i64 h.num, .int .i8 h.tk, .slice p.TA p.tn p.tc, .int .i8 h.uk, .slice p.UA p.un p.uc, .int .i64 h.label, .int .i64 h.pos, .slice p.A p.n p.c]] w (CopyTm (fun b => decide (w.heap.size ≤ b)) w h kids) := by
  induction K with
  | zero => intro _ _ _ _ hK; omega
  | succ K ih =>
    intro h kids p w hK hsm hIs hS
    have hB0 : Below w.heap.size w ((w.alloc (.cells #[.int .i8 h.kind, .string h.name, .string h.arg, .int .i64 h.num, .int .i8 h.tk, .slice p.TA p.tn p.tc, .int .i8 h.uk, .slice p.UA p.un p.uc, .int .i64 h.label, .int .i64 h.pos, .slice p.A p.n p.c] 28)).alloc (.cells #[.int .i8 0, .string ⟨#[]⟩, .string ⟨#[]⟩, .int .i64 0, .int .i8 0, .slice none 0 0, .int .i8 0, .slice none 0 0, .int .i64 0, .int .i64 0, .slice none 0 0] 28)) := ((Below.refl _ _).alloc (Nat.le_refl _) _).alloc (by simp) _
    obtain ⟨r0, r1, r2⟩ := two_new w (.cells #[.int .i8 h.kind, .string h.name, .string h.arg, .int .i64 h.num, .int .i8 h.tk, .slice p.TA p.tn p.tc, .int .i8 h.uk, .slice p.UA p.un p.uc, .int .i64 h.label, .int .i64 h.pos, .slice p.A p.n p.c] 28) (.cells #[.int .i8 0, .string ⟨#[]⟩, .string ⟨#[]⟩, .int .i64 0, .int .i8 0, .slice none 0 0, .int .i8 0, .slice none 0 0, .int .i64 0, .int .i64 0, .slice none 0 0] 28)
    have HC := Lib.hid (fun (W : World) (hb : Below w.heap.size w W) => show Calls Tryz.prog 36 #[.agg #[.int .i8 h.kind, .string h.name, .string h.arg, .int .i64 h.num, .int .i8 h.tk, .slice p.TA p.tn p.tc, .int .i8 h.uk, .slice p.UA p.un p.uc, .int .i64 h.label, .int .i64 h.pos, .slice p.A p.n p.c]] W (fun e w' => e = .returned (.agg #[.int .i8 (Tm.cnt h).kind, .string (Tm.cnt h).name, .string (Tm.cnt h).arg, .int .i64 (Tm.cnt h).num, .int .i8 (Tm.cnt h).tk, .slice (Tm.cntP h p).TA (Tm.cntP h p).tn (Tm.cntP h p).tc, .int .i8 (Tm.cnt h).uk, .slice (Tm.cntP h p).UA (Tm.cntP h p).un (Tm.cntP h p).uc, .int .i64 (Tm.cnt h).label, .int .i64 (Tm.cnt h).pos, .slice (Tm.cntP h p).A (Tm.cntP h p).n (Tm.cntP h p).c]) ∧ Below W.heap.size W w') from counting_any h _ p W (hIs.below hb).fit (hS.below hb))
    have HI := Lib.hid (fun (W : World) (hb : Below w.heap.size w W) => (hIs.below hb).cnt)
    have HS := Lib.hid (fun (W : World) (hb : Below w.heap.size w W) => hS.below hb)
    have hcs := Tm.cnt_small (h := h) (by omega)
    have R0 := Lib.hid r0
    have R1 := Lib.hid r1
    have IH := Lib.hid ih
    obtain ⟨q0, q1, q2, q3, q4, q5, q6, q7, q8, q9, q10, ql⟩ := own11 r0
    clear hIs hS r0 r1 ih r2
    unfold CopyTm
    generalize Tm.cnt h = a at *
    generalize Tm.cntP h p = q at *
    go_enter Tryz.func16, Tryz.ntmps16
    go_wp2_with fail
    refine (HC.out _ hB0).mono ?_
    rintro e u1 ⟨rfl, hb⟩
    have hB1 := hB0.trans (hb.mono hB0.size)
    have hR := heap_below hb (heap_lt R1.out) R1.out
    have zR : w.heap.size + 1 < u1.heap.size := heap_lt hR
    clear hb q0 q1 q2 q3 q4 q5 q6 q7 q8 q9 q10 ql
    go_wp2_with fail
    have hW2 : BareRel w (u1.alloc (.cells #[.int .i8 a.kind, .string a.name, .string a.arg, .int .i64 a.num, .int .i8 a.tk, .slice q.TA q.tn q.tc, .int .i8 a.uk, .slice q.UA q.un q.uc, .int .i64 a.label, .int .i64 a.pos, .slice q.A q.n q.c] 28)) u1.heap.size (w.heap.size + 1) a q := ⟨heap_new u1 _, heap_old hR _, hB1.alloc hB1.size _, by omega, by omega⟩
    generalize u1.alloc (.cells #[.int .i8 a.kind, .string a.name, .string a.arg, .int .i64 a.num, .int .i8 a.tk, .slice q.TA q.tn q.tc, .int .i8 a.uk, .slice q.UA q.un q.uc, .int .i64 a.label, .int .i64 a.pos, .slice q.A q.n q.c] 28) = w2 at *
    generalize u1.heap.size = B at *
    have HW2 := Lib.hid hW2
    have hbl := heap_lt hW2.bx
    have hrl := heap_lt hW2.rx
    have hg := hW2.gt
    clear hW2 hR hB0 hB1 zR
    have CN := Lib.hid (fun (W : World) (hb : Below w.heap.size w W) => clone_any a.name (HI.out W hb).fit.nm W)
    have CM := Lib.hid (fun (W : World) (hb : Below w.heap.size w W) => clone_any a.arg (HI.out W hb).fit.ar W)
    go_cut [8] (fun _ wx => BareRel w wx B (w.heap.size + 1) a q)
    case first =>
      have D0 : Below w2.heap.size w2 w2.drew := (Below.refl _ _).drew
      have E0 : Below w.heap.size w w2.drew := HW2.out.below.drew
      obtain ⟨q0, q1, q2, q3, q4, q5, q6, q7, q8, q9, q10, ql⟩ := own11 HW2.out.bx
      go_region_law (first
        | (go_simp; go_at_call 37; (with_reducible refine (CN.out _ E0).mono ?_); rintro e u1 ⟨rfl, hb⟩; have D1 := D0.trans (hb.mono D0.size); have E1 := E0.trans (hb.mono E0.size); have z1 := Nat.lt_of_lt_of_le hbl D1.size; obtain ⟨a0, a1, a2, a3, a4, a5, a6, a7, a8, a9, a10, al⟩ := own11 (heap_below D1 hbl HW2.out.bx); clear hb; go_wp2_with fail)
        | (go_simp; go_at_call 37; (with_reducible refine (CM.out _ E1).mono ?_); rintro e u2 ⟨rfl, hb⟩; have D2 := D1.trans (hb.mono D1.size); have E2 := E1.trans (hb.mono E1.size); have z2 := Nat.lt_of_lt_of_le hbl D2.size; have SB := Lib.hid (heap_below D2 hbl HW2.out.bx); have SR := Lib.hid (heap_below D2 hrl HW2.out.rx); obtain ⟨b0, b1, b2, b3, b4, b5, b6, b7, b8, b9, b10, bl⟩ := own11 SB.out; have f0 := free11 SB.out 0; have f1 := free11 SB.out 1; have f2 := free11 SB.out 2; have f3 := free11 SB.out 3; have f4 := free11 SB.out 4; have f5 := free11 SB.out 5; have f6 := free11 SB.out 6; have f7 := free11 SB.out 7; have f8 := free11 SB.out 8; have f9 := free11 SB.out 9; have f10 := free11 SB.out 10; clear hb; go_wp2_with fail))
      all_goals
        go_wp2_with fail
        go_meet
        exact BareRel.names SB.out SR.out E2 hg HW2.out.ne
    case rest =>
      clear hbl hrl HW2 CN CM
      have HC3 := Lib.hid hcut
      have hbl := heap_lt hcut.bx
      have hrl := heap_lt hcut.rx
      clear hcut
      go_wp2_with fail
      have CT := Lib.hid (fun (W : World) (hb : Below w.heap.size w W) => copied_any (Ty.nodes a.tkids + 1) a.tk a.tkids q.TA q.tn q.tc W (by omega) (HI.out W hb).fit.ty hcs.1)
      have CU := Lib.hid (fun (W : World) (hb : Below w.heap.size w W) => copied_any (Ty.nodes a.ukids + 1) a.uk a.ukids q.UA q.un q.uc W (by omega) (HI.out W hb).fit.to hcs.2)
      have hlp := (HI.out _ HC3.out.below).fit
      obtain ⟨wo, rfl⟩ : ∃ wo : World, wo = wc := ⟨_, rfl⟩
      go_cut [16] (fun _ wx => ∃ q2, BareRel2 w wx B (w.heap.size + 1) a q q2)
      case first =>
        have D0 : Below wo.heap.size wo wo.drew := (Below.refl _ _).drew
        have E0 : Below w.heap.size w wo.drew := HC3.out.below.drew
        obtain ⟨q0, q1, q2, q3, q4, q5, q6, q7, q8, q9, q10, ql⟩ := own11 HC3.out.bx
        go_region_law (first
          | (go_simp; go_at_call 38; (with_reducible refine (CT.out _ E0).mono ?_); rintro e u1 ⟨G1, m1, c1, rfl, hI1, hb⟩; have D1 := D0.trans (hb.mono D0.size); have E1 := E0.trans (hb.mono E0.size); have z1 := Nat.lt_of_lt_of_le hbl D1.size; have HI1 := Lib.hid hI1; obtain ⟨a0, a1, a2, a3, a4, a5, a6, a7, a8, a9, a10, al⟩ := own11 (heap_below D1 hbl HC3.out.bx); clear hb hI1; go_wp2_with fail)
          | (go_simp; go_at_call 38; (with_reducible refine (CU.out _ E1).mono ?_); rintro e u2 ⟨G2, m2, c2, rfl, hI2, hb⟩; have D2 := D1.trans (hb.mono D1.size); have E2 := E1.trans (hb.mono E1.size); have z2 := Nat.lt_of_lt_of_le hbl D2.size; have HI2 := Lib.hid hI2; have HB12 := Lib.hid hb; have SB := Lib.hid (heap_below D2 hbl HC3.out.bx); have SR := Lib.hid (heap_below D2 hrl HC3.out.rx); obtain ⟨b0, b1, b2, b3, b4, b5, b6, b7, b8, b9, b10, bl⟩ := own11 SB.out; have f0 := free11 SB.out 0; have f1 := free11 SB.out 1; have f2 := free11 SB.out 2; have f3 := free11 SB.out 3; have f4 := free11 SB.out 4; have f5 := free11 SB.out 5; have f6 := free11 SB.out 6; have f7 := free11 SB.out 7; have f8 := free11 SB.out 8; have f9 := free11 SB.out 9; have f10 := free11 SB.out 10; clear hb hI2; go_wp2_with fail))
        all_goals
          go_wp2_with fail
          go_meet
          exact ⟨_, BareRel.types SB.out SR.out E2 hg HC3.out.ne HI1.out (show B < wo.drew.heap.size from hbl) HB12.out HI2.out z1⟩
      case rest =>
        obtain ⟨q2, hq2⟩ := hcut
        have HQ := Lib.hid hq2
        have hbl := heap_lt hq2.rel.bx
        have hrl := heap_lt hq2.rel.rx
        have hne := hq2.rel.ne
        have CE := Lib.hid (fun (W : World) (hb : Below w.heap.size w W) => show Calls Tryz.prog 39 #[.slice q2.A q2.n q2.c, .func (Fn.func 16) #[] #[]] W (EachTm W kids) from by
          rw [HQ.out.A, HQ.out.n, HQ.out.c]
          exact tm_each_any 16 kids q.A q.n q.c W (HI.out W hb).lies (HI.out W hb).fit.n_eq (HI.out W hb).fit.n_le (HI.out W hb).fit.c_le (by omega) cf_bare
            (fun h1 kd p1 W' e1 e2 e3 e4 => IH.out h1 kd p1 W' (by omega) e2 e3 (HS.out _ (hb.trans (e4.mono hb.size)))))
        have HG := Lib.hid hg
        have HNE := Lib.hid hne
        obtain ⟨q0, q1, q2, q3, q4, q5, q6, q7, q8, q9, q10, ql⟩ := own11 hq2.rel.bx
        clear hq2 CT CU hcs hlp HC3 HC IH HS hne R0 R1
        go_wp2_with fail
        refine (CE.out _ HQ.out.rel.below).mono ?_
        rintro e u3 ⟨G, m, cg, rfl, hL, hm, hmc, hcg, hb⟩
        have E3 := HQ.out.rel.below.trans (hb.mono HQ.out.rel.below.size)
        have HL := Lib.hid hL
        have HMM := Lib.hid hm
        have HUB := Lib.hid hb
        have SB := Lib.hid (heap_below hb hbl HQ.out.rel.bx)
        have SR := Lib.hid (heap_below hb hrl HQ.out.rel.rx)
        have z1 := Nat.lt_of_lt_of_le hbl hb.size
        have z2 := Nat.lt_of_lt_of_le hrl hb.size
        clear hb hL hm q0 q1 q2 q3 q4 q5 q6 q7 q8 q9 q10 ql
        obtain ⟨b0, b1, b2, b3, b4, b5, b6, b7, b8, b9, b10, bl⟩ := own11 SB.out
        obtain ⟨y0, y1, y2, y3, y4, y5, y6, y7, y8, y9, y10, yl⟩ := own11 SR.out
        have fb := free11 SB.out 10
        have f0 := free11 SR.out 0; have f1 := free11 SR.out 1; have f2 := free11 SR.out 2; have f3 := free11 SR.out 3; have f4 := free11 SR.out 4; have f5 := free11 SR.out 5; have f6 := free11 SR.out 6; have f7 := free11 SR.out 7; have f8 := free11 SR.out 8; have f9 := free11 SR.out 9; have f10 := free11 SR.out 10
        have hRB : w.heap.size + 1 < B := by have := HNE.out; omega
        go_wp2_with fail
        have hf := (HI.out _ HQ.out.rel.below).fit
        refine bodyPost_ret (v := .agg #[.int .i8 a.kind, .string a.name, .string a.arg, .int .i64 a.num, .int .i8 a.tk, .slice q2.TA q2.tn q2.tc, .int .i8 a.uk, .slice q2.UA q2.un q2.uc, .int .i64 a.label, .int .i64 a.pos, .slice G m cg]) (by simp [results, Tryz.results16, go_sem, *]) rfl ⟨⟨q2.TA, q2.tn, q2.tc, q2.UA, q2.un, q2.uc, G, m, cg⟩, rfl, ⟨⟨?_, ?_, ?_, hmc, hcg, hf.klo, hf.khi, hf.llo, hf.lhi, hf.nm, hf.ar⟩, ?_⟩, ?_⟩
        · refine HQ.out.ty.kept (kept_mask fun b o x hP hx => ?_)
          have hP' : B < b := of_decide_eq_true hP
          exact ⟨by have := HG.out; simp; omega, by rw [bare_far (by omega) (by omega), HUB.out.cell (p := ⟨b, o, none⟩) (Ty.cell_lt hx)]; exact hx⟩
        · refine HQ.out.tu.kept (kept_mask fun b o x hP hx => ?_)
          have hP' : B < b := of_decide_eq_true hP
          exact ⟨by have := HG.out; simp; omega, by rw [bare_far (by omega) (by omega), HUB.out.cell (p := ⟨b, o, none⟩) (Ty.cell_lt hx)]; exact hx⟩
        · rw [Tm.len_bF]; exact HMM.out
        · refine Tm.Lies.kept (kept_mask fun b o x hP hx => ?_) _ _ _ HL.out
          have hP' := of_decide_eq_true hP
          exact ⟨by have := HG.out; simp; omega, by rw [bare_far (by omega) (by omega)]; exact hx⟩
        · exact below_only11 (E3.setCell (p := ⟨B, 10, none⟩) (Nat.le_of_lt HG.out) _) (by omega) _ _ _ _ _ _ _ _ _ _ _
end Go.Proofs.YtocopanencbmeaaGreatDoor
