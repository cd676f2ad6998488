/-
  terms.bare. terms.Bare, terms.Same. Terms that are less and more precise; slices.EqualFunc over them.
-/
import Derived.Test.YtekjhcfjpedbkaaGreatDoorM15
import Derived.Test.YtekjhcfjpedbkaaGreatDoorM9
import Derived.Deep.RegionHeld3
import Derived.Test.YtekjhcfjpedbkaaGreatDoorM11
namespace Go.Proofs.YtekjhcfjpedbkaaGreatDoor
open Go.RowKit
/-- the copy's block, the result's block -/
structure BareRel (w wx : World) (B R : Nat) (a : Hd) (q : Pl) : Prop where
  bx : wx.heap[B]? = some (.cells #[.int .i8 a.kind, .string a.name, .string a.arg, .int .i64 a.num, .int .i8 a.tk, .slice q.TA q.tn q.tc, .int .i8 a.uk, .slice q.UA q.un q.uc, .int .i64 a.label, .int .i64 a.pos, .slice q.A q.n q.c] 28 (0, 0))
  rx : wx.heap[R]? = some (.cells #[.int .i8 0, .string ⟨#[]⟩, .string ⟨#[]⟩, .int .i64 0, .int .i8 0, .slice none 0 0, .int .i8 0, .slice none 0 0, .int .i64 0, .int .i64 0, .slice none 0 0] 28 (0, 0))
  below : Below w.heap.size w wx
  gt : w.heap.size < B
  ne : R ≠ B
/-- behind the types -/
structure BareRel2 (w wx : World) (B R : Nat) (a : Hd) (q q2 : Pl) : Prop where
  rel : BareRel w wx B R a q2
  ty : Ty.Is (mask (fun b => decide (B < b)) wx) a.tk a.tkids q2.TA q2.tn q2.tc
  tu : Ty.Is (mask (fun b => decide (B < b)) wx) a.uk a.ukids q2.UA q2.un q2.uc
  A : q2.A = q.A
  n : q2.n = q.n
  c : q2.c = q.c

theorem BareRel.names {w u : World} {B R : Nat} {a : Hd} {q : Pl} (hB : u.heap[B]? = some (.cells #[.int .i8 a.kind, .string a.name, .string a.arg, .int .i64 a.num, .int .i8 a.tk, .slice q.TA q.tn q.tc, .int .i8 a.uk, .slice q.UA q.un q.uc, .int .i64 a.label, .int .i64 a.pos, .slice q.A q.n q.c] 28 (0, 0))) (hR : u.heap[R]? = some (.cells #[.int .i8 0, .string ⟨#[]⟩, .string ⟨#[]⟩, .int .i64 0, .int .i8 0, .slice none 0 0, .int .i8 0, .slice none 0 0, .int .i64 0, .int .i64 0, .slice none 0 0] 28 (0, 0))) (hb : Below w.heap.size w u) (hg : w.heap.size < B) (hne : R ≠ B) :
    BareRel w ((u.setCell ⟨B, 1, none⟩ (.string a.name)).setCell ⟨B, 2, none⟩ (.string a.arg)) B R a q := by
  refine ⟨?_, ?_, (hb.setCell (p := ⟨B, 1, none⟩) (Nat.le_of_lt hg) _).setCell (p := ⟨B, 2, none⟩) (Nat.le_of_lt hg) _, hg, hne⟩
  · simp [World.setCell, Array.getElem?_modify, hB]
  · rw [Below.heap_setCell _ _ _ R hne, Below.heap_setCell _ _ _ R hne]; exact hR
theorem BareRel.types {w u v : World} {B R : Nat} {a : Hd} {q : Pl} {G1 G2 : Option Addr} {m1 c1 m2 c2 n1 n2 : Nat} (hB : v.heap[B]? = some (.cells #[.int .i8 a.kind, .string a.name, .string a.arg, .int .i64 a.num, .int .i8 a.tk, .slice q.TA q.tn q.tc, .int .i8 a.uk, .slice q.UA q.un q.uc, .int .i64 a.label, .int .i64 a.pos, .slice q.A q.n q.c] 28 (0, 0))) (hR : v.heap[R]? = some (.cells #[.int .i8 0, .string ⟨#[]⟩, .string ⟨#[]⟩, .int .i64 0, .int .i8 0, .slice none 0 0, .int .i8 0, .slice none 0 0, .int .i64 0, .int .i64 0, .slice none 0 0] 28 (0, 0))) (hb : Below w.heap.size w v) (hg : w.heap.size < B) (hne : R ≠ B)
    (h1 : Ty.Is (mask (fun b => decide (n1 ≤ b)) u) a.tk a.tkids G1 m1 c1) (hn1 : B < n1) (huv : Below u.heap.size u v) (h2 : Ty.Is (mask (fun b => decide (n2 ≤ b)) v) a.uk a.ukids G2 m2 c2) (hn2 : B < n2) :
    BareRel2 w ((((v.setCell ⟨B, 4, none⟩ (.int .i8 a.tk)).setCell ⟨B, 5, none⟩ (.slice G1 m1 c1)).setCell ⟨B, 6, none⟩ (.int .i8 a.uk)).setCell ⟨B, 7, none⟩ (.slice G2 m2 c2)) B R a q ⟨G1, m1, c1, G2, m2, c2, q.A, q.n, q.c⟩ := by
  have hoth : ∀ (b o : Nat) (x : Value), b ≠ B → v.cell? ⟨b, o, none⟩ = some x → ((((v.setCell ⟨B, 4, none⟩ (.int .i8 a.tk)).setCell ⟨B, 5, none⟩ (.slice G1 m1 c1)).setCell ⟨B, 6, none⟩ (.int .i8 a.uk)).setCell ⟨B, 7, none⟩ (.slice G2 m2 c2)).cell? ⟨b, o, none⟩ = some x := by
    intro b o x hbB hx
    rw [World.cell?_setCell_other _ _ _ _ (fun e => hbB (by injection e with e; exact e.symm)), World.cell?_setCell_other _ _ _ _ (fun e => hbB (by injection e with e; exact e.symm)), World.cell?_setCell_other _ _ _ _ (fun e => hbB (by injection e with e; exact e.symm)), World.cell?_setCell_other _ _ _ _ (fun e => hbB (by injection e with e; exact e.symm))]
    exact hx
  refine ⟨⟨?_, ?_, (((hb.setCell (p := ⟨B, 4, none⟩) (Nat.le_of_lt hg) _).setCell (p := ⟨B, 5, none⟩) (Nat.le_of_lt hg) _).setCell (p := ⟨B, 6, none⟩) (Nat.le_of_lt hg) _).setCell (p := ⟨B, 7, none⟩) (Nat.le_of_lt hg) _, hg, hne⟩, ?_, ?_, rfl, rfl, rfl⟩
  · simp [World.setCell, Array.getElem?_modify, hB]
  · rw [Below.heap_setCell _ _ _ R hne, Below.heap_setCell _ _ _ R hne, Below.heap_setCell _ _ _ R hne, Below.heap_setCell _ _ _ R hne]; exact hR
  · refine h1.kept (kept_mask fun b o x hP hx => ?_)
    have hP' : n1 ≤ b := by simpa using hP
    exact ⟨by simp; omega, hoth b o x (by omega) (by rw [huv.cell (p := ⟨b, o, none⟩) (Ty.cell_lt hx)]; exact hx)⟩
  · refine h2.kept (kept_mask fun b o x hP hx => ?_)
    have hP' : n2 ≤ b := by simpa using hP
    exact ⟨by simp; omega, hoth b o x (by omega) hx⟩

theorem Tm.cnt_small {h : Hd} (hs : Tm.tyN h ≤ 8192) : Ty.nodes (Tm.cnt h).tkids ≤ 8192 ∧ Ty.nodes (Tm.cnt h).ukids ≤ 8192 := by
  unfold Tm.tyN at hs
  unfold Tm.cnt
  dsimp only
  constructor
  · cases ht : Tm.hasType h.kind
    · simp [Ty.nodes]
    · rw [ht] at hs; simp only [if_true] at hs ⊢
      have : Ty.nod h.tkids = min (Ty.nodes h.tkids + 1) 8193 := rfl
      omega
  · cases ht : Tm.hasTo h.kind
    · simp [Ty.nodes]
    · rw [ht] at hs; simp only [if_true] at hs ⊢
      have : Ty.nod h.ukids = min (Ty.nodes h.ukids + 1) 8193 := rfl
      omega

theorem bare_far {u3 : World} {B R b o : Nat} {x v0 v1 v2 v3 v4 v5 v6 v7 v8 v9 v10 : Value} (h1 : b ≠ B) (h2 : b ≠ R) : ((((((((((((u3.setCell ⟨B, 10, none⟩ x).setCell ⟨R, 0, none⟩ v0).setCell ⟨R, 1, none⟩ v1).setCell ⟨R, 2, none⟩ v2).setCell ⟨R, 3, none⟩ v3).setCell ⟨R, 4, none⟩ v4).setCell ⟨R, 5, none⟩ v5).setCell ⟨R, 6, none⟩ v6).setCell ⟨R, 7, none⟩ v7).setCell ⟨R, 8, none⟩ v8).setCell ⟨R, 9, none⟩ v9).setCell ⟨R, 10, none⟩ v10).cell? ⟨b, o, none⟩ = u3.cell? ⟨b, o, none⟩ :=
  World.cell?_of_block (by rw [Below.heap_setCell _ _ _ b h2, Below.heap_setCell _ _ _ b h2, Below.heap_setCell _ _ _ b h2, Below.heap_setCell _ _ _ b h2, Below.heap_setCell _ _ _ b h2, Below.heap_setCell _ _ _ b h2, Below.heap_setCell _ _ _ b h2, Below.heap_setCell _ _ _ b h2, Below.heap_setCell _ _ _ b h2, Below.heap_setCell _ _ _ b h2, Below.heap_setCell _ _ _ b h2, Below.heap_setCell _ _ _ b h1])

theorem cf_bare (args : Array Value) (W : World) : (callFunc 71 args).run Tryz.prog W = .ok (.enter 71 args) W := by simp [go_sem]

attribute [local go_sem ↓] Go.wp_at_zero Go.wp_at_succ
set_option maxHeartbeats 8000000 in
set_option maxRecDepth 100000 in
theorem bare_any (K : Nat) : ∀ (h : Hd) (kids : Tm) (p : Pl) (w : World), Tm.nodes kids < K → Tm.tyN h + Tm.nodes kids ≤ 8192 → Tm.Is w h kids p → TShapes w →
    Calls Tryz.prog 71 #[.agg #[.int .i8 h.kind, .string h.name, .string h.arg, .int .i64 h.num, .int .i8 h.tk, .slice p.TA p.tn p.tc, .int .i8 h.uk, .slice p.UA p.un p.uc, .int .i64 h.label, .int .i64 h.pos, .slice p.A p.n p.c]] w (CopyTm (fun b => decide (w.heap.size ≤ b)) w h kids) := by
  induction K with
  | zero => intro _ _ _ _ hK; omega
  | succ K ih =>
    intro h kids p w hK hsm hIs hS
    have hB0 : Below w.heap.size w ((w.alloc (.cells #[.int .i8 h.kind, .string h.name, .string h.arg, .int .i64 h.num, .int .i8 h.tk, .slice p.TA p.tn p.tc, .int .i8 h.uk, .slice p.UA p.un p.uc, .int .i64 h.label, .int .i64 h.pos, .slice p.A p.n p.c] 28)).alloc (.cells #[.int .i8 0, .string ⟨#[]⟩, .string ⟨#[]⟩, .int .i64 0, .int .i8 0, .slice none 0 0, .int .i8 0, .slice none 0 0, .int .i64 0, .int .i64 0, .slice none 0 0] 28)) := ((Below.refl _ _).alloc (Nat.le_refl _) _).alloc (by simp) _
    obtain ⟨r0, r1, r2⟩ := two_new w (.cells #[.int .i8 h.kind, .string h.name, .string h.arg, .int .i64 h.num, .int .i8 h.tk, .slice p.TA p.tn p.tc, .int .i8 h.uk, .slice p.UA p.un p.uc, .int .i64 h.label, .int .i64 h.pos, .slice p.A p.n p.c] 28) (.cells #[.int .i8 0, .string ⟨#[]⟩, .string ⟨#[]⟩, .int .i64 0, .int .i8 0, .slice none 0 0, .int .i8 0, .slice none 0 0, .int .i64 0, .int .i64 0, .slice none 0 0] 28)
    have HC := Lib.hid (fun (W : World) (hb : Below w.heap.size w W) => show Calls Tryz.prog 114 #[.agg #[.int .i8 h.kind, .string h.name, .string h.arg, .int .i64 h.num, .int .i8 h.tk, .slice p.TA p.tn p.tc, .int .i8 h.uk, .slice p.UA p.un p.uc, .int .i64 h.label, .int .i64 h.pos, .slice p.A p.n p.c]] W (fun e w' => e = .returned (.agg #[.int .i8 (Tm.cnt h).kind, .string (Tm.cnt h).name, .string (Tm.cnt h).arg, .int .i64 (Tm.cnt h).num, .int .i8 (Tm.cnt h).tk, .slice (Tm.cntP h p).TA (Tm.cntP h p).tn (Tm.cntP h p).tc, .int .i8 (Tm.cnt h).uk, .slice (Tm.cntP h p).UA (Tm.cntP h p).un (Tm.cntP h p).uc, .int .i64 (Tm.cnt h).label, .int .i64 (Tm.cnt h).pos, .slice (Tm.cntP h p).A (Tm.cntP h p).n (Tm.cntP h p).c]) ∧ Below W.heap.size W w') from counting_any h _ p W (hIs.below hb).fit (hS.below hb))
    have HI := Lib.hid (fun (W : World) (hb : Below w.heap.size w W) => (hIs.below hb).cnt)
    have HS := Lib.hid (fun (W : World) (hb : Below w.heap.size w W) => hS.below hb)
    have hcs := Tm.cnt_small (h := h) (by omega)
    have R0 := Lib.hid r0
    have R1 := Lib.hid r1
    have IH := Lib.hid ih
    obtain ⟨q0, q1, q2, q3, q4, q5, q6, q7, q8, q9, q10, ql⟩ := own11 r0
    clear hIs hS r0 r1 ih r2
    unfold CopyTm
    generalize Tm.cnt h = a at *
    generalize Tm.cntP h p = q at *
    go_enter Tryz.func71, Tryz.ntmps71
    go_wp2_with fail
    refine (HC.out _ hB0).mono ?_
    rintro e u1 ⟨rfl, hb⟩
    have hB1 := hB0.trans (hb.mono hB0.size)
    have hR := heap_below hb (heap_lt R1.out) R1.out
    have zR : w.heap.size + 1 < u1.heap.size := heap_lt hR
    clear hb q0 q1 q2 q3 q4 q5 q6 q7 q8 q9 q10 ql
    go_wp2_with fail
    have hW2 : BareRel w (u1.alloc (.cells #[.int .i8 a.kind, .string a.name, .string a.arg, .int .i64 a.num, .int .i8 a.tk, .slice q.TA q.tn q.tc, .int .i8 a.uk, .slice q.UA q.un q.uc, .int .i64 a.label, .int .i64 a.pos, .slice q.A q.n q.c] 28)) u1.heap.size (w.heap.size + 1) a q := ⟨heap_new u1 _, heap_old hR _, hB1.alloc hB1.size _, by omega, by omega⟩
    generalize u1.alloc (.cells #[.int .i8 a.kind, .string a.name, .string a.arg, .int .i64 a.num, .int .i8 a.tk, .slice q.TA q.tn q.tc, .int .i8 a.uk, .slice q.UA q.un q.uc, .int .i64 a.label, .int .i64 a.pos, .slice q.A q.n q.c] 28) = w2 at *
    generalize u1.heap.size = B at *
    have HW2 := Lib.hid hW2
    have hbl := heap_lt hW2.bx
    have hrl := heap_lt hW2.rx
    have hg := hW2.gt
    clear hW2 hR hB0 hB1 zR
    have CN := Lib.hid (fun (W : World) (hb : Below w.heap.size w W) => clone_any a.name (HI.out W hb).fit.nm W)
    have CM := Lib.hid (fun (W : World) (hb : Below w.heap.size w W) => clone_any a.arg (HI.out W hb).fit.ar W)
    go_cut [8] (fun _ wx => BareRel w wx B (w.heap.size + 1) a q)
    case first =>
      have D0 : Below w2.heap.size w2 w2.drew := (Below.refl _ _).drew
      have E0 : Below w.heap.size w w2.drew := HW2.out.below.drew
      obtain ⟨q0, q1, q2, q3, q4, q5, q6, q7, q8, q9, q10, ql⟩ := own11 HW2.out.bx
      go_region_law (first
        | (go_simp; go_at_call 115; (with_reducible refine (CN.out _ E0).mono ?_); rintro e u1 ⟨rfl, hb⟩; have D1 := D0.trans (hb.mono D0.size); have E1 := E0.trans (hb.mono E0.size); have z1 := Nat.lt_of_lt_of_le hbl D1.size; obtain ⟨a0, a1, a2, a3, a4, a5, a6, a7, a8, a9, a10, al⟩ := own11 (heap_below D1 hbl HW2.out.bx); clear hb; go_wp2_with fail)
        | (go_simp; go_at_call 115; (with_reducible refine (CM.out _ E1).mono ?_); rintro e u2 ⟨rfl, hb⟩; have D2 := D1.trans (hb.mono D1.size); have E2 := E1.trans (hb.mono E1.size); have z2 := Nat.lt_of_lt_of_le hbl D2.size; have SB := Lib.hid (heap_below D2 hbl HW2.out.bx); have SR := Lib.hid (heap_below D2 hrl HW2.out.rx); obtain ⟨b0, b1, b2, b3, b4, b5, b6, b7, b8, b9, b10, bl⟩ := own11 SB.out; have f0 := free11 SB.out 0; have f1 := free11 SB.out 1; have f2 := free11 SB.out 2; have f3 := free11 SB.out 3; have f4 := free11 SB.out 4; have f5 := free11 SB.out 5; have f6 := free11 SB.out 6; have f7 := free11 SB.out 7; have f8 := free11 SB.out 8; have f9 := free11 SB.out 9; have f10 := free11 SB.out 10; clear hb; go_wp2_with fail))
      all_goals
        go_wp2_with fail
        go_meet
        exact BareRel.names SB.out SR.out E2 hg HW2.out.ne
    case rest =>
      clear hbl hrl HW2 CN CM
      have HC3 := Lib.hid hcut
      have hbl := heap_lt hcut.bx
      have hrl := heap_lt hcut.rx
      clear hcut
      go_wp2_with fail
      have CT := Lib.hid (fun (W : World) (hb : Below w.heap.size w W) => copied_any (Ty.nodes a.tkids + 1) a.tk a.tkids q.TA q.tn q.tc W (by omega) (HI.out W hb).fit.ty hcs.1)
      have CU := Lib.hid (fun (W : World) (hb : Below w.heap.size w W) => copied_any (Ty.nodes a.ukids + 1) a.uk a.ukids q.UA q.un q.uc W (by omega) (HI.out W hb).fit.to hcs.2)
      have hlp := (HI.out _ HC3.out.below).fit
      obtain ⟨wo, rfl⟩ : ∃ wo : World, wo = wc := ⟨_, rfl⟩
      go_cut [16] (fun _ wx => ∃ q2, BareRel2 w wx B (w.heap.size + 1) a q q2)
      case first =>
        have D0 : Below wo.heap.size wo wo.drew := (Below.refl _ _).drew
        have E0 : Below w.heap.size w wo.drew := HC3.out.below.drew
        obtain ⟨q0, q1, q2, q3, q4, q5, q6, q7, q8, q9, q10, ql⟩ := own11 HC3.out.bx
        go_region_law (first
          | (go_simp; go_at_call 116; (with_reducible refine (CT.out _ E0).mono ?_); rintro e u1 ⟨G1, m1, c1, rfl, hI1, hb⟩; have D1 := D0.trans (hb.mono D0.size); have E1 := E0.trans (hb.mono E0.size); have z1 := Nat.lt_of_lt_of_le hbl D1.size; have HI1 := Lib.hid hI1; obtain ⟨a0, a1, a2, a3, a4, a5, a6, a7, a8, a9, a10, al⟩ := own11 (heap_below D1 hbl HC3.out.bx); clear hb hI1; go_wp2_with fail)
          | (go_simp; go_at_call 116; (with_reducible refine (CU.out _ E1).mono ?_); rintro e u2 ⟨G2, m2, c2, rfl, hI2, hb⟩; have D2 := D1.trans (hb.mono D1.size); have E2 := E1.trans (hb.mono E1.size); have z2 := Nat.lt_of_lt_of_le hbl D2.size; have HI2 := Lib.hid hI2; have HB12 := Lib.hid hb; have SB := Lib.hid (heap_below D2 hbl HC3.out.bx); have SR := Lib.hid (heap_below D2 hrl HC3.out.rx); obtain ⟨b0, b1, b2, b3, b4, b5, b6, b7, b8, b9, b10, bl⟩ := own11 SB.out; have f0 := free11 SB.out 0; have f1 := free11 SB.out 1; have f2 := free11 SB.out 2; have f3 := free11 SB.out 3; have f4 := free11 SB.out 4; have f5 := free11 SB.out 5; have f6 := free11 SB.out 6; have f7 := free11 SB.out 7; have f8 := free11 SB.out 8; have f9 := free11 SB.out 9; have f10 := free11 SB.out 10; clear hb hI2; go_wp2_with fail))
        all_goals
          go_wp2_with fail
          go_meet
          exact ⟨_, BareRel.types SB.out SR.out E2 hg HC3.out.ne HI1.out (show B < wo.drew.heap.size from hbl) HB12.out HI2.out z1⟩
      case rest =>
        obtain ⟨q2, hq2⟩ := hcut
        have HQ := Lib.hid hq2
        have hbl := heap_lt hq2.rel.bx
        have hrl := heap_lt hq2.rel.rx
        have hne := hq2.rel.ne
        have CE := Lib.hid (fun (W : World) (hb : Below w.heap.size w W) => show Calls Tryz.prog 117 #[.slice q2.A q2.n q2.c, .func (Fn.func 71) #[] #[]] W (EachTm W kids) from by
          rw [HQ.out.A, HQ.out.n, HQ.out.c]
          exact tm_each_any 71 kids q.A q.n q.c W (HI.out W hb).lies (HI.out W hb).fit.n_eq (HI.out W hb).fit.n_le (HI.out W hb).fit.c_le (by omega) cf_bare
            (fun h1 kd p1 W' e1 e2 e3 e4 => IH.out h1 kd p1 W' (by omega) e2 e3 (HS.out _ (hb.trans (e4.mono hb.size)))))
        have HG := Lib.hid hg
        have HNE := Lib.hid hne
        obtain ⟨q0, q1, q2, q3, q4, q5, q6, q7, q8, q9, q10, ql⟩ := own11 hq2.rel.bx
        clear hq2 CT CU hcs hlp HC3 HC IH HS hne R0 R1
        go_wp2_with fail
        refine (CE.out _ HQ.out.rel.below).mono ?_
        rintro e u3 ⟨G, m, cg, rfl, hL, hm, hmc, hcg, hb⟩
        have E3 := HQ.out.rel.below.trans (hb.mono HQ.out.rel.below.size)
        have HL := Lib.hid hL
        have HMM := Lib.hid hm
        have HUB := Lib.hid hb
        have SB := Lib.hid (heap_below hb hbl HQ.out.rel.bx)
        have SR := Lib.hid (heap_below hb hrl HQ.out.rel.rx)
        have z1 := Nat.lt_of_lt_of_le hbl hb.size
        have z2 := Nat.lt_of_lt_of_le hrl hb.size
        clear hb hL hm q0 q1 q2 q3 q4 q5 q6 q7 q8 q9 q10 ql
        obtain ⟨b0, b1, b2, b3, b4, b5, b6, b7, b8, b9, b10, bl⟩ := own11 SB.out
        obtain ⟨y0, y1, y2, y3, y4, y5, y6, y7, y8, y9, y10, yl⟩ := own11 SR.out
        have fb := free11 SB.out 10
        have f0 := free11 SR.out 0; have f1 := free11 SR.out 1; have f2 := free11 SR.out 2; have f3 := free11 SR.out 3; have f4 := free11 SR.out 4; have f5 := free11 SR.out 5; have f6 := free11 SR.out 6; have f7 := free11 SR.out 7; have f8 := free11 SR.out 8; have f9 := free11 SR.out 9; have f10 := free11 SR.out 10
        have hRB : w.heap.size + 1 < B := by have := HNE.out; omega
        go_wp2_with fail
        have hf := (HI.out _ HQ.out.rel.below).fit
        refine bodyPost_ret (v := .agg #[.int .i8 a.kind, .string a.name, .string a.arg, .int .i64 a.num, .int .i8 a.tk, .slice q2.TA q2.tn q2.tc, .int .i8 a.uk, .slice q2.UA q2.un q2.uc, .int .i64 a.label, .int .i64 a.pos, .slice G m cg]) (by simp [results, Tryz.results71, go_sem, *]) rfl ⟨⟨q2.TA, q2.tn, q2.tc, q2.UA, q2.un, q2.uc, G, m, cg⟩, rfl, ⟨⟨?_, ?_, ?_, hmc, hcg, hf.klo, hf.khi, hf.llo, hf.lhi, hf.nm, hf.ar⟩, ?_⟩, ?_⟩
        · refine HQ.out.ty.kept (kept_mask fun b o x hP hx => ?_)
          have hP' : B < b := of_decide_eq_true hP
          exact ⟨by have := HG.out; simp; omega, by rw [bare_far (by omega) (by omega), HUB.out.cell (p := ⟨b, o, none⟩) (Ty.cell_lt hx)]; exact hx⟩
        · refine HQ.out.tu.kept (kept_mask fun b o x hP hx => ?_)
          have hP' : B < b := of_decide_eq_true hP
          exact ⟨by have := HG.out; simp; omega, by rw [bare_far (by omega) (by omega), HUB.out.cell (p := ⟨b, o, none⟩) (Ty.cell_lt hx)]; exact hx⟩
        · rw [Tm.len_bF]; exact HMM.out
        · refine Tm.Lies.kept (kept_mask fun b o x hP hx => ?_) _ _ _ HL.out
          have hP' := of_decide_eq_true hP
          exact ⟨by have := HG.out; simp; omega, by rw [bare_far (by omega) (by omega)]; exact hx⟩
        · exact below_only11 (E3.setCell (p := ⟨B, 10, none⟩) (Nat.le_of_lt HG.out) _) (by omega) _ _ _ _ _ _ _ _ _ _ _
theorem far11' {wr : World} {R b o : Nat} {v0 v1 v2 v3 v4 v5 v6 v7 v8 v9 v10 : Value} (h1 : b ≠ R) : (((((((((((wr.setCell ⟨R, 0, none⟩ v0).setCell ⟨R, 1, none⟩ v1).setCell ⟨R, 2, none⟩ v2).setCell ⟨R, 3, none⟩ v3).setCell ⟨R, 4, none⟩ v4).setCell ⟨R, 5, none⟩ v5).setCell ⟨R, 6, none⟩ v6).setCell ⟨R, 7, none⟩ v7).setCell ⟨R, 8, none⟩ v8).setCell ⟨R, 9, none⟩ v9).setCell ⟨R, 10, none⟩ v10).cell? ⟨b, o, none⟩ = wr.cell? ⟨b, o, none⟩ :=
  World.cell?_of_block (by rw [Below.heap_setCell _ _ _ b h1, Below.heap_setCell _ _ _ b h1, Below.heap_setCell _ _ _ b h1, Below.heap_setCell _ _ _ b h1, Below.heap_setCell _ _ _ b h1, Below.heap_setCell _ _ _ b h1, Below.heap_setCell _ _ _ b h1, Below.heap_setCell _ _ _ b h1, Below.heap_setCell _ _ _ b h1, Below.heap_setCell _ _ _ b h1, Below.heap_setCell _ _ _ b h1])
theorem far11 {wr : World} {R : Nat} (v0 v1 v2 v3 v4 v5 v6 v7 v8 v9 v10 : Value) (b o : Nat) (x : Value) (h1 : b ≠ R) (h2 : wr.cell? ⟨b, o, none⟩ = some x) : (((((((((((wr.setCell ⟨R, 0, none⟩ v0).setCell ⟨R, 1, none⟩ v1).setCell ⟨R, 2, none⟩ v2).setCell ⟨R, 3, none⟩ v3).setCell ⟨R, 4, none⟩ v4).setCell ⟨R, 5, none⟩ v5).setCell ⟨R, 6, none⟩ v6).setCell ⟨R, 7, none⟩ v7).setCell ⟨R, 8, none⟩ v8).setCell ⟨R, 9, none⟩ v9).setCell ⟨R, 10, none⟩ v10).cell? ⟨b, o, none⟩ = some x := by
  rw [far11' h1]; exact h2
def Tm.zero : Hd := ⟨0, ⟨#[]⟩, ⟨#[]⟩, 0, 0, .nil, 0, .nil, 0, 0⟩
/-- what Bare gives -/
def Tm.bH (h : Hd) (kids : Tm) : Hd := if Tm.chk h kids = 0 then Tm.cnt h else Tm.zero
def Tm.bK (h : Hd) (kids : Tm) : Tm := if Tm.chk h kids = 0 then Tm.bF kids else .nil
def BareP (w : World) (h : Hd) (kids : Tm) (e : Ending) (w' : World) : Prop :=
  ∃ p, e = .returned (.agg #[.int .i8 (Tm.bH h kids).kind, .string (Tm.bH h kids).name, .string (Tm.bH h kids).arg, .int .i64 (Tm.bH h kids).num, .int .i8 (Tm.bH h kids).tk, .slice p.TA p.tn p.tc, .int .i8 (Tm.bH h kids).uk, .slice p.UA p.un p.uc, .int .i64 (Tm.bH h kids).label, .int .i64 (Tm.bH h kids).pos, .slice p.A p.n p.c]) ∧ Tm.Is w' (Tm.bH h kids) (Tm.bK h kids) p ∧ Below w.heap.size w w'
theorem Tm.is_zero (w : World) : Tm.Is w Tm.zero .nil ⟨none, 0, 0, none, 0, 0, none, 0, 0⟩ := by
  have hz : ∀ w : World, Ty.Is w 0 .nil none 0 0 := fun w => ⟨trivial, rfl, Nat.le_refl _, Nat.zero_le _, by omega, by omega⟩
  exact ⟨⟨hz w, hz w, rfl, Nat.le_refl _, Nat.zero_le _, by decide, by decide, by decide, by decide, by decide, by decide⟩, trivial⟩
theorem Tm.small_of {h : Hd} {kids : Tm} (hc : Tm.chk h kids = 0) : Tm.tyN h + Tm.nodes kids ≤ 8192 := by
  have e : Tm.nd h kids = 1 + Tm.tyN h + Tm.nodes kids := rfl
  unfold Tm.chk at hc
  by_cases h1 : 8192 < Tm.nd h kids
  · rw [if_pos h1] at hc; omega
  · omega

set_option maxHeartbeats 4000000 in
set_option maxRecDepth 100000 in
theorem tbare_any (h : Hd) (kids : Tm) (p : Pl) (w : World) (hIs : Tm.Is w h kids p) (hG : TGlob w) :
    Calls Tryz.prog 37 #[.agg #[.int .i8 h.kind, .string h.name, .string h.arg, .int .i64 h.num, .int .i8 h.tk, .slice p.TA p.tn p.tc, .int .i8 h.uk, .slice p.UA p.un p.uc, .int .i64 h.label, .int .i64 h.pos, .slice p.A p.n p.c]] w (BareP w h kids) := by
  have hB0 : Below w.heap.size w ((w.alloc (.cells #[.int .i8 h.kind, .string h.name, .string h.arg, .int .i64 h.num, .int .i8 h.tk, .slice p.TA p.tn p.tc, .int .i8 h.uk, .slice p.UA p.un p.uc, .int .i64 h.label, .int .i64 h.pos, .slice p.A p.n p.c] 28)).alloc (.cells #[.int .i8 0, .string ⟨#[]⟩, .string ⟨#[]⟩, .int .i64 0, .int .i8 0, .slice none 0 0, .int .i8 0, .slice none 0 0, .int .i64 0, .int .i64 0, .slice none 0 0] 28)) := ((Below.refl _ _).alloc (Nat.le_refl _) _).alloc (by simp) _
  obtain ⟨r0, r1, r2⟩ := two_new w (.cells #[.int .i8 h.kind, .string h.name, .string h.arg, .int .i64 h.num, .int .i8 h.tk, .slice p.TA p.tn p.tc, .int .i8 h.uk, .slice p.UA p.un p.uc, .int .i64 h.label, .int .i64 h.pos, .slice p.A p.n p.c] 28) (.cells #[.int .i8 0, .string ⟨#[]⟩, .string ⟨#[]⟩, .int .i64 0, .int .i8 0, .slice none 0 0, .int .i8 0, .slice none 0 0, .int .i64 0, .int .i64 0, .slice none 0 0] 28)
  have HM := Lib.hid (fun (W : World) (hb : Below w.heap.size w W) => tcheck_any h kids p W (hIs.below hb) (hG.below hb))
  have HBR := Lib.hid (fun (W : World) (hb : Below w.heap.size w W) (hs : Tm.tyN h + Tm.nodes kids ≤ 8192) => bare_any (Tm.nodes kids + 1) h kids p W (by omega) hs (hIs.below hb) (hG.below hb).terms)
  have R0 := Lib.hid r0
  have R1 := Lib.hid r1
  clear hIs r0 r1 r2 hG
  unfold BareP Tm.bH Tm.bK
  by_cases hc : Tm.chk h kids = 0
  · have hsm := Tm.small_of hc
    have hne : (((Tm.chk h kids : Nat) : Int) != 0) = false := by rw [hc]; rfl
    simp only [if_pos hc]
    have HB2 := Lib.hid (fun (W : World) (hb : Below w.heap.size w W) => show Calls Tryz.prog 71 #[.agg #[.int .i8 h.kind, .string h.name, .string h.arg, .int .i64 h.num, .int .i8 h.tk, .slice p.TA p.tn p.tc, .int .i8 h.uk, .slice p.UA p.un p.uc, .int .i64 h.label, .int .i64 h.pos, .slice p.A p.n p.c]] W (fun e w' => ∃ p', e = .returned (.agg #[.int .i8 (Tm.cnt h).kind, .string (Tm.cnt h).name, .string (Tm.cnt h).arg, .int .i64 (Tm.cnt h).num, .int .i8 (Tm.cnt h).tk, .slice p'.TA p'.tn p'.tc, .int .i8 (Tm.cnt h).uk, .slice p'.UA p'.un p'.uc, .int .i64 (Tm.cnt h).label, .int .i64 (Tm.cnt h).pos, .slice p'.A p'.n p'.c]) ∧ Tm.Is (mask (fun b => decide (W.heap.size ≤ b)) w') (Tm.cnt h) (Tm.bF kids) p' ∧ Below W.heap.size W w') from HBR.out W hb hsm)
    generalize ((Tm.chk h kids : Nat) : Int) = x0 at *
    clear hc HBR hsm
    generalize Tm.cnt h = a at *
    generalize Tm.bF kids = bk at *
    go_enter Tryz.func37, Tryz.ntmps37
    go_wp2_with fail
    refine (HM.out _ hB0).mono ?_
    rintro e w3 ⟨rfl, hb⟩
    have hB1 := hB0.trans (hb.mono hB0.size)
    have S0 := Lib.hid (heap_below hb (heap_lt R0.out) R0.out)
    have S1 := Lib.hid (heap_below hb (heap_lt R1.out) R1.out)
    obtain ⟨q0, q1, q2, q3, q4, q5, q6, q7, q8, q9, q10, ql⟩ := own11 S0.out
    clear hb
    go_wp2_with fail
    refine (HB2.out _ hB1).mono ?_
    rintro e w4 ⟨p', rfl, hI, hb⟩
    have hB2 := hB1.trans (hb.mono hB1.size)
    have Q1 := Lib.hid (heap_below hb (heap_lt S1.out) S1.out)
    have hl1 := heap_lt S1.out
    have HI := Lib.hid hI
    obtain ⟨y0, y1, y2, y3, y4, y5, y6, y7, y8, y9, y10, yl⟩ := own11 Q1.out
    have f0 := free11 Q1.out 0
    have f1 := free11 Q1.out 1
    have f2 := free11 Q1.out 2
    have f3 := free11 Q1.out 3
    have f4 := free11 Q1.out 4
    have f5 := free11 Q1.out 5
    have f6 := free11 Q1.out 6
    have f7 := free11 Q1.out 7
    have f8 := free11 Q1.out 8
    have f9 := free11 Q1.out 9
    have f10 := free11 Q1.out 10
    clear hb hI q0 q1 q2 q3 q4 q5 q6 q7 q8 q9 q10 ql
    go_wp2_with fail
    refine bodyPost_ret (v := .agg #[.int .i8 a.kind, .string a.name, .string a.arg, .int .i64 a.num, .int .i8 a.tk, .slice p'.TA p'.tn p'.tc, .int .i8 a.uk, .slice p'.UA p'.un p'.uc, .int .i64 a.label, .int .i64 a.pos, .slice p'.A p'.n p'.c]) (by simp [results, Tryz.results37, go_sem, *]) rfl ⟨p', rfl, ?_, below_only11 hB2 (by omega) _ _ _ _ _ _ _ _ _ _ _⟩
    refine HI.out.kept fun b hb o x hx => ?_
    obtain ⟨hP, hx2⟩ := mask_at hx
    exact far11 _ _ _ _ _ _ _ _ _ _ _ b o x (by simp only [decide_eq_true_eq] at hP; omega) hx2
  · have hne : (((Tm.chk h kids : Nat) : Int) != 0) = true := by simp; omega
    simp only [if_neg hc]
    generalize ((Tm.chk h kids : Nat) : Int) = x0 at *
    clear hc HBR
    go_enter Tryz.func37, Tryz.ntmps37
    go_wp2_with fail
    refine (HM.out _ hB0).mono ?_
    rintro e w3 ⟨rfl, hb⟩
    have hB1 := hB0.trans (hb.mono hB0.size)
    have S1 := Lib.hid (heap_below hb (heap_lt R1.out) R1.out)
    obtain ⟨y0, y1, y2, y3, y4, y5, y6, y7, y8, y9, y10, yl⟩ := own11 S1.out
    have f0 := free11 S1.out 0
    have f1 := free11 S1.out 1
    have f2 := free11 S1.out 2
    have f3 := free11 S1.out 3
    have f4 := free11 S1.out 4
    have f5 := free11 S1.out 5
    have f6 := free11 S1.out 6
    have f7 := free11 S1.out 7
    have f8 := free11 S1.out 8
    have f9 := free11 S1.out 9
    have f10 := free11 S1.out 10
    clear hb
    go_wp2_with fail
    refine bodyPost_ret (v := .agg #[.int .i8 0, .string ⟨#[]⟩, .string ⟨#[]⟩, .int .i64 0, .int .i8 0, .slice none 0 0, .int .i8 0, .slice none 0 0, .int .i64 0, .int .i64 0, .slice none 0 0]) (by simp [results, Tryz.results37, go_sem, *]) rfl ⟨⟨none, 0, 0, none, 0, 0, none, 0, 0⟩, rfl, Tm.is_zero _, below_only11 hB1 (by omega) _ _ _ _ _ _ _ _ _ _ _⟩
def RowEl (w : World) (g : Nat) (h : Hd) (p : Pl) : Prop :=
  w.cell? ⟨g, 0, none⟩ = some (.int .i8 h.kind) ∧ w.cell? ⟨g, 1, none⟩ = some (.string h.name) ∧ w.cell? ⟨g, 2, none⟩ = some (.string h.arg) ∧ w.cell? ⟨g, 3, none⟩ = some (.int .i64 h.num) ∧ w.cell? ⟨g, 4, none⟩ = some (.int .i8 h.tk) ∧
  w.cell? ⟨g, 5, none⟩ = some (.slice p.TA p.tn p.tc) ∧ w.cell? ⟨g, 6, none⟩ = some (.int .i8 h.uk) ∧ w.cell? ⟨g, 7, none⟩ = some (.slice p.UA p.un p.uc) ∧ w.cell? ⟨g, 8, none⟩ = some (.int .i64 h.label) ∧ w.cell? ⟨g, 9, none⟩ = some (.int .i64 h.pos) ∧
  w.cell? ⟨g, 10, none⟩ = some (.slice p.A p.n p.c)
theorem RowEl.below {w w' : World} {g : Nat} {h : Hd} {p : Pl} (hr : RowEl w g h p) (hb : Below w.heap.size w w') : RowEl w' g h p := by
  have hl := Ty.cell_lt hr.1
  have hc := fun o => (bcell hb).1 g o hl
  unfold RowEl at *
  rw [hc, hc, hc, hc, hc, hc, hc, hc, hc, hc, hc]
  exact hr
theorem RowEl.of_heap {w : World} {g : Nat} {h : Hd} {p : Pl} (hh : w.heap[g]? = some (.cells #[.int .i8 h.kind, .string h.name, .string h.arg, .int .i64 h.num, .int .i8 h.tk, .slice p.TA p.tn p.tc, .int .i8 h.uk, .slice p.UA p.un p.uc, .int .i64 h.label, .int .i64 h.pos, .slice p.A p.n p.c] 28 (0, 0))) : RowEl w g h p := by
  obtain ⟨q0, q1, q2, q3, q4, q5, q6, q7, q8, q9, q10, _⟩ := own11 hh
  exact ⟨q0, q1, q2, q3, q4, q5, q6, q7, q8, q9, q10⟩
namespace Tm
/-- is the first head the second one, or that with less told, and no cast? -/
def leH (a b : Hd) : Bool := (a.kind == b.kind) && ((a.kind != 17) && ((a.name.toList == b.name.toList) && ((a.arg.toList == b.arg.toList) && ((a.num == b.num) && (Ty.leT a.tk a.tkids b.tk b.tkids && Ty.leT a.uk a.ukids b.uk b.ukids)))))
def leF : Tm → Tm → Bool
  | .nil, .nil => true
  | .nil, .node _ _ _ => false
  | .node _ _ _, .nil => false
  | .node h kids r, .node h' kids' r' => (leH h h' && leF kids kids') && leF r r'
def leT (h : Hd) (kids : Tm) (h' : Hd) (kids' : Tm) : Bool := leH h h' && leF kids kids'
theorem leF_len : ∀ f g : Tm, leF f g = true → len f = len g
  | .nil, .nil, _ => rfl
  | .nil, .node _ _ _, h => by simp [leF] at h
  | .node _ _ _, .nil, h => by simp [leF] at h
  | .node h kids r, .node h' kids' r', hh => by
    simp only [leF, Bool.and_eq_true] at hh
    simp only [len]; rw [leF_len r r' hh.2]
/-- the same, as the document has it: what counts alone is looked at -/
def reH (h h' : Hd) : Bool := (h.kind == h'.kind) && ((!hasName h.kind || (h.name.toList == h'.name.toList)) && ((!hasArg h.kind || (h.arg.toList == h'.arg.toList)) && ((!hasNum h.kind || (h.num == h'.num)) &&
    ((!hasType h.kind || Ty.leT h.tk h.tkids h'.tk h'.tkids) && (!hasTo h.kind || Ty.leT h.uk h.ukids h'.uk h'.ukids)))))
def reF : Tm → Tm → Bool
  | .nil, .nil => true
  | .nil, .node _ _ _ => false
  | .node _ _ _, .nil => false
  | .node h kids r, .node h' kids' r' => (reH h h' && reF kids kids') && reF r r'
def reT (h : Hd) (kids : Tm) (h' : Hd) (kids' : Tm) : Bool := reH h h' && reF kids kids'
/-- a cast somewhere? -/
def hcF : Tm → Bool
  | .nil => false
  | .node h kids r => ((h.kind == 17) || hcF kids) || hcF r
def hcT (h : Hd) (kids : Tm) : Bool := (h.kind == 17) || hcF kids
/-- all types are right ones -/
def tyF : Tm → Bool
  | .nil => true
  | .node h kids r => (Ty.okT h.tk h.tkids && Ty.okT h.uk h.ukids) && (tyF kids && tyF r)
def tyT (h : Hd) (kids : Tm) : Bool := (Ty.okT h.tk h.tkids && Ty.okT h.uk h.ukids) && tyF kids
theorem leH_cnt (h h' : Hd) : leH (cnt h) (cnt h') = ((!(h.kind == 17)) && ((!(h'.kind == 17)) && reH h h')) := by
  unfold leH reH cnt
  dsimp only
  by_cases hk : h.kind = h'.kind
  · rw [← hk]
    cases hz : (h.kind == 17)
    · have hz2 : (h.kind != 17) = true := by rw [bne, hz]; rfl
      have z : ∀ k f, Ty.leT 0 .nil k f = true := fun _ _ => rfl
      cases hasName h.kind <;> cases hasArg h.kind <;> cases hasNum h.kind <;> cases hasType h.kind <;> cases hasTo h.kind <;> simp [z, hz2]
    · have hz2 : (h.kind != 17) = false := by rw [bne, hz]; rfl
      simp [hz2]
  · rw [show (h.kind == h'.kind) = false by simpa using hk]
    simp
theorem leF_bF : ∀ f g : Tm, leF (bF f) (bF g) = ((!hcF f) && ((!hcF g) && reF f g))
  | .nil, .nil => rfl
  | .nil, .node _ _ _ => by simp [bF, leF, reF]
  | .node _ _ _, .nil => by simp [bF, leF, reF]
  | .node h kids r, .node h' kids' r' => by
    simp only [bF, leF, hcF, reF, Bool.not_or]
    rw [leH_cnt, leF_bF kids kids', leF_bF r r']
    ac_rfl
theorem leT_bare (h : Hd) (kids : Tm) (h' : Hd) (kids' : Tm) : leT (cnt h) (bF kids) (cnt h') (bF kids') = ((!hcT h kids) && ((!hcT h' kids') && reT h kids h' kids')) := by
  unfold leT hcT reT
  rw [leH_cnt, leF_bF, Bool.not_or, Bool.not_or]
  ac_rfl
theorem tyH_cnt {h : Hd} (ho : tysOk h = true) : (Ty.okT (cnt h).tk (cnt h).tkids && Ty.okT (cnt h).uk (cnt h).ukids) = true := by
  unfold tysOk at ho
  unfold cnt
  dsimp only
  have z : Ty.okT 0 .nil = true := rfl
  rw [Bool.and_eq_true] at ho ⊢
  refine ⟨?_, ?_⟩
  · cases hq : hasType h.kind
    · exact z
    · have := ho.1
      rw [hq] at this
      exact (Ty.chk_ok (by simpa using this)).1
  · cases hq : hasTo h.kind
    · exact z
    · have := ho.2
      rw [hq] at this
      exact (Ty.chk_ok (by simpa using this)).1
theorem headOk_tys {h : Hd} {n : Nat} (ho : headOk h n = true) : tysOk h = true := by
  unfold headOk at ho
  rw [Bool.and_eq_true] at ho
  exact ho.2
theorem tyF_bF : ∀ f : Tm, okF f = true → tyF (bF f) = true
  | .nil, _ => rfl
  | .node h kids r, ho => by
    simp only [okF, Bool.and_eq_true] at ho
    simp only [bF, tyF]
    rw [tyH_cnt (headOk_tys ho.1.1), tyF_bF kids ho.1.2, tyF_bF r ho.2]
    rfl
theorem chk_okT {h : Hd} {kids : Tm} (hc : chk h kids = 0) : okT h kids = true := by
  unfold chk at hc
  split at hc
  · cases hc
  · split at hc
    · cases hc
    · split at hc
      · assumption
      · cases hc
theorem tyT_bare {h : Hd} {kids : Tm} (hc : chk h kids = 0) : tyT (cnt h) (bF kids) = true := by
  have ho := chk_okT hc
  unfold okT at ho
  rw [Bool.and_eq_true] at ho
  unfold tyT
  rw [tyH_cnt (headOk_tys ho.1), tyF_bF kids ho.2]
  rfl
/-- a right term's types, those that count -/
theorem okF_node {h : Hd} {kids r : Tm} (ho : okF (.node h kids r) = true) : okT h kids = true ∧ okF r = true := by
  simp only [okF, Bool.and_eq_true] at ho
  unfold okT
  rw [Bool.and_eq_true]
  exact ⟨ho.1, ho.2⟩
end Tm

set_option maxHeartbeats 4000000 in
set_option maxRecDepth 100000 in
theorem lt_equal_any (f : FuncId) (kids kids2 : Tm) (A A2 : Option Addr) (n c n2 c2 : Nat) (w : World) (hL : Tm.Lies w kids A 0) (hn : n = Tm.len kids) (hnc : n ≤ c) (hc : c ≤ maxLen)
    (hL2 : Tm.Lies w kids2 A2 0) (hn2 : n2 = Tm.len kids2) (hnc2 : n2 ≤ c2) (hc2 : c2 ≤ maxLen)
    (hty : Tm.tyF kids = true) (hty2 : Tm.tyF kids2 = true) (hcf : ∀ (args : Array Value) (W : World), (callFunc f args).run Tryz.prog W = .ok (.enter f args) W)
    (hf : ∀ (h : Hd) (kd : Tm) (p : Pl) (h' : Hd) (kd' : Tm) (p' : Pl) (W : World), Tm.nodes kd < Tm.nodes kids → Tm.Is W h kd p → Tm.Is W h' kd' p' → Tm.tyT h kd = true → Tm.tyT h' kd' = true → Below w.heap.size w W →
      Calls Tryz.prog f #[.agg #[.int .i8 h.kind, .string h.name, .string h.arg, .int .i64 h.num, .int .i8 h.tk, .slice p.TA p.tn p.tc, .int .i8 h.uk, .slice p.UA p.un p.uc, .int .i64 h.label, .int .i64 h.pos, .slice p.A p.n p.c], .agg #[.int .i8 h'.kind, .string h'.name, .string h'.arg, .int .i64 h'.num, .int .i8 h'.tk, .slice p'.TA p'.tn p'.tc, .int .i8 h'.uk, .slice p'.UA p'.un p'.uc, .int .i64 h'.label, .int .i64 h'.pos, .slice p'.A p'.n p'.c]] W fun e w' => e = .returned (.bool (Tm.leT h kd h' kd')) ∧ Below W.heap.size W w') :
    Calls Tryz.prog 70 #[.slice A n c, .slice A2 n2 c2, .func (Fn.func f) #[] #[]] w fun e w' => e = .returned (.bool (Tm.leF kids kids2)) ∧ Below w.heap.size w w' := by
  have i5 : (n : Int) ≤ 9223372036854775807 := by unfold maxLen at hc; omega
  have i6 : (n2 : Int) ≤ 9223372036854775807 := by unfold maxLen at hc2; omega
  by_cases hnn : n = n2
  · have hst := OverT.start hL hn
    have hst2 := OverT.start hL2 hn2
    have HF := Lib.hid hf
    have HS := Lib.hid hst
    have HS2 := Lib.hid hst2
    have HTY := Lib.hid (And.intro hty hty2)
    clear hst hst2 hn hn2 hf hL hL2 hty hty2
    subst hnn
    obtain ⟨R, hR⟩ : ∃ R, Tm.leF kids kids2 = R := ⟨_, rfl⟩
    rw [hR]
    have HR := Lib.hid hR
    clear hR
    go_enter Tryz.func70, Tryz.ntmps70
    go_wp2_with fail
    go_loopw [17] (fun v wr => ∃ (i : Nat) (rest rest2 : Tm), v = .int .i64 i ∧ OverT w wr A n (Tm.nodes kids) i rest ∧ OverT w wr A2 n (Tm.nodes kids2) i rest2 ∧ Tm.leF rest rest2 = R ∧ Tm.tyF rest = true ∧ Tm.tyF rest2 = true) (fun v _ => n - (intOf v).toNat)
    case atStart => exact ⟨0, kids, kids2, rfl, HS.out, HS2.out, HR.out, HTY.out.1, HTY.out.2⟩
    case round =>
      obtain ⟨i, rest, rest2, rfl, hO, hO2, hR, ht1, ht2⟩ := hrel
      cases rest with
      | nil =>
        have hi : i = n := by have := hO.i_eq; simpa [Tm.len] using this
        have hB := hO.below
        cases rest2 with
        | node _ _ _ => have := hO2.i_eq; simp only [Tm.len] at this; omega
        | nil =>
        clear hO hO2 ht1 ht2
        simp only [Tm.leF] at hR
        subst hi
        subst hR
        go_wp2_with fail
        go_ret
        exact ⟨rfl, hB⟩
      | node h kd r =>
        cases rest2 with
        | nil => have h1 := hO2.i_eq; have h2 := hO.i_eq; simp only [Tm.len] at h1 h2; omega
        | node h' kd' r2 =>
        have hst := fun w2 hb => OverT.step (w2 := w2) hO hb
        have hst2 := fun w2 hb => OverT.step (w2 := w2) hO2 hb
        have h1 := hO.i_eq
        have h2 := hO.lies
        have h22 := hO2.lies
        have h3 := hO.sub
        have h4 := hO.below
        simp only [Tm.len, Tm.nodes, Tm.leF] at h1 h3 hR
        simp only [Tm.tyF, Bool.and_eq_true] at ht1 ht2
        have t1 : Tm.tyT h kd = true := by unfold Tm.tyT; simp only [Bool.and_eq_true]; exact ⟨ht1.1, ht1.2.1⟩
        have t2 : Tm.tyT h' kd' = true := by unfold Tm.tyT; simp only [Bool.and_eq_true]; exact ⟨ht2.1, ht2.2.1⟩
        have HT9 := Lib.hid (And.intro ht1.2.2 ht2.2.2)
        obtain ⟨bb, oo, p, rfl, hcs, hfit, hl3, hl4⟩ := h2
        obtain ⟨bb2, oo2, p', rfl, hcs2, hfit2, hl32, hl42⟩ := h22
        have hB2 : Below wr.heap.size wr ((wr.alloc (.cells #[.int .i8 h.kind, .string h.name, .string h.arg, .int .i64 h.num, .int .i8 h.tk, .slice p.TA p.tn p.tc, .int .i8 h.uk, .slice p.UA p.un p.uc, .int .i64 h.label, .int .i64 h.pos, .slice p.A p.n p.c] 28)).alloc (.cells #[.int .i8 h'.kind, .string h'.name, .string h'.arg, .int .i64 h'.num, .int .i8 h'.tk, .slice p'.TA p'.tn p'.tc, .int .i8 h'.uk, .slice p'.UA p'.un p'.uc, .int .i64 h'.label, .int .i64 h'.pos, .slice p'.A p'.n p'.c] 28)) := ((Below.refl _ _).alloc (Nat.le_refl _) _).alloc (by simp) _
        have hcall := HF.out h kd p h' kd' p' _ (by omega) (Tm.Is.below ⟨hfit, hl3⟩ hB2) (Tm.Is.below ⟨hfit2, hl32⟩ hB2) t1 t2 (h4.trans (hB2.mono h4.size))
        obtain ⟨c0, c1, c2, c3, c4, c5, c6, c7, c8, c9, c10⟩ := Tm.row hcs
        obtain ⟨d0, d1, d2, d3, d4, d5, d6, d7, d8, d9, d10⟩ := Tm.row hcs2
        have l1 := Ty.cell_lt c0
        have l2 := Ty.cell_lt d0
        have HST := Lib.hid hst
        have HST2 := Lib.hid hst2
        have HL := Lib.hid hl4
        have HL2 := Lib.hid hl42
        have HRR := Lib.hid hR
        have hal : Tm.leT h kd h' kd' = (Tm.leH h h' && Tm.leF kd kd') := rfl
        rw [← hal] at HRR
        have j1 : (i : Int) < n := by omega
        clear ht1 ht2 t1 t2 hst hst2 hl3 hl4 hl32 hl42 hO hO2 hR hcs hcs2 hfit hfit2 hal
        cases hp : Tm.leT h kd h' kd'
        · have hp0 : R = false := by rw [← HRR.out, hp]; rfl
          rw [hp] at hcall
          have HC := Lib.hid hcall
          clear hp hcall
          subst hp0
          go_wp2_with fail
          refine HC.out.mono ?_
          rintro e w2 ⟨rfl, hb⟩
          go_wp2_with fail
          go_ret
          exact ⟨rfl, h4.trans ((hB2.trans (hb.mono hB2.size)).mono h4.size)⟩
        · have hp0 := HRR.out
          rw [hp, Bool.true_and] at hp0
          have HP := Lib.hid hp0
          rw [hp] at hcall
          have HC := Lib.hid hcall
          clear hp hp0 hcall
          go_wp2_with fail
          refine HC.out.mono ?_
          rintro e w2 ⟨rfl, hb⟩
          have hbw := hB2.trans (hb.mono hB2.size)
          have hbb := Lib.hid (HST.out w2 hbw HL.out)
          have hbb2 := Lib.hid (HST2.out w2 hbw HL2.out)
          clear hb hbw
          go_wp2_with fail
          go_roundw
          case rel => exact ⟨i + 1, r, r2, by go_num, hbb.out, hbb2.out, HP.out, HT9.out.1, HT9.out.2⟩
          case measure => simp [intOf]; omega
  · have hne : ((n : Int) != (n2 : Int)) = true := by simp; omega
    have hres : Tm.leF kids kids2 = false := by
      cases hq : Tm.leF kids kids2
      · rfl
      · have := Tm.leF_len _ _ hq; omega
    rw [hres]
    clear hf hL hL2 hres hnn hn hn2 hty hty2
    go_enter Tryz.func70, Tryz.ntmps70
    go_wp2_with fail
    go_ret
    exact ⟨rfl, Below.refl _ _⟩
/-- what Terms tells -/
def Tm.tellT (h : Hd) (kids : Tm) (h' : Hd) (kids' : Tm) : Bool := (((Tm.chk h kids : Nat) : Int) == 0) && ((((Tm.chk h' kids' : Nat) : Int) == 0) && ((!Tm.hcT h kids) && ((!Tm.hcT h' kids') && Tm.reT h kids h' kids')))
end Go.Proofs.YtekjhcfjpedbkaaGreatDoor
