/-
  terms.bare. The reference's bare: what its loop goes by.
-/
import Derived.Test.YtccobmjakmjekaaGreatDoorCopyT
import Derived.Test.YtccobmjakmjekaaGreatDoorTmAlike
import Derived.Test.YtccobmjakmjekaaGreatDoorTmRight
namespace Go.Proofs.YtccobmjakmjekaaGreatDoor
open Go.RowKit

/-- the copy's block, the result's block -/
structure BareRel (w wx : World) (B R : Nat) (a : Hd) (q : Pl) : Prop where
  bx : wx.heap[B]? = some (.cells #[.int .i8 a.kind, .string a.name, .string a.arg, .int .i64 a.num, .int .i8 a.tk, .slice q.TA q.tn q.tc, .int .i8 a.uk, .slice q.UA q.un q.uc, .int .i64 a.label, .int .i64 a.pos, .slice q.A q.n q.c] 28 (0, 0))
  rx : wx.heap[R]? = some (.cells #[.int .i8 0, .string ⟨#[]⟩, .string ⟨#[]⟩, .int .i64 0, .int .i8 0, .slice none 0 0, .int .i8 0, .slice none 0 0, .int .i64 0, .int .i64 0, .slice none 0 0] 28 (0, 0))
  below : Below w.heap.size w wx
  gt : w.heap.size < B
  ne : R ≠ B
/-- behind the types -/
structure BareRel2 (w wx : World) (B R : Nat) (a : Hd) (q q2 : Pl) : Prop where
  rel : BareRel w wx B R a q2
  ty : Ty.Is (mask (fun b => decide (B < b)) wx) a.tk a.tkids q2.TA q2.tn q2.tc
  tu : Ty.Is (mask (fun b => decide (B < b)) wx) a.uk a.ukids q2.UA q2.un q2.uc
  A : q2.A = q.A
  n : q2.n = q.n
  c : q2.c = q.c

theorem BareRel.names {w u : World} {B R : Nat} {a : Hd} {q : Pl} (hB : u.heap[B]? = some (.cells #[.int .i8 a.kind, .string a.name, .string a.arg, .int .i64 a.num, .int .i8 a.tk, .slice q.TA q.tn q.tc, .int .i8 a.uk, .slice q.UA q.un q.uc, .int .i64 a.label, .int .i64 a.pos, .slice q.A q.n q.c] 28 (0, 0))) (hR : u.heap[R]? = some (.cells #[.int .i8 0, .string ⟨#[]⟩, .string ⟨#[]⟩, .int .i64 0, .int .i8 0, .slice none 0 0, .int .i8 0, .slice none 0 0, .int .i64 0, .int .i64 0, .slice none 0 0] 28 (0, 0))) (hb : Below w.heap.size w u) (hg : w.heap.size < B) (hne : R ≠ B) :
    BareRel w ((u.setCell ⟨B, 1, none⟩ (.string a.name)).setCell ⟨B, 2, none⟩ (.string a.arg)) B R a q := by
  refine ⟨?_, ?_, (hb.setCell (p := ⟨B, 1, none⟩) (Nat.le_of_lt hg) _).setCell (p := ⟨B, 2, none⟩) (Nat.le_of_lt hg) _, hg, hne⟩
  · simp [World.setCell, Array.getElem?_modify, hB]
  · rw [Below.heap_setCell _ _ _ R hne, Below.heap_setCell _ _ _ R hne]; exact hR
theorem BareRel.types {w u v : World} {B R : Nat} {a : Hd} {q : Pl} {G1 G2 : Option Addr} {m1 c1 m2 c2 n1 n2 : Nat} (hB : v.heap[B]? = some (.cells #[.int .i8 a.kind, .string a.name, .string a.arg, .int .i64 a.num, .int .i8 a.tk, .slice q.TA q.tn q.tc, .int .i8 a.uk, .slice q.UA q.un q.uc, .int .i64 a.label, .int .i64 a.pos, .slice q.A q.n q.c] 28 (0, 0))) (hR : v.heap[R]? = some (.cells #[.int .i8 0, .string ⟨#[]⟩, .string ⟨#[]⟩, .int .i64 0, .int .i8 0, .slice none 0 0, .int .i8 0, .slice none 0 0, .int .i64 0, .int .i64 0, .slice none 0 0] 28 (0, 0))) (hb : Below w.heap.size w v) (hg : w.heap.size < B) (hne : R ≠ B)
    (h1 : Ty.Is (mask (fun b => decide (n1 ≤ b)) u) a.tk a.tkids G1 m1 c1) (hn1 : B < n1) (huv : Below u.heap.size u v) (h2 : Ty.Is (mask (fun b => decide (n2 ≤ b)) v) a.uk a.ukids G2 m2 c2) (hn2 : B < n2) :
    BareRel2 w ((((v.setCell ⟨B, 4, none⟩ (.int .i8 a.tk)).setCell ⟨B, 5, none⟩ (.slice G1 m1 c1)).setCell ⟨B, 6, none⟩ (.int .i8 a.uk)).setCell ⟨B, 7, none⟩ (.slice G2 m2 c2)) B R a q ⟨G1, m1, c1, G2, m2, c2, q.A, q.n, q.c⟩ := by
  have hoth : ∀ (b o : Nat) (x : Value), b ≠ B → v.cell? ⟨b, o, none⟩ = some x → ((((v.setCell ⟨B, 4, none⟩ (.int .i8 a.tk)).setCell ⟨B, 5, none⟩ (.slice G1 m1 c1)).setCell ⟨B, 6, none⟩ (.int .i8 a.uk)).setCell ⟨B, 7, none⟩ (.slice G2 m2 c2)).cell? ⟨b, o, none⟩ = some x := by
    intro b o x hbB hx
    rw [World.cell?_setCell_other _ _ _ _ (fun e => hbB (by injection e with e; exact e.symm)), World.cell?_setCell_other _ _ _ _ (fun e => hbB (by injection e with e; exact e.symm)), World.cell?_setCell_other _ _ _ _ (fun e => hbB (by injection e with e; exact e.symm)), World.cell?_setCell_other _ _ _ _ (fun e => hbB (by injection e with e; exact e.symm))]
    exact hx
  refine ⟨⟨?_, ?_, (((hb.setCell (p := ⟨B, 4, none⟩) (Nat.le_of_lt hg) _).setCell (p := ⟨B, 5, none⟩) (Nat.le_of_lt hg) _).setCell (p := ⟨B, 6, none⟩) (Nat.le_of_lt hg) _).setCell (p := ⟨B, 7, none⟩) (Nat.le_of_lt hg) _, hg, hne⟩, ?_, ?_, rfl, rfl, rfl⟩
  · simp [World.setCell, Array.getElem?_modify, hB]
  · rw [Below.heap_setCell _ _ _ R hne, Below.heap_setCell _ _ _ R hne, Below.heap_setCell _ _ _ R hne, Below.heap_setCell _ _ _ R hne]; exact hR
  · refine h1.kept (kept_mask fun b o x hP hx => ?_)
    have hP' : n1 ≤ b := by simpa using hP
    exact ⟨by simp; omega, hoth b o x (by omega) (by rw [huv.cell (p := ⟨b, o, none⟩) (Ty.cell_lt hx)]; exact hx)⟩
  · refine h2.kept (kept_mask fun b o x hP hx => ?_)
    have hP' : n2 ≤ b := by simpa using hP
    exact ⟨by simp; omega, hoth b o x (by omega) hx⟩

theorem Tm.cnt_small {h : Hd} (hs : Tm.tyN h ≤ 8192) : Ty.nodes (Tm.cnt h).tkids ≤ 8192 ∧ Ty.nodes (Tm.cnt h).ukids ≤ 8192 := by
  unfold Tm.tyN at hs
  unfold Tm.cnt
  dsimp only
  constructor
  · cases ht : Tm.hasType h.kind
    · simp [Ty.nodes]
    · rw [ht] at hs; simp only [if_true] at hs ⊢
      have : Ty.nod h.tkids = min (Ty.nodes h.tkids + 1) 8193 := rfl
      omega
  · cases ht : Tm.hasTo h.kind
    · simp [Ty.nodes]
    · rw [ht] at hs; simp only [if_true] at hs ⊢
      have : Ty.nod h.ukids = min (Ty.nodes h.ukids + 1) 8193 := rfl
      omega

theorem bare_far {u3 : World} {B R b o : Nat} {x v0 v1 v2 v3 v4 v5 v6 v7 v8 v9 v10 : Value} (h1 : b ≠ B) (h2 : b ≠ R) : ((((((((((((u3.setCell ⟨B, 10, none⟩ x).setCell ⟨R, 0, none⟩ v0).setCell ⟨R, 1, none⟩ v1).setCell ⟨R, 2, none⟩ v2).setCell ⟨R, 3, none⟩ v3).setCell ⟨R, 4, none⟩ v4).setCell ⟨R, 5, none⟩ v5).setCell ⟨R, 6, none⟩ v6).setCell ⟨R, 7, none⟩ v7).setCell ⟨R, 8, none⟩ v8).setCell ⟨R, 9, none⟩ v9).setCell ⟨R, 10, none⟩ v10).cell? ⟨b, o, none⟩ = u3.cell? ⟨b, o, none⟩ :=
  World.cell?_of_block (by rw [Below.heap_setCell _ _ _ b h2, Below.heap_setCell _ _ _ b h2, Below.heap_setCell _ _ _ b h2, Below.heap_setCell _ _ _ b h2, Below.heap_setCell _ _ _ b h2, Below.heap_setCell _ _ _ b h2, Below.heap_setCell _ _ _ b h2, Below.heap_setCell _ _ _ b h2, Below.heap_setCell _ _ _ b h2, Below.heap_setCell _ _ _ b h2, Below.heap_setCell _ _ _ b h2, Below.heap_setCell _ _ _ b h1])

theorem cf_bare (args : Array Value) (W : World) : (callFunc 37 args).run Tryz.prog W = .ok (.enter 37 args) W := by simp [go_sem]

attribute [local go_sem ↓] Go.wp_at_zero Go.wp_at_succ
set_option maxHeartbeats 8000000 in
set_option maxRecDepth 100000 in
theorem bare_any (K : Nat) : ∀ (h : Hd) (kids : Tm) (p : Pl) (w : World), Tm.nodes kids < K → Tm.tyN h + Tm.nodes kids ≤ 8192 → Tm.Is w h kids p → TShapes w →
    Calls Tryz.prog 37 #[.agg #[.int .i8 h.kind, .string h.name, .string h.arg, .int .i64 h.num, .int .i8 h.tk, .slice p.TA p.tn p.tc, .int .i8 h.uk, .slice p.UA p.un p.uc, .int .i64 h.label, .int .i64 h.pos, .slice p.A p.n p.c]] w (CopyTm (fun b => decide (w.heap.size ≤ b)) w h kids) := by
  induction K with
  | zero => intro _ _ _ _ hK; omega
  | succ K ih =>
    intro h kids p w hK hsm hIs hS
    have hB0 : Below w.heap.size w ((w.alloc (.cells #[.int .i8 h.kind, .string h.name, .string h.arg, .int .i64 h.num, .int .i8 h.tk, .slice p.TA p.tn p.tc, .int .i8 h.uk, .slice p.UA p.un p.uc, .int .i64 h.label, .int .i64 h.pos, .slice p.A p.n p.c] 28)).alloc (.cells #[.int .i8 0, .string ⟨#[]⟩, .string ⟨#[]⟩, .int .i64 0, .int .i8 0, .slice none 0 0, .int .i8 0, .slice none 0 0, .int .i64 0, .int .i64 0, .slice none 0 0] 28)) := ((Below.refl _ _).alloc (Nat.le_refl _) _).alloc (by simp) _
    obtain ⟨r0, r1, r2⟩ := two_new w (.cells #[.int .i8 h.kind, .string h.name, .string h.arg, .int .i64 h.num, .int .i8 h.tk, .slice p.TA p.tn p.tc, .int .i8 h.uk, .slice p.UA p.un p.uc, .int .i64 h.label, .int .i64 h.pos, .slice p.A p.n p.c] 28) (.cells #[.int .i8 0, .string ⟨#[]⟩, .string ⟨#[]⟩, .int .i64 0, .int .i8 0, .slice none 0 0, .int .i8 0, .slice none 0 0, .int .i64 0, .int .i64 0, .slice none 0 0] 28)
    have HC := Lib.hid (fun (W : World) (hb : Below w.heap.size w W) => show Calls Tryz.prog 58 #[.agg #[.int .i8 h.kind, .string h.name, .string h.arg, .int .i64 h.num, .int .i8 h.tk, .slice p.TA p.tn p.tc, .int .i8 h.uk, .slice p.UA p.un p.uc, .int .i64 h.label, .int .i64 h.pos, .slice p.A p.n p.c]] W (fun e w' => e = .returned (.agg #[.int .i8 (Tm.cnt h).kind, .string (Tm.cnt h).name, .string (Tm.cnt h).arg, .int .i64 (Tm.cnt h).num, .int .i8 (Tm.cnt h).tk, .slice (Tm.cntP h p).TA (Tm.cntP h p).tn (Tm.cntP h p).tc, .int .i8 (Tm.cnt h).uk, .slice (Tm.cntP h p).UA (Tm.cntP h p).un (Tm.cntP h p).uc, .int .i64 (Tm.cnt h).label, .int .i64 (Tm.cnt h).pos, .slice (Tm.cntP h p).A (Tm.cntP h p).n (Tm.cntP h p).c]) ∧ Below W.heap.size W w') from counting_any h _ p W (hIs.below hb).fit (hS.below hb))
    have HI := Lib.hid (fun (W : World) (hb : Below w.heap.size w W) => (hIs.below hb).cnt)
    have HS := Lib.hid (fun (W : World) (hb : Below w.heap.size w W) => hS.below hb)
    have hcs := Tm.cnt_small (h := h) (by omega)
    have R0 := Lib.hid r0
    have R1 := Lib.hid r1
    have IH := Lib.hid ih
    obtain ⟨q0, q1, q2, q3, q4, q5, q6, q7, q8, q9, q10, ql⟩ := own11 r0
    clear hIs hS r0 r1 ih r2
    unfold CopyTm
    generalize Tm.cnt h = a at *
    generalize Tm.cntP h p = q at *
    go_enter Tryz.func37, Tryz.ntmps37
    go_wp2_with fail
    refine (HC.out _ hB0).mono ?_
    rintro e u1 ⟨rfl, hb⟩
    have hB1 := hB0.trans (hb.mono hB0.size)
    have hR := heap_below hb (heap_lt R1.out) R1.out
    have zR : w.heap.size + 1 < u1.heap.size := heap_lt hR
    clear hb q0 q1 q2 q3 q4 q5 q6 q7 q8 q9 q10 ql
    go_wp2_with fail
    have hW2 : BareRel w (u1.alloc (.cells #[.int .i8 a.kind, .string a.name, .string a.arg, .int .i64 a.num, .int .i8 a.tk, .slice q.TA q.tn q.tc, .int .i8 a.uk, .slice q.UA q.un q.uc, .int .i64 a.label, .int .i64 a.pos, .slice q.A q.n q.c] 28)) u1.heap.size (w.heap.size + 1) a q := ⟨heap_new u1 _, heap_old hR _, hB1.alloc hB1.size _, by omega, by omega⟩
    generalize u1.alloc (.cells #[.int .i8 a.kind, .string a.name, .string a.arg, .int .i64 a.num, .int .i8 a.tk, .slice q.TA q.tn q.tc, .int .i8 a.uk, .slice q.UA q.un q.uc, .int .i64 a.label, .int .i64 a.pos, .slice q.A q.n q.c] 28) = w2 at *
    generalize u1.heap.size = B at *
    have HW2 := Lib.hid hW2
    have hbl := heap_lt hW2.bx
    have hrl := heap_lt hW2.rx
    have hg := hW2.gt
    clear hW2 hR hB0 hB1 zR
    have CN := Lib.hid (fun (W : World) (hb : Below w.heap.size w W) => clone_any a.name (HI.out W hb).fit.nm W)
    have CM := Lib.hid (fun (W : World) (hb : Below w.heap.size w W) => clone_any a.arg (HI.out W hb).fit.ar W)
    go_cut [8] (fun _ wx => BareRel w wx B (w.heap.size + 1) a q)
    case first =>
      have D0 : Below w2.heap.size w2 w2.drew := (Below.refl _ _).drew
      have E0 : Below w.heap.size w w2.drew := HW2.out.below.drew
      obtain ⟨q0, q1, q2, q3, q4, q5, q6, q7, q8, q9, q10, ql⟩ := own11 HW2.out.bx
      go_region_law (first
        | (go_simp; go_at_call 62; (with_reducible refine (CN.out _ E0).mono ?_); rintro e u1 ⟨rfl, hb⟩; have D1 := D0.trans (hb.mono D0.size); have E1 := E0.trans (hb.mono E0.size); have z1 := Nat.lt_of_lt_of_le hbl D1.size; obtain ⟨a0, a1, a2, a3, a4, a5, a6, a7, a8, a9, a10, al⟩ := own11 (heap_below D1 hbl HW2.out.bx); clear hb; go_wp2_with fail)
        | (go_simp; go_at_call 62; (with_reducible refine (CM.out _ E1).mono ?_); rintro e u2 ⟨rfl, hb⟩; have D2 := D1.trans (hb.mono D1.size); have E2 := E1.trans (hb.mono E1.size); have z2 := Nat.lt_of_lt_of_le hbl D2.size; have SB := Lib.hid (heap_below D2 hbl HW2.out.bx); have SR := Lib.hid (heap_below D2 hrl HW2.out.rx); obtain ⟨b0, b1, b2, b3, b4, b5, b6, b7, b8, b9, b10, bl⟩ := own11 SB.out; have f0 := free11 SB.out 0; have f1 := free11 SB.out 1; have f2 := free11 SB.out 2; have f3 := free11 SB.out 3; have f4 := free11 SB.out 4; have f5 := free11 SB.out 5; have f6 := free11 SB.out 6; have f7 := free11 SB.out 7; have f8 := free11 SB.out 8; have f9 := free11 SB.out 9; have f10 := free11 SB.out 10; clear hb; go_wp2_with fail))
      all_goals
        go_wp2_with fail
        go_meet
        exact BareRel.names SB.out SR.out E2 hg HW2.out.ne
    case rest =>
      clear hbl hrl HW2 CN CM
      have HC3 := Lib.hid hcut
      have hbl := heap_lt hcut.bx
      have hrl := heap_lt hcut.rx
      clear hcut
      go_wp2_with fail
      have CT := Lib.hid (fun (W : World) (hb : Below w.heap.size w W) => copied_any (Ty.nodes a.tkids + 1) a.tk a.tkids q.TA q.tn q.tc W (by omega) (HI.out W hb).fit.ty hcs.1)
      have CU := Lib.hid (fun (W : World) (hb : Below w.heap.size w W) => copied_any (Ty.nodes a.ukids + 1) a.uk a.ukids q.UA q.un q.uc W (by omega) (HI.out W hb).fit.to hcs.2)
      have hlp := (HI.out _ HC3.out.below).fit
      obtain ⟨wo, rfl⟩ : ∃ wo : World, wo = wc := ⟨_, rfl⟩
      go_cut [16] (fun _ wx => ∃ q2, BareRel2 w wx B (w.heap.size + 1) a q q2)
      case first =>
        have D0 : Below wo.heap.size wo wo.drew := (Below.refl _ _).drew
        have E0 : Below w.heap.size w wo.drew := HC3.out.below.drew
        obtain ⟨q0, q1, q2, q3, q4, q5, q6, q7, q8, q9, q10, ql⟩ := own11 HC3.out.bx
        go_region_law (first
          | (go_simp; go_at_call 71; (with_reducible refine (CT.out _ E0).mono ?_); rintro e u1 ⟨G1, m1, c1, rfl, hI1, hb⟩; have D1 := D0.trans (hb.mono D0.size); have E1 := E0.trans (hb.mono E0.size); have z1 := Nat.lt_of_lt_of_le hbl D1.size; have HI1 := Lib.hid hI1; obtain ⟨a0, a1, a2, a3, a4, a5, a6, a7, a8, a9, a10, al⟩ := own11 (heap_below D1 hbl HC3.out.bx); clear hb hI1; go_wp2_with fail)
          | (go_simp; go_at_call 71; (with_reducible refine (CU.out _ E1).mono ?_); rintro e u2 ⟨G2, m2, c2, rfl, hI2, hb⟩; have D2 := D1.trans (hb.mono D1.size); have E2 := E1.trans (hb.mono E1.size); have z2 := Nat.lt_of_lt_of_le hbl D2.size; have HI2 := Lib.hid hI2; have HB12 := Lib.hid hb; have SB := Lib.hid (heap_below D2 hbl HC3.out.bx); have SR := Lib.hid (heap_below D2 hrl HC3.out.rx); obtain ⟨b0, b1, b2, b3, b4, b5, b6, b7, b8, b9, b10, bl⟩ := own11 SB.out; have f0 := free11 SB.out 0; have f1 := free11 SB.out 1; have f2 := free11 SB.out 2; have f3 := free11 SB.out 3; have f4 := free11 SB.out 4; have f5 := free11 SB.out 5; have f6 := free11 SB.out 6; have f7 := free11 SB.out 7; have f8 := free11 SB.out 8; have f9 := free11 SB.out 9; have f10 := free11 SB.out 10; clear hb hI2; go_wp2_with fail))
        all_goals
          go_wp2_with fail
          go_meet
          exact ⟨_, BareRel.types SB.out SR.out E2 hg HC3.out.ne HI1.out (show B < wo.drew.heap.size from hbl) HB12.out HI2.out z1⟩
      case rest =>
        obtain ⟨q2, hq2⟩ := hcut
        have HQ := Lib.hid hq2
        have hbl := heap_lt hq2.rel.bx
        have hrl := heap_lt hq2.rel.rx
        have hne := hq2.rel.ne
        have CE := Lib.hid (fun (W : World) (hb : Below w.heap.size w W) => show Calls Tryz.prog 72 #[.slice q2.A q2.n q2.c, .func (Fn.func 37) #[] #[]] W (EachTm W kids) from by
          rw [HQ.out.A, HQ.out.n, HQ.out.c]
          exact tm_each_any 37 kids q.A q.n q.c W (HI.out W hb).lies (HI.out W hb).fit.n_eq (HI.out W hb).fit.n_le (HI.out W hb).fit.c_le (by omega) cf_bare
            (fun h1 kd p1 W' e1 e2 e3 e4 => IH.out h1 kd p1 W' (by omega) e2 e3 (HS.out _ (hb.trans (e4.mono hb.size)))))
        have HG := Lib.hid hg
        have HNE := Lib.hid hne
        obtain ⟨q0, q1, q2, q3, q4, q5, q6, q7, q8, q9, q10, ql⟩ := own11 hq2.rel.bx
        clear hq2 CT CU hcs hlp HC3 HC IH HS hne R0 R1
        go_wp2_with fail
        refine (CE.out _ HQ.out.rel.below).mono ?_
        rintro e u3 ⟨G, m, cg, rfl, hL, hm, hmc, hcg, hb⟩
        have E3 := HQ.out.rel.below.trans (hb.mono HQ.out.rel.below.size)
        have HL := Lib.hid hL
        have HMM := Lib.hid hm
        have HUB := Lib.hid hb
        have SB := Lib.hid (heap_below hb hbl HQ.out.rel.bx)
        have SR := Lib.hid (heap_below hb hrl HQ.out.rel.rx)
        have z1 := Nat.lt_of_lt_of_le hbl hb.size
        have z2 := Nat.lt_of_lt_of_le hrl hb.size
        clear hb hL hm q0 q1 q2 q3 q4 q5 q6 q7 q8 q9 q10 ql
        obtain ⟨b0, b1, b2, b3, b4, b5, b6, b7, b8, b9, b10, bl⟩ := own11 SB.out
        obtain ⟨y0, y1, y2, y3, y4, y5, y6, y7, y8, y9, y10, yl⟩ := own11 SR.out
        have fb := free11 SB.out 10
        have f0 := free11 SR.out 0; have f1 := free11 SR.out 1; have f2 := free11 SR.out 2; have f3 := free11 SR.out 3; have f4 := free11 SR.out 4; have f5 := free11 SR.out 5; have f6 := free11 SR.out 6; have f7 := free11 SR.out 7; have f8 := free11 SR.out 8; have f9 := free11 SR.out 9; have f10 := free11 SR.out 10
        have hRB : w.heap.size + 1 < B := by have := HNE.out; omega
        go_wp2_with fail
        have hf := (HI.out _ HQ.out.rel.below).fit
        refine bodyPost_ret (v := .agg #[.int .i8 a.kind, .string a.name, .string a.arg, .int .i64 a.num, .int .i8 a.tk, .slice q2.TA q2.tn q2.tc, .int .i8 a.uk, .slice q2.UA q2.un q2.uc, .int .i64 a.label, .int .i64 a.pos, .slice G m cg]) (by simp [results, Tryz.results37, go_sem, *]) rfl ⟨⟨q2.TA, q2.tn, q2.tc, q2.UA, q2.un, q2.uc, G, m, cg⟩, rfl, ⟨⟨?_, ?_, ?_, hmc, hcg, hf.klo, hf.khi, hf.llo, hf.lhi, hf.nm, hf.ar⟩, ?_⟩, ?_⟩
        · refine HQ.out.ty.kept (kept_mask fun b o x hP hx => ?_)
          have hP' : B < b := of_decide_eq_true hP
          exact ⟨by have := HG.out; simp; omega, by rw [bare_far (by omega) (by omega), HUB.out.cell (p := ⟨b, o, none⟩) (Ty.cell_lt hx)]; exact hx⟩
        · refine HQ.out.tu.kept (kept_mask fun b o x hP hx => ?_)
          have hP' : B < b := of_decide_eq_true hP
          exact ⟨by have := HG.out; simp; omega, by rw [bare_far (by omega) (by omega), HUB.out.cell (p := ⟨b, o, none⟩) (Ty.cell_lt hx)]; exact hx⟩
        · rw [Tm.len_bF]; exact HMM.out
        · refine Tm.Lies.kept (kept_mask fun b o x hP hx => ?_) _ _ _ HL.out
          have hP' := of_decide_eq_true hP
          exact ⟨by have := HG.out; simp; omega, by rw [bare_far (by omega) (by omega)]; exact hx⟩
        · exact below_only11 (E3.setCell (p := ⟨B, 10, none⟩) (Nat.le_of_lt HG.out) _) (by omega) _ _ _ _ _ _ _ _ _ _ _
end Go.Proofs.YtccobmjakmjekaaGreatDoor
namespace Go.Proofs.YtccobmjakmjekaaGreatDoor
open Go.RowKit

/-- where a reference's copy may lie -/
def rmask (n0 B : Nat) (v : Value) : Nat → Bool := fun b => decide (b < n0) || (decide (B < b) && decide (v.ownBlock ≠ some b))
/-- a round's state -/
structure RB (n0 : Nat) (w wr : World) (h : Hd) (kids : Tm) (p : Pl) (a : Hd) (q q' : Pl) (i : Nat) (done rest : Tm) (xs : List Value) : Prop where
  eq : Tm.app done (Tm.bF rest) = Tm.bF kids
  len : Tm.len done = i
  i_eq : i + Tm.len rest = p.n
  lies : Tm.Lies (mask (fun b => decide (b < n0)) w) rest p.A i
  below : Below w.heap.size w wr
  xx : wr.heap[w.heap.size]? = some (.cells #[.int .i8 h.kind, .string h.name, .string h.arg, .int .i64 h.num, .int .i8 h.tk, .slice p.TA p.tn p.tc, .int .i8 h.uk, .slice p.UA p.un p.uc, .int .i64 h.label, .int .i64 h.pos, .slice p.A p.n p.c] 28 (0, 0))
  rx : wr.heap[w.heap.size + 1]? = some (.cells #[.int .i8 0, .string ⟨#[]⟩, .string ⟨#[]⟩, .int .i64 0, .int .i8 0, .slice none 0 0, .int .i8 0, .slice none 0 0, .int .i64 0, .int .i64 0, .slice none 0 0] 28 (0, 0))
  bx : wr.heap[w.heap.size + 2]? = some (.cells #[.int .i8 a.kind, .string a.name, .string a.arg, .int .i64 a.num, .int .i8 a.tk, .slice q'.TA q'.tn q'.tc, .int .i8 a.uk, .slice q'.UA q'.un q'.uc, .int .i64 a.label, .int .i64 a.pos, .slice q'.A q'.n q'.c] 28 (0, 0))
  tys : q'.TA = q.TA ∧ q'.tn = q.tn ∧ q'.tc = q.tc ∧ q'.UA = q.UA ∧ q'.un = q.un ∧ q'.uc = q.uc
  own : wr.ownsRow (w.heap.size + 3) 28 11 (.slice q'.A q'.n q'.c) i xs
  flat : Tm.Flat (mask (rmask n0 (w.heap.size + 2) (.slice q'.A q'.n q'.c)) wr) done xs
  n0_le : n0 ≤ w.heap.size
  sub : Tm.nodes rest ≤ Tm.nodes kids

theorem RB.step {n0 n1 : Nat} {w wr u w3 : World} {h h1 a : Hd} {kids kd r done : Tm} {p q q' p' : Pl} {i g cap : Nat} {xs : List Value} {o2 : Obj} (e : RB n0 w wr h kids p a q q' i done (.node h1 kd r) xs)
    (hb : Below wr.heap.size wr u) (hn1 : n1 = wr.heap.size) (hI : Tm.Is (mask (fun b => decide (b < n0) || decide (n1 ≤ b)) u) (Tm.cnt h1) (Tm.bF kd) p')
    (hown : w3.ownsRow (w.heap.size + 3) 28 11 (.slice (some ⟨g, 0, none⟩) (i + 1) cap) (i + 1) (xs ++ (Tm.cnt h1).cells p')) (hg : (u.alloc o2).grownBy w3 (Value.slice q'.A q'.n q'.c).ownBlock)
    (hat : (Value.slice q'.A q'.n q'.c).ownBlock = some g ∨ g = u.heap.size + 1) (hl : Tm.Lies (mask (fun b => decide (b < n0)) w) r p.A (i + 1)) :
    RB n0 w (w3.setCell ⟨w.heap.size + 2, 10, none⟩ (.slice (some ⟨g, 0, none⟩) (i + 1) cap)) h kids p a q ⟨q'.TA, q'.tn, q'.tc, q'.UA, q'.un, q'.uc, some ⟨g, 0, none⟩, i + 1, cap⟩ (i + 1) (Tm.app done (.node (Tm.cnt h1) (Tm.bF kd) .nil)) r (xs ++ (Tm.cnt h1).cells p') := by
  subst hn1
  obtain ⟨k1, k2, k3, k4, k5, k6, k7, k8, k9, k10, k11, k12, k13⟩ := e
  simp only [Tm.len, Tm.nodes, Tm.bF] at k1 k3 k13
  have hlt := k10.lt
  generalize hv : Value.slice q'.A q'.n q'.c = v at *
  have hwu : Below wr.heap.size wr (u.alloc o2) := hb.alloc hb.size o2
  have hs2 := hb.size
  have hs3 : (u.alloc o2).heap.size = u.heap.size + 1 := by simp
  have lx := heap_lt k6
  have lr := heap_lt k7
  have lb := heap_lt k8
  have hgl : w.heap.size + 3 ≤ g := by
    rcases hat with q | q
    · exact (hlt g q).1
    · omega
  have hkeep : ∀ (b : Nat) (x : Obj), b < w.heap.size + 3 → b ≠ w.heap.size + 2 → wr.heap[b]? = some x → (w3.setCell ⟨w.heap.size + 2, 10, none⟩ (.slice (some ⟨g, 0, none⟩) (i + 1) cap)).heap[b]? = some x := by
    intro b x h1 h2 h3
    rw [Below.heap_setCell _ _ _ b h2, hg.block b (by have := heap_lt h3; omega) (fun e => by have := (hlt b e.symm).1; omega)]
    exact heap_below hwu (heap_lt h3) h3
  have hcell : ∀ (b o : Nat) (x : Value), b ≠ w.heap.size + 2 → some b ≠ v.ownBlock → u.cell? ⟨b, o, none⟩ = some x → (w3.setCell ⟨w.heap.size + 2, 10, none⟩ (.slice (some ⟨g, 0, none⟩) (i + 1) cap)).cell? ⟨b, o, none⟩ = some x := by
    intro b o x h1 h2 h3
    rw [World.cell?_setCell_other _ _ _ _ (fun e => h1 (by injection e with e; exact e.symm)), World.cell?_of_block (hg.block b (by have := Ty.cell_lt h3; omega) h2), ((Below.refl u.heap.size u).alloc (Nat.le_refl _) o2).cell (p := ⟨b, o, none⟩) (Ty.cell_lt h3)]
    exact h3
  refine ⟨by rw [Tm.app_snoc]; exact k1, by rw [Tm.len_snoc]; omega, by omega, hl, ?_, hkeep _ _ (by omega) (by omega) k6, hkeep _ _ (by omega) (by omega) k7, ?_, k9, ?_, ?_, k12, by omega⟩
  · exact ((k5.trans (hwu.mono k5.size)).grown hg (Nat.le_trans k5.size hwu.size) fun q hq => by have := (hlt q hq).1; omega).setCell (p := ⟨w.heap.size + 2, 10, none⟩) (by simp) _
  · have hB3 := heap_below hwu lb k8
    have hB4 : w3.heap[w.heap.size + 2]? = (u.alloc o2).heap[w.heap.size + 2]? := hg.block _ (by omega) (fun e => by have := (hlt _ e.symm).1; omega)
    rw [← hB4] at hB3
    simp [World.setCell, Array.getElem?_modify, hB3]
  · exact hown.kept (only_setCell (g := w.heap.size + 2) (only_refl w3 _) (.inl rfl) _) (.inr (by simp [Value.ownBlock]; omega))
  · refine Tm.Flat.snoc (hI.kept (kept_mask fun b' o' x hP hx => ?_)) done xs (k11.kept (kept_mask fun b' o' x hP hx => ?_))
    · have hbl := Ty.cell_lt hx
      simp only [Bool.or_eq_true, decide_eq_true_eq] at hP
      have hne : some b' ≠ v.ownBlock := fun e => by have := hlt b' e.symm; omega
      refine ⟨?_, hcell b' o' x (by omega) hne hx⟩
      unfold rmask
      simp only [Bool.or_eq_true, Bool.and_eq_true, decide_eq_true_eq]
      rcases hP with q | q
      · exact .inl q
      · refine .inr ⟨by omega, fun e => ?_⟩
        simp only [Value.ownBlock, Option.some.injEq] at e
        rcases hat with z | z
        · exact hne (by rw [z, e])
        · omega
    · have hbl := Ty.cell_lt hx
      unfold rmask at hP
      simp only [Bool.or_eq_true, Bool.and_eq_true, decide_eq_true_eq] at hP
      have hne : some b' ≠ v.ownBlock := fun e => by
        rcases hP with q | q
        · have := hlt b' e.symm; omega
        · exact q.2 e.symm
      refine ⟨?_, hcell b' o' x (by omega) hne (by rw [hb.cell (p := ⟨b', o', none⟩) hbl]; exact hx)⟩
      unfold rmask
      simp only [Bool.or_eq_true, Bool.and_eq_true, decide_eq_true_eq]
      rcases hP with q | q
      · exact .inl q
      · refine .inr ⟨q.1, fun e => ?_⟩
        simp only [Value.ownBlock, Option.some.injEq] at e
        rcases hat with z | z
        · exact hne (by rw [z, e])
        · omega


theorem rbare_bx {w u w3 : World} {o2 : Obj} {cs : Array Value} {v : Value} (hB : u.heap[w.heap.size + 2]? = some (.cells cs 28 (0, 0))) (hl : w.heap.size + 2 < u.heap.size) {N : Nat} (hlt : ∀ k, v.ownBlock = some k → w.heap.size + 3 ≤ k ∧ k < N) (hg : (u.alloc o2).grownBy w3 v.ownBlock) :
    w3.heap[w.heap.size + 2]? = some (.cells cs 28 (0, 0)) := by
  rw [hg.block _ (by simp; omega) (fun e => by have := (hlt _ e.symm).1; omega)]
  exact heap_old hB o2
theorem rbare_end {n0 : Nat} {w wr : World} {h a : Hd} {kids : Tm} {p q q' : Pl} {i n : Nat} {done : Tm} {xs : List Value} (hF : Tm.Fit (mask (fun b => decide (b < n0)) w) a q n) (hne : i = Tm.len kids) (e : RB n0 w wr h kids p a q q' i done .nil xs) {W9 : World} (hcell : ∀ (b o : Nat) (x : Value), b ≠ w.heap.size + 1 → wr.cell? ⟨b, o, none⟩ = some x → W9.cell? ⟨b, o, none⟩ = some x) (hbel : Below w.heap.size w W9) :
    ∃ p2, Ending.returned (.agg #[.int .i8 a.kind, .string a.name, .string a.arg, .int .i64 a.num, .int .i8 a.tk, .slice q'.TA q'.tn q'.tc, .int .i8 a.uk, .slice q'.UA q'.un q'.uc, .int .i64 a.label, .int .i64 a.pos, .slice q'.A q'.n q'.c]) = Ending.returned (.agg #[.int .i8 a.kind, .string a.name, .string a.arg, .int .i64 a.num, .int .i8 a.tk, .slice p2.TA p2.tn p2.tc, .int .i8 a.uk, .slice p2.UA p2.un p2.uc, .int .i64 a.label, .int .i64 a.pos, .slice p2.A p2.n p2.c]) ∧ Tm.Is (mask (fun b => decide (b < n0) || decide (w.heap.size ≤ b)) W9) a (Tm.bF kids) p2 ∧ Below w.heap.size w W9 := by
  obtain ⟨k1, k2, k3, k4, k5, k6, k7, k8, ⟨t1, t2, t3, t4, t5, t6⟩, k10, k11, k12, k13⟩ := e
  simp only [Tm.bF] at k1
  rw [Tm.app_nil] at k1
  have hold : Tm.Kept (mask (fun b => decide (b < n0)) w) (mask (fun b => decide (b < n0) || decide (w.heap.size ≤ b)) W9) := kept_mask fun b o x hP hx => by
    have hP' : b < n0 := of_decide_eq_true hP
    exact ⟨by simp [hP'], hcell b o x (by omega) (by rw [k5.cell (p := ⟨b, o, none⟩) (Ty.cell_lt hx)]; exact hx)⟩
  have hqn : q'.n = i ∧ q'.n ≤ q'.c ∧ q'.c ≤ maxLen := by
    rcases k10.2 with ⟨e, e2⟩ | ⟨g, cap, cur, e, _, _, e3, e4, _⟩
    · injection e with _ e3 e4; exact ⟨by omega, by omega, by rw [e4]; exact Nat.zero_le _⟩
    · injection e with _ e5 e6; exact ⟨e5, by omega, by omega⟩
  refine ⟨q', rfl, ⟨⟨?_, ?_, ?_, hqn.2.1, hqn.2.2, hF.klo, hF.khi, hF.llo, hF.lhi, hF.nm, hF.ar⟩, ?_⟩, hbel⟩
  · rw [t1, t2, t3]; exact hF.ty.kept hold
  · rw [t4, t5, t6]; exact hF.to.kept hold
  · rw [Tm.len_bF, hqn.1]; exact hne
  · rw [← k1]
    rcases k10.2 with ⟨e, e2⟩ | ⟨g, cap, cur, e, hb0, _⟩
    · have hk0 : done = .nil := by
        cases done with
        | nil => rfl
        | node _ _ _ => simp only [Tm.len] at k2; omega
      rw [hk0]; trivial
    · have hA : q'.A = some ⟨g, 0, none⟩ := by injection e
      rw [hA]
      refine Tm.Flat.lies done xs 0 (k11.kept (kept_mask fun b o x hP hx => ?_)) fun j u hu => ?_
      · unfold rmask at hP
        simp only [Bool.or_eq_true, Bool.and_eq_true, decide_eq_true_eq] at hP
        exact ⟨by simp only [Bool.or_eq_true, decide_eq_true_eq]; omega, hcell b o x (by omega) hx⟩
      · have := k10.cells (g := g) (by rw [e]; rfl) j u hu
        rw [show (⟨g, 0, none⟩ : Addr).add j = ⟨g, j, none⟩ by unfold Addr.add; by_cases h : j = 0 <;> simp [h]] at this
        rw [show 0 * 11 + j = j by omega]
        exact mask_of (by simp only [Bool.or_eq_true, decide_eq_true_eq]; omega) (hcell g j u (by omega) this)

theorem far11' {wr : World} {R b o : Nat} {v0 v1 v2 v3 v4 v5 v6 v7 v8 v9 v10 : Value} (h1 : b ≠ R) : (((((((((((wr.setCell ⟨R, 0, none⟩ v0).setCell ⟨R, 1, none⟩ v1).setCell ⟨R, 2, none⟩ v2).setCell ⟨R, 3, none⟩ v3).setCell ⟨R, 4, none⟩ v4).setCell ⟨R, 5, none⟩ v5).setCell ⟨R, 6, none⟩ v6).setCell ⟨R, 7, none⟩ v7).setCell ⟨R, 8, none⟩ v8).setCell ⟨R, 9, none⟩ v9).setCell ⟨R, 10, none⟩ v10).cell? ⟨b, o, none⟩ = wr.cell? ⟨b, o, none⟩ :=
  World.cell?_of_block (by rw [Below.heap_setCell _ _ _ b h1, Below.heap_setCell _ _ _ b h1, Below.heap_setCell _ _ _ b h1, Below.heap_setCell _ _ _ b h1, Below.heap_setCell _ _ _ b h1, Below.heap_setCell _ _ _ b h1, Below.heap_setCell _ _ _ b h1, Below.heap_setCell _ _ _ b h1, Below.heap_setCell _ _ _ b h1, Below.heap_setCell _ _ _ b h1, Below.heap_setCell _ _ _ b h1])
theorem far11 {wr : World} {R : Nat} (v0 v1 v2 v3 v4 v5 v6 v7 v8 v9 v10 : Value) (b o : Nat) (x : Value) (h1 : b ≠ R) (h2 : wr.cell? ⟨b, o, none⟩ = some x) : (((((((((((wr.setCell ⟨R, 0, none⟩ v0).setCell ⟨R, 1, none⟩ v1).setCell ⟨R, 2, none⟩ v2).setCell ⟨R, 3, none⟩ v3).setCell ⟨R, 4, none⟩ v4).setCell ⟨R, 5, none⟩ v5).setCell ⟨R, 6, none⟩ v6).setCell ⟨R, 7, none⟩ v7).setCell ⟨R, 8, none⟩ v8).setCell ⟨R, 9, none⟩ v9).setCell ⟨R, 10, none⟩ v10).cell? ⟨b, o, none⟩ = some x := by
  rw [far11' h1]; exact h2
end Go.Proofs.YtccobmjakmjekaaGreatDoor
