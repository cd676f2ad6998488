/-
  Layer 14: Safe.
-/
import Derived.Test.YtfkbdpehdabepaaGreatDoorCa3
import Derived.Test.YtfkbdpehdabepaaGreatDoorCa6
import Derived.Test.YtfkbdpehdabepaaGreatDoorM16
namespace Go.Proofs.YtfkbdpehdabepaaGreatDoor
open Go.RowKit
namespace Ca
/-- the state behind Safe's own function -/
def IS (w : World) (n : Int) (gl gp gn : Nat) (vs : List Hd) (M : Nat → Prop) (W : World) : Prop :=
  W.heap[gl]? = some (.cells #[.int .i64 n] 3 (0, 0)) ∧ W.heap[gp]? = some (.cells #[.bool (sP n vs)] 4 (0, 0)) ∧ W.heap[gn]? = some (.cells #[.bool (sN n vs)] 4 (0, 0)) ∧ (∀ b, M b ↔ (b = gp ∨ b = gn)) ∧ Below w.heap.size w W ∧ w.heap.size ≤ gp ∧ w.heap.size ≤ gn ∧ gl ≠ gp ∧ gl ≠ gn ∧ gp ≠ gn
theorem IS.use {gl gp gn : Nat} {n : Int} {w : World} : Use 53 w (IS w n gl gp gn) :=
  ⟨fun args W => by simp [go_sem], fun vs M W h b o v hv => by rw [h.2.2.2.2.1.cell (p := ⟨b, o, none⟩) (Ty.cell_lt hv)]; exact hv,
   fun vs M W h b hb => by
     rcases (h.2.2.2.1 b).mp hb with rfl | rfl
     · exact heap_lt h.2.1
     · exact heap_lt h.2.2.1,
   fun vs M W W' h hb => by
     obtain ⟨e1, e2, e3, e4, e5, e6, e7, e8, e9, e10⟩ := h
     exact ⟨heap_below hb (heap_lt e1) e1, heap_below hb (heap_lt e2) e2, heap_below hb (heap_lt e3) e3, e4, e5.trans (hb.mono (by have := heap_lt e2; omega)), e6, e7, e8, e9, e10⟩⟩
theorem sP_snoc (n : Int) (l : List Hd) (h : Hd) : sP n (l ++ [h]) = (sP n l && sp n h) := by unfold sP; rw [List.all_append]; simp
theorem sN_snoc (n : Int) (l : List Hd) (h : Hd) : sN n (l ++ [h]) = (sN n l && sn n h) := by unfold sN; rw [List.all_append]; simp
/-- the boxes of Safe's own function, a term's box beside them -/
structure SBx (w : World) (X gl gp gn : Nat) (h : Hd) (p : Pl) (n : Int) (b1 b2 : Bool) (W : World) : Prop where
  x : W.heap[X]? = some (.cells #[.int .i8 h.kind, .string h.name, .string h.arg, .int .i64 h.num, .int .i8 h.tk, .slice p.TA p.tn p.tc, .int .i8 h.uk, .slice p.UA p.un p.uc, .int .i64 h.label, .int .i64 h.pos, .slice p.A p.n p.c] 28 (0, 0))
  l : W.heap[gl]? = some (.cells #[.int .i64 n] 3 (0, 0))
  p : W.heap[gp]? = some (.cells #[.bool b1] 4 (0, 0))
  n : W.heap[gn]? = some (.cells #[.bool b2] 4 (0, 0))
  b : Below w.heap.size w W
  n1 : X ≠ gp
  n2 : X ≠ gn
  n3 : gl ≠ gp
  n4 : gl ≠ gn
  n5 : gp ≠ gn
  g1 : w.heap.size ≤ gp
  g2 : w.heap.size ≤ gn
theorem SBx.below {w W W' : World} {X gl gp gn : Nat} {h : Hd} {p : Pl} {n : Int} {b1 b2 : Bool} (e : SBx w X gl gp gn h p n b1 b2 W) (hb : Below W.heap.size W W') : SBx w X gl gp gn h p n b1 b2 W' :=
  ⟨heap_below hb (heap_lt e.x) e.x, heap_below hb (heap_lt e.l) e.l, heap_below hb (heap_lt e.p) e.p, heap_below hb (heap_lt e.n) e.n, e.b.trans (hb.mono e.b.size), e.n1, e.n2, e.n3, e.n4, e.n5, e.g1, e.g2⟩
theorem SBx.setp {w W : World} {X gl gp gn : Nat} {h : Hd} {p : Pl} {n : Int} {b1 b2 : Bool} (e : SBx w X gl gp gn h p n b1 b2 W) (v : Bool) : SBx w X gl gp gn h p n v b2 (W.setCell ⟨gp, 0, none⟩ (.bool v)) :=
  ⟨by rw [Below.heap_setCell _ _ _ _ e.n1]; exact e.x, by rw [Below.heap_setCell _ _ _ _ e.n3]; exact e.l, set_one e.p _, by rw [Below.heap_setCell _ _ _ _ e.n5.symm]; exact e.n, e.b.setCell e.g1 _, e.n1, e.n2, e.n3, e.n4, e.n5, e.g1, e.g2⟩
theorem SBx.setn {w W : World} {X gl gp gn : Nat} {h : Hd} {p : Pl} {n : Int} {b1 b2 : Bool} (e : SBx w X gl gp gn h p n b1 b2 W) (v : Bool) : SBx w X gl gp gn h p n b1 v (W.setCell ⟨gn, 0, none⟩ (.bool v)) :=
  ⟨by rw [Below.heap_setCell _ _ _ _ e.n2]; exact e.x, by rw [Below.heap_setCell _ _ _ _ e.n4]; exact e.l, by rw [Below.heap_setCell _ _ _ _ e.n5]; exact e.p, set_one e.n _, e.b.setCell e.g2 _, e.n1, e.n2, e.n3, e.n4, e.n5, e.g1, e.g2⟩
/-- from one world to a later one: the two boxes alone may have turned -/
def Tw (gp gn : Nat) (W W' : World) : Prop := W.heap.size ≤ W'.heap.size ∧ ∀ b, b < W.heap.size → b ≠ gp → b ≠ gn → W'.heap[b]? = W.heap[b]?
theorem Tw.of_below {gp gn : Nat} {W W' : World} (h : Below W.heap.size W W') : Tw gp gn W W' := ⟨h.size, fun b hb _ _ => h.block b hb⟩
theorem Tw.trans {gp gn : Nat} {a b c : World} (h : Tw gp gn a b) (k : Tw gp gn b c) : Tw gp gn a c := ⟨Nat.le_trans h.1 k.1, fun x hx h1 h2 => (k.2 x (Nat.lt_of_lt_of_le hx h.1) h1 h2).trans (h.2 x hx h1 h2)⟩
theorem Tw.setp {gp gn : Nat} {W : World} (v : Value) : Tw gp gn W (W.setCell ⟨gp, 0, none⟩ v) := ⟨by simp [World.setCell], fun b _ h1 _ => Below.heap_setCell _ _ _ b h1⟩
theorem Tw.setn {gp gn : Nat} {W : World} (v : Value) : Tw gp gn W (W.setCell ⟨gn, 0, none⟩ v) := ⟨by simp [World.setCell], fun b _ _ h2 => Below.heap_setCell _ _ _ b h2⟩
theorem SBx.fin {w W U : World} {X gl gp gn : Nat} {h : Hd} {p : Pl} {n : Int} {b1 b2 : Bool} {vs : List Hd} {M : Nat → Prop} (e : SBx w X gl gp gn h p n b1 b2 U) (ht : Tw gp gn W U) (hM : ∀ b, M b ↔ (b = gp ∨ b = gn)) (h1 : b1 = sP n (vs ++ [h])) (h2 : b2 = sN n (vs ++ [h])) :
    ∃ M', IS w n gl gp gn (vs ++ [h]) M' U ∧ Go M M' W U := by
  subst h1 h2
  exact ⟨M, ⟨e.l, e.p, e.n, hM, e.b, e.g1, e.g2, e.n3, e.n4, e.n5⟩, ⟨fun b q1 q2 => ht.2 b q1 (fun q => q2 ((hM b).mpr (.inl q))) (fun q => q2 ((hM b).mpr (.inr q))), fun b q => .inl q, ht.1⟩⟩
end Ca
set_option maxHeartbeats 4000000 in
set_option maxRecDepth 100000 in
theorem safe_use (N gl gp gn : Nat) (n : Int) (w : World) (h : Hd) (k : Tm) (p : Pl) (hIs : Tm.Is w h k p) (hS : Shapes w) (hn : -9223372036854775808 < n ∧ n ≤ 9223372036854775807) :
    Ca.UseAt N 53 #[.pointer (some ⟨gl, 0, none⟩), .pointer (some ⟨gp, 0, none⟩), .pointer (some ⟨gn, 0, none⟩)] (Ca.IS w n gl gp gn) h p := by
  intro vs M W _ hI
  rw [show (#[.agg #[.int .i8 h.kind, .string h.name, .string h.arg, .int .i64 h.num, .int .i8 h.tk, .slice p.TA p.tn p.tc, .int .i8 h.uk, .slice p.UA p.un p.uc, .int .i64 h.label, .int .i64 h.pos, .slice p.A p.n p.c]] ++ #[.pointer (some ⟨gl, 0, none⟩), .pointer (some ⟨gp, 0, none⟩), .pointer (some ⟨gn, 0, none⟩)] : Array Value) = #[.agg #[.int .i8 h.kind, .string h.name, .string h.arg, .int .i64 h.num, .int .i8 h.tk, .slice p.TA p.tn p.tc, .int .i8 h.uk, .slice p.UA p.un p.uc, .int .i64 h.label, .int .i64 h.pos, .slice p.A p.n p.c], .pointer (some ⟨gl, 0, none⟩), .pointer (some ⟨gp, 0, none⟩), .pointer (some ⟨gn, 0, none⟩)] from rfl]
  have hB1 : Below W.heap.size W (W.alloc (.cells #[.int .i8 h.kind, .string h.name, .string h.arg, .int .i64 h.num, .int .i8 h.tk, .slice p.TA p.tn p.tc, .int .i8 h.uk, .slice p.UA p.un p.uc, .int .i64 h.label, .int .i64 h.pos, .slice p.A p.n p.c] 28)) := (Below.refl _ _).alloc (Nat.le_refl _) _
  have h0 := heap_new W (.cells #[.int .i8 h.kind, .string h.name, .string h.arg, .int .i64 h.num, .int .i8 h.tk, .slice p.TA p.tn p.tc, .int .i8 h.uk, .slice p.UA p.un p.uc, .int .i64 h.label, .int .i64 h.pos, .slice p.A p.n p.c] 28)
  have hI1 := Ca.IS.use.new _ _ _ _ hI hB1
  obtain ⟨w1, hw1⟩ : ∃ w1, w1 = W.alloc (.cells #[.int .i8 h.kind, .string h.name, .string h.arg, .int .i64 h.num, .int .i8 h.tk, .slice p.TA p.tn p.tc, .int .i8 h.uk, .slice p.UA p.un p.uc, .int .i64 h.label, .int .i64 h.pos, .slice p.A p.n p.c] 28) := ⟨_, rfl⟩
  rw [← hw1] at hB1 h0 hI1
  have CP := Lib.hid (fun (U : World) (hb : Below w.heap.size w U) => bpos_any h.tk h.tkids p.TA p.tn p.tc h.uk h.ukids p.UA p.un p.uc U (hIs.fit.ty.below hb) (hIs.fit.to.below hb) (hS.below hb))
  have CN := Lib.hid (fun (U : World) (hb : Below w.heap.size w U) => bneg_any h.tk h.tkids p.TA p.tn p.tc h.uk h.ukids p.UA p.un p.uc U (hIs.fit.ty.below hb) (hIs.fit.to.below hb) (hS.below hb))
  obtain ⟨e1, e2, e3, e4, e5, e6, e7, e8, e9, e10⟩ := hI
  have hS1 : Ca.SBx w W.heap.size gl gp gn h p n (Ca.sP n vs) (Ca.sN n vs) w1 := ⟨h0, hI1.1, hI1.2.1, hI1.2.2.1, hI1.2.2.2.2.1, by have := heap_lt e2; omega, by have := heap_lt e3; omega, e8, e9, e10, e6, e7⟩
  have HFIN := Lib.hid (fun (U : World) (b1 b2 : Bool) (hx : Ca.SBx w W.heap.size gl gp gn h p n b1 b2 U) (ht : Ca.Tw gp gn w1 U) (h1 : b1 = (Ca.sP n vs && Ca.sp n h)) (h2 : b2 = (Ca.sN n vs && Ca.sn n h)) => hx.fin (vs := vs) ((Ca.Tw.of_below hB1).trans ht) e4 (h1.trans (Ca.sP_snoc n vs h).symm) (h2.trans (Ca.sN_snoc n vs h).symm))
  have HW := Lib.hid hw1
  have HS1 := Lib.hid hS1
  obtain ⟨y0, y1, y2⟩ := own1 hS1.l
  obtain ⟨p0, p1, p2⟩ := own1 hS1.p
  obtain ⟨n0, n1, n2⟩ := own1 hS1.n
  obtain ⟨q0, q1, q2, q3, q4, q5, q6, q7, q8, q9, q10, ql⟩ := own11 hS1.x
  clear hIs hS hB1 h0 hI1 e1 e2 e3 e4 e5 e6 e7 e8 e9 e10 hw1 hS1
  generalize Ca.sP n vs = b1 at *
  generalize Ca.sN n vs = b2 at *
  by_cases e1 : h.label = n
  · have hsp : Ca.sp n h = Ty.belowT 1 h.tk h.tkids h.uk h.ukids := by unfold Ca.sp; rw [if_pos e1]
    have hsn : Ca.sn n h = Ty.belowT 2 h.tk h.tkids h.uk h.ukids := by unfold Ca.sn; rw [if_pos e1]
    have hk1 : (h.label == n) = true := by simp [e1]
    rw [hsp, hsn] at HFIN
    generalize Ty.belowT 1 h.tk h.tkids h.uk h.ukids = BCP at *
    generalize Ty.belowT 2 h.tk h.tkids h.uk h.ukids = BCN at *
    clear hsp hsn e1
    cases b1
    · cases b2
      · have HT0 := Lib.hid (show Ca.Tw gp gn w1 w1 from ⟨Nat.le_refl _, fun _ _ _ _ => rfl⟩)
        go_enter Tryz.func53, Tryz.ntmps53
        go_upto_region 1 with fail
        rw [← HW.out]
        clear HW
        have HSb := Lib.hid (HS1.out.setp false)
        have HTb := Lib.hid (HT0.out.trans (Ca.Tw.setp (.bool false)))
        go_upto_region 4 with fail
        clear y0 y1 y2 p0 p1 p2 n0 n1 n2 q0 q1 q2 q3 q4 q5 q6 q7 q8 q9 q10 ql
        generalize w1.setCell ⟨gp, 0, none⟩ (.bool false) = w3 at *
        obtain ⟨y0, y1, y2⟩ := own1 HSb.out.l
        obtain ⟨p0, p1, p2⟩ := own1 HSb.out.p
        obtain ⟨n0, n1, n2⟩ := own1 HSb.out.n
        obtain ⟨q0, q1, q2, q3, q4, q5, q6, q7, q8, q9, q10, ql⟩ := own11 HSb.out.x
        have HSd := Lib.hid (HSb.out.setn false)
        have HTd := Lib.hid (HTb.out.trans (Ca.Tw.setn (.bool false)))
        go_wp2_with fail
        (first | go_end0 | (go_at_K; go_wp2_with fail; first | go_end0 | (go_at_K; go_wp2_with fail; go_end0)))
        exact ⟨rfl, HFIN.out _ _ _ HSd.out HTd.out (by simp) (by simp)⟩
      · have HT0 := Lib.hid (show Ca.Tw gp gn w1 w1 from ⟨Nat.le_refl _, fun _ _ _ _ => rfl⟩)
        go_enter Tryz.func53, Tryz.ntmps53
        go_upto_region 1 with fail
        rw [← HW.out]
        clear HW
        have HSb := Lib.hid (HS1.out.setp false)
        have HTb := Lib.hid (HT0.out.trans (Ca.Tw.setp (.bool false)))
        go_upto_region 4 with fail
        clear y0 y1 y2 p0 p1 p2 n0 n1 n2 q0 q1 q2 q3 q4 q5 q6 q7 q8 q9 q10 ql
        generalize w1.setCell ⟨gp, 0, none⟩ (.bool false) = w3 at *
        obtain ⟨y0, y1, y2⟩ := own1 HSb.out.l
        obtain ⟨p0, p1, p2⟩ := own1 HSb.out.p
        obtain ⟨n0, n1, n2⟩ := own1 HSb.out.n
        obtain ⟨q0, q1, q2, q3, q4, q5, q6, q7, q8, q9, q10, ql⟩ := own11 HSb.out.x
        go_wp2_with fail
        refine (CN.out _ HSb.out.b).mono ?_
        rintro e u2 ⟨rfl, hb⟩
        have HSc := Lib.hid (HSb.out.below hb)
        have HTc := Lib.hid (HTb.out.trans (Ca.Tw.of_below hb))
        clear y0 y1 y2 p0 p1 p2 n0 n1 n2 q0 q1 q2 q3 q4 q5 q6 q7 q8 q9 q10 ql hb
        obtain ⟨y0, y1, y2⟩ := own1 HSc.out.l
        obtain ⟨p0, p1, p2⟩ := own1 HSc.out.p
        obtain ⟨n0, n1, n2⟩ := own1 HSc.out.n
        obtain ⟨q0, q1, q2, q3, q4, q5, q6, q7, q8, q9, q10, ql⟩ := own11 HSc.out.x
        have HSd := Lib.hid (HSc.out.setn BCN)
        have HTd := Lib.hid (HTc.out.trans (Ca.Tw.setn (.bool BCN)))
        go_wp2_with fail
        (first | go_end0 | (go_at_K; go_wp2_with fail; first | go_end0 | (go_at_K; go_wp2_with fail; go_end0)))
        exact ⟨rfl, HFIN.out _ _ _ HSd.out HTd.out (by simp) (by simp)⟩
    · cases b2
      · have HT0 := Lib.hid (show Ca.Tw gp gn w1 w1 from ⟨Nat.le_refl _, fun _ _ _ _ => rfl⟩)
        go_enter Tryz.func53, Tryz.ntmps53
        go_upto_region 1 with fail
        rw [← HW.out]
        clear HW
        go_wp2_with fail
        refine (CP.out _ HS1.out.b).mono ?_
        rintro e u1 ⟨rfl, hb⟩
        have HSa := Lib.hid (HS1.out.below hb)
        have HTa := Lib.hid (HT0.out.trans (Ca.Tw.of_below hb))
        clear y0 y1 y2 p0 p1 p2 n0 n1 n2 q0 q1 q2 q3 q4 q5 q6 q7 q8 q9 q10 ql hb
        obtain ⟨y0, y1, y2⟩ := own1 HSa.out.l
        obtain ⟨p0, p1, p2⟩ := own1 HSa.out.p
        obtain ⟨n0, n1, n2⟩ := own1 HSa.out.n
        obtain ⟨q0, q1, q2, q3, q4, q5, q6, q7, q8, q9, q10, ql⟩ := own11 HSa.out.x
        have HSb := Lib.hid (HSa.out.setp BCP)
        have HTb := Lib.hid (HTa.out.trans (Ca.Tw.setp (.bool BCP)))
        go_upto_region 4 with fail
        clear y0 y1 y2 p0 p1 p2 n0 n1 n2 q0 q1 q2 q3 q4 q5 q6 q7 q8 q9 q10 ql
        generalize u1.setCell ⟨gp, 0, none⟩ (.bool BCP) = w3 at *
        obtain ⟨y0, y1, y2⟩ := own1 HSb.out.l
        obtain ⟨p0, p1, p2⟩ := own1 HSb.out.p
        obtain ⟨n0, n1, n2⟩ := own1 HSb.out.n
        obtain ⟨q0, q1, q2, q3, q4, q5, q6, q7, q8, q9, q10, ql⟩ := own11 HSb.out.x
        have HSd := Lib.hid (HSb.out.setn false)
        have HTd := Lib.hid (HTb.out.trans (Ca.Tw.setn (.bool false)))
        go_wp2_with fail
        (first | go_end0 | (go_at_K; go_wp2_with fail; first | go_end0 | (go_at_K; go_wp2_with fail; go_end0)))
        exact ⟨rfl, HFIN.out _ _ _ HSd.out HTd.out (by simp) (by simp)⟩
      · have HT0 := Lib.hid (show Ca.Tw gp gn w1 w1 from ⟨Nat.le_refl _, fun _ _ _ _ => rfl⟩)
        go_enter Tryz.func53, Tryz.ntmps53
        go_upto_region 1 with fail
        rw [← HW.out]
        clear HW
        go_wp2_with fail
        refine (CP.out _ HS1.out.b).mono ?_
        rintro e u1 ⟨rfl, hb⟩
        have HSa := Lib.hid (HS1.out.below hb)
        have HTa := Lib.hid (HT0.out.trans (Ca.Tw.of_below hb))
        clear y0 y1 y2 p0 p1 p2 n0 n1 n2 q0 q1 q2 q3 q4 q5 q6 q7 q8 q9 q10 ql hb
        obtain ⟨y0, y1, y2⟩ := own1 HSa.out.l
        obtain ⟨p0, p1, p2⟩ := own1 HSa.out.p
        obtain ⟨n0, n1, n2⟩ := own1 HSa.out.n
        obtain ⟨q0, q1, q2, q3, q4, q5, q6, q7, q8, q9, q10, ql⟩ := own11 HSa.out.x
        have HSb := Lib.hid (HSa.out.setp BCP)
        have HTb := Lib.hid (HTa.out.trans (Ca.Tw.setp (.bool BCP)))
        go_upto_region 4 with fail
        clear y0 y1 y2 p0 p1 p2 n0 n1 n2 q0 q1 q2 q3 q4 q5 q6 q7 q8 q9 q10 ql
        generalize u1.setCell ⟨gp, 0, none⟩ (.bool BCP) = w3 at *
        obtain ⟨y0, y1, y2⟩ := own1 HSb.out.l
        obtain ⟨p0, p1, p2⟩ := own1 HSb.out.p
        obtain ⟨n0, n1, n2⟩ := own1 HSb.out.n
        obtain ⟨q0, q1, q2, q3, q4, q5, q6, q7, q8, q9, q10, ql⟩ := own11 HSb.out.x
        go_wp2_with fail
        refine (CN.out _ HSb.out.b).mono ?_
        rintro e u2 ⟨rfl, hb⟩
        have HSc := Lib.hid (HSb.out.below hb)
        have HTc := Lib.hid (HTb.out.trans (Ca.Tw.of_below hb))
        clear y0 y1 y2 p0 p1 p2 n0 n1 n2 q0 q1 q2 q3 q4 q5 q6 q7 q8 q9 q10 ql hb
        obtain ⟨y0, y1, y2⟩ := own1 HSc.out.l
        obtain ⟨p0, p1, p2⟩ := own1 HSc.out.p
        obtain ⟨n0, n1, n2⟩ := own1 HSc.out.n
        obtain ⟨q0, q1, q2, q3, q4, q5, q6, q7, q8, q9, q10, ql⟩ := own11 HSc.out.x
        have HSd := Lib.hid (HSc.out.setn BCN)
        have HTd := Lib.hid (HTc.out.trans (Ca.Tw.setn (.bool BCN)))
        go_wp2_with fail
        (first | go_end0 | (go_at_K; go_wp2_with fail; first | go_end0 | (go_at_K; go_wp2_with fail; go_end0)))
        exact ⟨rfl, HFIN.out _ _ _ HSd.out HTd.out (by simp) (by simp)⟩
  · have hk1 : (h.label == n) = false := by simp [e1]
    by_cases e2 : h.label = -n
    · have hsp : Ca.sp n h = Ty.belowT 2 h.tk h.tkids h.uk h.ukids := by unfold Ca.sp; rw [if_neg e1, if_pos e2]
      have hsn : Ca.sn n h = Ty.belowT 1 h.tk h.tkids h.uk h.ukids := by unfold Ca.sn; rw [if_neg e1, if_pos e2]
      have hk2 : (h.label == -n) = true := by simp [e2]
      rw [hsp, hsn] at HFIN
      generalize Ty.belowT 1 h.tk h.tkids h.uk h.ukids = BCP at *
      generalize Ty.belowT 2 h.tk h.tkids h.uk h.ukids = BCN at *
      clear hsp hsn e1 e2
      cases b1
      · cases b2
        · have HT0 := Lib.hid (show Ca.Tw gp gn w1 w1 from ⟨Nat.le_refl _, fun _ _ _ _ => rfl⟩)
          go_enter Tryz.func53, Tryz.ntmps53
          go_upto_region 1 with fail
          rw [← HW.out]
          clear HW
          have HSb := Lib.hid (HS1.out.setp false)
          have HTb := Lib.hid (HT0.out.trans (Ca.Tw.setp (.bool false)))
          go_upto_region 7 with fail
          clear y0 y1 y2 p0 p1 p2 n0 n1 n2 q0 q1 q2 q3 q4 q5 q6 q7 q8 q9 q10 ql
          generalize w1.setCell ⟨gp, 0, none⟩ (.bool false) = w3 at *
          obtain ⟨y0, y1, y2⟩ := own1 HSb.out.l
          obtain ⟨p0, p1, p2⟩ := own1 HSb.out.p
          obtain ⟨n0, n1, n2⟩ := own1 HSb.out.n
          obtain ⟨q0, q1, q2, q3, q4, q5, q6, q7, q8, q9, q10, ql⟩ := own11 HSb.out.x
          have HSd := Lib.hid (HSb.out.setn false)
          have HTd := Lib.hid (HTb.out.trans (Ca.Tw.setn (.bool false)))
          go_wp2_with fail
          (first | go_end0 | (go_at_K; go_wp2_with fail; first | go_end0 | (go_at_K; go_wp2_with fail; go_end0)))
          exact ⟨rfl, HFIN.out _ _ _ HSd.out HTd.out (by simp) (by simp)⟩
        · have HT0 := Lib.hid (show Ca.Tw gp gn w1 w1 from ⟨Nat.le_refl _, fun _ _ _ _ => rfl⟩)
          go_enter Tryz.func53, Tryz.ntmps53
          go_upto_region 1 with fail
          rw [← HW.out]
          clear HW
          have HSb := Lib.hid (HS1.out.setp false)
          have HTb := Lib.hid (HT0.out.trans (Ca.Tw.setp (.bool false)))
          go_upto_region 7 with fail
          clear y0 y1 y2 p0 p1 p2 n0 n1 n2 q0 q1 q2 q3 q4 q5 q6 q7 q8 q9 q10 ql
          generalize w1.setCell ⟨gp, 0, none⟩ (.bool false) = w3 at *
          obtain ⟨y0, y1, y2⟩ := own1 HSb.out.l
          obtain ⟨p0, p1, p2⟩ := own1 HSb.out.p
          obtain ⟨n0, n1, n2⟩ := own1 HSb.out.n
          obtain ⟨q0, q1, q2, q3, q4, q5, q6, q7, q8, q9, q10, ql⟩ := own11 HSb.out.x
          go_wp2_with fail
          refine (CP.out _ HSb.out.b).mono ?_
          rintro e u2 ⟨rfl, hb⟩
          have HSc := Lib.hid (HSb.out.below hb)
          have HTc := Lib.hid (HTb.out.trans (Ca.Tw.of_below hb))
          clear y0 y1 y2 p0 p1 p2 n0 n1 n2 q0 q1 q2 q3 q4 q5 q6 q7 q8 q9 q10 ql hb
          obtain ⟨y0, y1, y2⟩ := own1 HSc.out.l
          obtain ⟨p0, p1, p2⟩ := own1 HSc.out.p
          obtain ⟨n0, n1, n2⟩ := own1 HSc.out.n
          obtain ⟨q0, q1, q2, q3, q4, q5, q6, q7, q8, q9, q10, ql⟩ := own11 HSc.out.x
          have HSd := Lib.hid (HSc.out.setn BCP)
          have HTd := Lib.hid (HTc.out.trans (Ca.Tw.setn (.bool BCP)))
          go_wp2_with fail
          (first | go_end0 | (go_at_K; go_wp2_with fail; first | go_end0 | (go_at_K; go_wp2_with fail; go_end0)))
          exact ⟨rfl, HFIN.out _ _ _ HSd.out HTd.out (by simp) (by simp)⟩
      · cases b2
        · have HT0 := Lib.hid (show Ca.Tw gp gn w1 w1 from ⟨Nat.le_refl _, fun _ _ _ _ => rfl⟩)
          go_enter Tryz.func53, Tryz.ntmps53
          go_upto_region 1 with fail
          rw [← HW.out]
          clear HW
          go_wp2_with fail
          refine (CN.out _ HS1.out.b).mono ?_
          rintro e u1 ⟨rfl, hb⟩
          have HSa := Lib.hid (HS1.out.below hb)
          have HTa := Lib.hid (HT0.out.trans (Ca.Tw.of_below hb))
          clear y0 y1 y2 p0 p1 p2 n0 n1 n2 q0 q1 q2 q3 q4 q5 q6 q7 q8 q9 q10 ql hb
          obtain ⟨y0, y1, y2⟩ := own1 HSa.out.l
          obtain ⟨p0, p1, p2⟩ := own1 HSa.out.p
          obtain ⟨n0, n1, n2⟩ := own1 HSa.out.n
          obtain ⟨q0, q1, q2, q3, q4, q5, q6, q7, q8, q9, q10, ql⟩ := own11 HSa.out.x
          have HSb := Lib.hid (HSa.out.setp BCN)
          have HTb := Lib.hid (HTa.out.trans (Ca.Tw.setp (.bool BCN)))
          go_upto_region 7 with fail
          clear y0 y1 y2 p0 p1 p2 n0 n1 n2 q0 q1 q2 q3 q4 q5 q6 q7 q8 q9 q10 ql
          generalize u1.setCell ⟨gp, 0, none⟩ (.bool BCN) = w3 at *
          obtain ⟨y0, y1, y2⟩ := own1 HSb.out.l
          obtain ⟨p0, p1, p2⟩ := own1 HSb.out.p
          obtain ⟨n0, n1, n2⟩ := own1 HSb.out.n
          obtain ⟨q0, q1, q2, q3, q4, q5, q6, q7, q8, q9, q10, ql⟩ := own11 HSb.out.x
          have HSd := Lib.hid (HSb.out.setn false)
          have HTd := Lib.hid (HTb.out.trans (Ca.Tw.setn (.bool false)))
          go_wp2_with fail
          (first | go_end0 | (go_at_K; go_wp2_with fail; first | go_end0 | (go_at_K; go_wp2_with fail; go_end0)))
          exact ⟨rfl, HFIN.out _ _ _ HSd.out HTd.out (by simp) (by simp)⟩
        · have HT0 := Lib.hid (show Ca.Tw gp gn w1 w1 from ⟨Nat.le_refl _, fun _ _ _ _ => rfl⟩)
          go_enter Tryz.func53, Tryz.ntmps53
          go_upto_region 1 with fail
          rw [← HW.out]
          clear HW
          go_wp2_with fail
          refine (CN.out _ HS1.out.b).mono ?_
          rintro e u1 ⟨rfl, hb⟩
          have HSa := Lib.hid (HS1.out.below hb)
          have HTa := Lib.hid (HT0.out.trans (Ca.Tw.of_below hb))
          clear y0 y1 y2 p0 p1 p2 n0 n1 n2 q0 q1 q2 q3 q4 q5 q6 q7 q8 q9 q10 ql hb
          obtain ⟨y0, y1, y2⟩ := own1 HSa.out.l
          obtain ⟨p0, p1, p2⟩ := own1 HSa.out.p
          obtain ⟨n0, n1, n2⟩ := own1 HSa.out.n
          obtain ⟨q0, q1, q2, q3, q4, q5, q6, q7, q8, q9, q10, ql⟩ := own11 HSa.out.x
          have HSb := Lib.hid (HSa.out.setp BCN)
          have HTb := Lib.hid (HTa.out.trans (Ca.Tw.setp (.bool BCN)))
          go_upto_region 7 with fail
          clear y0 y1 y2 p0 p1 p2 n0 n1 n2 q0 q1 q2 q3 q4 q5 q6 q7 q8 q9 q10 ql
          generalize u1.setCell ⟨gp, 0, none⟩ (.bool BCN) = w3 at *
          obtain ⟨y0, y1, y2⟩ := own1 HSb.out.l
          obtain ⟨p0, p1, p2⟩ := own1 HSb.out.p
          obtain ⟨n0, n1, n2⟩ := own1 HSb.out.n
          obtain ⟨q0, q1, q2, q3, q4, q5, q6, q7, q8, q9, q10, ql⟩ := own11 HSb.out.x
          go_wp2_with fail
          refine (CP.out _ HSb.out.b).mono ?_
          rintro e u2 ⟨rfl, hb⟩
          have HSc := Lib.hid (HSb.out.below hb)
          have HTc := Lib.hid (HTb.out.trans (Ca.Tw.of_below hb))
          clear y0 y1 y2 p0 p1 p2 n0 n1 n2 q0 q1 q2 q3 q4 q5 q6 q7 q8 q9 q10 ql hb
          obtain ⟨y0, y1, y2⟩ := own1 HSc.out.l
          obtain ⟨p0, p1, p2⟩ := own1 HSc.out.p
          obtain ⟨n0, n1, n2⟩ := own1 HSc.out.n
          obtain ⟨q0, q1, q2, q3, q4, q5, q6, q7, q8, q9, q10, ql⟩ := own11 HSc.out.x
          have HSd := Lib.hid (HSc.out.setn BCP)
          have HTd := Lib.hid (HTc.out.trans (Ca.Tw.setn (.bool BCP)))
          go_wp2_with fail
          (first | go_end0 | (go_at_K; go_wp2_with fail; first | go_end0 | (go_at_K; go_wp2_with fail; go_end0)))
          exact ⟨rfl, HFIN.out _ _ _ HSd.out HTd.out (by simp) (by simp)⟩
    · have hsp : Ca.sp n h = true := by unfold Ca.sp; rw [if_neg e1, if_neg e2]
      have hsn : Ca.sn n h = true := by unfold Ca.sn; rw [if_neg e1, if_neg e2]
      have hk2 : (h.label == -n) = false := by simp [e2]
      rw [hsp, hsn] at HFIN
      clear hsp hsn e1 e2
      go_enter Tryz.func53, Tryz.ntmps53
      go_upto_region 1 with fail
      rw [← HW.out]
      clear HW
      go_wp2_with fail
      go_end0
      exact ⟨rfl, HFIN.out _ _ _ HS1.out ⟨Nat.le_refl _, fun _ _ _ _ => rfl⟩ (by simp) (by simp)⟩
end Go.Proofs.YtfkbdpehdabepaaGreatDoor
