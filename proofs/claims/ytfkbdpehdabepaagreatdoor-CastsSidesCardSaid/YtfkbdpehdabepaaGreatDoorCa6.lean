/-
  Layer 14: highest, Height.
-/
import Derived.Test.YtfkbdpehdabepaaGreatDoorCa3
import Derived.Test.YtfkbdpehdabepaaGreatDoorM5
import Derived.Test.YtfkbdpehdabepaaGreatDoorM10
import Derived.Test.YtfkbdpehdabepaaGreatDoorM12
namespace Go.Proofs.YtfkbdpehdabepaaGreatDoor
open Go.RowKit
theorem dep_le (f : Fo) (h : Ty.nodes f ≤ 100000) : Ty.dep f ≤ 100000 := Nat.le_trans (Ty.dep_le_nodes f) h
set_option maxHeartbeats 2000000 in
set_option maxRecDepth 100000 in
theorem highest_any (K : Nat) : ∀ (kids : Fo) (A : Option Addr) (n c : Nat) (w : World), Ty.nodes kids < K → Ty.Lies w kids A 0 → n = Ty.len kids → n ≤ c → c ≤ maxLen → Ty.nodes kids ≤ 100000 →
    Calls Tryz.prog 60 #[.slice A n c] w fun e w' => e = .returned (.int .i64 (Ty.dep kids)) ∧ Below w.heap.size w w' := by
  induction K with
  | zero => intro _ _ _ _ _ hK; omega
  | succ K ih =>
    intro kids A n c w hK hL hn hnc hc hsm
    have i5 : (n : Int) ≤ 9223372036854775807 := by unfold maxLen at hc; omega
    have HIH := Lib.hid (fun (kids : Fo) (A : Option Addr) (n c : Nat) (w : World) (h1 : Ty.nodes kids < K) (h2 : Ty.Lies w kids A 0) (h3 : n = Ty.len kids) (h4 : n ≤ c) (h5 : c ≤ maxLen) (h6 : Ty.nodes kids ≤ 100000) => ih kids A n c w h1 h2 h3 h4 h5 h6)
    have HL := Lib.hid hL
    have HN := Lib.hid hn
    obtain ⟨D, hD⟩ : ∃ D, D = Ty.dep kids := ⟨_, rfl⟩
    rw [← hD]
    have HD := Lib.hid hD
    have HK := Lib.hid hK
    have HSM := Lib.hid hsm
    clear ih hL hn hnc hc hD hK hsm
    go_enter Tryz.func60, Tryz.ntmps60
    go_wp2_with fail
    go_loopw [3, 8] (fun v3 v8 wr => ∃ (i most : Nat) (rest : Fo), v3 = .int .i64 most ∧ v8 = .int .i64 i ∧ i + Ty.len rest = n ∧ Ty.Lies w rest A i ∧ Ty.nodes rest ≤ Ty.nodes kids ∧ max most (Ty.dep rest) = D ∧ Below w.heap.size w wr) (fun _ v _ => n - (intOf v).toNat)
    case atStart => exact ⟨0, 0, kids, rfl, rfl, by rw [HN.out]; omega, HL.out, Nat.le_refl _, by rw [HD.out]; simp, Below.refl _ _⟩
    case round =>
      obtain ⟨i, most, rest, rfl, rfl, hi, hL, hsub, hmx, hB⟩ := hrel
      cases rest with
      | nil =>
        have hi2 : (i : Int) = n := by simp only [Ty.len] at hi; omega
        have hlt : ¬ (i : Int) < n := by omega
        have hm2 : (most : Int) = D := by simp only [Ty.dep] at hmx; omega
        have HB := Lib.hid hB
        clear hL hsub hmx hB
        go_wp2_with fail
        go_ret
        exact ⟨rfl, HB.out⟩
      | node x y k kd r =>
        obtain ⟨bb, oo, B, cc, hA, hkk, c0, c1, l1, l2, l3, l4⟩ := hL
        simp only [Ty.len, Ty.nodes, Ty.dep] at hi hsub hmx
        have hcl0 := Ty.cell_lt c0
        have hcl1 := Ty.cell_lt c1
        have d0 : wr.cell? ⟨bb, oo + i * 2, none⟩ = some (.int .i8 k) := by rw [hB.cell (p := ⟨bb, _, none⟩) hcl0]; exact c0
        have d1 : wr.cell? ⟨bb, oo + i * 2 + 1, none⟩ = some (.slice B (Ty.len kd) cc) := by rw [hB.cell (p := ⟨bb, _, none⟩) hcl1]; exact c1
        have hw2 : Below w.heap.size w (wr.alloc (.cells #[.int .i8 k, .slice B (Ty.len kd) cc] 25)) := hB.alloc hB.size _
        have HC := Lib.hid (HIH.out kd B (Ty.len kd) cc (wr.alloc (.cells #[.int .i8 k, .slice B (Ty.len kd) cc] 25)) (by have := HK.out; omega) (Ty.Lies.below l3 hw2) rfl l1 l2 (by have := HSM.out; omega))
        have j1 : (i : Int) < n := by omega
        have hde := dep_le kd (by have := HSM.out; omega)
        have hAA := Lib.hid hA
        have HB := Lib.hid hw2
        have HL4 := Lib.hid l4
        clear c0 c1 l1 l2 l3 l4 hB hw2 hcl0 hcl1
        rw [hAA.out]
        go_wp2_with fail
        refine HC.out.mono ?_
        rintro e u ⟨rfl, hb⟩
        have HBU := Lib.hid (HB.out.trans (hb.mono HB.out.size))
        clear hb d0 d1
        go_wp2_with fail
        go_roundw
        case rel => exact ⟨i + 1, max most (1 + Ty.dep kd), r, by congr 1; omega, by go_num, by omega, hAA.out ▸ HL4.out, by omega, by omega, HBU.out⟩
        case measure => simp [intOf]; omega

namespace Ca
/-- the state behind Height's own function -/
def IH (n0 : Nat) (w : World) (g : Nat) (vs : List Hd) (M : Nat → Prop) (W : World) : Prop :=
  W.heap[g]? = some (.cells #[.int .i64 (htL vs)] 3 (0, 0)) ∧ (∀ b, M b ↔ b = g) ∧ Below n0 w W ∧ n0 ≤ g
theorem IH.use {n0 g : Nat} {w w0 : World} (hw : ∀ b o v, w0.cell? ⟨b, o, none⟩ = some v → b < n0 ∧ w.cell? ⟨b, o, none⟩ = some v) : Use 59 w0 (IH n0 w g) :=
  ⟨fun args W => by simp [go_sem], fun vs M W h b o v hv => by obtain ⟨q1, q2⟩ := hw b o v hv; rw [h.2.2.1.cell (p := ⟨b, o, none⟩) q1]; exact q2,
   fun vs M W h b hb => by rw [(h.2.1 b).mp hb]; exact heap_lt h.1,
   fun vs M W W' h hb => ⟨heap_below hb (heap_lt h.1) h.1, h.2.1, h.2.2.1.trans (hb.mono (by have := heap_lt h.1; have := h.2.2.2; omega)), h.2.2.2⟩⟩
theorem set_one {w : World} {g : Nat} {v0 : Value} {t : TypeId} (h : w.heap[g]? = some (.cells #[v0] t (0, 0))) (v : Value) : (w.setCell ⟨g, 0, none⟩ v).heap[g]? = some (.cells #[v] t (0, 0)) := by
  simp [World.setCell, Array.getElem?_modify, h]
theorem IH.step {n0 g : Nat} {w W w1 u : World} {h : Hd} {vs : List Hd} {M : Nat → Prop} (e : IH n0 w g vs M w1) (hb : Below W.heap.size W w1) (hu : Below w1.heap.size w1 u) :
    ∃ M', IH n0 w g (vs ++ [h]) M' (u.setCell ⟨g, 0, none⟩ (.int .i64 (max (htL vs : Int) (Ty.dep (Tm.tys h))))) ∧ Go M M' W (u.setCell ⟨g, 0, none⟩ (.int .i64 (max (htL vs : Int) (Ty.dep (Tm.tys h))))) := by
  obtain ⟨e1, e2, e3, e4⟩ := e
  have hl := heap_lt e1
  refine ⟨M, ⟨?_, e2, (e3.trans (hu.mono (by omega))).setCell e4 _, e4⟩, ⟨fun b q1 q2 => ?_, fun b q => .inl q, ?_⟩⟩
  · rw [set_one (heap_below hu hl e1)]
    congr 5
    rw [htL_append]
    simp only [htL]
    omega
  · have hne : b ≠ g := fun q => q2 ((e2 b).mpr q)
    rw [Below.heap_setCell _ _ _ b hne, hu.block b (Nat.lt_of_lt_of_le q1 hb.size), hb.block b q1]
  · have := hb.size; have := hu.size; simp [World.setCell]; omega
end Ca
theorem Ca.tys_of_chk {h : Hd} {kids : Tm} (hc : Tm.chk h kids = 0) : ∀ h' ∈ Ca.pre (.node h kids .nil), Ty.nodes (Tm.tys h') ≤ 100000 := by
  have key : ∀ f : Tm, Tm.nodes f ≤ 8192 → ∀ h' ∈ Ca.pre f, Tm.tyN h' ≤ 8191 := by
    intro f
    induction f with
    | nil => intro _ h' e; simp [Ca.pre] at e
    | node g k r i1 i2 =>
      intro hn h' e
      simp only [Tm.nodes] at hn
      simp only [Ca.pre, List.mem_cons, List.mem_append] at e
      rcases e with rfl | e | e
      · omega
      · exact i1 (by omega) h' e
      · exact i2 (by omega) h' e
  intro h' hm
  have hs := Tm.small_of hc
  have hn : Tm.nodes (.node h kids .nil) ≤ 8192 := by
    have e : Tm.nd h kids = 1 + Tm.tyN h + Tm.nodes kids := rfl
    have : ¬ 8192 < Tm.nd h kids := fun q => by unfold Tm.chk at hc; rw [if_pos q] at hc; omega
    simp only [Tm.nodes]; omega
  have h1 := key _ hn h' hm
  unfold Tm.tyN at h1
  unfold Tm.tys
  split
  · rename_i e1
    rw [if_pos e1] at h1
    have e3 : Ty.nod h'.tkids = min (Ty.nodes h'.tkids + 1) 8193 := rfl
    split
    · rename_i e2
      rw [if_pos e2] at h1
      have e4 : Ty.nod h'.ukids = min (Ty.nodes h'.ukids + 1) 8193 := rfl
      simp only [Ty.nodes]; omega
    · simp only [Ty.nodes]; omega
  · simp only [Ty.nodes]; omega
set_option maxHeartbeats 2000000 in
set_option maxRecDepth 100000 in
theorem height_use (N n0 : Nat) (w0 w : World) (g : Nat) (h : Hd) (k : Tm) (p : Pl) (hIs : Tm.Is w0 h k p) (hw : ∀ b o v, w0.cell? ⟨b, o, none⟩ = some v → b < n0 ∧ w.cell? ⟨b, o, none⟩ = some v) (hsm : Ty.nodes (Tm.tys h) ≤ 100000) :
    Ca.UseAt N 59 #[.pointer (some ⟨g, 0, none⟩)] (Ca.IH n0 w g) h p := by
  intro vs M W _ hI
  rw [show (#[.agg #[.int .i8 h.kind, .string h.name, .string h.arg, .int .i64 h.num, .int .i8 h.tk, .slice p.TA p.tn p.tc, .int .i8 h.uk, .slice p.UA p.un p.uc, .int .i64 h.label, .int .i64 h.pos, .slice p.A p.n p.c]] ++ #[.pointer (some ⟨g, 0, none⟩)] : Array Value) = #[.agg #[.int .i8 h.kind, .string h.name, .string h.arg, .int .i64 h.num, .int .i8 h.tk, .slice p.TA p.tn p.tc, .int .i8 h.uk, .slice p.UA p.un p.uc, .int .i64 h.label, .int .i64 h.pos, .slice p.A p.n p.c], .pointer (some ⟨g, 0, none⟩)] from rfl]
  have hB1 : Below W.heap.size W (W.alloc (.cells #[.int .i8 h.kind, .string h.name, .string h.arg, .int .i64 h.num, .int .i8 h.tk, .slice p.TA p.tn p.tc, .int .i8 h.uk, .slice p.UA p.un p.uc, .int .i64 h.label, .int .i64 h.pos, .slice p.A p.n p.c] 28)) := (Below.refl _ _).alloc (Nat.le_refl _) _
  have h0 := heap_new W (.cells #[.int .i8 h.kind, .string h.name, .string h.arg, .int .i64 h.num, .int .i8 h.tk, .slice p.TA p.tn p.tc, .int .i8 h.uk, .slice p.UA p.un p.uc, .int .i64 h.label, .int .i64 h.pos, .slice p.A p.n p.c] 28)
  have hI1 := (Ca.IH.use hw).new _ _ _ _ hI hB1
  obtain ⟨w1, hw1⟩ : ∃ w1, w1 = W.alloc (.cells #[.int .i8 h.kind, .string h.name, .string h.arg, .int .i64 h.num, .int .i8 h.tk, .slice p.TA p.tn p.tc, .int .i8 h.uk, .slice p.UA p.un p.uc, .int .i64 h.label, .int .i64 h.pos, .slice p.A p.n p.c] 28) := ⟨_, rfl⟩
  rw [← hw1] at hB1 h0 hI1
  have HI1 := Lib.hid hI1
  have HB1 := Lib.hid hB1
  have HW := Lib.hid hw1
  have H0 := Lib.hid h0
  have CT := Lib.hid (fun (U : World) (hb : Below w1.heap.size w1 U) => ptypes_any h k p U ((⟨hIs.fit.kept fun b _ o v hv => (Ca.IH.use hw).base _ _ _ ((Ca.IH.use hw).new _ _ _ _ hI1 hb) b o v hv, hIs.lies.kept fun b _ o v hv => (Ca.IH.use hw).base _ _ _ ((Ca.IH.use hw).new _ _ _ _ hI1 hb) b o v hv⟩)))
  have CH := Lib.hid (fun (U : World) (G : Option Addr) (m c : Nat) (hL : Ty.Lies U (Tm.tys h) G 0) (h1 : m = Ty.len (Tm.tys h)) (h2 : m ≤ c) (h3 : c ≤ maxLen) => highest_any (Ty.nodes (Tm.tys h) + 1) (Tm.tys h) G m c U (Nat.lt_succ_self _) hL h1 h2 h3 hsm)
  have hg := hI1.1
  have HGL := Lib.hid (heap_lt hg)
  obtain ⟨y0, y1, y2⟩ := own1 hg
  obtain ⟨q0, q1, q2, q3, q4, q5, q6, q7, q8, q9, q10, ql⟩ := own11 h0
  clear hI hI1 hIs hB1 h0 hsm hw1 hg
  go_enter Tryz.func59, Tryz.ntmps59
  go_upto_region 1 with fail
  rw [← HW.out]
  have D0 : Below w1.heap.size w1 w1.drew := (Below.refl _ _).drew
  go_region_law (first
    | (go_simp; go_at_call 61; (with_reducible refine (CT.out _ D0).mono ?_); rintro e u1 ⟨G, m, c, rfl, hL, hm, hmc, hcm, hb⟩; have D1 := D0.trans (hb.mono D0.size); have CHH := Lib.hid (CH.out u1 G m c hL hm hmc hcm); have y0' := Lib.hid (heap_below D1 HGL.out HI1.out.1); obtain ⟨z0, z1, z2⟩ := own1 y0'.out; clear hb hL hm hmc hcm; go_wp2_with fail)
    | (go_simp; go_at_call 60; (with_reducible refine CHH.out.mono ?_); rintro e u2 ⟨rfl, hb⟩; have D2 := D1.trans (hb.mono D1.size); have y0'' := Lib.hid (heap_below D2 HGL.out HI1.out.1); obtain ⟨x0, x1, x2⟩ := own1 y0''.out; clear hb; go_wp2_with fail))
  all_goals
    go_end0
    exact ⟨rfl, Ca.IH.step HI1.out HB1.out D2⟩
set_option maxHeartbeats 2000000 in
set_option maxRecDepth 100000 in
theorem cheight_any (h : Hd) (kids : Tm) (p : Pl) (w : World) (hIs : Tm.Is w h kids p) (hG : TGlob w) :
    Calls Tryz.prog 25 #[.agg #[.int .i8 h.kind, .string h.name, .string h.arg, .int .i64 h.num, .int .i8 h.tk, .slice p.TA p.tn p.tc, .int .i8 h.uk, .slice p.UA p.un p.uc, .int .i64 h.label, .int .i64 h.pos, .slice p.A p.n p.c]] w fun e w' => e = .returned (.int .i64 (if Tm.chk h kids = 0 then (Ca.htL (Ca.pre (.node h kids .nil)) : Nat) else 0 : Nat)) ∧ Below w.heap.size w w' := by
  have hB1 : Below w.heap.size w (w.alloc (.cells #[.int .i8 h.kind, .string h.name, .string h.arg, .int .i64 h.num, .int .i8 h.tk, .slice p.TA p.tn p.tc, .int .i8 h.uk, .slice p.UA p.un p.uc, .int .i64 h.label, .int .i64 h.pos, .slice p.A p.n p.c] 28)) := (Below.refl _ _).alloc (Nat.le_refl _) _
  have h0 := heap_new w (.cells #[.int .i8 h.kind, .string h.name, .string h.arg, .int .i64 h.num, .int .i8 h.tk, .slice p.TA p.tn p.tc, .int .i8 h.uk, .slice p.UA p.un p.uc, .int .i64 h.label, .int .i64 h.pos, .slice p.A p.n p.c] 28)
  obtain ⟨w1, hw1⟩ : ∃ w1, w1 = w.alloc (.cells #[.int .i8 h.kind, .string h.name, .string h.arg, .int .i64 h.num, .int .i8 h.tk, .slice p.TA p.tn p.tc, .int .i8 h.uk, .slice p.UA p.un p.uc, .int .i64 h.label, .int .i64 h.pos, .slice p.A p.n p.c] 28) := ⟨_, rfl⟩
  rw [← hw1] at hB1 h0
  have CK := Lib.hid (tcheck_any h kids p w1 (hIs.below hB1) (hG.below hB1))
  have HW := Lib.hid hw1
  have HB1 := Lib.hid hB1
  have H0 := Lib.hid h0
  have HIS := Lib.hid hIs
  obtain ⟨q0, q1, q2, q3, q4, q5, q6, q7, q8, q9, q10, ql⟩ := own11 h0
  clear hw1 hB1 h0 hIs hG
  by_cases hc : Tm.chk h kids = 0
  · have hne : (((Tm.chk h kids : Nat) : Int) != 0) = false := by rw [hc]; rfl
    have HC := Lib.hid hc
    rw [if_pos hc]
    have hsm : ∀ h' ∈ Ca.pre (.node h kids .nil), Ty.nodes (Tm.tys h') ≤ 100000 := Ca.tys_of_chk hc
    have HSM := Lib.hid hsm
    generalize ((Tm.chk h kids : Nat) : Int) = x0 at *
    clear hc hsm
    go_enter Tryz.func25, Tryz.ntmps25
    go_upto_region 1 with fail
    rw [← HW.out]
    clear HW
    go_wp2_with fail
    refine CK.out.mono ?_
    rintro e w2 ⟨rfl, hb⟩
    have HB2 := Lib.hid (HB1.out.trans (hb.mono HB1.out.size))
    have H2 := Lib.hid (heap_below hb ql H0.out)
    have hz2 : w.heap.size < w2.heap.size := heap_lt H2.out
    obtain ⟨r0, r1, r2, r3, r4, r5, r6, r7, r8, r9, r10, rl⟩ := own11 H2.out
    clear hb q0 q1 q2 q3 q4 q5 q6 q7 q8 q9 q10 CK
    go_upto_region 4 with fail
    have hB3 : Below w.heap.size w (w2.alloc (.cells #[.int .i64 0] 3)) := HB2.out.alloc HB2.out.size _
    have hw : ∀ b o v, w.cell? ⟨b, o, none⟩ = some v → b < w.heap.size ∧ w.cell? ⟨b, o, none⟩ = some v := fun b o v hv => ⟨Ty.cell_lt hv, hv⟩
    have hI : Ca.IH w.heap.size w w2.heap.size [] (fun b => b = w2.heap.size) (w2.alloc (.cells #[.int .i64 0] 3)) := ⟨heap_new w2 _, fun _ => Iff.rfl, hB3, HB2.out.size⟩
    have CT := Lib.hid (through_any (Ca.pre (.node h kids .nil)).length 59 #[.pointer (some ⟨w2.heap.size, 0, none⟩)] w _ (Ca.IH.use hw) (Tm.nodes kids + 1) h kids p [] (fun b => b = w2.heap.size) (w2.alloc (.cells #[.int .i64 0] 3)) (Nat.lt_succ_self _) HIS.out hI (by simp) (fun h' k' q' hm hI' => height_use _ w.heap.size w w w2.heap.size h' k' q' hI' hw (HSM.out h' hm)))
    have hX : w2.heap.size ≠ w.heap.size := by omega
    have H3 := Lib.hid (heap_old H2.out (.cells #[.int .i64 0] 3))
    clear hI hw hB3 r0 r1 r2 r3 r4 r5 r6 r7 r8 r9 r10 rl
    generalize w2.alloc (.cells #[.int .i64 0] 3) = w3 at *
    obtain ⟨r0, r1, r2, r3, r4, r5, r6, r7, r8, r9, r10, rl⟩ := own11 H3.out
    go_wp2_with fail
    refine CT.out.mono ?_
    rintro e u ⟨rfl, M', hI', hG'⟩
    have HI' := Lib.hid hI'
    obtain ⟨y0, y1, y2⟩ := own1 hI'.1
    clear hI' hG' r0 r1 r2 r3 r4 r5 r6 r7 r8 r9 r10 rl
    go_wp2_with fail
    go_ret
    exact ⟨rfl, HI'.out.2.2.1⟩
  · have hne : (((Tm.chk h kids : Nat) : Int) != 0) = true := by simp; omega
    rw [if_neg hc]
    generalize ((Tm.chk h kids : Nat) : Int) = x0 at *
    clear hc HIS
    go_enter Tryz.func25, Tryz.ntmps25
    go_upto_region 1 with fail
    rw [← HW.out]
    clear HW
    go_wp2_with fail
    refine CK.out.mono ?_
    rintro e w2 ⟨rfl, hb⟩
    have HB2 := Lib.hid (HB1.out.trans (hb.mono HB1.out.size))
    clear hb
    go_wp2_with fail
    go_ret
    exact ⟨rfl, HB2.out⟩
end Go.Proofs.YtfkbdpehdabepaaGreatDoor
