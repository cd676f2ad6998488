import Derived.Test.YtjpohjcnjanoaaaGreatDoorM20
namespace Go.Proofs.YtjpohjcnjanoaaaGreatDoor
open Go.RowKit
theorem Ty.Is.zDp {w : World} {k : Int} {a b c d a' b' c' d' : Nat} {p1 p2 : Int} {f1 f2 : Fo} {A : Option Addr} {n m : Nat} (h : Ty.Is w k (.node a b p1 f1 (.node c d p2 f2 .nil)) A n m) : Ty.Is w k (.node a' b' p1 f1 (.node c' d' p2 f2 .nil)) A n m := ⟨h.lies, h.n_eq, h.n_le, h.c_le, h.lo, h.hi⟩
theorem Ty.Is.zDq {P : Nat → Prop} {w : World} {k : Int} {a b c d : Nat} {p1 p2 : Int} {f1 f2 : Fo} {A : Option Addr} {n m : Nat} (h : Ck.Ly P w (Ck.mk2 k (p1, f1) (p2, f2)) A n m) : Lone P w k (.node a b p1 f1 (.node c d p2 f2 .nil)) A n m := fun u hu => Ty.Is.zDp (h u hu)
theorem Ty.zCr {k : Int} {kids : Fo} (h : Ty.okT k kids = true) (h3 : ¬ 3 ≤ k) : kids = .nil := by
  unfold Ty.okT Ty.okK at h
  cases kids with
  | nil => rfl
  | node _ _ _ _ r => simp [Ty.len] at h; omega
set_option maxHeartbeats 2000000 in
set_option maxRecDepth 100000 in
theorem uL (K : Nat) : ∀ (k : Int) (kids : Fo) (A : Option Addr) (n c : Nat) (w : World), Ty.nodes kids < K → Ty.Is w k kids A n c → Ty.okT k kids = true →
    Calls Tryz.prog 44 #[.agg #[.int .i8 k, .slice A n c]] w (CopyL w k kids) := by
  induction K with
  | zero => intro _ _ _ _ _ _ hK; omega
  | succ K ih =>
    intro k kids A n c w hK hIs hok
    have hlo := hIs.lo
    have hhi := hIs.hi
    by_cases h3 : 3 ≤ k
    case neg =>
      have hnil : kids = .nil := Ty.zCr hok h3
      subst hnil
      have hn := hIs.n_eq
      simp only [Ty.len] at hn
      subst hn
      have HB2 := Lib.hid (zm w (.cells #[.int .i8 k, .slice A 0 c] 25) (.cells #[.int .i8 0, .slice none 0 0] 25))
      obtain ⟨h0, h1⟩ := zz w (.cells #[.int .i8 k, .slice A 0 c] 25) (.cells #[.int .i8 0, .slice none 0 0] 25)
      have H1 := Lib.hid h1
      have CO := Lib.hid (fun (W : World) => qI k none 0 0 W)
      clear ih hK hIs hok h3 h0 h1
      go_enter Tryz.func44, Tryz.ntmps44
      go_wp2_with fail
      refine (CO.out _).mono ?_
      rintro e w2 ⟨rfl, hb2⟩
      have HB3 := Lib.hid (HB2.out.trans (hb2.mono HB2.out.size))
      have z2 := zA hb2 (zC H1.out) H1.out
      obtain ⟨x0, x1, f0, f1, xl⟩ := zM z2
      clear hb2
      go_wp2_with fail
      have z3 := zP z2 (.int .i8 k) (.slice none 0 0)
      obtain ⟨k0, k1, -, -, -⟩ := zM z3
      exact bodyPost_ret (v := .agg #[.int .i8 k, .slice none 0 0]) (by simp [results, Tryz.results44, go_sem, k0, k1]) rfl ⟨none, 0, 0, rfl, (fun u _ => ⟨trivial, rfl, Nat.le_refl _, Nat.zero_le _, hlo, hhi⟩), zL HB3.out (by omega) _ _⟩
    obtain ⟨a1, a2, p1, f1, a3, a4, p2, f2, rfl, o1, o2⟩ := Ty.jL hok h3
    have hn := hIs.n_eq
    simp only [Ty.len] at hn
    subst hn
    simp only [Ty.nodes] at hK
    have hB2 := zm w (.cells #[.int .i8 k, .slice A 2 c] 25) (.cells #[.int .i8 0, .slice none 0 0] 25)
    have hL := Ty.zB4 (hIs.below hB2).lies
    obtain ⟨bb, oo, B1, c1, B2, c2, rfl, x0, x1, x2, x3, i1, i2⟩ := hL
    obtain ⟨h0, h1⟩ := zz w (.cells #[.int .i8 k, .slice (some ⟨bb, oo, none⟩) 2 c] 25) (.cells #[.int .i8 0, .slice none 0 0] 25)
    have hz : ((w.alloc (.cells #[.int .i8 k, .slice (some ⟨bb, oo, none⟩) 2 c] 25)).alloc (.cells #[.int .i8 0, .slice none 0 0] 25)).heap.size = w.heap.size + 2 := by simp
    obtain ⟨w1, hw1⟩ : ∃ w1, w1 = (w.alloc (.cells #[.int .i8 k, .slice (some ⟨bb, oo, none⟩) 2 c] 25)).alloc (.cells #[.int .i8 0, .slice none 0 0] 25) := ⟨_, rfl⟩
    rw [← hw1] at hB2 h0 h1 hz x0 x1 x2 x3 i1 i2
    have HW1 := Lib.hid hw1
    have HZ := Lib.hid hz
    have H2 := Lib.hid h1
    have hfrom := Lib.hid (fun (W : World) (hb : Below w1.heap.size w1 W) => hB2.trans (hb.mono hB2.size))
    have CC1 := Lib.hid (fun (W : World) (hb : Below w1.heap.size w1 W) => ih p1 f1 B1 _ c1 W (by omega) (i1.below hb) o1)
    have CC2 := Lib.hid (fun (W : World) (hb : Below w1.heap.size w1 W) => ih p2 f2 B2 _ c2 W (by omega) (i2.below hb) o2)
    have HK := Lib.hid (fun (W : World) (hb : Below w1.heap.size w1 W) => (show W.cell? ⟨w.heap.size, 0, none⟩ = some (.int .i8 k) ∧ W.cell? ⟨w.heap.size, 1, none⟩ = some (.slice (some ⟨bb, oo, none⟩) 2 c) ∧ W.cell? ⟨bb, oo, none⟩ = some (.int .i8 p1) ∧ W.cell? ⟨bb, oo + 1, none⟩ = some (.slice B1 (Ty.len f1) c1) ∧ W.cell? ⟨bb, oo + 2, none⟩ = some (.int .i8 p2) ∧ W.cell? ⟨bb, oo + 3, none⟩ = some (.slice B2 (Ty.len f2) c2) from by
      obtain ⟨r0, r1, -, -, -⟩ := zM (zA hb (zC h0) h0)
      exact ⟨r0, r1, zB x0 hb, zB x1 hb, zB x2 hb, zB x3 hb⟩))
    have HKR := Lib.hid (And.intro hlo hhi)
    have hk0 : ((2 : Nat) : Int) = 2 := rfl
    clear ih hK hIs hok o1 o2 hB2 h0 h1 hz x0 x1 x2 x3 i1 i2 hlo hhi h3
    generalize Ty.len f1 = m1 at *
    generalize Ty.len f2 = m2 at *
    go_enter Tryz.func44, Tryz.ntmps44
    go_upto_region 1 with fail
    rw [← HW1.out]
    clear hw1 HW1
    obtain ⟨r0, r1, r2, r3, r4, r5⟩ := HK.out w1 (Below.refl _ _)
    go_upto_region 3 with fail
    clear r0 r1 r2 r3 r4 r5
    refine zO 24 rfl [10, 11, 12, 13, 14, 15, 16, 17, 18, 19, 20, 21, 22, 23] (by kernel_rfl) (by kernel_rfl) (by kernel_rfl) (fun listed a' w' => a'.defers = [] ∧ a'.tmps.size = 24 ∧ a'.eval (.tmp 1) = .pointer (some ⟨w.heap.size, 0, none⟩) ∧ a'.eval (.tmp 2) = .pointer (some ⟨w.heap.size + 1, 0, none⟩) ∧ ∃ Ga ma ca Gb mb cb Y, (listed[0]? = some true → (a'.eval (.tmp 10) = .pointer (some ⟨w.heap.size, 0, none⟩))) ∧ (listed[1]? = some true → (a'.eval (.tmp 11) = .int .i8 k) ∧ (listed[0]? = some true)) ∧ (listed[2]? = some true → (a'.eval (.tmp 12) = .pointer (some ⟨w.heap.size, 1, none⟩))) ∧ (listed[3]? = some true → (a'.eval (.tmp 13) = .slice (some ⟨bb, oo, none⟩) 2 c) ∧ (listed[2]? = some true)) ∧ (listed[4]? = some true → (a'.eval (.tmp 14) = .pointer (some ⟨bb, oo, none⟩)) ∧ (listed[2]? = some true) ∧ (listed[3]? = some true)) ∧ (listed[5]? = some true → (a'.eval (.tmp 15) = .agg #[.int .i8 p1, .slice B1 m1 c1]) ∧ (listed[2]? = some true) ∧ (listed[3]? = some true) ∧ (listed[4]? = some true)) ∧ (listed[6]? = some true → (a'.eval (.tmp 16) = .agg #[.int .i8 p1, .slice Ga ma ca]) ∧ (listed[2]? = some true) ∧ (listed[3]? = some true) ∧ (listed[4]? = some true) ∧ (listed[5]? = some true) ∧ ((listed[12]? = some false → Ck.Ly (fun b => w1.heap.size ≤ b) w' (p1, f1) Ga ma ca))) ∧ (listed[7]? = some true → (a'.eval (.tmp 17) = .pointer (some ⟨w.heap.size, 1, none⟩))) ∧ (listed[8]? = some true → (a'.eval (.tmp 18) = .slice (some ⟨bb, oo, none⟩) 2 c) ∧ (listed[7]? = some true)) ∧ (listed[9]? = some true → (a'.eval (.tmp 19) = .pointer (some ⟨bb, oo + 2, none⟩)) ∧ (listed[7]? = some true) ∧ (listed[8]? = some true)) ∧ (listed[10]? = some true → (a'.eval (.tmp 20) = .agg #[.int .i8 p2, .slice B2 m2 c2]) ∧ (listed[7]? = some true) ∧ (listed[8]? = some true) ∧ (listed[9]? = some true)) ∧ (listed[11]? = some true → (a'.eval (.tmp 21) = .agg #[.int .i8 p2, .slice Gb mb cb]) ∧ (listed[7]? = some true) ∧ (listed[8]? = some true) ∧ (listed[9]? = some true) ∧ (listed[10]? = some true) ∧ ((listed[12]? = some false → Ck.Ly (fun b => w1.heap.size ≤ b) w' (p2, f2) Gb mb cb))) ∧ (listed[12]? = some true → (a'.eval (.tmp 22) = .slice (some ⟨Y, 0, none⟩) 2 2) ∧ (listed[2]? = some true) ∧ (listed[3]? = some true) ∧ (listed[4]? = some true) ∧ (listed[5]? = some true) ∧ (listed[6]? = some true) ∧ (listed[7]? = some true) ∧ (listed[8]? = some true) ∧ (listed[9]? = some true) ∧ (listed[10]? = some true) ∧ (listed[11]? = some true) ∧ (Ck.Ly (fun b => w1.heap.size ≤ b) w' (Ck.mk2 k (p1, f1) (p2, f2)) (some ⟨Y, 0, none⟩) 2 2)) ∧ (listed[13]? = some true → (a'.eval (.tmp 23) = .agg #[.int .i8 k, .slice (some ⟨Y, 0, none⟩) 2 2]) ∧ (listed[0]? = some true) ∧ (listed[1]? = some true) ∧ (listed[2]? = some true) ∧ (listed[3]? = some true) ∧ (listed[4]? = some true) ∧ (listed[5]? = some true) ∧ (listed[6]? = some true) ∧ (listed[7]? = some true) ∧ (listed[8]? = some true) ∧ (listed[9]? = some true) ∧ (listed[10]? = some true) ∧ (listed[11]? = some true) ∧ (listed[12]? = some true)) ∧ (listed[14]? = some true → (listed[0]? = some true) ∧ (listed[1]? = some true) ∧ (listed[2]? = some true) ∧ (listed[3]? = some true) ∧ (listed[4]? = some true) ∧ (listed[5]? = some true) ∧ (listed[6]? = some true) ∧ (listed[7]? = some true) ∧ (listed[8]? = some true) ∧ (listed[9]? = some true) ∧ (listed[10]? = some true) ∧ (listed[11]? = some true) ∧ (listed[12]? = some true) ∧ (listed[13]? = some true) ∧ (w'.heap[w.heap.size + 1]? = some (.cells #[.int .i8 k, .slice (some ⟨Y, 0, none⟩) 2 2] 25 (0, 0))) ∧ (Below w.heap.size w w')) ∧ (listed[14]? = some false → Below w1.heap.size w1 w')) (fun _ _ _ h => h.1) ?_ ?_ ?_
    · have hz := HZ.out
      refine ⟨rfl, rfl, rfl, rfl, none, 0, 0, none, 0, 0, 0, (fun h => ?_), (fun h => ?_), (fun h => ?_), (fun h => ?_), (fun h => ?_), (fun h => ?_), (fun h => ?_), (fun h => ?_), (fun h => ?_), (fun h => ?_), (fun h => ?_), (fun h => ?_), (fun h => ?_), (fun h => ?_), (fun h => ?_), (fun _ => (Below.refl _ _).drew)⟩ <;> simp at h
    · rintro listed a' w' i o ⟨hdf, hsz, x1, x2, Ga, ma, ca, Gb, mb, cb, Y, y0, y1, y2, y3, y4, y5, y6, y7, y8, y9, y10, y11, y12, y13, y14, hbw⟩ hz hsz0 ho hi hp
      have hi13 : i < 15 := by
        rcases Nat.lt_or_ge i 15 with q | q
        · exact q
        · rw [Array.getElem?_eq_none (by simpa using q)] at ho; cases ho
      rcases (by omega : i = 0 ∨ i = 1 ∨ i = 2 ∨ i = 3 ∨ i = 4 ∨ i = 5 ∨ i = 6 ∨ i = 7 ∨ i = 8 ∨ i = 9 ∨ i = 10 ∨ i = 11 ∨ i = 12 ∨ i = 13 ∨ i = 14) with rfl | rfl | rfl | rfl | rfl | rfl | rfl | rfl | rfl | rfl | rfl | rfl | rfl | rfl | rfl
      · obtain rfl := Option.some.inj ho
        refine zD ho rfl (zF 10 rfl (v := .pointer (some ⟨w.heap.size, 0, none⟩)) ?_ ?_)
        · obtain ⟨hcst, hfn⟩ := evc a'; generalize a'.eval = ev at *
          clear hp y0 y1 y2 y3 y4 y5 y6 y7 y8 y9 y10 y11 y12 y13 y14
          go_simp
        · exact ⟨pd hdf, ps hsz, pn x1, pn x2, Ga, ma, ca, Gb, mb, cb, Y, (fun _ => pS hsz), (kN y1 (fun q => q.2) hi), (kE y2), (kF y3 (fun q => ⟨pn q.1, z8 q.2⟩)), (kF y4 (fun q => ⟨pn q.1, z8 q.2.1, z8 q.2.2⟩)), (kF y5 (fun q => ⟨pn q.1, z8 q.2.1, z8 q.2.2.1, z8 q.2.2.2⟩)), (kF y6 (fun q => ⟨pn q.1, z8 q.2.1, z8 q.2.2.1, z8 q.2.2.2.1, z8 q.2.2.2.2.1, (kU q.2.2.2.2.2 (fun q => q))⟩)), (kE y7), (kF y8 (fun q => ⟨pn q.1, z8 q.2⟩)), (kF y9 (fun q => ⟨pn q.1, z8 q.2.1, z8 q.2.2⟩)), (kF y10 (fun q => ⟨pn q.1, z8 q.2.1, z8 q.2.2.1, z8 q.2.2.2⟩)), (kF y11 (fun q => ⟨pn q.1, z8 q.2.1, z8 q.2.2.1, z8 q.2.2.2.1, z8 q.2.2.2.2.1, (kU q.2.2.2.2.2 (fun q => q))⟩)), (kF y12 (fun q => ⟨pn q.1, z8 q.2.1, z8 q.2.2.1, z8 q.2.2.2.1, z8 q.2.2.2.2.1, z8 q.2.2.2.2.2.1, z8 q.2.2.2.2.2.2.1, z8 q.2.2.2.2.2.2.2.1, z8 q.2.2.2.2.2.2.2.2.1, z8 q.2.2.2.2.2.2.2.2.2.1, z8 q.2.2.2.2.2.2.2.2.2.2.1, q.2.2.2.2.2.2.2.2.2.2.2⟩)), (kN y13 (fun q => q.2.1) hi), (kN y14 (fun q => q.1) hi), (kU hbw id)⟩
      · obtain rfl := Option.some.inj ho
        refine zD ho rfl (zF 11 rfl (v := .int .i8 k) ?_ ?_)
        · have v0 := hpv hp 0 (by simp)
          have ww0 := (y0 v0)
          have hbw := hbw (nf (by rw [hz]; decide) (fun q => (y14 q).2.1) hi)
          obtain ⟨e0, e1, e2, e3, e4, e5⟩ := HK.out w' hbw
          obtain ⟨hcst, hfn⟩ := evc a'; generalize a'.eval = ev at *
          clear hp y0 y1 y2 y3 y4 y5 y6 y7 y8 y9 y10 y11 y12 y13 y14
          go_simp
        · have v0 := hpv hp 0 (by simp)
          exact ⟨pd hdf, ps hsz, pn x1, pn x2, Ga, ma, ca, Gb, mb, cb, Y, (kE y0), (fun _ => ⟨pS hsz, (z8 v0)⟩), (kE y2), (kF y3 (fun q => ⟨pn q.1, z8 q.2⟩)), (kF y4 (fun q => ⟨pn q.1, z8 q.2.1, z8 q.2.2⟩)), (kF y5 (fun q => ⟨pn q.1, z8 q.2.1, z8 q.2.2.1, z8 q.2.2.2⟩)), (kF y6 (fun q => ⟨pn q.1, z8 q.2.1, z8 q.2.2.1, z8 q.2.2.2.1, z8 q.2.2.2.2.1, (kU q.2.2.2.2.2 (fun q => q))⟩)), (kE y7), (kF y8 (fun q => ⟨pn q.1, z8 q.2⟩)), (kF y9 (fun q => ⟨pn q.1, z8 q.2.1, z8 q.2.2⟩)), (kF y10 (fun q => ⟨pn q.1, z8 q.2.1, z8 q.2.2.1, z8 q.2.2.2⟩)), (kF y11 (fun q => ⟨pn q.1, z8 q.2.1, z8 q.2.2.1, z8 q.2.2.2.1, z8 q.2.2.2.2.1, (kU q.2.2.2.2.2 (fun q => q))⟩)), (kF y12 (fun q => ⟨pn q.1, z8 q.2.1, z8 q.2.2.1, z8 q.2.2.2.1, z8 q.2.2.2.2.1, z8 q.2.2.2.2.2.1, z8 q.2.2.2.2.2.2.1, z8 q.2.2.2.2.2.2.2.1, z8 q.2.2.2.2.2.2.2.2.1, z8 q.2.2.2.2.2.2.2.2.2.1, z8 q.2.2.2.2.2.2.2.2.2.2.1, q.2.2.2.2.2.2.2.2.2.2.2⟩)), (kN y13 (fun q => q.2.2.1) hi), (kN y14 (fun q => q.2.1) hi), (kU hbw id)⟩
      · obtain rfl := Option.some.inj ho
        refine zD ho rfl (zF 12 rfl (v := .pointer (some ⟨w.heap.size, 1, none⟩)) ?_ ?_)
        · obtain ⟨hcst, hfn⟩ := evc a'; generalize a'.eval = ev at *
          clear hp y0 y1 y2 y3 y4 y5 y6 y7 y8 y9 y10 y11 y12 y13 y14
          go_simp
        · exact ⟨pd hdf, ps hsz, pn x1, pn x2, Ga, ma, ca, Gb, mb, cb, Y, (kE y0), (kF y1 (fun q => ⟨pn q.1, z8 q.2⟩)), (fun _ => pS hsz), (kN y3 (fun q => q.2) hi), (kN y4 (fun q => q.2.1) hi), (kN y5 (fun q => q.2.1) hi), (kN y6 (fun q => q.2.1) hi), (kE y7), (kF y8 (fun q => ⟨pn q.1, z8 q.2⟩)), (kF y9 (fun q => ⟨pn q.1, z8 q.2.1, z8 q.2.2⟩)), (kF y10 (fun q => ⟨pn q.1, z8 q.2.1, z8 q.2.2.1, z8 q.2.2.2⟩)), (kF y11 (fun q => ⟨pn q.1, z8 q.2.1, z8 q.2.2.1, z8 q.2.2.2.1, z8 q.2.2.2.2.1, (kU q.2.2.2.2.2 (fun q => q))⟩)), (kN y12 (fun q => q.2.1) hi), (kN y13 (fun q => q.2.2.2.1) hi), (kN y14 (fun q => q.2.2.1) hi), (kU hbw id)⟩
      · obtain rfl := Option.some.inj ho
        refine zD ho rfl (zF 13 rfl (v := .slice (some ⟨bb, oo, none⟩) 2 c) ?_ ?_)
        · have v2 := hpv hp 2 (by simp)
          have ww2 := (y2 v2)
          have hbw := hbw (nf (by rw [hz]; decide) (fun q => (y14 q).2.2.2.1) hi)
          obtain ⟨e0, e1, e2, e3, e4, e5⟩ := HK.out w' hbw
          obtain ⟨hcst, hfn⟩ := evc a'; generalize a'.eval = ev at *
          clear hp y0 y1 y2 y3 y4 y5 y6 y7 y8 y9 y10 y11 y12 y13 y14
          go_simp
        · have v2 := hpv hp 2 (by simp)
          exact ⟨pd hdf, ps hsz, pn x1, pn x2, Ga, ma, ca, Gb, mb, cb, Y, (kE y0), (kF y1 (fun q => ⟨pn q.1, z8 q.2⟩)), (kE y2), (fun _ => ⟨pS hsz, (z8 v2)⟩), (kN y4 (fun q => q.2.2) hi), (kN y5 (fun q => q.2.2.1) hi), (kN y6 (fun q => q.2.2.1) hi), (kE y7), (kF y8 (fun q => ⟨pn q.1, z8 q.2⟩)), (kF y9 (fun q => ⟨pn q.1, z8 q.2.1, z8 q.2.2⟩)), (kF y10 (fun q => ⟨pn q.1, z8 q.2.1, z8 q.2.2.1, z8 q.2.2.2⟩)), (kF y11 (fun q => ⟨pn q.1, z8 q.2.1, z8 q.2.2.1, z8 q.2.2.2.1, z8 q.2.2.2.2.1, (kU q.2.2.2.2.2 (fun q => q))⟩)), (kN y12 (fun q => q.2.2.1) hi), (kN y13 (fun q => q.2.2.2.2.1) hi), (kN y14 (fun q => q.2.2.2.1) hi), (kU hbw id)⟩
      · obtain rfl := Option.some.inj ho
        refine zD ho rfl (zF 14 rfl (v := .pointer (some ⟨bb, oo, none⟩)) ?_ ?_)
        · have v3 := hpv hp 3 (by simp)
          have ww3 := (y3 v3).1
          obtain ⟨hcst, hfn⟩ := evc a'; generalize a'.eval = ev at *
          clear hp y0 y1 y2 y3 y4 y5 y6 y7 y8 y9 y10 y11 y12 y13 y14
          go_simp
        · have v3 := hpv hp 3 (by simp)
          exact ⟨pd hdf, ps hsz, pn x1, pn x2, Ga, ma, ca, Gb, mb, cb, Y, (kE y0), (kF y1 (fun q => ⟨pn q.1, z8 q.2⟩)), (kE y2), (kF y3 (fun q => ⟨pn q.1, z8 q.2⟩)), (fun _ => ⟨pS hsz, (z8 ((y3 v3).2)), (z8 v3)⟩), (kN y5 (fun q => q.2.2.2) hi), (kN y6 (fun q => q.2.2.2.1) hi), (kE y7), (kF y8 (fun q => ⟨pn q.1, z8 q.2⟩)), (kF y9 (fun q => ⟨pn q.1, z8 q.2.1, z8 q.2.2⟩)), (kF y10 (fun q => ⟨pn q.1, z8 q.2.1, z8 q.2.2.1, z8 q.2.2.2⟩)), (kF y11 (fun q => ⟨pn q.1, z8 q.2.1, z8 q.2.2.1, z8 q.2.2.2.1, z8 q.2.2.2.2.1, (kU q.2.2.2.2.2 (fun q => q))⟩)), (kN y12 (fun q => q.2.2.2.1) hi), (kN y13 (fun q => q.2.2.2.2.2.1) hi), (kN y14 (fun q => q.2.2.2.2.1) hi), (kU hbw id)⟩
      · obtain rfl := Option.some.inj ho
        refine zD ho rfl (zF 15 rfl (v := .agg #[.int .i8 p1, .slice B1 m1 c1]) ?_ ?_)
        · have v4 := hpv hp 4 (by simp)
          have ww4 := (y4 v4).1
          have hbw := hbw (nf (by rw [hz]; decide) (fun q => (y14 q).2.2.2.2.2.1) hi)
          obtain ⟨e0, e1, e2, e3, e4, e5⟩ := HK.out w' hbw
          obtain ⟨hcst, hfn⟩ := evc a'; generalize a'.eval = ev at *
          clear hp y0 y1 y2 y3 y4 y5 y6 y7 y8 y9 y10 y11 y12 y13 y14
          go_simp
        · have v4 := hpv hp 4 (by simp)
          exact ⟨pd hdf, ps hsz, pn x1, pn x2, Ga, ma, ca, Gb, mb, cb, Y, (kE y0), (kF y1 (fun q => ⟨pn q.1, z8 q.2⟩)), (kE y2), (kF y3 (fun q => ⟨pn q.1, z8 q.2⟩)), (kF y4 (fun q => ⟨pn q.1, z8 q.2.1, z8 q.2.2⟩)), (fun _ => ⟨pS hsz, (z8 ((y4 v4).2.1)), (z8 ((y4 v4).2.2)), (z8 v4)⟩), (kN y6 (fun q => q.2.2.2.2.1) hi), (kE y7), (kF y8 (fun q => ⟨pn q.1, z8 q.2⟩)), (kF y9 (fun q => ⟨pn q.1, z8 q.2.1, z8 q.2.2⟩)), (kF y10 (fun q => ⟨pn q.1, z8 q.2.1, z8 q.2.2.1, z8 q.2.2.2⟩)), (kF y11 (fun q => ⟨pn q.1, z8 q.2.1, z8 q.2.2.1, z8 q.2.2.2.1, z8 q.2.2.2.2.1, (kU q.2.2.2.2.2 (fun q => q))⟩)), (kN y12 (fun q => q.2.2.2.2.1) hi), (kN y13 (fun q => q.2.2.2.2.2.2.1) hi), (kN y14 (fun q => q.2.2.2.2.2.1) hi), (kU hbw id)⟩
      · obtain rfl := Option.some.inj ho
        have v5 := hpv hp 5 (by simp)
        have ww5 := (y5 v5).1
        have hbw := hbw (nf (by rw [hz]; decide) (fun q => (y14 q).2.2.2.2.2.2.1) hi)
        refine zD ho rfl (zo 16 rfl (f := 44) (args := #[.agg #[.int .i8 p1, .slice B1 m1 c1]]) ?_ (CC1.out w' hbw) fun e u hg => ?_)
        · obtain ⟨hcst, hfn⟩ := evc a'; generalize a'.eval = ev at *
          clear hp y0 y1 y2 y3 y4 y5 y6 y7 y8 y9 y10 y11 y12 y13 y14
          go_simp
        · obtain ⟨Ga', ma', ca', rfl, hl, hb⟩ := hg
          refine ⟨.agg #[.int .i8 p1, .slice Ga' ma' ca'], rfl, ?_⟩
          have hbs := hbw.size
          have hzz := HZ.out
          have hbs2 := hb.size
          exact ⟨pd hdf, ps hsz, pn x1, pn x2, Ga', ma', ca', Gb, mb, cb, Y, (kE y0), (kF y1 (fun q => ⟨pn q.1, z8 q.2⟩)), (kE y2), (kF y3 (fun q => ⟨pn q.1, z8 q.2⟩)), (kF y4 (fun q => ⟨pn q.1, z8 q.2.1, z8 q.2.2⟩)), (kF y5 (fun q => ⟨pn q.1, z8 q.2.1, z8 q.2.2.1, z8 q.2.2.2⟩)), (fun _ => ⟨pS hsz, (z8 ((y5 v5).2.1)), (z8 ((y5 v5).2.2.1)), (z8 ((y5 v5).2.2.2)), (z8 v5), (fun _ => Ck.Ly.weak (a := (p1, f1)) hl (fun b _ hq => Nat.le_trans hbw.size hq))⟩), (kE y7), (kF y8 (fun q => ⟨pn q.1, z8 q.2⟩)), (kF y9 (fun q => ⟨pn q.1, z8 q.2.1, z8 q.2.2⟩)), (kF y10 (fun q => ⟨pn q.1, z8 q.2.1, z8 q.2.2.1, z8 q.2.2.2⟩)), (kF y11 (fun q => ⟨pn q.1, z8 q.2.1, z8 q.2.2.1, z8 q.2.2.2.1, z8 q.2.2.2.2.1, (kU q.2.2.2.2.2 (fun q => (Ck.Ly.later q hb)))⟩)), (kN y12 (fun q => q.2.2.2.2.2.1) hi), (kN y13 (fun q => q.2.2.2.2.2.2.2.1) hi), (kN y14 (fun q => q.2.2.2.2.2.2.1) hi), (fun _ => hbw.trans (hb.mono hbw.size))⟩
      · obtain rfl := Option.some.inj ho
        refine zD ho rfl (zF 17 rfl (v := .pointer (some ⟨w.heap.size, 1, none⟩)) ?_ ?_)
        · obtain ⟨hcst, hfn⟩ := evc a'; generalize a'.eval = ev at *
          clear hp y0 y1 y2 y3 y4 y5 y6 y7 y8 y9 y10 y11 y12 y13 y14
          go_simp
        · exact ⟨pd hdf, ps hsz, pn x1, pn x2, Ga, ma, ca, Gb, mb, cb, Y, (kE y0), (kF y1 (fun q => ⟨pn q.1, z8 q.2⟩)), (kE y2), (kF y3 (fun q => ⟨pn q.1, z8 q.2⟩)), (kF y4 (fun q => ⟨pn q.1, z8 q.2.1, z8 q.2.2⟩)), (kF y5 (fun q => ⟨pn q.1, z8 q.2.1, z8 q.2.2.1, z8 q.2.2.2⟩)), (kF y6 (fun q => ⟨pn q.1, z8 q.2.1, z8 q.2.2.1, z8 q.2.2.2.1, z8 q.2.2.2.2.1, (kU q.2.2.2.2.2 (fun q => q))⟩)), (fun _ => pS hsz), (kN y8 (fun q => q.2) hi), (kN y9 (fun q => q.2.1) hi), (kN y10 (fun q => q.2.1) hi), (kN y11 (fun q => q.2.1) hi), (kN y12 (fun q => q.2.2.2.2.2.2.1) hi), (kN y13 (fun q => q.2.2.2.2.2.2.2.2.1) hi), (kN y14 (fun q => q.2.2.2.2.2.2.2.1) hi), (kU hbw id)⟩
      · obtain rfl := Option.some.inj ho
        refine zD ho rfl (zF 18 rfl (v := .slice (some ⟨bb, oo, none⟩) 2 c) ?_ ?_)
        · have v7 := hpv hp 7 (by simp)
          have ww7 := (y7 v7)
          have hbw := hbw (nf (by rw [hz]; decide) (fun q => (y14 q).2.2.2.2.2.2.2.2.1) hi)
          obtain ⟨e0, e1, e2, e3, e4, e5⟩ := HK.out w' hbw
          obtain ⟨hcst, hfn⟩ := evc a'; generalize a'.eval = ev at *
          clear hp y0 y1 y2 y3 y4 y5 y6 y7 y8 y9 y10 y11 y12 y13 y14
          go_simp
        · have v7 := hpv hp 7 (by simp)
          exact ⟨pd hdf, ps hsz, pn x1, pn x2, Ga, ma, ca, Gb, mb, cb, Y, (kE y0), (kF y1 (fun q => ⟨pn q.1, z8 q.2⟩)), (kE y2), (kF y3 (fun q => ⟨pn q.1, z8 q.2⟩)), (kF y4 (fun q => ⟨pn q.1, z8 q.2.1, z8 q.2.2⟩)), (kF y5 (fun q => ⟨pn q.1, z8 q.2.1, z8 q.2.2.1, z8 q.2.2.2⟩)), (kF y6 (fun q => ⟨pn q.1, z8 q.2.1, z8 q.2.2.1, z8 q.2.2.2.1, z8 q.2.2.2.2.1, (kU q.2.2.2.2.2 (fun q => q))⟩)), (kE y7), (fun _ => ⟨pS hsz, (z8 v7)⟩), (kN y9 (fun q => q.2.2) hi), (kN y10 (fun q => q.2.2.1) hi), (kN y11 (fun q => q.2.2.1) hi), (kN y12 (fun q => q.2.2.2.2.2.2.2.1) hi), (kN y13 (fun q => q.2.2.2.2.2.2.2.2.2.1) hi), (kN y14 (fun q => q.2.2.2.2.2.2.2.2.1) hi), (kU hbw id)⟩
      · obtain rfl := Option.some.inj ho
        refine zD ho rfl (zF 19 rfl (v := .pointer (some ⟨bb, oo + 2, none⟩)) ?_ ?_)
        · have v8 := hpv hp 8 (by simp)
          have ww8 := (y8 v8).1
          obtain ⟨hcst, hfn⟩ := evc a'; generalize a'.eval = ev at *
          clear hp y0 y1 y2 y3 y4 y5 y6 y7 y8 y9 y10 y11 y12 y13 y14
          go_simp
        · have v8 := hpv hp 8 (by simp)
          exact ⟨pd hdf, ps hsz, pn x1, pn x2, Ga, ma, ca, Gb, mb, cb, Y, (kE y0), (kF y1 (fun q => ⟨pn q.1, z8 q.2⟩)), (kE y2), (kF y3 (fun q => ⟨pn q.1, z8 q.2⟩)), (kF y4 (fun q => ⟨pn q.1, z8 q.2.1, z8 q.2.2⟩)), (kF y5 (fun q => ⟨pn q.1, z8 q.2.1, z8 q.2.2.1, z8 q.2.2.2⟩)), (kF y6 (fun q => ⟨pn q.1, z8 q.2.1, z8 q.2.2.1, z8 q.2.2.2.1, z8 q.2.2.2.2.1, (kU q.2.2.2.2.2 (fun q => q))⟩)), (kE y7), (kF y8 (fun q => ⟨pn q.1, z8 q.2⟩)), (fun _ => ⟨pS hsz, (z8 ((y8 v8).2)), (z8 v8)⟩), (kN y10 (fun q => q.2.2.2) hi), (kN y11 (fun q => q.2.2.2.1) hi), (kN y12 (fun q => q.2.2.2.2.2.2.2.2.1) hi), (kN y13 (fun q => q.2.2.2.2.2.2.2.2.2.2.1) hi), (kN y14 (fun q => q.2.2.2.2.2.2.2.2.2.1) hi), (kU hbw id)⟩
      · obtain rfl := Option.some.inj ho
        refine zD ho rfl (zF 20 rfl (v := .agg #[.int .i8 p2, .slice B2 m2 c2]) ?_ ?_)
        · have v9 := hpv hp 9 (by simp)
          have ww9 := (y9 v9).1
          have hbw := hbw (nf (by rw [hz]; decide) (fun q => (y14 q).2.2.2.2.2.2.2.2.2.2.1) hi)
          obtain ⟨e0, e1, e2, e3, e4, e5⟩ := HK.out w' hbw
          obtain ⟨hcst, hfn⟩ := evc a'; generalize a'.eval = ev at *
          clear hp y0 y1 y2 y3 y4 y5 y6 y7 y8 y9 y10 y11 y12 y13 y14
          go_simp
        · have v9 := hpv hp 9 (by simp)
          exact ⟨pd hdf, ps hsz, pn x1, pn x2, Ga, ma, ca, Gb, mb, cb, Y, (kE y0), (kF y1 (fun q => ⟨pn q.1, z8 q.2⟩)), (kE y2), (kF y3 (fun q => ⟨pn q.1, z8 q.2⟩)), (kF y4 (fun q => ⟨pn q.1, z8 q.2.1, z8 q.2.2⟩)), (kF y5 (fun q => ⟨pn q.1, z8 q.2.1, z8 q.2.2.1, z8 q.2.2.2⟩)), (kF y6 (fun q => ⟨pn q.1, z8 q.2.1, z8 q.2.2.1, z8 q.2.2.2.1, z8 q.2.2.2.2.1, (kU q.2.2.2.2.2 (fun q => q))⟩)), (kE y7), (kF y8 (fun q => ⟨pn q.1, z8 q.2⟩)), (kF y9 (fun q => ⟨pn q.1, z8 q.2.1, z8 q.2.2⟩)), (fun _ => ⟨pS hsz, (z8 ((y9 v9).2.1)), (z8 ((y9 v9).2.2)), (z8 v9)⟩), (kN y11 (fun q => q.2.2.2.2.1) hi), (kN y12 (fun q => q.2.2.2.2.2.2.2.2.2.1) hi), (kN y13 (fun q => q.2.2.2.2.2.2.2.2.2.2.2.1) hi), (kN y14 (fun q => q.2.2.2.2.2.2.2.2.2.2.1) hi), (kU hbw id)⟩
      · obtain rfl := Option.some.inj ho
        have v10 := hpv hp 10 (by simp)
        have ww10 := (y10 v10).1
        have hbw := hbw (nf (by rw [hz]; decide) (fun q => (y14 q).2.2.2.2.2.2.2.2.2.2.2.1) hi)
        refine zD ho rfl (zo 21 rfl (f := 44) (args := #[.agg #[.int .i8 p2, .slice B2 m2 c2]]) ?_ (CC2.out w' hbw) fun e u hg => ?_)
        · obtain ⟨hcst, hfn⟩ := evc a'; generalize a'.eval = ev at *
          clear hp y0 y1 y2 y3 y4 y5 y6 y7 y8 y9 y10 y11 y12 y13 y14
          go_simp
        · obtain ⟨Gb', mb', cb', rfl, hl, hb⟩ := hg
          refine ⟨.agg #[.int .i8 p2, .slice Gb' mb' cb'], rfl, ?_⟩
          have hbs := hbw.size
          have hzz := HZ.out
          have hbs2 := hb.size
          exact ⟨pd hdf, ps hsz, pn x1, pn x2, Ga, ma, ca, Gb', mb', cb', Y, (kE y0), (kF y1 (fun q => ⟨pn q.1, z8 q.2⟩)), (kE y2), (kF y3 (fun q => ⟨pn q.1, z8 q.2⟩)), (kF y4 (fun q => ⟨pn q.1, z8 q.2.1, z8 q.2.2⟩)), (kF y5 (fun q => ⟨pn q.1, z8 q.2.1, z8 q.2.2.1, z8 q.2.2.2⟩)), (kF y6 (fun q => ⟨pn q.1, z8 q.2.1, z8 q.2.2.1, z8 q.2.2.2.1, z8 q.2.2.2.2.1, (kU q.2.2.2.2.2 (fun q => (Ck.Ly.later q hb)))⟩)), (kE y7), (kF y8 (fun q => ⟨pn q.1, z8 q.2⟩)), (kF y9 (fun q => ⟨pn q.1, z8 q.2.1, z8 q.2.2⟩)), (kF y10 (fun q => ⟨pn q.1, z8 q.2.1, z8 q.2.2.1, z8 q.2.2.2⟩)), (fun _ => ⟨pS hsz, (z8 ((y10 v10).2.1)), (z8 ((y10 v10).2.2.1)), (z8 ((y10 v10).2.2.2)), (z8 v10), (fun _ => Ck.Ly.weak (a := (p2, f2)) hl (fun b _ hq => Nat.le_trans hbw.size hq))⟩), (kN y12 (fun q => q.2.2.2.2.2.2.2.2.2.2.1) hi), (kN y13 (fun q => q.2.2.2.2.2.2.2.2.2.2.2.2.1) hi), (kN y14 (fun q => q.2.2.2.2.2.2.2.2.2.2.2.1) hi), (fun _ => hbw.trans (hb.mono hbw.size))⟩
      · obtain rfl := Option.some.inj ho
        refine zD ho rfl (zY 22 rfl (v := .slice (some ⟨w'.heap.size, 0, none⟩) 2 2) (w2 := w'.alloc (.cells #[.int .i8 p1, .slice Ga ma ca, .int .i8 p2, .slice Gb mb cb] 25)) ?_ ?_)
        · have v6 := hpv hp 6 (by simp)
          have ww6 := (y6 v6).1
          have v11 := hpv hp 11 (by simp)
          have ww11 := (y11 v11).1
          obtain ⟨hcst, hfn⟩ := evc a'; generalize a'.eval = ev at *
          clear hp y0 y1 y2 y3 y4 y5 y6 y7 y8 y9 y10 y11 y12 y13 y14
          go_simp
        · have v6 := hpv hp 6 (by simp)
          have v11 := hpv hp 11 (by simp)
          have hbw := hbw (nf (by rw [hz]; decide) (fun q => (y14 q).2.2.2.2.2.2.2.2.2.2.2.2.1) hi)
          have hbs := hbw.size
          have hzz := HZ.out
          have hsa : (w'.alloc (.cells #[.int .i8 p1, .slice Ga ma ca, .int .i8 p2, .slice Gb mb cb] 25)).heap.size = w'.heap.size + 1 := by simp
          have hba : Below w'.heap.size w' (w'.alloc (.cells #[.int .i8 p1, .slice Ga ma ca, .int .i8 p2, .slice Gb mb cb] 25)) := (Below.refl _ _).alloc (Nat.le_refl _) _
          have hnew := zG w' (.cells #[.int .i8 p1, .slice Ga ma ca, .int .i8 p2, .slice Gb mb cb] 25)
          exact ⟨pd hdf, ps hsz, pn x1, pn x2, Ga, ma, ca, Gb, mb, cb, w'.heap.size, (kE y0), (kF y1 (fun q => ⟨pn q.1, z8 q.2⟩)), (kE y2), (kF y3 (fun q => ⟨pn q.1, z8 q.2⟩)), (kF y4 (fun q => ⟨pn q.1, z8 q.2.1, z8 q.2.2⟩)), (kF y5 (fun q => ⟨pn q.1, z8 q.2.1, z8 q.2.2.1, z8 q.2.2.2⟩)), (kF y6 (fun q => ⟨pn q.1, z8 q.2.1, z8 q.2.2.1, z8 q.2.2.2.1, z8 q.2.2.2.2.1, (fun qu => (zQ qu).elim)⟩)), (kE y7), (kF y8 (fun q => ⟨pn q.1, z8 q.2⟩)), (kF y9 (fun q => ⟨pn q.1, z8 q.2.1, z8 q.2.2⟩)), (kF y10 (fun q => ⟨pn q.1, z8 q.2.1, z8 q.2.2.1, z8 q.2.2.2⟩)), (kF y11 (fun q => ⟨pn q.1, z8 q.2.1, z8 q.2.2.1, z8 q.2.2.2.1, z8 q.2.2.2.2.1, (fun qu => (zQ qu).elim)⟩)), (fun _ => ⟨pS hsz, (z8 ((y6 v6).2.1)), (z8 ((y6 v6).2.2.1)), (z8 ((y6 v6).2.2.2.1)), (z8 ((y6 v6).2.2.2.2.1)), (z8 v6), (z8 ((y11 v11).2.1)), (z8 ((y11 v11).2.2.1)), (z8 ((y11 v11).2.2.2.1)), (z8 ((y11 v11).2.2.2.2.1)), (z8 v11), Ck.Ly.two (a := (p1, f1)) (b := (p2, f2)) hnew (show w1.heap.size ≤ w'.heap.size from hbs) ((((y6 v6).2.2.2.2.2) hi).later hba) ((((y11 v11).2.2.2.2.2) hi).later hba) k HKR.out⟩), (kN y13 (fun q => q.2.2.2.2.2.2.2.2.2.2.2.2.2) hi), (kN y14 (fun q => q.2.2.2.2.2.2.2.2.2.2.2.2.1) hi), (fun _ => hbw.alloc hbw.size _)⟩
      · obtain rfl := Option.some.inj ho
        have v1 := hpv hp 1 (by simp)
        have ww1 := (y1 v1).1
        have v12 := hpv hp 12 (by simp)
        have ww12 := (y12 v12).1
        have hbw := hbw (nf (by rw [hz]; decide) (fun q => (y14 q).2.2.2.2.2.2.2.2.2.2.2.2.2.1) hi)
        refine zD ho rfl (zo 23 rfl (f := 81) (args := #[.int .i8 k, .slice (some ⟨Y, 0, none⟩) 2 2]) ?_ (qI k (some ⟨Y, 0, none⟩) 2 2 w') fun e u hg => ?_)
        · obtain ⟨hcst, hfn⟩ := evc a'; generalize a'.eval = ev at *
          clear hp y0 y1 y2 y3 y4 y5 y6 y7 y8 y9 y10 y11 y12 y13 y14
          go_simp
        · obtain ⟨he, hb⟩ := hg
          refine ⟨.agg #[.int .i8 k, .slice (some ⟨Y, 0, none⟩) 2 2], he, ?_⟩
          have hbs := hbw.size
          have hzz := HZ.out
          have hbs2 := hb.size
          exact ⟨pd hdf, ps hsz, pn x1, pn x2, Ga, ma, ca, Gb, mb, cb, Y, (kE y0), (kF y1 (fun q => ⟨pn q.1, z8 q.2⟩)), (kE y2), (kF y3 (fun q => ⟨pn q.1, z8 q.2⟩)), (kF y4 (fun q => ⟨pn q.1, z8 q.2.1, z8 q.2.2⟩)), (kF y5 (fun q => ⟨pn q.1, z8 q.2.1, z8 q.2.2.1, z8 q.2.2.2⟩)), (kF y6 (fun q => ⟨pn q.1, z8 q.2.1, z8 q.2.2.1, z8 q.2.2.2.1, z8 q.2.2.2.2.1, (kU q.2.2.2.2.2 (fun q => (Ck.Ly.later q hb)))⟩)), (kE y7), (kF y8 (fun q => ⟨pn q.1, z8 q.2⟩)), (kF y9 (fun q => ⟨pn q.1, z8 q.2.1, z8 q.2.2⟩)), (kF y10 (fun q => ⟨pn q.1, z8 q.2.1, z8 q.2.2.1, z8 q.2.2.2⟩)), (kF y11 (fun q => ⟨pn q.1, z8 q.2.1, z8 q.2.2.1, z8 q.2.2.2.1, z8 q.2.2.2.2.1, (kU q.2.2.2.2.2 (fun q => (Ck.Ly.later q hb)))⟩)), (kF y12 (fun q => ⟨pn q.1, z8 q.2.1, z8 q.2.2.1, z8 q.2.2.2.1, z8 q.2.2.2.2.1, z8 q.2.2.2.2.2.1, z8 q.2.2.2.2.2.2.1, z8 q.2.2.2.2.2.2.2.1, z8 q.2.2.2.2.2.2.2.2.1, z8 q.2.2.2.2.2.2.2.2.2.1, z8 q.2.2.2.2.2.2.2.2.2.2.1, (Ck.Ly.later q.2.2.2.2.2.2.2.2.2.2.2 hb)⟩)), (fun _ => ⟨pS hsz, (z8 ((y1 v1).2)), (z8 v1), (z8 ((y12 v12).2.1)), (z8 ((y12 v12).2.2.1)), (z8 ((y12 v12).2.2.2.1)), (z8 ((y12 v12).2.2.2.2.1)), (z8 ((y12 v12).2.2.2.2.2.1)), (z8 ((y12 v12).2.2.2.2.2.2.1)), (z8 ((y12 v12).2.2.2.2.2.2.2.1)), (z8 ((y12 v12).2.2.2.2.2.2.2.2.1)), (z8 ((y12 v12).2.2.2.2.2.2.2.2.2.1)), (z8 ((y12 v12).2.2.2.2.2.2.2.2.2.2.1)), (z8 v12)⟩), (kN y14 (fun q => q.2.2.2.2.2.2.2.2.2.2.2.2.2.1) hi), (fun _ => hbw.trans (hb.mono hbw.size))⟩
      · obtain rfl := Option.some.inj ho
        have v13 := hpv hp 13 (by simp)
        have ww13 := (y13 v13).1
        have hbw := hbw hi
        have hbox := zA hbw (zC H2.out) H2.out
        obtain ⟨bc0, bc1, bf0, bf1, -⟩ := zM hbox
        refine zD ho rfl (zi rfl (w2 := (w'.setCell ⟨w.heap.size + 1, 0, none⟩ (.int .i8 k)).setCell ⟨w.heap.size + 1, 1, none⟩ (.slice (some ⟨Y, 0, none⟩) 2 2)) ?_ ?_)
        · obtain ⟨hcst, hfn⟩ := evc a'; generalize a'.eval = ev at *
          clear hp y0 y1 y2 y3 y4 y5 y6 y7 y8 y9 y10 y11 y12 y13 y14
          go_simp
        · have hsa : ((w'.setCell ⟨w.heap.size + 1, 0, none⟩ (.int .i8 k)).setCell ⟨w.heap.size + 1, 1, none⟩ (.slice (some ⟨Y, 0, none⟩) 2 2)).heap.size = w'.heap.size := by simp
          have hbs := hbw.size
          have hzz := HZ.out
          exact ⟨hdf, hsz, x1, x2, Ga, ma, ca, Gb, mb, cb, Y, (kF y0 id), (kF y1 (fun q => ⟨q.1, z8 q.2⟩)), (kF y2 id), (kF y3 (fun q => ⟨q.1, z8 q.2⟩)), (kF y4 (fun q => ⟨q.1, z8 q.2.1, z8 q.2.2⟩)), (kF y5 (fun q => ⟨q.1, z8 q.2.1, z8 q.2.2.1, z8 q.2.2.2⟩)), (kF y6 (fun q => ⟨q.1, z8 q.2.1, z8 q.2.2.1, z8 q.2.2.2.1, z8 q.2.2.2.2.1, (kT ((y13 v13).2.2.2.2.2.2.2.2.2.2.2.2.2))⟩)), (kF y7 id), (kF y8 (fun q => ⟨q.1, z8 q.2⟩)), (kF y9 (fun q => ⟨q.1, z8 q.2.1, z8 q.2.2⟩)), (kF y10 (fun q => ⟨q.1, z8 q.2.1, z8 q.2.2.1, z8 q.2.2.2⟩)), (kF y11 (fun q => ⟨q.1, z8 q.2.1, z8 q.2.2.1, z8 q.2.2.2.1, z8 q.2.2.2.2.1, (kT ((y13 v13).2.2.2.2.2.2.2.2.2.2.2.2.2))⟩)), (kF y12 (fun q => ⟨q.1, z8 q.2.1, z8 q.2.2.1, z8 q.2.2.2.1, z8 q.2.2.2.2.1, z8 q.2.2.2.2.2.1, z8 q.2.2.2.2.2.2.1, z8 q.2.2.2.2.2.2.2.1, z8 q.2.2.2.2.2.2.2.2.1, z8 q.2.2.2.2.2.2.2.2.2.1, z8 q.2.2.2.2.2.2.2.2.2.2.1, (Ck.Ly.set2 q.2.2.2.2.2.2.2.2.2.2.2 (fun b hq => by have h1 : w1.heap.size ≤ b := hq; omega) _ _)⟩)), (kF y13 (fun q => ⟨q.1, z8 q.2.1, z8 q.2.2.1, z8 q.2.2.2.1, z8 q.2.2.2.2.1, z8 q.2.2.2.2.2.1, z8 q.2.2.2.2.2.2.1, z8 q.2.2.2.2.2.2.2.1, z8 q.2.2.2.2.2.2.2.2.1, z8 q.2.2.2.2.2.2.2.2.2.1, z8 q.2.2.2.2.2.2.2.2.2.2.1, z8 q.2.2.2.2.2.2.2.2.2.2.2.1, z8 q.2.2.2.2.2.2.2.2.2.2.2.2.1, z8 q.2.2.2.2.2.2.2.2.2.2.2.2.2⟩)), (fun _ => ⟨(z8 ((y13 v13).2.1)), (z8 ((y13 v13).2.2.1)), (z8 ((y13 v13).2.2.2.1)), (z8 ((y13 v13).2.2.2.2.1)), (z8 ((y13 v13).2.2.2.2.2.1)), (z8 ((y13 v13).2.2.2.2.2.2.1)), (z8 ((y13 v13).2.2.2.2.2.2.2.1)), (z8 ((y13 v13).2.2.2.2.2.2.2.2.1)), (z8 ((y13 v13).2.2.2.2.2.2.2.2.2.1)), (z8 ((y13 v13).2.2.2.2.2.2.2.2.2.2.1)), (z8 ((y13 v13).2.2.2.2.2.2.2.2.2.2.2.1)), (z8 ((y13 v13).2.2.2.2.2.2.2.2.2.2.2.2.1)), (z8 ((y13 v13).2.2.2.2.2.2.2.2.2.2.2.2.2)), (z8 v13), zP hbox _ _, zL (hfrom.out w' hbw) (by omega) _ _⟩), (fun qu => (zQ qu).elim)⟩
    · rintro listed u w' t ht hu ⟨-, -, -, -, Ga, ma, ca, Gb, mb, cb, Y, y0, y1, y2, y3, y4, y5, y6, y7, y8, y9, y10, y11, y12, y13, y14, hbw⟩ hall
      have v12 := hall 12 (by decide)
      have v14 := hall 14 (by decide)
      have HBX := Lib.hid ((y14 v14).2.2.2.2.2.2.2.2.2.2.2.2.2.2.2)
      have hl := ((y12 v12).2.2.2.2.2.2.2.2.2.2.2)
      have hx := ((y14 v14).2.2.2.2.2.2.2.2.2.2.2.2.2.2.1)
      clear y0 y1 y2 y3 y4 y5 y6 y7 y8 y9 y10 y11 y12 y13 y14 v12 v14 hall hu
      clear hbw
      simp only [over, List.setIfInBounds_toArray, List.set_cons_succ, List.set_cons_zero] at ht
      subst ht
      obtain ⟨k0, k1', -, -, -⟩ := zM hx
      have hz := HZ.out
      go_wp2_with fail
      refine ⟨rfl, .agg #[.int .i8 k, .slice (some ⟨Y, 0, none⟩) 2 2], by simp [results, Tryz.results44, go_sem, k0, k1'], ?_⟩
      exact ⟨some ⟨Y, 0, none⟩, 2, 2, rfl, Ty.Is.zDq (hl.weak (fun b _ hq => by have h1 : w1.heap.size ≤ b := hq; show w.heap.size ≤ b; omega)), HBX.out⟩

end Go.Proofs.YtjpohjcnjanoaaaGreatDoor
