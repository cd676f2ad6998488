/-
  P2.1 to P2.4, R10: what the package tells of a type. The law's walk, but for the copy.
-/
import Derived.Test.YtccobmjakmjekaaDoorLawSame
import Derived.Test.YtccobmjakmjekaaDoorLow
import Derived.Test.YtccobmjakmjekaaDoorRefText
import Derived.Test.YtccobmjakmjekaaDoorRefGround
import Derived.Test.YtccobmjakmjekaaDoorSpoil
import Derived.Test.YtccobmjakmjekaaDoorLike
import Derived.Test.YtccobmjakmjekaaDoorCounted
namespace Go.Proofs.YtccobmjakmjekaaDoor
open Go.RowKit

theorem Ty.eqT_self (k : Int) (kids : Fo) : Ty.eqT k kids k kids = true := by unfold Ty.eqT; rw [Ty.eqF_refl]; simp
/-- what a copy is -/
def CopyPost (w : World) (k : Int) (kids : Fo) (e : Ending) (w' : World) : Prop :=
  ∃ G m c, e = .returned (.agg #[.int .i8 k, .slice G m c]) ∧ Ty.Is w' k kids G m c ∧ Below w.heap.size w w'
/-- a ground, by names -/
def GPost (w : World) (gk : Int) (gs : Fo) (FB : Bool) (e : Ending) (w' : World) : Prop :=
  ∃ G m c, e = .returned (.tuple #[.agg #[.int .i8 gk, .slice G m c], .bool FB]) ∧ Ty.Is w' gk gs G m c ∧
    (G = none ∨ ∃ g, G = some ⟨g, 0, none⟩ ∧ w.heap.size ≤ g ∧ m = 2 ∧ w'.heap[g]? = some (.cells #[.int .i8 0, .slice none 0 0, .int .i8 0, .slice none 0 0] 25 (0, 0))) ∧ Below w.heap.size w w'
theorem gpost {w : World} {k : Int} {kids : Fo} {gk : Int} {gs : Fo} {FB : Bool} (h1 : Ty.gK k kids = gk) (h2 : Ty.gKids k kids = gs) (h3 : Ty.gOk k kids = FB) : GroundPost w k kids = GPost w gk gs FB := by
  subst h1; subst h2; subst h3; rfl
/-- a ground is spoilt -/
theorem spoil_ground {w wg : World} {gk : Int} {gs : Fo} {G : Option Addr} {m c : Nat} (n0 : Nat) (hI : Ty.Is wg gk gs G m c)
    (h : G = none ∨ ∃ g, G = some ⟨g, 0, none⟩ ∧ n0 ≤ g ∧ m = 2 ∧ wg.heap[g]? = some (.cells #[.int .i8 0, .slice none 0 0, .int .i8 0, .slice none 0 0] 25 (0, 0))) (hb : Below wg.heap.size wg w) (hn : n0 ≤ w.heap.size) :
    Calls Tryd.prog 21 #[.agg #[.int .i8 gk, .slice G m c]] w fun e w' => e = .returned (.tuple #[]) ∧ Below n0 w w' := by
  rcases h with rfl | ⟨g, rfl, h1, rfl, h2⟩
  · have hm : m = 0 := by
      have h1 := hI.n_eq
      have h2 := hI.lies
      cases gs with
      | nil => simpa [Ty.len] using h1
      | node _ _ _ _ _ => obtain ⟨_, _, _, _, h, _⟩ := h2; cases h
    subst hm
    exact (spoil_none gk c w).mono fun e w' ⟨he, hb⟩ => ⟨he, hb.mono hn⟩
  · exact spoil_two gk g c n0 0 0 w (heap_below hb (heap_lt h2) h2) h1

set_option maxHeartbeats 8000000 in
set_option maxRecDepth 100000 in
theorem law_TypesTells_of (hcopy : ∀ (k : Int) (kids : Fo) (A : Option Addr) (n c : Nat) (w : World), Ty.Is w k kids A n c → Ty.nodes kids + 1 ≤ 32768 → Calls Tryd.prog 20 #[.agg #[.int .i8 k, .slice A n c]] w (CopyPost w k kids))
    (k : Int) (kids : Fo) (A : Option Addr) (n c : Nat) (w : World) (hIs : Ty.Is w k kids A n c) (hS : Shapes w) :
    Calls Tryd.prog 3 #[.agg #[.int .i8 k, .slice A n c]] w fun e w' => e = .returned (.bool true) ∧ Below w.heap.size w w' := by
  have hB0 := (Below.refl w.heap.size w).alloc (Nat.le_refl _) (.cells #[.int .i8 k, .slice A n c] 25)
  have hX1 := heap_new w (.cells #[.int .i8 k, .slice A n c] 25)
  obtain ⟨gk, hgk⟩ : ∃ x, Ty.gK k kids = x := ⟨_, rfl⟩
  obtain ⟨gs, hgs⟩ : ∃ x, Ty.gKids k kids = x := ⟨_, rfl⟩
  obtain ⟨FB, hFB⟩ : ∃ x, Ty.gOk k kids = x := ⟨_, rfl⟩
  obtain ⟨TX, hTX⟩ : ∃ x, Ty.textT k kids = x := ⟨_, rfl⟩
  obtain ⟨C, hC⟩ : ∃ x : Int, ((Ty.chk k kids : Nat) : Int) = x := ⟨_, rfl⟩
  have cG := fun (kk : Int) (kks : Fo) (B : Option Addr) (m d : Nat) (W : World) (hI : Ty.Is W kk kks B m d) (hb : Below w.heap.size w W) => ground_any kk kks B m d W hI (hS.below hb)
  have CG := Lib.hid (fun (B : Option Addr) (m d : Nat) (W : World) (hI : Ty.Is W k kids B m d) (hb : Below w.heap.size w W) => (show Calls _ _ _ W (GPost W gk gs FB) from gpost hgk hgs hFB ▸ cG k kids B m d W hI hb))
  have CRG := Lib.hid (fun (W : World) (hb : Below w.heap.size w W) => (show Calls Tryd.prog 7 #[.agg #[.int .i8 k, .slice A n c]] W (GPost W gk gs FB) from gpost hgk hgs hFB ▸ ref_ground k kids A n c W (hIs.below hb)))
  have CT := Lib.hid (fun (B : Option Addr) (m d : Nat) (W : World) (hI : Ty.Is W k kids B m d) (hb : Below w.heap.size w W) => text_any k kids B m d W hI (hS.below hb))
  have CRT := Lib.hid (fun (W : World) (hb : Below w.heap.size w W) => ref_text k kids A n c W (hIs.below hb))
  have C1 := Lib.hid (fun (W : World) (hb : Below w.heap.size w W) => check_any k kids A n c W (hIs.below hb) (hS.below hb))
  have C2 := Lib.hid (fun (W : World) (hb : Below w.heap.size w W) => ref_check k kids A n c W (hIs.below hb))
  have C3 := Lib.hid (fun (W : World) (hb : Below w.heap.size w W) => nodes_any k kids A n c W (hIs.below hb))
  have C4 := Lib.hid (fun (W : World) (hb : Below w.heap.size w W) => ref_nodes k kids A n c W (hIs.below hb))
  have C5 := Lib.hid (fun (W : World) (hb : Below w.heap.size w W) => depth_any k kids A n c W (hIs.below hb))
  have C6 := Lib.hid (fun (W : World) (hb : Below w.heap.size w W) => ref_depth k kids A n c W (hIs.below hb))
  have C7 := Lib.hid (fun (W : World) (hb : Below w.heap.size w W) => known_fn k kids A n c W (hIs.below hb) (hS.below hb))
  have C8 := Lib.hid (fun (W : World) (hb : Below w.heap.size w W) => ref_known k kids A n c W (hIs.below hb))
  have CSm := Lib.hid (fun (W : World) (hb : Below w.heap.size w W) => small_any k kids A n c W (hIs.below hb))
  have CW := Lib.hid (fun (W : World) (hb : Below w.heap.size w W) => wakes_any W (hS.below hb))
  have HIs := Lib.hid (fun (W : World) (hb : Below w.heap.size w W) => hIs.below hb)
  rw [hTX, hC] at CT CRT
  rw [hC] at C1 C2
  have HCP := Lib.hid hcopy
  have HX1 := Lib.hid hX1
  have HB0 := Lib.hid hB0
  obtain ⟨b0, b1, _, _, hl1⟩ := own2 hX1
  clear cG hgk hgs hFB hTX hC hIs hS hX1 hcopy hB0
  go_enter Tryd.func3, Tryd.ntmps3
  go_wp2_with fail
  refine (CG.out A n c _ (HIs.out _ HB0.out) HB0.out).mono ?_
  rintro e w2 ⟨G, m, cg, rfl, hIg, -, hb⟩
  have HB2 := Lib.hid (HB0.out.trans (hb.mono HB0.out.size))
  have HX2 := Lib.hid (heap_below hb (heap_lt HX1.out) HX1.out)
  have HG2 := Lib.hid hIg
  obtain ⟨b0, b1, _, _, hl1⟩ := own2 HX2.out
  clear hIg hb HB0 HX1
  go_wp2_with fail
  have hb3 := (Below.refl w2.heap.size w2).alloc (Nat.le_refl _) (.cells #[.int .i8 gk, .slice G m cg] 25)
  have HB3 := Lib.hid (HB2.out.trans (hb3.mono HB2.out.size))
  have HX3 := Lib.hid (heap_old HX2.out (.cells #[.int .i8 gk, .slice G m cg] 25))
  have HY3 := Lib.hid (heap_new w2 (.cells #[.int .i8 gk, .slice G m cg] 25))
  have HG3 := Lib.hid (HG2.out.alloc (.cells #[.int .i8 gk, .slice G m cg] 25))
  refine (CRG.out _ HB3.out).mono ?_
  rintro e w4 ⟨H, mh, ch, rfl, hIh, -, hb⟩
  have HB4 := Lib.hid (HB3.out.trans (hb.mono HB3.out.size))
  have HX4 := Lib.hid (heap_below hb (heap_lt HX3.out) HX3.out)
  have HY4 := Lib.hid (heap_below hb (heap_lt HY3.out) HY3.out)
  have HG4 := Lib.hid (HG3.out.below hb)
  have HH4 := Lib.hid hIh
  clear hb hb3 hIh b0 b1 HX2 HX3 HY3 HB2 HB3 HG2 HG3
  obtain ⟨b0, b1, _, _, hl1⟩ := own2 HX4.out
  obtain ⟨c0, c1, _, _, hl3⟩ := own2 HY4.out
  go_wp2_with fail
  have hb5 := (Below.refl w4.heap.size w4).alloc (Nat.le_refl _) (.cells #[.int .i8 gk, .slice H mh ch] 25)
  have HB5 := Lib.hid (HB4.out.trans (hb5.mono HB4.out.size))
  have HX5 := Lib.hid (heap_old HX4.out (.cells #[.int .i8 gk, .slice H mh ch] 25))
  have HY5 := Lib.hid (heap_old HY4.out (.cells #[.int .i8 gk, .slice H mh ch] 25))
  have HZ5 := Lib.hid (heap_new w4 (.cells #[.int .i8 gk, .slice H mh ch] 25))
  have HG5 := Lib.hid (HG4.out.alloc (.cells #[.int .i8 gk, .slice H mh ch] 25))
  have HH5 := Lib.hid (HH4.out.alloc (.cells #[.int .i8 gk, .slice H mh ch] 25))
  refine (CT.out A n c _ (HIs.out _ HB5.out) HB5.out).mono ?_
  rintro e w6 ⟨rfl, hb⟩
  have HB6 := Lib.hid (HB5.out.trans (hb.mono HB5.out.size))
  have HX6 := Lib.hid (heap_below hb (heap_lt HX5.out) HX5.out)
  have HY6 := Lib.hid (heap_below hb (heap_lt HY5.out) HY5.out)
  have HZ6 := Lib.hid (heap_below hb (heap_lt HZ5.out) HZ5.out)
  have HG6 := Lib.hid (HG5.out.below hb)
  have HH6 := Lib.hid (HH5.out.below hb)
  clear hb hb5 b0 b1 c0 c1 HX4 HY4 HB4 HG4 HH4 HX5 HY5 HZ5 HG5 HH5 HB5
  obtain ⟨b0, b1, _, _, hl1⟩ := own2 HX6.out
  go_wp2_with fail
  refine (CRT.out _ HB6.out).mono ?_
  rintro e w7 ⟨rfl, hb⟩
  have HB7 := Lib.hid (HB6.out.trans (hb.mono HB6.out.size))
  have HX7 := Lib.hid (heap_below hb (heap_lt HX6.out) HX6.out)
  have HY7 := Lib.hid (heap_below hb (heap_lt HY6.out) HY6.out)
  have HZ7 := Lib.hid (heap_below hb (heap_lt HZ6.out) HZ6.out)
  have HG7 := Lib.hid (HG6.out.below hb)
  have HH7 := Lib.hid (HH6.out.below hb)
  clear hb b0 b1 HX6 HY6 HZ6 HG6 HH6 HB6
  obtain ⟨b0, b1, _, _, hl1⟩ := own2 HX7.out
  generalize hq1 : ((Ty.nod kids : Nat) : Int) = N1 at *
  generalize hq2 : ((Ty.dpt kids : Nat) : Int) = N2 at *
  generalize hq3 : Ty.knownT k kids = N3 at *
  clear hq1 hq2 hq3
  have D1 := Lib.hid (fun (u : World) (hE : Below w7.heap.size w7 u) => C1.out u (HB7.out.trans (hE.mono HB7.out.size)))
  have D2 := Lib.hid (fun (u : World) (hE : Below w7.heap.size w7 u) => C2.out u (HB7.out.trans (hE.mono HB7.out.size)))
  have D3 := Lib.hid (fun (u : World) (hE : Below w7.heap.size w7 u) => C3.out u (HB7.out.trans (hE.mono HB7.out.size)))
  have D4 := Lib.hid (fun (u : World) (hE : Below w7.heap.size w7 u) => C4.out u (HB7.out.trans (hE.mono HB7.out.size)))
  have D5 := Lib.hid (fun (u : World) (hE : Below w7.heap.size w7 u) => C5.out u (HB7.out.trans (hE.mono HB7.out.size)))
  have D6 := Lib.hid (fun (u : World) (hE : Below w7.heap.size w7 u) => C6.out u (HB7.out.trans (hE.mono HB7.out.size)))
  have D7 := Lib.hid (fun (u : World) (hE : Below w7.heap.size w7 u) => C7.out u (HB7.out.trans (hE.mono HB7.out.size)))
  have D8 := Lib.hid (fun (u : World) (hE : Below w7.heap.size w7 u) => C8.out u (HB7.out.trans (hE.mono HB7.out.size)))
  clear C1 C2 C3 C4 C5 C6 C7 C8 CRG CRT
  go_upto_region 5 with fail
  have Y0 := later_cell b0
  have Y1 := later_cell b1
  clear b0 b1
  refine wp_region_low (by kernel_rfl) (by kernel_rfl) ?_
  repeat
    first
      | go_big_quiet_skip
      | (go_big_quiet_want
         go_big_quiet_op
         first
           | go_big_quiet_on
           | (refine ⟨_, fun _ => rfl, ?_⟩
              go_big_quiet_on)
           | (apply Exists.intro
              refine ⟨fun h => ?_, ?_⟩
              · first
                  | (go_at_call 10; with_reducible exact call_low h (D1.out h.u h.low))
                  | (go_at_call 11; with_reducible exact call_low h (D2.out h.u h.low))
                  | (go_at_call 12; with_reducible exact call_low h (D3.out h.u h.low))
                  | (go_at_call 13; with_reducible exact call_low h (D4.out h.u h.low))
                  | (go_at_call 14; with_reducible exact call_low h (D5.out h.u h.low))
                  | (go_at_call 15; with_reducible exact call_low h (D6.out h.u h.low))
                  | (go_at_call 16; with_reducible exact call_low h (D7.out h.u h.low))
                  | (go_at_call 17; with_reducible exact call_low h (D8.out h.u h.low))
              go_big_quiet_on))
  refine wpQuiet_nil ?_
  rintro _ ⟨⟨w8, E⟩, rfl⟩
  have HB8 := Lib.hid (HB7.out.trans (E.mono HB7.out.size))
  have HX8 := Lib.hid (heap_below E (heap_lt HX7.out) HX7.out)
  have HY8 := Lib.hid (heap_below E (heap_lt HY7.out) HY7.out)
  have HZ8 := Lib.hid (heap_below E (heap_lt HZ7.out) HZ7.out)
  have HG8 := Lib.hid (HG7.out.below E)
  have HH8 := Lib.hid (HH7.out.below E)
  clear E Y0 Y1 HX7 HY7 HZ7 HG7 HH7 HB7 D1 D2 D3 D4 D5 D6 D7 D8
  obtain ⟨b0, b1, _, _, hl1⟩ := own2 HX8.out
  obtain ⟨c0, c1, _, _, hl3⟩ := own2 HY8.out
  obtain ⟨d0, d1, _, _, hl5⟩ := own2 HZ8.out
  have hFF : (FB != FB) = false := by cases FB <;> rfl
  go_wp2_with fail
  refine (like_any (Ty.nodes gs + 1) gk gs G m cg gk gs H mh ch _ (by omega) HG8.out HH8.out).mono ?_
  rw [Ty.eqT_self]
  rintro e w9 ⟨rfl, hb⟩
  have HB9 := Lib.hid (HB8.out.trans (hb.mono HB8.out.size))
  have HX9 := Lib.hid (heap_below hb (heap_lt HX8.out) HX8.out)
  have HZ9 := Lib.hid (heap_below hb (heap_lt HZ8.out) HZ8.out)
  have HH9 := Lib.hid (HH8.out.below hb)
  clear hb b0 b1 c0 c1 d0 d1 HX8 HY8 HZ8 HG8 HH8 HB8
  obtain ⟨b0, b1, _, _, hl1⟩ := own2 HX9.out
  go_wp2_with fail
  refine (CSm.out _ HB9.out).mono ?_
  rintro e w10 ⟨rfl, hb⟩
  have HB10 := Lib.hid (HB9.out.trans (hb.mono HB9.out.size))
  have HX10 := Lib.hid (heap_below hb (heap_lt HX9.out) HX9.out)
  have HZ10 := Lib.hid (heap_below hb (heap_lt HZ9.out) HZ9.out)
  have HH10 := Lib.hid (HH9.out.below hb)
  clear hb b0 b1 HX9 HZ9 HH9 HB9 CSm
  obtain ⟨b0, b1, _, _, hl1⟩ := own2 HX10.out
  by_cases hsm : Ty.nodes kids + 1 ≤ 32768
  · rw [show decide (Ty.nodes kids + 1 ≤ 32768) = true from decide_eq_true hsm]
    have HCC := Lib.hid (HCP.out k kids A n c w10 (HIs.out _ HB10.out) hsm)
    clear hsm HCP
    go_wp2_with fail
    refine HCC.out.mono ?_
    rintro e w11 ⟨M, mm, cm, rfl, hIm, hb⟩
    have HB11 := Lib.hid (HB10.out.trans (hb.mono HB10.out.size))
    have HX11 := Lib.hid (heap_below hb (heap_lt HX10.out) HX10.out)
    have HZ11 := Lib.hid (heap_below hb (heap_lt HZ10.out) HZ10.out)
    have HH11 := Lib.hid (HH10.out.below hb)
    have HM11 := Lib.hid hIm
    clear hb hIm b0 b1 HX10 HZ10 HH10 HB10 HCC
    go_wp2_with fail
    have hb12 := (Below.refl w11.heap.size w11).alloc (Nat.le_refl _) (.cells #[.int .i8 k, .slice M mm cm] 25)
    have HB12 := Lib.hid (HB11.out.trans (hb12.mono HB11.out.size))
    have HX12 := Lib.hid (heap_old HX11.out (.cells #[.int .i8 k, .slice M mm cm] 25))
    have HZ12 := Lib.hid (heap_old HZ11.out (.cells #[.int .i8 k, .slice M mm cm] 25))
    have HV12 := Lib.hid (heap_new w11 (.cells #[.int .i8 k, .slice M mm cm] 25))
    have HH12 := Lib.hid (HH11.out.alloc (.cells #[.int .i8 k, .slice M mm cm] 25))
    have HM12 := Lib.hid (HM11.out.alloc (.cells #[.int .i8 k, .slice M mm cm] 25))
    refine (CT.out M mm cm _ HM12.out HB12.out).mono ?_
    rintro e w13 ⟨rfl, hb⟩
    have HB13 := Lib.hid (HB12.out.trans (hb.mono HB12.out.size))
    have HX13 := Lib.hid (heap_below hb (heap_lt HX12.out) HX12.out)
    have HZ13 := Lib.hid (heap_below hb (heap_lt HZ12.out) HZ12.out)
    have HV13 := Lib.hid (heap_below hb (heap_lt HV12.out) HV12.out)
    have HH13 := Lib.hid (HH12.out.below hb)
    have HM13 := Lib.hid (HM12.out.below hb)
    clear hb hb12 HX11 HZ11 HH11 HM11 HB11 HX12 HZ12 HV12 HH12 HM12 HB12 CT
    obtain ⟨v0, v1, _, _, hlv⟩ := own2 HV13.out
    go_wp2_with fail
    refine (CG.out M mm cm _ HM13.out HB13.out).mono ?_
    rintro e w14 ⟨X, mx, cx, rfl, hIx, hsp, hb⟩
    have HV14 := Lib.hid (heap_below hb (heap_lt HV13.out) HV13.out)
    have HQ14 := Lib.hid hb
    have HI14 := Lib.hid hIx
    have HSP := Lib.hid hsp
    clear hb hIx hsp v0 v1
    go_wp2_with fail
    have hb15 := (Below.refl w14.heap.size w14).alloc (Nat.le_refl _) (.cells #[.int .i8 gk, .slice X mx cx] 25)
    have HQ15 := Lib.hid (HQ14.out.trans (hb15.mono HQ14.out.size))
    have HN15 := Lib.hid hb15
    have HS15 := Lib.hid HQ15.out.size
    clear hb15
    refine (spoil_ground w13.heap.size HI14.out HSP.out HN15.out HS15.out).mono ?_
    rintro e w16 ⟨rfl, hb⟩
    have hb16 := HQ15.out.trans hb
    have HB16 := Lib.hid (HB13.out.trans (hb16.mono HB13.out.size))
    have HX16 := Lib.hid (heap_below hb16 (heap_lt HX13.out) HX13.out)
    have HZ16 := Lib.hid (heap_below hb16 (heap_lt HZ13.out) HZ13.out)
    have HV16 := Lib.hid (heap_below hb16 (heap_lt HV13.out) HV13.out)
    have HH16 := Lib.hid (HH13.out.below hb16)
    have HM16 := Lib.hid (HM13.out.below hb16)
    clear hb hb16 HX13 HZ13 HV13 HH13 HM13 HB13 HV14 HQ14 HI14 HSP HQ15 HN15 HS15
    obtain ⟨v0, v1, _, _, hlv⟩ := own2 HV16.out
    go_wp2_with fail
    refine (CG.out M mm cm _ HM16.out HB16.out).mono ?_
    rintro e w17 ⟨Y, my, cy, rfl, hIy, -, hb⟩
    have HB17 := Lib.hid (HB16.out.trans (hb.mono HB16.out.size))
    have HX17 := Lib.hid (heap_below hb (heap_lt HX16.out) HX16.out)
    have HZ17 := Lib.hid (heap_below hb (heap_lt HZ16.out) HZ16.out)
    have HV17 := Lib.hid (heap_below hb (heap_lt HV16.out) HV16.out)
    have HH17 := Lib.hid (HH16.out.below hb)
    have HM17 := Lib.hid (HM16.out.below hb)
    have HY17 := Lib.hid hIy
    clear hb hIy v0 v1 HX16 HZ16 HV16 HH16 HM16 HB16
    obtain ⟨v0, v1, _, _, hlv⟩ := own2 HV17.out
    obtain ⟨b0, b1, _, _, hl1⟩ := own2 HX17.out
    go_wp2_with fail
    have hb18 := (Below.refl w17.heap.size w17).alloc (Nat.le_refl _) (.cells #[.int .i8 gk, .slice Y my cy] 25)
    have HB18 := Lib.hid (HB17.out.trans (hb18.mono HB17.out.size))
    have HZ18 := Lib.hid (heap_old HZ17.out (.cells #[.int .i8 gk, .slice Y my cy] 25))
    have HU18 := Lib.hid (heap_new w17 (.cells #[.int .i8 gk, .slice Y my cy] 25))
    have HH18 := Lib.hid (HH17.out.alloc (.cells #[.int .i8 gk, .slice Y my cy] 25))
    have HM18 := Lib.hid (HM17.out.alloc (.cells #[.int .i8 gk, .slice Y my cy] 25))
    have HY18 := Lib.hid (HY17.out.alloc (.cells #[.int .i8 gk, .slice Y my cy] 25))
    clear hb18 HZ17 HH17 HM17 HY17 HX17 HV17 HB17
    refine (like_any (Ty.nodes kids + 1) k kids M mm cm k kids A n c _ (by omega) HM18.out (HIs.out _ HB18.out)).mono ?_
    rw [Ty.eqT_self]
    rintro e w19 ⟨rfl, hb⟩
    have HB19 := Lib.hid (HB18.out.trans (hb.mono HB18.out.size))
    have hZ19 := heap_below hb (heap_lt HZ18.out) HZ18.out
    have hU19 := heap_below hb (heap_lt HU18.out) HU18.out
    have HH19 := Lib.hid (HH18.out.below hb)
    have HY19 := Lib.hid (HY18.out.below hb)
    obtain ⟨d0, d1, _, _, hld⟩ := own2 hZ19
    obtain ⟨u0, u1, _, _, hlu⟩ := own2 hU19
    clear hb hZ19 hU19 v0 v1 b0 b1 HZ18 HU18 HH18 HY18 HM18 HB18
    go_wp2_with fail
    refine (like_any (Ty.nodes gs + 1) gk gs Y my cy gk gs H mh ch _ (by omega) HY19.out HH19.out).mono ?_
    rw [Ty.eqT_self]
    rintro e w20 ⟨rfl, hb⟩
    have HB20 := Lib.hid (HB19.out.trans (hb.mono HB19.out.size))
    clear hb d0 d1 u0 u1
    go_wp2_with fail
    refine (CW.out _ HB20.out).mono ?_
    rintro e w21 ⟨rfl, hb⟩
    have HB21 := Lib.hid (HB20.out.trans (hb.mono HB20.out.size))
    go_wp2_with fail
    go_ret
    exact ⟨rfl, HB21.out⟩
  · rw [show decide (Ty.nodes kids + 1 ≤ 32768) = false from decide_eq_false hsm]
    clear hsm
    go_wp2_with fail
    refine (CW.out _ HB10.out).mono ?_
    rintro e w21 ⟨rfl, hb⟩
    have HB21 := Lib.hid (HB10.out.trans (hb.mono HB10.out.size))
    go_wp2_with fail
    go_ret
    exact ⟨rfl, HB21.out⟩
end Go.Proofs.YtccobmjakmjekaaDoor
