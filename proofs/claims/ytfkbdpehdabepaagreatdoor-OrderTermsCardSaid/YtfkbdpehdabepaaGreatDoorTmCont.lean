/-
  slices.ContainsFunc over terms; terms.misnamed.
-/
import Derived.Test.YtfkbdpehdabepaaGreatDoorTmFind
namespace Go.Proofs.YtfkbdpehdabepaaGreatDoor
open Go.RowKit

/-- a loop's state over a list of terms -/
structure OverT (w wr : World) (A : Option Addr) (n nk : Nat) (i : Nat) (rest : Tm) : Prop where
  i_eq : i + Tm.len rest = n
  lies : Tm.Lies wr rest A i
  sub : Tm.nodes rest ≤ nk
  below : Below w.heap.size w wr
theorem OverT.step {w wr w2 : World} {A : Option Addr} {n nk i : Nat} {h : Hd} {kids r : Tm} (g : OverT w wr A n nk i (.node h kids r)) (hb : Below wr.heap.size wr w2) (hA : Tm.Lies wr r A (i + 1)) : OverT w w2 A n nk (i + 1) r := by
  obtain ⟨h1, h2, h3, h4⟩ := g
  simp only [Tm.len, Tm.nodes] at h1 h3
  exact ⟨by omega, hA.below hb, by omega, h4.trans (hb.mono h4.size)⟩
theorem OverT.start {w : World} {A : Option Addr} {kids : Tm} {n : Nat} (h : Tm.Lies w kids A 0) (hn : n = Tm.len kids) : OverT w w A n (Tm.nodes kids) 0 kids := ⟨by omega, h, Nat.le_refl _, Below.refl _ _⟩
/-- a row's cells, one by one -/
theorem Tm.row {w : World} {b o : Nat} {h : Hd} {p : Pl} (hcs : ∀ j v, (h.cells p)[j]? = some v → w.cell? ⟨b, o + j, none⟩ = some v) :
    w.cell? ⟨b, o, none⟩ = some (.int .i8 h.kind) ∧ w.cell? ⟨b, o + 1, none⟩ = some (.string h.name) ∧ w.cell? ⟨b, o + 2, none⟩ = some (.string h.arg) ∧ w.cell? ⟨b, o + 3, none⟩ = some (.int .i64 h.num) ∧
    w.cell? ⟨b, o + 4, none⟩ = some (.int .i8 h.tk) ∧ w.cell? ⟨b, o + 5, none⟩ = some (.slice p.TA p.tn p.tc) ∧ w.cell? ⟨b, o + 6, none⟩ = some (.int .i8 h.uk) ∧ w.cell? ⟨b, o + 7, none⟩ = some (.slice p.UA p.un p.uc) ∧
    w.cell? ⟨b, o + 8, none⟩ = some (.int .i64 h.label) ∧ w.cell? ⟨b, o + 9, none⟩ = some (.int .i64 h.pos) ∧ w.cell? ⟨b, o + 10, none⟩ = some (.slice p.A p.n p.c) :=
  ⟨hcs 0 _ rfl, hcs 1 _ rfl, hcs 2 _ rfl, hcs 3 _ rfl, hcs 4 _ rfl, hcs 5 _ rfl, hcs 6 _ rfl, hcs 7 _ rfl, hcs 8 _ rfl, hcs 9 _ rfl, hcs 10 _ rfl⟩

set_option maxHeartbeats 1000000 in
set_option maxRecDepth 100000 in
theorem tm_index_any (f : FuncId) (q : Hd → Tm → Bool) (kids : Tm) (A : Option Addr) (n c : Nat) (w : World) (hL : Tm.Lies w kids A 0) (hn : n = Tm.len kids) (hnc : n ≤ c) (hc : c ≤ maxLen)
    (hcf : ∀ (args : Array Value) (W : World), (callFunc f args).run Tryz.prog W = .ok (.enter f args) W)
    (hf : ∀ (h : Hd) (kids' : Tm) (p : Pl) (W : World), Tm.nodes kids' < Tm.nodes kids → Tm.Is W h kids' p → Below w.heap.size w W → Calls Tryz.prog f #[.agg #[.int .i8 h.kind, .string h.name, .string h.arg, .int .i64 h.num, .int .i8 h.tk, .slice p.TA p.tn p.tc, .int .i8 h.uk, .slice p.UA p.un p.uc, .int .i64 h.label, .int .i64 h.pos, .slice p.A p.n p.c]] W fun e w' => e = .returned (.bool (q h kids')) ∧ Below W.heap.size W w') :
    Calls Tryz.prog 128 #[.slice A n c, .func (Fn.func f) #[] #[]] w fun e w' => e = .returned (.int .i64 (Tm.firstI q kids 0)) ∧ Below w.heap.size w w' := by
  have hst := OverT.start hL hn
  have HF := Lib.hid hf
  have HS := Lib.hid hst
  have i5 : (n : Int) ≤ 9223372036854775807 := by unfold maxLen at hc; omega
  clear hst hn hf hL
  obtain ⟨R, hR⟩ : ∃ R, Tm.firstI q kids 0 = R := ⟨_, rfl⟩
  rw [hR]
  have HR := Lib.hid hR
  clear hR
  go_enter Tryz.func128, Tryz.ntmps128
  go_wp2_with fail
  go_loopw [8] (fun v wr => ∃ (i : Nat) (rest : Tm), v = .int .i64 i ∧ OverT w wr A n (Tm.nodes kids) i rest ∧ Tm.firstI q rest i = R) (fun v _ => n - (intOf v).toNat)
  case atStart => exact ⟨0, kids, rfl, HS.out, HR.out⟩
  case round =>
    obtain ⟨i, rest, rfl, hO, hR⟩ := hrel
    cases rest with
    | nil =>
      have hi : i = n := by have := hO.i_eq; simpa [Tm.len] using this
      have hB := hO.below
      clear hO
      simp only [Tm.firstI] at hR
      subst hi
      subst hR
      go_wp2_with fail
      go_ret
      exact ⟨rfl, hB⟩
    | node h kids' r =>
      have hst := fun w2 hb => OverT.step (w2 := w2) hO hb
      have h1 := hO.i_eq
      have h2 := hO.lies
      have h3 := hO.sub
      have h4 := hO.below
      simp only [Tm.len, Tm.nodes, Tm.firstI] at h1 h3 hR
      obtain ⟨bb, oo, p, rfl, hcs, hfit, hl3, hl4⟩ := h2
      have hcall := HF.out h kids' p wr (by omega) ⟨hfit, hl3⟩ h4
      obtain ⟨c0, c1, c2, c3, c4, c5, c6, c7, c8, c9, c10⟩ := Tm.row hcs
      have HS := Lib.hid hst
      have HL := Lib.hid hl4
      have HRR := Lib.hid hR
      have j1 : (i : Int) < n := by omega
      clear hst hl3 hl4 hO hR hcs hfit
      cases hp : q h kids'
      · have hp0 := HRR.out
        rw [hp, if_neg (by simp)] at hp0
        have HP := Lib.hid hp0
        rw [hp] at hcall
        have HC := Lib.hid hcall
        clear hp hp0 hcall
        go_wp2_with fail
        refine HC.out.mono ?_
        rintro e w2 ⟨rfl, hb⟩
        have hbb := Lib.hid (HS.out w2 hb HL.out)
        clear hb
        go_wp2_with fail
        go_roundw
        case rel => exact ⟨i + 1, r, by go_num, hbb.out, HP.out⟩
        case measure => simp [intOf]; omega
      · have hp0 : R = i := by rw [← HRR.out, hp]; rfl
        rw [hp] at hcall
        have HC := Lib.hid hcall
        clear hp hcall
        subst hp0
        go_wp2_with fail
        refine HC.out.mono ?_
        rintro e w2 ⟨rfl, hb⟩
        go_wp2_with fail
        go_ret
        exact ⟨rfl, h4.trans (hb.mono h4.size)⟩

set_option maxHeartbeats 1000000 in
set_option maxRecDepth 100000 in
theorem tm_contains_any (f : FuncId) (q : Hd → Tm → Bool) (kids : Tm) (A : Option Addr) (n c : Nat) (w : World) (hL : Tm.Lies w kids A 0) (hn : n = Tm.len kids) (hnc : n ≤ c) (hc : c ≤ maxLen)
    (hcf : ∀ (args : Array Value) (W : World), (callFunc f args).run Tryz.prog W = .ok (.enter f args) W)
    (hf : ∀ (h : Hd) (kids' : Tm) (p : Pl) (W : World), Tm.nodes kids' < Tm.nodes kids → Tm.Is W h kids' p → Below w.heap.size w W → Calls Tryz.prog f #[.agg #[.int .i8 h.kind, .string h.name, .string h.arg, .int .i64 h.num, .int .i8 h.tk, .slice p.TA p.tn p.tc, .int .i8 h.uk, .slice p.UA p.un p.uc, .int .i64 h.label, .int .i64 h.pos, .slice p.A p.n p.c]] W fun e w' => e = .returned (.bool (q h kids')) ∧ Below W.heap.size W w') :
    Calls Tryz.prog 90 #[.slice A n c, .func (Fn.func f) #[] #[]] w fun e w' => e = .returned (.bool (Tm.anyF q kids)) ∧ Below w.heap.size w w' := by
  have HI := Lib.hid (tm_index_any f q kids A n c w hL hn hnc hc hcf hf)
  rw [← Tm.firstI_any q kids 0]
  clear hL hn hf hcf
  generalize Tm.firstI q kids 0 = R at *
  go_enter Tryz.func90, Tryz.ntmps90
  go_wp2_with fail
  refine HI.out.mono ?_
  rintro e w2 ⟨rfl, hb⟩
  go_wp2_with fail
  go_ret
  exact ⟨rfl, hb⟩

/-! misnamed -/
set_option maxHeartbeats 2000000 in
set_option maxRecDepth 100000 in
theorem misnamed_any (h : Hd) (p : Pl) (w : World) (n0 : Nat) (hF : Tm.Fit w h p n0) (hG : TGlob w) (b2 b3 b4 b5 : Bool) (kn : Int) :
    Calls Tryz.prog 85 #[.agg #[.int .i8 h.kind, .string h.name, .string h.arg, .int .i64 h.num, .int .i8 h.tk, .slice p.TA p.tn p.tc, .int .i8 h.uk, .slice p.UA p.un p.uc, .int .i64 h.label, .int .i64 h.pos, .slice p.A p.n p.c], .agg #[.bool (Tm.hasName h.kind), .bool (Tm.hasArg h.kind), .bool b2, .bool b3, .bool b4, .bool b5, .int .i64 kn]] w fun e w' => e = .returned (.bool (!Tm.nameOk h)) ∧ Below w.heap.size w w' := by
  have hB0 : Below w.heap.size w ((w.alloc (.cells #[.int .i8 h.kind, .string h.name, .string h.arg, .int .i64 h.num, .int .i8 h.tk, .slice p.TA p.tn p.tc, .int .i8 h.uk, .slice p.UA p.un p.uc, .int .i64 h.label, .int .i64 h.pos, .slice p.A p.n p.c] 28)).alloc (.cells #[.bool (Tm.hasName h.kind), .bool (Tm.hasArg h.kind), .bool b2, .bool b3, .bool b4, .bool b5, .int .i64 kn] 78)) :=
    ((Below.refl _ _).alloc (Nat.le_refl _) _).alloc (by simp) _
  have HN := Lib.hid (fun (W : World) (hb : Below w.heap.size w W) => by
    obtain ⟨tp, q, hv⟩ := (hG.below hb).err
    exact scan_Name_any h.name hF.nm W tp q hv)
  have HA := Lib.hid (fun (W : World) (hb : Below w.heap.size w W) => by
    obtain ⟨tp, q, hv⟩ := (hG.below hb).err
    exact scan_Name_any h.arg hF.ar W tp q hv)
  obtain ⟨r0, r1, r2⟩ := two_new w (.cells #[.int .i8 h.kind, .string h.name, .string h.arg, .int .i64 h.num, .int .i8 h.tk, .slice p.TA p.tn p.tc, .int .i8 h.uk, .slice p.UA p.un p.uc, .int .i64 h.label, .int .i64 h.pos, .slice p.A p.n p.c] 28) (.cells #[.bool (Tm.hasName h.kind), .bool (Tm.hasArg h.kind), .bool b2, .bool b3, .bool b4, .bool b5, .int .i64 kn] 78)
  have R0 := Lib.hid r0
  have R1 := Lib.hid r1
  clear hF hG r0 r1 r2
  by_cases hk : h.kind = 15
  · have e1 : Tm.nameOk h = Tm.isOp h.name := by unfold Tm.nameOk; rw [if_pos hk]
    have HO := Lib.hid (operator_any h.name)
    have hk2 : (h.kind == 15) = true := by rw [hk]; rfl
    rw [e1]
    generalize Tm.isOp h.name = R at *
    clear hk e1
    go_enter Tryz.func85, Tryz.ntmps85
    go_wp2_with fail
    refine (HO.out _).mono ?_
    rintro e w2 ⟨rfl, rfl⟩
    go_wp2_with fail
    go_ret
    exact ⟨rfl, hB0⟩
  · have hk2 : (h.kind == 15) = false := by simpa using hk
    have e1 : Tm.nameOk h = ((!Tm.hasName h.kind || Sc.isName h.name) && (!Tm.hasArg h.kind || Sc.isName h.arg)) := by unfold Tm.nameOk; rw [if_neg hk]
    rw [e1]
    clear hk e1
    generalize Sc.isName h.name = x at *
    generalize Sc.isName h.arg = y at *
    generalize Tm.hasName h.kind = a at *
    generalize Tm.hasArg h.kind = b at *
    have HP := hB0.size
    cases a
    · cases b
      · go_enter Tryz.func85, Tryz.ntmps85
        go_wp2_with fail
        go_ret
        exact ⟨rfl, hB0⟩
      · go_enter Tryz.func85, Tryz.ntmps85
        go_wp2_with fail
        refine (HA.out _ hB0).mono ?_
        rintro e w2 ⟨rfl, hb⟩
        go_wp2_with fail
        go_ret
        exact ⟨rfl, hB0.trans (hb.mono HP)⟩
    · cases x
      · go_enter Tryz.func85, Tryz.ntmps85
        go_wp2_with fail
        refine (HN.out _ hB0).mono ?_
        rintro e w2 ⟨rfl, hb⟩
        go_wp2_with fail
        go_ret
        exact ⟨rfl, hB0.trans (hb.mono HP)⟩
      · cases b
        · go_enter Tryz.func85, Tryz.ntmps85
          go_wp2_with fail
          refine (HN.out _ hB0).mono ?_
          rintro e w2 ⟨rfl, hb⟩
          obtain ⟨s0, s1, s2, s3, s4, s5, s6, sl⟩ := own7 (heap_below hb (by simp) R1.out)
          go_wp2_with fail
          go_ret
          exact ⟨rfl, hB0.trans (hb.mono HP)⟩
        · go_enter Tryz.func85, Tryz.ntmps85
          go_wp2_with fail
          refine (HN.out _ hB0).mono ?_
          rintro e w2 ⟨rfl, hb⟩
          obtain ⟨s0, s1, s2, s3, s4, s5, s6, sl⟩ := own7 (heap_below hb (by simp) R1.out)
          obtain ⟨q0, q1, q2, q3, q4, q5, q6, q7, q8, q9, q10, ql⟩ := own11 (heap_below hb (by simp; omega) R0.out)
          have hB2 := hB0.trans (hb.mono HP)
          clear hb
          go_wp2_with fail
          refine (HA.out _ hB2).mono ?_
          rintro e w3 ⟨rfl, hb⟩
          go_wp2_with fail
          go_ret
          exact ⟨rfl, hB2.trans (hb.mono hB2.size)⟩
end Go.Proofs.YtfkbdpehdabepaaGreatDoor
