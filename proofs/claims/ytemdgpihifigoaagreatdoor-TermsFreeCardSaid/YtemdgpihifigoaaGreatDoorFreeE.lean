/-
  The reference's free: kid by kid; all ways. The reference's Free: its sort by exchanges; the law's Names.
-/
import Derived.Test.YtemdgpihifigoaaGreatDoorFreeRec
import Derived.Test.YtemdgpihifigoaaGreatDoorFreeLC
import Derived.Test.YtemdgpihifigoaaGreatDoorTmRight
import Derived.Test.YtemdgpihifigoaaGreatDoorFreeC
import Derived.Deep.QuietTactic
namespace Go.Proofs.YtemdgpihifigoaaGreatDoor
open Go.RowKit Go.Maps

/-- a round's state -/
structure FRel (base : Nat) (w0 w : World) (X : Obj) (h : Hd) (kids : Tm) (PA : Option Addr) (n : Nat) (A LA : Option Addr) (bd l : List (List UInt8)) (wr : World) (i : Nat) (rest : Tm) (LB : Option Addr) (lb : Nat) (l' : List (List UInt8)) : Prop where
  i_eq : i + Tm.len rest = n
  lies : Tm.Lies w0 rest PA i
  ok : Tm.okF rest = true
  fs : FS base w.heap.size w X A bd LA wr LB lb l'
  fr : Tm.frG rest h i bd l' = Tm.frG kids h 0 bd l
  len : l'.length + Tm.nodes rest ≤ l.length + Tm.nodes kids
  sub : Tm.nodes rest ≤ Tm.nodes kids

set_option maxHeartbeats 8000000 in
set_option maxRecDepth 100000 in
theorem free_all (h : Hd) (kids : Tm) (p : Pl) (w0 w : World) (bd l : List (List UInt8)) (A LA : Option Addr) (c lc : Nat) (hk : h.kind ≠ 0 ∧ h.kind ≠ 4 ∧ h.kind ≠ 5 ∧ h.kind ≠ 7 ∧ h.kind ≠ 14) (hb0 : Below w0.heap.size w0 w) (hL : Tm.Lies w0 kids p.A 0) (hpn : p.n = Tm.len kids) (hpc : p.n ≤ maxLen) (hok : Tm.okF kids = true)
    (hcall : ∀ (g : Hd) (kk : Tm) (q : Pl) (W : World) (A' LA' : Option Addr) (c' lc' : Nat) (l' : List (List UInt8)), Tm.nodes kk < Tm.nodes kids → Tm.Is w0 g kk q → Tm.okT g kk = true → Below w0.heap.size w0 W → BR W A' bd LA' → LR w0.heap.size W LA' lc' l' → l'.length + Tm.nodes kk ≤ 500000 →
      Calls Tryz.prog 27 #[.agg #[.int .i8 g.kind, .string g.name, .string g.arg, .int .i64 g.num, .int .i8 g.tk, .slice q.TA q.tn q.tc, .int .i8 g.uk, .slice q.UA q.un q.uc, .int .i64 g.label, .int .i64 g.pos, .slice q.A q.n q.c], .slice A' bd.length c', .slice LA' l'.length lc'] W (FrPost w0.heap.size LA' (Tm.frT g kk bd l') W))
    (hBR : BR w A bd LA) (hLR : LR w0.heap.size w LA lc l) (hn2 : l.length + Tm.nodes kids ≤ 500000) :
    Calls Tryz.prog 27 #[.agg #[.int .i8 h.kind, .string h.name, .string h.arg, .int .i64 h.num, .int .i8 h.tk, .slice p.TA p.tn p.tc, .int .i8 h.uk, .slice p.UA p.un p.uc, .int .i64 h.label, .int .i64 h.pos, .slice p.A p.n p.c], .slice A bd.length c, .slice LA l.length lc] w (FrPost w0.heap.size LA (Tm.frT h kids bd l) w) := by
  have hfr : Tm.frT h kids bd l = Tm.frG kids h 0 bd l := by unfold Tm.frT; rw [if_neg hk.1]
  have hbi : ∀ i, Tm.binds h i = [] := fun i => by unfold Tm.binds; rw [if_neg (by omega), if_neg (by omega), if_neg (by omega)]
  have x0 : (h.kind == 0) = false := by simp; omega
  have x4 : (h.kind == 4) = false := by simp; omega
  have x5 : (h.kind == 5) = false := by simp; omega
  have x7 : (h.kind == 7) = false := by simp; omega
  have x14 : (h.kind == 14) = false := by simp; omega
  have hbase := hb0.size
  have i5 : (p.n : Int) ≤ 9223372036854775807 := by unfold maxLen at hpc; omega
  have HS0 := Lib.hid (FS.start (.cells #[.int .i8 h.kind, .string h.name, .string h.arg, .int .i64 h.num, .int .i8 h.tk, .slice p.TA p.tn p.tc, .int .i8 h.uk, .slice p.UA p.un p.uc, .int .i64 h.label, .int .i64 h.pos, .slice p.A p.n p.c] 28) hbase hBR hLR)
  have HL := Lib.hid hL
  have HPN := Lib.hid hpn
  have HOK := Lib.hid hok
  have HC := Lib.hid hcall
  have HBI := Lib.hid hbi
  have HB0 := Lib.hid hb0
  have HBS := Lib.hid hbase
  have HN2 := Lib.hid hn2
  rw [hfr]
  clear hfr hbi hk hLR hBR hL hpn hpc hok hcall hb0 hbase hn2
  generalize p.A = PA at *
  generalize p.n = n at *
  generalize hw1 : w.alloc (.cells _ 28) = w1 at *
  have HW := Lib.hid hw1
  clear hw1
  obtain ⟨a0, a1, a2, a3, a4, a5, a6, a7, a8, a9, a10, al⟩ := own11 HS0.out.box
  go_enter Tryz.func27, Tryz.ntmps27
  go_upto_region 1 with fail
  rw [HW.out]
  go_wp2_with fail
  go_loopw [2, 7] (fun v2 v7 wr => ∃ (i : Nat) (rest : Tm) (LB : Option Addr) (lb : Nat) (l' : List (List UInt8)), v7 = .int .i64 i ∧ v2 = .slice LB l'.length lb ∧ FRel w0.heap.size w0 w (.cells #[.int .i8 h.kind, .string h.name, .string h.arg, .int .i64 h.num, .int .i8 h.tk, .slice p.TA p.tn p.tc, .int .i8 h.uk, .slice p.UA p.un p.uc, .int .i64 h.label, .int .i64 h.pos, .slice PA n p.c] 28) h kids PA n A LA bd l wr i rest LB lb l') (fun _ v _ => n - (intOf v).toNat)
  case atStart => exact ⟨0, kids, LA, lc, l, rfl, rfl, ⟨by have := HPN.out; omega, HL.out, HOK.out, HS0.out, rfl, Nat.le_refl _, Nat.le_refl _⟩⟩
  case round =>
    obtain ⟨i, rest, LB, lb, l', rfl, rfl, hR⟩ := hrel
    clear a0 a1 a2 a3 a4 a5 a6 a7 a8 a9 a10 al
    obtain ⟨a0, a1, a2, a3, a4, a5, a6, a7, a8, a9, a10, al⟩ := own11 hR.fs.box
    cases rest with
    | nil =>
      have hi : i = n := by have := hR.i_eq; simpa [Tm.len] using this
      have hfin : FrPost w0.heap.size LA (Tm.frG kids h 0 bd l) w (.returned (.slice LB l'.length lb)) wr := by
        have e1 := hR.fr
        simp only [Tm.frG] at e1
        rw [← e1]; exact hR.fs.post
      have HF := Lib.hid hfin
      clear hfin hR
      subst hi
      go_wp2_with fail
      go_ret
      exact HF.out
    | node g kk r =>
      have q1 := hR.i_eq
      have q2 := hR.lies
      have q3 := hR.ok
      have q4 := hR.len
      have q5 := hR.sub
      simp only [Tm.len, Tm.nodes, Tm.okF, Bool.and_eq_true] at q1 q3 q4 q5
      obtain ⟨bb, oo, q, hA, hcs, hfit, hl3, hl4⟩ := q2
      have hbw := HB0.out.trans hR.fs.low
      have hcs' : ∀ j v, (g.cells q)[j]? = some v → wr.cell? ⟨bb, oo + i * 11 + j, none⟩ = some v := fun j v hv => by
        have := hcs j v hv
        rw [hbw.cell (p := ⟨bb, _, none⟩) (Ty.cell_lt this)]; exact this
      have hokk : Tm.okT g kk = true := by unfold Tm.okT; rw [Bool.and_eq_true]; exact q3.1
      have hcall := HC.out g kk q wr A LB c lb l' (by omega) ⟨hfit, hl3⟩ hokk hbw hR.fs.br hR.fs.lr (by have := HN2.out; omega)
      obtain ⟨c0, c1, c2, c3, c4, c5, c6, c7, c8, c9, c10⟩ := Tm.row hcs'
      have j1 : (i : Int) < n := by omega
      have j2 : (0 : Int) ≤ i ∧ (i : Int) < n := by omega
      have HR := Lib.hid hR
      have HCL := Lib.hid hcall
      have HL4 := Lib.hid hl4
      clear hR hcall hcs hcs' hfit hl3 hl4 hbw hokk q3
      obtain rfl := hA
      go_wp2_with fail
      refine HCL.out.mono ?_
      rintro e u ⟨LC, lc2, rfl, hL2, hg2, hu2⟩
      have hR2 : Hid (FRel w0.heap.size w0 w (.cells #[.int .i8 h.kind, .string h.name, .string h.arg, .int .i64 h.num, .int .i8 h.tk, .slice p.TA p.tn p.tc, .int .i8 h.uk, .slice p.UA p.un p.uc, .int .i64 h.label, .int .i64 h.pos, .slice (some ⟨bb, oo, none⟩) n p.c] 28) h kids (some ⟨bb, oo, none⟩) n A LA bd l u (i + 1) r LC lc2 (Tm.frT g kk bd l')) := by
        have h1 := HR.out
        have hln := Tm.frT_len g kk bd l'
        refine Lib.hid ⟨by omega, HL4.out, ?_, h1.fs.next HBS.out hL2 hg2 hu2, ?_, by omega, by omega⟩
        · have := h1.ok; simp only [Tm.okF, Bool.and_eq_true] at this; exact this.2
        · have := h1.fr
          rw [Tm.frG_node, HBI.out i, List.append_nil] at this
          exact this
      clear hL2 hg2 hu2 a0 a1 a2 a3 a4 a5 a6 a7 a8 a9 a10 al c0 c1 c2 c3 c4 c5 c6 c7 c8 c9 c10
      go_wp2_with fail
      go_roundw
      case rel => exact ⟨i + 1, r, _, _, _, by go_num, rfl, hR2.out⟩
      case measure => simp [intOf]; omega

theorem ok_len {h : Hd} {kids : Tm} (hok : Tm.okT h kids = true) : Tm.len kids = Tm.kidsN h.kind := by
  unfold Tm.okT Tm.headOk at hok
  simp only [Bool.and_eq_true, decide_eq_true_eq] at hok
  exact hok.1.1.1.1.2
theorem len_one {f : Tm} (h : Tm.len f = 1) : ∃ g k, f = .node g k .nil := by
  match f, h with
  | .node g k .nil, _ => exact ⟨g, k, rfl⟩
  | .node _ _ (.node _ _ _), h => simp [Tm.len] at h
theorem len_two {f : Tm} (h : Tm.len f = 2) : ∃ g k g1 k1, f = .node g k (.node g1 k1 .nil) := by
  match f, h with
  | .node g k r, h => obtain ⟨g1, k1, rfl⟩ := len_one (f := r) (by simp only [Tm.len] at h; omega); exact ⟨g, k, g1, k1, rfl⟩
theorem len_three {f : Tm} (h : Tm.len f = 3) : ∃ g k g1 k1 g2 k2, f = .node g k (.node g1 k1 (.node g2 k2 .nil)) := by
  match f, h with
  | .node g k r, h => obtain ⟨g1, k1, g2, k2, rfl⟩ := len_two (f := r) (by simp only [Tm.len] at h; omega); exact ⟨g, k, g1, k1, g2, k2, rfl⟩

set_option maxHeartbeats 1000000 in
theorem tref_free (K : Nat) : ∀ (h : Hd) (kids : Tm) (p : Pl) (w0 w : World) (bd l : List (List UInt8)) (A LA : Option Addr) (c lc : Nat), Tm.nodes kids < K → Tm.Is w0 h kids p → Tm.okT h kids = true → Below w0.heap.size w0 w → BR w A bd LA → LR w0.heap.size w LA lc l → bd.length + 2 * Tm.nodes kids ≤ 500000 → l.length + Tm.nodes kids ≤ 500000 →
    Calls Tryz.prog 27 #[.agg #[.int .i8 h.kind, .string h.name, .string h.arg, .int .i64 h.num, .int .i8 h.tk, .slice p.TA p.tn p.tc, .int .i8 h.uk, .slice p.UA p.un p.uc, .int .i64 h.label, .int .i64 h.pos, .slice p.A p.n p.c], .slice A bd.length c, .slice LA l.length lc] w (FrPost w0.heap.size LA (Tm.frT h kids bd l) w) := by
  induction K with
  | zero => intro _ _ _ _ _ _ _ _ _ _ _ hK; omega
  | succ K ih =>
    intro h kids p w0 w bd l A LA c lc hK hIs hok hb0 hBR hLR hn1 hn2
    have hlen := ok_len hok
    have hpn := hIs.fit.n_eq
    have hkid : ∀ (g : Hd) (kk : Tm) (q : Pl) (bb oo : Nat), Tm.nodes kk < K → (∀ j v, (g.cells q)[j]? = some v → w0.cell? ⟨bb, oo + j, none⟩ = some v) → Tm.Is w0 g kk q → Tm.okT g kk = true → KidAt w0.heap.size w g kk q bb oo := fun g kk q bb oo h1 h2 h3 h4 =>
      ⟨fun j v hv => by have := h2 j v hv; rw [hb0.cell (p := ⟨bb, oo + j, none⟩) (Ty.cell_lt this)]; exact this, Ty.cell_lt (h2 0 _ rfl), fun W A LA c lc bd l hb hB hL hx hy => ih g kk q w0 W bd l A LA c lc h1 h3 h4 (hb0.trans hb) hB hL hx hy⟩
    have hokF : Tm.okF kids = true := by unfold Tm.okT at hok; rw [Bool.and_eq_true] at hok; exact hok.2
    by_cases h0 : h.kind = 0
    · exact free_var h kids p w bd l A LA c lc _ h0 hb0.size hBR hLR (by omega) (by omega)
    by_cases h4 : h.kind = 4
    · rw [h4] at hlen
      obtain ⟨g, kk, rfl⟩ := len_one (hlen.trans (by decide))
      obtain ⟨bb, oo, q, hA, hcs, hfit, hl3, -⟩ := hIs.lies
      simp only [Tm.nodes, Tm.okF, Bool.and_eq_true, Tm.len] at hK hn1 hn2 hokF hpn
      exact free_lam h g kk p q w bd l A LA c lc _ bb oo h4 hb0.size hA hpn (hkid g kk q bb oo (by omega) (fun j v hv => by have := hcs j v hv; simpa using this) ⟨hfit, hl3⟩ (by unfold Tm.okT; rw [Bool.and_eq_true]; exact hokF.1)) hBR hLR (by omega) (by omega)
    by_cases h5 : h.kind = 5
    · rw [h5] at hlen
      obtain ⟨g, kk, rfl⟩ := len_one (hlen.trans (by decide))
      obtain ⟨bb, oo, q, hA, hcs, hfit, hl3, -⟩ := hIs.lies
      simp only [Tm.nodes, Tm.okF, Bool.and_eq_true, Tm.len] at hK hn1 hn2 hokF hpn
      exact free_rec h g kk p q w bd l A LA c lc _ bb oo h5 hb0.size hA hpn (hkid g kk q bb oo (by omega) (fun j v hv => by have := hcs j v hv; simpa using this) ⟨hfit, hl3⟩ (by unfold Tm.okT; rw [Bool.and_eq_true]; exact hokF.1)) hBR hLR (by omega) (by omega)
    by_cases h7 : h.kind = 7
    · rw [h7] at hlen
      obtain ⟨g, kk, g1, k1, rfl⟩ := len_two (hlen.trans (by decide))
      obtain ⟨bb, oo, q, hA, hcs, hfit, hl3, bb1, oo1, q1, hA1, hcs1, hfit1, hl31, -⟩ := hIs.lies
      rw [hA] at hA1; injection hA1 with hA1; injection hA1 with e1 e2; subst e1; subst e2
      simp only [Tm.nodes, Tm.okF, Bool.and_eq_true, Tm.len] at hK hn1 hn2 hokF hpn
      exact free_let h g g1 kk k1 p q q1 w bd l A LA c lc _ bb oo h7 hb0.size hA hpn (hkid g kk q bb oo (by omega) (fun j v hv => by have := hcs j v hv; simpa using this) ⟨hfit, hl3⟩ (by unfold Tm.okT; rw [Bool.and_eq_true]; exact hokF.1))
        (hkid g1 k1 q1 bb (oo + 11) (by omega) (fun j v hv => by have := hcs1 j v hv; simpa using this) ⟨hfit1, hl31⟩ (by unfold Tm.okT; rw [Bool.and_eq_true]; exact hokF.2.1)) hBR hLR (by omega) (by omega)
    by_cases h14 : h.kind = 14
    · rw [h14] at hlen
      obtain ⟨g, kk, g1, k1, g2, k2, rfl⟩ := len_three (hlen.trans (by decide))
      obtain ⟨bb, oo, q, hA, hcs, hfit, hl3, bb1, oo1, q1, hA1, hcs1, hfit1, hl31, bb2, oo2, q2, hA2, hcs2, hfit2, hl32, -⟩ := hIs.lies
      rw [hA] at hA1 hA2; injection hA1 with hA1; injection hA1 with e1 e2; subst e1; subst e2
      injection hA2 with hA2; injection hA2 with e1 e2; subst e1; subst e2
      simp only [Tm.nodes, Tm.okF, Bool.and_eq_true, Tm.len] at hK hn1 hn2 hokF hpn
      exact free_case h g g1 g2 kk k1 k2 p q q1 q2 w bd l A LA c lc _ bb oo h14 hb0.size hA hpn (hkid g kk q bb oo (by omega) (fun j v hv => by have := hcs j v hv; simpa using this) ⟨hfit, hl3⟩ (by unfold Tm.okT; rw [Bool.and_eq_true]; exact hokF.1))
        (hkid g1 k1 q1 bb (oo + 11) (by omega) (fun j v hv => by have := hcs1 j v hv; simpa using this) ⟨hfit1, hl31⟩ (by unfold Tm.okT; rw [Bool.and_eq_true]; exact hokF.2.1))
        (hkid g2 k2 q2 bb (oo + 22) (by omega) (fun j v hv => by have := hcs2 j v hv; simpa using this) ⟨hfit2, hl32⟩ (by unfold Tm.okT; rw [Bool.and_eq_true]; exact hokF.2.2.1)) hBR hLR (by omega) (by omega)
    · exact free_all h kids p w0 w bd l A LA c lc ⟨h0, h4, h5, h7, h14⟩ hb0 hIs.lies hpn (Nat.le_trans hIs.fit.n_le hIs.fit.c_le) hokF
        (fun g kk q W A' LA' c' lc' l' h1 h2 h3 h4 h5 h6 h7 => ih g kk q w0 W bd l' A' LA' c' lc' (by omega) h2 h3 h4 h5 h6 (by omega) h7) hBR hLR hn2
end Go.Proofs.YtemdgpihifigoaaGreatDoor
namespace Go.Proofs.YtemdgpihifigoaaGreatDoor
open Go.RowKit Go.Maps

theorem LR.set {base : Nat} {w : World} {g lc : Nat} {l : List (List UInt8)} (h : LR base w (some ⟨g, 0, none⟩) lc l) (j : Nat) (x : List UInt8) : LR base (w.setCell ⟨g, j, none⟩ (encStr x)) (some ⟨g, 0, none⟩) lc (l.set j x) := by
  unfold LR at h ⊢
  obtain ⟨h0, hh⟩ := h
  refine ⟨by simp, ?_⟩
  rcases hh with ⟨hv, hn⟩ | ⟨g', cap, cur, hv, hb, hgg, h1, h2, h3, h4⟩
  · cases hv
  · right
    injection hv with e1 e2 e3
    injection e1 with e1; injection e1 with e1
    subst e1; subst e3
    refine ⟨g, lc, cur.setIfInBounds j (encStr x), by simp, hb, ?_, by simpa using h1, h2, by simpa using h3, ?_⟩
    · simp [World.setCell, Array.getElem?_modify, hgg]
    · simp only [Nat.mul_one, Array.toList_setIfInBounds, List.length_set, List.map_set] at h4 ⊢
      rw [List.take_set, h4]
theorem less_bytes (x y : ByteArray) : Op.bytesLess x.toList y.toList = decide (Tm.nm x < Tm.nm y) := by
  rw [bytesLess_eq, Lib.toList_data, Lib.toList_data]
  rfl

/-- the state of the sort -/
structure SR (base : Nat) (w0 : World) (LA : Option Addr) (lc n : Nat) (L : List (List UInt8)) (wr : World) (i j : Nat) (l : List (List UInt8)) : Prop where
  lr : LR base wr LA lc l
  perm : l.Perm L
  sof : Sof l i j
  len : l.length = n
  below : Below base w0 wr
theorem SR.cell {base : Nat} {w0 : World} {LA : Option Addr} {lc n : Nat} {L : List (List UInt8)} {wr : World} {i j : Nat} {l : List (List UInt8)} (h : SR base w0 LA lc n L wr i j l) {k : Nat} (hk : k < n) : ∃ g, LA = some ⟨g, 0, none⟩ ∧ base ≤ g ∧ wr.cell? ⟨g, k, none⟩ = some (encStr (l.getD k [])) ∧ wr.frozen? ⟨g, k, none⟩ = false := by
  have hl := h.len
  obtain ⟨g, cap, e, hb, -, -, -, hr⟩ := row_reads h.lr (by omega)
  injection e with e1
  refine ⟨g, e1, hb, hr k _ ?_, ?_⟩
  · rw [List.getElem?_map, List.getD_eq_getElem?_getD, List.getElem?_eq_getElem (by omega)]; rfl
  · have h2 := h.lr
    unfold LR at h2
    rcases h2.2 with ⟨hv, _⟩ | ⟨g', cap', cur, hv, _, hgg, _⟩
    · rw [e1] at hv; cases hv
    · rw [e1] at hv; injection hv with hv; injection hv with hv; injection hv with hv
      subst hv
      simp [World.frozen?, hgg]

set_option maxHeartbeats 8000000 in
set_option maxRecDepth 100000 in
theorem tref_Free (h : Hd) (kids : Tm) (p : Pl) (w : World) (hIs : Tm.Is w h kids p) :
    Calls Tryz.prog 9 #[.agg #[.int .i8 h.kind, .string h.name, .string h.arg, .int .i64 h.num, .int .i8 h.tk, .slice p.TA p.tn p.tc, .int .i8 h.uk, .slice p.UA p.un p.uc, .int .i64 h.label, .int .i64 h.pos, .slice p.A p.n p.c]] w (FreePost w (Tm.frS h kids)) := by
  have hB0 : Below w.heap.size w (w.alloc (.cells #[.int .i8 h.kind, .string h.name, .string h.arg, .int .i64 h.num, .int .i8 h.tk, .slice p.TA p.tn p.tc, .int .i8 h.uk, .slice p.UA p.un p.uc, .int .i64 h.label, .int .i64 h.pos, .slice p.A p.n p.c] 28)) := (Below.refl _ _).alloc (Nat.le_refl _) _
  have HX := Lib.hid (heap_new w (.cells #[.int .i8 h.kind, .string h.name, .string h.arg, .int .i64 h.num, .int .i8 h.tk, .slice p.TA p.tn p.tc, .int .i8 h.uk, .slice p.UA p.un p.uc, .int .i64 h.label, .int .i64 h.pos, .slice p.A p.n p.c] 28))
  have HM := Lib.hid (fun (W : World) (hb : Below w.heap.size w W) => tref_check h kids p W (hIs.below hb))
  by_cases h0 : Tm.chk h kids = 0
  · have hxs : Tm.frS h kids = (Tm.frT h kids [] []).mergeSort leB := by unfold Tm.frS; rw [if_pos h0]
    obtain ⟨hok, hnd, -⟩ := Tm.chk_ok h0
    have hnn : Tm.nodes kids + 1 ≤ 8192 := by unfold Tm.nd at hnd; omega
    have HF := Lib.hid (fun (W : World) (hb : Below w.heap.size w W) => tref_free (Tm.nodes kids + 1) h kids p w W [] [] none none 0 0 (by omega) hIs hok hb ⟨brow_nil _ _, fun h => absurd rfl h⟩ (World.ownsRow_nil _ _ _ _) (by simp; omega) (by simp; omega))
    have hln := Tm.frT_len h kids [] []
    rw [hxs]
    rw [h0] at HM
    clear h0 hxs hok hnd hIs
    generalize Tm.frT h kids [] [] = L at *
    have i5 : (L.length : Int) ≤ 9000 := by simp at hln; omega
    have HB0 := Lib.hid hB0
    clear hB0 hln
    obtain ⟨a0, a1, a2, a3, a4, a5, a6, a7, a8, a9, a10, al1⟩ := own11 HX.out
    go_enter Tryz.func9, Tryz.ntmps9
    go_wp2_with fail
    refine (HM.out _ HB0.out).mono ?_
    rintro e w3 ⟨rfl, hb⟩
    have HB3 := Lib.hid (HB0.out.trans (hb.mono HB0.out.size))
    have HX3 := Lib.hid (heap_below hb (by simp) HX.out)
    clear hb a0 a1 a2 a3 a4 a5 a6 a7 a8 a9 a10 al1
    obtain ⟨a0, a1, a2, a3, a4, a5, a6, a7, a8, a9, a10, al1⟩ := own11 HX3.out
    go_wp2_with fail
    refine (HF.out _ HB3.out).mono ?_
    rintro e w4 ⟨LA, lc, rfl, hL, hg, hu⟩
    have hSR : SR w.heap.size w LA lc L.length L w4 1 1 L := ⟨hL, List.Perm.refl _, Sof.start _, rfl, HB3.out.grown hg HB3.out.size (fun k hk => by cases hk)⟩
    have HS := Lib.hid hSR
    obtain ⟨n, hn⟩ : ∃ n, n = L.length := ⟨_, rfl⟩
    rw [← hn] at HS i5 ⊢
    have HN := Lib.hid hn
    clear hL hg hu hSR a0 a1 a2 a3 a4 a5 a6 a7 a8 a9 a10 al1 hn
    go_wp2_with fail
    go_loopw [4] (fun v4 wr => ∃ (i : Nat) (l : List (List UInt8)), v4 = .int .i64 i ∧ 1 ≤ i ∧ i ≤ n + 1 ∧ SR w.heap.size w LA lc n L wr i i l) (fun v _ => n + 1 - (intOf v).toNat)
    case atStart => exact ⟨1, L, rfl, by omega, by omega, HS.out⟩
    case round =>
      obtain ⟨i, l, rfl, hi1, hi2, hS⟩ := hrel
      clear HS
      by_cases hin : i < n
      · have HS := Lib.hid hS
        have j1 : (i : Int) < n := by omega
        clear hS
        obtain ⟨wo, rfl⟩ : ∃ wo : World, wo = wr := ⟨_, rfl⟩
        go_wp2_with fail
        go_loopw [5] (fun v5 wx => ∃ (j : Nat) (m : List (List UInt8)), v5 = .int .i64 j ∧ j ≤ i ∧ SR w.heap.size w LA lc n L wx i j m) (fun v _ => (intOf v).toNat)
        case atStart => exact ⟨i, l, rfl, Nat.le_refl _, HS.out⟩
        case round =>
          obtain ⟨j, m, rfl, hj, hS⟩ := hrel
          clear HS
          have hexit : (j = 0 ∨ ∃ q, j = q + 1 ∧ ¬ m.getD (q + 1) [] < m.getD q []) → ∀ nq, SR w.heap.size w LA lc n L (wr.drewN nq) (i + 1) (i + 1) m := fun he nq =>
            ⟨ownsRow_below hS.lr (below_drewN (Below.refl _ _) nq), hS.perm, hS.sof.stay he, hS.len, below_drewN hS.below nq⟩
          have HEX := Lib.hid hexit
          clear hexit
          rcases j with _ | q
          · have hz : decide ((0 : Int) < ((0 : Nat) : Int)) = false := by decide
            clear hS
            go_wp2_with fail
            go_quiet (fail)
            go_wp2_with fail
            have HE := Lib.hid (HEX.out (by simp) nq)
            go_roundw
            case rel => exact ⟨i + 1, m, by go_num, by omega, by omega, HE.out⟩
            case measure => simp [intOf]; omega
          · obtain ⟨g, hA, hg, c1, f1⟩ := hS.cell (k := q + 1) (by omega)
            obtain ⟨g2, hA2, -, c2, f2⟩ := hS.cell (k := q) (by omega)
            rw [hA] at hA2
            injection hA2 with hA2; injection hA2 with hA2
            subst hA2
            obtain ⟨s1, hs1, hn1⟩ := enc_of (m.getD (q + 1) [])
            obtain ⟨s2, hs2, hn2⟩ := enc_of (m.getD q [])
            have hls := less_bytes s1 s2
            rw [hn1, hn2] at hls
            rw [hs1] at c1
            rw [hs2] at c2
            have j2 : (0 : Int) < (q : Int) + 1 := by omega
            have j3 : (q : Int) + 1 < n ∧ (q : Int) < n := by omega
            have hcast : ((q + 1 : Nat) : Int) = (q : Int) + 1 := by omega
            rw [hcast]
            clear hcast
            by_cases hlt : m.getD (q + 1) [] < m.getD q []
            · rw [decide_eq_true hlt] at hls
              have hstep : ∀ nq, SR w.heap.size w (some ⟨g, 0, none⟩) lc n L (((wr.drewN nq).setCell ⟨g, q + 1, none⟩ (.string s2)).setCell ⟨g, q, none⟩ (.string s1)) i q ((m.set (q + 1) (m.getD q [])).set q (m.getD (q + 1) [])) := fun nq => by
                have hl := hS.len
                have h1 := ownsRow_below hS.lr (below_drewN (Below.refl _ _) nq)
                rw [hA] at h1
                refine ⟨?_, (swap_perm m q (by omega)).trans hS.perm, hS.sof.swap (by omega) (by omega) hlt rfl, by simpa using hl, ((below_drewN hS.below nq).setCell hg _).setCell hg _⟩
                have h2 := ((show LR w.heap.size (wr.drewN nq) (some ⟨g, 0, none⟩) lc m from h1).set (q + 1) (m.getD q [])).set q (m.getD (q + 1) [])
                rw [hs1, hs2] at h2
                exact h2
              have HE := Lib.hid hstep
              clear hlt HEX hS hs1 hs2 hn1 hn2 hstep
              obtain rfl := hA
              go_wp2_with fail
              go_quiet (fail)
              go_wp2_with fail
              have HE2 := Lib.hid (HE.out nq)
              clear HE
              go_roundw
              case rel => exact ⟨q, _, by go_num, by omega, HE2.out⟩
              case measure => simp [intOf]
            · rw [decide_eq_false hlt] at hls
              have HE := Lib.hid (HEX.out (.inr ⟨q, rfl, hlt⟩))
              clear hlt HEX hS hs1 hs2 hn1 hn2
              obtain rfl := hA
              go_wp2_with fail
              go_quiet (fail)
              go_wp2_with fail
              have HE2 := Lib.hid (HE.out nq)
              go_roundw
              case rel => exact ⟨i + 1, m, by go_num, by omega, by omega, HE2.out⟩
              case measure => simp [intOf]; omega
      · have hfin : FreePost w (L.mergeSort leB) (.returned (.slice LA n lc)) wr := by
          have e := sorted_is hS.perm hS.sof (by rw [hS.len]; omega)
          refine ⟨_, rfl, ?_, hS.below⟩
          rw [← e]
          have h1 := hS.lr
          have h2 := hS.len
          unfold LR at h1
          rw [h2] at h1 ⊢
          exact h1
        have HFN := Lib.hid hfin
        have j1 : ¬ ((i : Int) < n) := by omega
        clear hS hfin
        go_wp2_with fail
        go_ret
        exact HFN.out
  · have hxs : Tm.frS h kids = [] := by unfold Tm.frS; rw [if_neg h0]
    rw [hxs]
    have hc : (((Tm.chk h kids : Nat) : Int) != 0) = true := by simp; omega
    generalize Tm.chk h kids = C at *
    clear hxs h0
    obtain ⟨a0, a1, a2, a3, a4, a5, a6, a7, a8, a9, a10, al1⟩ := own11 HX.out
    go_enter Tryz.func9, Tryz.ntmps9
    go_wp2_with fail
    refine (HM.out _ hB0).mono ?_
    rintro e w3 ⟨rfl, hb⟩
    go_wp2_with fail
    go_ret
    exact ⟨_, rfl, World.ownsRow_nil _ _ _ _, hB0.trans (hb.mono hB0.size)⟩
end Go.Proofs.YtemdgpihifigoaaGreatDoor
