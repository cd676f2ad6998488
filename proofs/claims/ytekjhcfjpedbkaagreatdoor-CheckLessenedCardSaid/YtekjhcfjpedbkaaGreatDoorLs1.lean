/-
  Layer 9: the law's lessen.
-/
import Derived.Test.YtekjhcfjpedbkaaGreatDoorM18
import Derived.Test.YtekjhcfjpedbkaaGreatDoorM10
import Derived.Test.YtekjhcfjpedbkaaGreatDoorM20
import Derived.OneCell
namespace Go.Proofs.YtekjhcfjpedbkaaGreatDoor
open Go.RowKit
/-- a round's state: n0 blocks lay before the loop, the copy's own box is O -/
structure LsRel (w wr : World) (n0 O : Nat) (A : Option Addr) (k : Int) (kids : Fo) (v : Value) (n i : Nat) (done rest : Fo) (xs : List Value) : Prop where
  len : Ty.len done = i
  i_eq : i + Ty.len rest = n
  lies : Ty.Lies w rest A i
  below : Below w.heap.size w wr
  size : n0 ≤ wr.heap.size
  own : wr.ownsRow n0 25 2 v i xs
  flat : Ty.FlatL (fun b => n0 ≤ b ∧ v.ownBlock ≠ some b) wr done xs
  box : wr.heap[O]? = some (.cells #[.int .i8 k, v] 25 (0, 0))
  olt : O < n0
  ole : w.heap.size ≤ O
  sub : Ty.nodes rest ≤ Ty.nodes kids
theorem LsRel.step {w wr W u w3 : World} {n0 O : Nat} {A : Option Addr} {k : Int} {kids : Fo} {v v' : Value} {n i a b : Nat} {done r kd : Fo} {kk kk' : Int} {kd' : Fo} {xs : List Value} {G : Option Addr} {m c : Nat} {o2 : Obj}
    (h : LsRel w wr n0 O A k kids v n i done (.node a b kk kd r) xs) (hW : Below wr.heap.size wr W) (hb : Below W.heap.size W u) (hI : Lone (fun b => W.heap.size ≤ b) u kk' kd' G m c)
    (hown : w3.ownsRow n0 25 2 v' (i + 1) (xs ++ [.int .i8 kk', .slice G m c])) (hg : (u.alloc o2).grownBy w3 v.ownBlock) (hat : v'.ownBlock = v.ownBlock ∨ v'.ownBlock = some (u.alloc o2).heap.size) (hl : Ty.Lies w r A (i + 1)) :
    LsRel w (w3.setCell ⟨O, 1, none⟩ v') n0 O A k kids v' n (i + 1) (Ty.cat done (.node a b kk' kd' .nil)) r (xs ++ [.int .i8 kk', .slice G m c]) := by
  obtain ⟨h2, h3, h4, h5, hsz, h6, h7, hbox, h9, h10, h8⟩ := h
  simp only [Ty.len, Ty.nodes] at h3 h8
  have hlt := h6.lt
  have hs2 := hb.size
  have hs3 : u.heap.size < (u.alloc o2).heap.size := by simp
  have hwW := hW.size
  have hwu : Below wr.heap.size wr (u.alloc o2) := (hW.trans (hb.mono hwW)).alloc (by omega) o2
  have hg2 := hg.size
  have hO : O ≠ v'.ownBlock.getD O + 0 ∨ True := .inr trivial
  have hvO : some O ≠ v.ownBlock := fun e => by have := (hlt O e.symm).1; omega
  have hb3 : w3.heap[O]? = some (.cells #[.int .i8 k, v] 25 (0, 0)) := by
    rw [hg.block O (by omega) hvO, hwu.block O (heap_lt hbox)]; exact hbox
  have hcell : ∀ b' o' x, b' ≠ O → w3.cell? ⟨b', o', none⟩ = some x → (w3.setCell ⟨O, 1, none⟩ v').cell? ⟨b', o', none⟩ = some x := fun b' o' x hne hx => by
    rw [World.cell?_setCell_other _ _ _ _ (fun e => hne (by injection e with e; exact e.symm))]; exact hx
  have hown2 : (w3.setCell ⟨O, 1, none⟩ v').ownsRow n0 25 2 v' (i + 1) (xs ++ [.int .i8 kk', .slice G m c]) := by
    refine hown.kept (row := some O) ⟨rfl, rfl, rfl, by simp [World.setCell], fun q hq hne => Below.heap_setCell _ _ _ q (fun e => hne (by rw [e]))⟩ ?_
    cases hv : v'.ownBlock with
    | none => exact .inl rfl
    | some g => exact .inr (fun e => by injection e with e; have := (hown.lt g hv).1; omega)
  refine ⟨by rw [Ty.len_cat]; omega, by omega, hl, ?_, by simp [World.setCell]; omega, hown2, ?_, ?_, h9, h10, by omega⟩
  · exact ((h5.trans (hwu.mono h5.size)).grown hg (Nat.le_trans h5.size hwu.size) fun q hq => by have := (hlt q hq).1; omega).setCell h10 _
  · refine Ty.FlatL.snoc (hI.to fun b' o' x hP hx => ?_) done xs (Ty.FlatL.to (fun b' o' x hP hx => ?_) done xs h7)
    · have hP' : W.heap.size ≤ b' := hP
      have hbl := Ty.cell_lt hx
      have hne : some b' ≠ v.ownBlock := fun e => by have := (hlt b' e.symm).2; omega
      refine ⟨⟨by omega, fun e => ?_⟩, hcell _ _ _ (by omega) ?_⟩
      · rcases hat with q | q
        · exact hne (by rw [← q, e])
        · rw [q] at e; injection e with e; omega
      · rw [World.cell?_of_block (hg.block b' (by omega) hne), ((Below.refl u.heap.size u).alloc (Nat.le_refl _) o2).cell (p := ⟨b', o', none⟩) hbl]; exact hx
    · have hbl := Ty.cell_lt hx
      have hne : some b' ≠ v.ownBlock := fun e => hP.2 e.symm
      have hP1 := hP.1
      refine ⟨⟨hP1, fun e => ?_⟩, hcell _ _ _ (by omega) ?_⟩
      · rcases hat with q | q
        · exact hP.2 (by rw [← q, e])
        · rw [q] at e; injection e with e; have := hwu.size; omega
      · rw [World.cell?_of_block (hg.block b' (Nat.lt_of_lt_of_le hbl hwu.size) hne), hwu.cell (p := ⟨b', o', none⟩) hbl]; exact hx
  · simp [World.setCell, Array.getElem?_modify, hb3]
/-- the loop's end: the copy -/
theorem LsRel.done {w wr : World} {n0 O : Nat} {A : Option Addr} {k : Int} {kids done : Fo} {v : Value} {n : Nat} {xs : List Value} (hk1 : -128 ≤ k) (hk2 : k ≤ 127) (h : LsRel w wr n0 O A k kids v n n done .nil xs) :
    ∃ G c, v = .slice G n c ∧ Lone (fun b => n0 ≤ b) wr k done G n c := by
  obtain ⟨h2, h3, h4, h5, hsz, h6, h7, hbox, h9, h10, h8⟩ := h
  have hn : n = Ty.len done := h2.symm
  have hc := fun g hg => h6.cells (g := g) hg
  have hlt := h6.lt
  rcases h6.2 with ⟨hv, h0⟩ | ⟨g, cap, cur, rfl, hb, hg, h1, h2', _⟩
  · have hd : done = .nil := by
      cases done with
      | nil => rfl
      | node _ _ _ _ _ => simp only [Ty.len] at h2; omega
    subst hd
    obtain rfl : n = 0 := by omega
    exact ⟨none, 0, hv, fun u _ => ⟨trivial, rfl, Nat.le_refl _, Nat.zero_le _, hk1, hk2⟩⟩
  · refine ⟨_, cap, rfl, fun u hu => ⟨?_, hn, h1, h2', hk1, hk2⟩⟩
    refine Ty.FlatL.lies (P := fun b => n0 ≤ b ∧ Value.ownBlock (.slice (some ⟨g, 0, none⟩) n cap) ≠ some b) (w := wr) (fun b o x hP hx => hu b o x hP.1 hx) done xs 0 h7 fun j x hx => ?_
    have := hc g rfl j x hx
    rw [show (⟨g, 0, none⟩ : Addr).add j = ⟨g, j, none⟩ by unfold Addr.add; by_cases h : j = 0 <;> simp [h]] at this
    rw [Nat.zero_mul, Nat.zero_add]
    exact hu g j x hb this

/-- a row of answers -/
structure BAt (w : World) (L : List Bool) (A : Option Addr) (n c : Nat) : Prop where
  n_eq : n = L.length
  n_le : n ≤ c
  c_le : c ≤ maxLen
  cell : ∀ (i : Nat) (b : Bool), L[i]? = some b → ∃ ba oa, A = some ⟨ba, oa, none⟩ ∧ w.cell? ⟨ba, oa + i, none⟩ = some (.bool b)
theorem BAt.below {w w' : World} {L : List Bool} {A : Option Addr} {n c : Nat} (h : BAt w L A n c) (hb : Below w.heap.size w w') : BAt w' L A n c :=
  ⟨h.n_eq, h.n_le, h.c_le, fun i b hi => by
    obtain ⟨ba, oa, h1, h2⟩ := h.cell i b hi
    exact ⟨ba, oa, h1, keep_cell h2 hb⟩⟩
/-- what lessen leaves -/
def LsPost (w : World) (t : Ck.T2 × Nat) (e : Ending) (w' : World) : Prop := ∃ G m c, e = .returned (.tuple #[.agg #[.int .i8 t.1.1, .slice G m c], .int .i64 t.2]) ∧ Lone (fun b => w.heap.size ≤ b) w' t.1.1 t.1.2 G m c ∧ Below w.heap.size w w'
theorem Ls.lesF_cnt (L : List Bool) : ∀ (f : Fo) (n : Nat), (Ls.lesF L f n).2 ≤ n + Ty.nodes f ∧ Ty.len (Ls.lesF L f n).1 = Ty.len f
  | .nil, n => ⟨Nat.le_refl _, rfl⟩
  | .node a b k kids r, n => by
    rw [Ls.lesF]
    split
    · obtain ⟨x, y⟩ := Ls.lesF_cnt L r (n + 1)
      simp only [Ty.nodes, Ty.len]; omega
    · obtain ⟨x, y⟩ := Ls.lesF_cnt L kids (n + 1)
      obtain ⟨z, u⟩ := Ls.lesF_cnt L r (Ls.lesF L kids (n + 1)).2
      simp only [Ty.nodes, Ty.len]; omega
theorem Ls.les_cnt (L : List Bool) (a : Ck.T2) (n : Nat) : (Ls.les L a n).2 ≤ n + (Ty.nodes a.2 + 1) := by
  unfold Ls.les
  split
  · show n + 1 ≤ _; omega
  · have := (Ls.lesF_cnt L a.2 (n + 1)).1
    show (Ls.lesF L a.2 (n + 1)).2 ≤ _; omega

set_option maxHeartbeats 2000000 in
set_option maxRecDepth 100000 in
theorem lessen_any (L : List Bool) (LA : Option Addr) (ll lc : Nat) (K : Nat) : ∀ (k : Int) (kids : Fo) (A : Option Addr) (n c : Nat) (m : Nat) (w : World), Ty.nodes kids < K → Ty.Is w k kids A n c → BAt w L LA ll lc → m + (Ty.nodes kids + 1) ≤ 1000000 →
    Calls Tryz.prog 35 #[.agg #[.int .i8 k, .slice A n c], .slice LA ll lc, .int .i64 m] w (LsPost w (Ls.les L (k, kids) m)) := by
  induction K with
  | zero => intro _ _ _ _ _ _ _ hK; omega
  | succ K ih =>
    intro k kids A n c m w hK hIs hL hm
    have hln := Ty.len_le_nodes kids
    have hneq := hIs.n_eq
    have hlo := hIs.lo
    have hhi := hIs.hi
    have i5 : (n : Int) ≤ 1000000 := by omega
    have hll := hL.n_eq
    have hlm : (ll : Int) ≤ 9223372036854775807 := by have h1 := hL.n_le; have h2 := hL.c_le; unfold maxLen at h2; omega
    obtain ⟨i0, hi, hz0, hz1, hz2⟩ := info_parts info_Ty
    have hb2 := below_n2 w (.cells #[.int .i8 k, .slice A n c] 25) (.cells #[.int .i8 0, .slice none 0 0] 25)
    obtain ⟨x0, x1⟩ := heap_n2 w (.cells #[.int .i8 k, .slice A n c] 25) (.cells #[.int .i8 0, .slice none 0 0] 25)
    have hz2' : ((w.alloc (.cells #[.int .i8 k, .slice A n c] 25)).alloc (.cells #[.int .i8 0, .slice none 0 0] 25)).heap.size = w.heap.size + 2 := by simp
    generalize hw1 : (w.alloc (.cells #[.int .i8 k, .slice A n c] 25)).alloc (.cells #[.int .i8 0, .slice none 0 0] 25) = w1 at *
    have HW1 := Lib.hid hw1
    have HB1 := Lib.hid hb2
    have X0 := Lib.hid x0
    have X1 := Lib.hid x1
    have HZ := Lib.hid hz2'
    have hmm : (0 : Int) ≤ (m : Int) := by omega
    have hm2 : (m : Int) + 1 ≤ 1000001 := by omega
    have HI := Lib.hid hIs
    have HLL := Lib.hid hL
    have IH := Lib.hid ih
    have HMB := Lib.hid hm
    have HKB := Lib.hid hK
    have HNE0 := Lib.hid hneq
    clear ih hIs hL hb2 x0 x1 hz2' hw1 hK hm hneq
    obtain ⟨T, hT⟩ : ∃ T, Ls.les L (k, kids) m = T := ⟨_, rfl⟩
    rw [hT]
    have HT := Lib.hid hT
    clear hT
    obtain ⟨b0, b1, -, -, hb0⟩ := own2 X0.out
    obtain ⟨d0, d1, f0, f1, hd0⟩ := own2 X1.out
    by_cases hpos : 0 < ll
    · obtain ⟨b, hb⟩ : ∃ b, L[m % ll]? = some b := ⟨L[m % ll]'(by rw [← hll]; exact Nat.mod_lt _ hpos), List.getElem?_eq_getElem _⟩
      obtain ⟨ba, oa, rfl, hcb⟩ := HLL.out.cell _ _ hb
      have hcb := keep_cell hcb HB1.out
      have hp1 : (0 : Int) < ll := by omega
      have hp2 : (ll : Int) ≠ 0 := by omega
      have hmod : (m : Int) % (ll : Int) = ((m % ll : Nat) : Int) := by omega
      have hlt : ((m % ll : Nat) : Int) < ll := by have := Nat.mod_lt m hpos; omega
      have hge : (0 : Int) ≤ ((m % ll : Nat) : Int) := by omega
      have hhit : Ls.hit L m = b := by
        unfold Ls.hit
        rw [← hll, List.getD_eq_getElem?_getD, hb]
        simp [hpos]
      have HHIT := Lib.hid hhit
      generalize m % ll = q at *
      clear hhit hb hll hln
      cases b
      · have HST := Lib.hid (show LsRel w (w1.alloc (.cells #[.int .i8 k, .slice none 0 0] 25)) (w1.heap.size + 1) w1.heap.size A k kids (.slice none 0 0) n 0 .nil kids [] from ⟨rfl, by have := HNE0.out; omega, HI.out.lies, HB1.out.alloc HB1.out.size _, by simp, ⟨rfl, .inl ⟨rfl, rfl⟩⟩, rfl, heap_new w1 _, by omega, HB1.out.size, Nat.le_refl _⟩)
        go_enter Tryz.func35, Tryz.ntmps35
        go_upto_region 1 with fail
        rw [HW1.out]
        go_wp2_with fail
        clear b0 b1 hb0 d0 d1 f0 f1 hd0 hmod hlt hge hcb hp1 hp2 hpos
        generalize w1.heap.size = O at *
        go_loopw [2, 35] (fun v2 v35 wr => ∃ (i m' : Nat) (done rest : Fo) (xs : List Value) (v : Value), v35 = .int .i64 i ∧ v2 = .int .i64 m' ∧ LsRel w wr (O + 1) O A k kids v n i done rest xs ∧ Ty.cat done (Ls.lesF L rest m').1 = (Ls.lesF L kids (m + 1)).1 ∧ (Ls.lesF L rest m').2 = (Ls.lesF L kids (m + 1)).2 ∧ m' + Ty.nodes rest ≤ 1000000 ∧ wr.heap[w.heap.size + 1]? = some (.cells #[.int .i8 0, .slice none 0 0] 25 (0, 0))) (fun _ v _ => n - (intOf v).toNat)
        case atStart => exact ⟨0, m + 1, .nil, kids, [], _, rfl, by simp, HST.out, rfl, rfl, by have := HMB.out; omega, heap_old X1.out _⟩
        case round =>
          obtain ⟨i, m', done, rest, xs, v, rfl, rfl, hR, htf, hmf, hmm', hres⟩ := hrel
          have hzz := HZ.out
          cases rest with
          | nil =>
            have hi2 : i = n := by have := hR.i_eq; simpa [Ty.len] using this
            subst hi2
            obtain ⟨G, cg, rfl, hL⟩ := hR.done hlo hhi
            simp only [Ls.lesF, Ty.cat_nil] at htf hmf
            have hTT : T = ((k, done), m') := by rw [← HT.out]; unfold Ls.les; rw [HHIT.out, if_neg (by decide), ← htf, ← hmf]
            have HTT := Lib.hid hTT
            have HB := Lib.hid hR.below
            have HL := Lib.hid hL
            obtain ⟨b0, b1, _, _, hb0⟩ := own2 hR.box
            obtain ⟨d0, d1, f0, f1, hd0⟩ := own2 hres
            have z := set_two hres (.int .i8 k) (.slice G i cg)
            clear hR hL hres htf hmf hTT hmm' hzz
            go_wp2_with fail
            obtain ⟨k0, k1, -, -, -⟩ := own2 z
            refine bodyPost_ret (v := .tuple #[.agg #[.int .i8 k, .slice G i cg], .int .i64 m']) (by simp [results, Tryz.results35, go_sem, k0, k1]) rfl ?_
            have hzz := HZ.out
            rw [HTT.out]
            refine ⟨G, i, cg, rfl, ?_, ?_⟩
            · refine HL.out.to fun b o x hP hx => ?_
              have hP2 : O + 1 ≤ b := hP
              refine ⟨by show w.heap.size ≤ b; omega, ?_⟩
              rw [World.cell?_setCell_other _ _ _ _ (fun e => by injection e with e; omega), World.cell?_setCell_other _ _ _ _ (fun e => by injection e with e; omega)]
              exact hx
            · exact (HB.out.setCell (p := ⟨w.heap.size + 1, 0, none⟩) (by simp) _).setCell (p := ⟨w.heap.size + 1, 1, none⟩) (by simp) _
          | node a b kk kd r =>
            obtain ⟨Av0, nv0, cv0, rfl⟩ := own_slice hR.own
            have h1 := hR.i_eq
            have h2 := hR.lies
            have h3 := hR.sub
            have h4 := hR.below
            have HR := Lib.hid hR
            have HRES := Lib.hid hres
            simp only [Ty.len, Ty.nodes] at h1 h3 hmm'
            rw [Ls.lesF_node] at htf hmf
            have HTF := Lib.hid htf
            have HMF := Lib.hid hmf
            have hcn := Ls.les_cnt L (kk, kd) m'
            have HCN := Lib.hid (show (Ls.les L (kk, kd) m').2 + Ty.nodes r ≤ 1000000 by dsimp only at hcn; omega)
            obtain ⟨bb, oo, B, cB, rfl, ⟨hk1, hk2⟩, c1, c2, hl1, hl2, hl3, hl4⟩ := h2
            have c1' : wr.cell? ⟨bb, oo + i * 2, none⟩ = some (.int .i8 kk) := by rw [h4.cell (p := ⟨bb, _, none⟩) (Ty.cell_lt c1)]; exact c1
            have c2' : wr.cell? ⟨bb, oo + i * 2 + 1, none⟩ = some (.slice B (Ty.len kd) cB) := by rw [h4.cell (p := ⟨bb, _, none⟩) (Ty.cell_lt c2)]; exact c2
            have HC := Lib.hid (fun (W : World) (hb : Below wr.heap.size wr W) => IH.out kk kd B (Ty.len kd) cB m' W (by have := HKB.out; omega) ((show Ty.Is w kk kd B (Ty.len kd) cB from ⟨hl3, rfl, hl1, hl2, hk1, hk2⟩).below (h4.trans (hb.mono h4.size))) (HLL.out.below (h4.trans (hb.mono h4.size))) (by omega))
            have HL4 := Lib.hid hl4
            have j1 : (i : Int) < n := by omega
            have hOO := hR.ole
            have hOS := heap_lt hR.box
            have hOW := hR.own
            have hb9 := below_n2 wr (.cells #[.int .i8 kk, .slice B (Ty.len kd) cB] 25) (.cells #[.int .i8 0, .slice none 0 0] 25)
            obtain ⟨xa, xb⟩ := heap_n2 wr (.cells #[.int .i8 kk, .slice B (Ty.len kd) cB] 25) (.cells #[.int .i8 0, .slice none 0 0] 25)
            have hs9 : ((wr.alloc (.cells #[.int .i8 kk, .slice B (Ty.len kd) cB] 25)).alloc (.cells #[.int .i8 0, .slice none 0 0] 25)).heap.size = wr.heap.size + 2 := by simp
            have hs8 : (wr.alloc (.cells #[.int .i8 kk, .slice B (Ty.len kd) cB] 25)).heap.size = wr.heap.size + 1 := by simp
            have hb8 := below_n1 wr (.cells #[.int .i8 kk, .slice B (Ty.len kd) cB] 25)
            have hb89 := below_n1 (wr.alloc (.cells #[.int .i8 kk, .slice B (Ty.len kd) cB] 25)) (.cells #[.int .i8 0, .slice none 0 0] 25)
            have XA := Lib.hid xa
            have XB := Lib.hid xb
            have HB9 := Lib.hid hb9
            have HB8 := Lib.hid hb8
            have HB89 := Lib.hid hb89
            have HO9 := Lib.hid (ownsRow_below hOW hb9)
            have HBX := Lib.hid (heap_below hb9 hOS hR.box)
            have HS9 := Lib.hid hs9
            have HS8 := Lib.hid hs8
            have HXO := Lib.hid (fun e => by have h1 := (hOW.lt _ e).2; omega : (Value.slice Av0 nv0 cv0).ownBlock ≠ some (wr.heap.size + 1))
            have HSTP := Lib.hid (fun W u w3 v' G m c o2 hW hb hI hown hg hat => HR.out.step (W := W) (u := u) (w3 := w3) (v' := v') (kk' := (Ls.les L (kk, kd) m').1.1) (kd' := (Ls.les L (kk, kd) m').1.2) (G := G) (m := m) (c := c) (o2 := o2) hW hb hI hown hg hat HL4.out)
            have HJ := Lib.hid (And.intro h1 (And.intro hOO hOS))
            clear hR hres hl1 hl2 hl3 hl4 c1 c2 h4 htf hmf hcn hb9 xa xb hb8 hb89 hOW h1 h3 hmm' hzz hOO hOS
            go_upto_region 9 with fail
            generalize hw8 : wr.alloc (.cells #[.int .i8 kk, .slice B (Ty.len kd) cB] 25) = w8 at *
            generalize hw9 : w8.alloc (.cells #[.int .i8 0, .slice none 0 0] 25) = w9 at *
            clear hw8 hw9 c1' c2' hs9 hs8
            obtain ⟨k0, k1, _, _, hk0⟩ := own2 XA.out
            go_wp2_with fail
            refine (HC.out w9 HB9.out).mono ?_
            rintro e u ⟨G, mm, cg, rfl, hnew, hb⟩
            have hzz := HZ.out
            obtain ⟨h1, hOO, hOS⟩ := HJ.out
            have hs9 := HS9.out
            have hs8 := HS8.out
            have hbs := hb.size
            have x11 := heap_below hb (heap_lt XB.out) XB.out
            have xbo := heap_below hb (heap_lt HBX.out) HBX.out
            have hOU := ownsRow_below HO9.out hb
            have y11 := set_two x11 (.int .i8 (Ls.les L (kk, kd) m').1.1) (.slice G mm cg)
            have ybo := set_two_ne xbo (show wr.heap.size + 1 ≠ O by omega) (.int .i8 (Ls.les L (kk, kd) m').1.1) (.slice G mm cg)
            have yO := ownsRow_setCell_other (ownsRow_setCell_other hOU (a := ⟨wr.heap.size + 1, 0, none⟩) HXO.out (.int .i8 (Ls.les L (kk, kd) m').1.1)) (a := ⟨wr.heap.size + 1, 1, none⟩) HXO.out (.slice G mm cg)
            have yB : Below w8.heap.size w8 ((u.setCell ⟨wr.heap.size + 1, 0, none⟩ (.int .i8 (Ls.les L (kk, kd) m').1.1)).setCell ⟨wr.heap.size + 1, 1, none⟩ (.slice G mm cg)) := below_set2 (HB89.out.trans (hb.mono (by omega))) (by omega) _ _
            have yI : Lone (fun b => w8.heap.size ≤ b) ((u.setCell ⟨wr.heap.size + 1, 0, none⟩ (.int .i8 (Ls.les L (kk, kd) m').1.1)).setCell ⟨wr.heap.size + 1, 1, none⟩ (.slice G mm cg)) (Ls.les L (kk, kd) m').1.1 (Ls.les L (kk, kd) m').1.2 G mm cg := hnew.to fun b o x hP hx => by
              have hP2 : w9.heap.size ≤ b := hP
              refine ⟨by show w8.heap.size ≤ b; omega, ?_⟩
              rw [World.cell?_setCell_other _ _ _ _ (fun e => by injection e with e; omega), World.cell?_setCell_other _ _ _ _ (fun e => by injection e with e; omega)]
              exact hx
            have yR := Below.heap_setCell
            have yS : ((u.setCell ⟨wr.heap.size + 1, 0, none⟩ (.int .i8 (Ls.les L (kk, kd) m').1.1)).setCell ⟨wr.heap.size + 1, 1, none⟩ (.slice G mm cg)).heap.size = u.heap.size := by simp
            have yZ := set_two_ne (heap_below hb (show w.heap.size + 1 < w9.heap.size by have := heap_lt HRES.out; omega) (heap_below HB9.out (heap_lt HRES.out) HRES.out)) (show wr.heap.size + 1 ≠ w.heap.size + 1 by have := heap_lt HRES.out; omega) (.int .i8 (Ls.les L (kk, kd) m').1.1) (.slice G mm cg)
            obtain ⟨o0, o1, g0, g1, ol⟩ := own2 x11
            have HYB := Lib.hid (And.intro yS hbs)
            clear yR hnew hb xbo hOU k0 k1 hk0 hzz h1 hOO hOS hs9 hs8 hbs
            go_upto_region 10 with fail
            generalize (u.setCell ⟨wr.heap.size + 1, 0, none⟩ (.int .i8 (Ls.les L (kk, kd) m').1.1)).setCell ⟨wr.heap.size + 1, 1, none⟩ (.slice G mm cg) = u2 at *
            have YI := Lib.hid yI
            have YB := Lib.hid yB
            have YBO := Lib.hid ybo
            have YO := Lib.hid yO
            have YZ := Lib.hid yZ
            have YS := Lib.hid yS
            have yO2 := yO
            clear yI yB yO yZ o0 o1 g0 g1 ol x11 yS
            obtain ⟨o0, o1, g0, g1, ol⟩ := own2 y11
            obtain ⟨q0, q1, r0, r1, ql⟩ := own2 ybo
            clear y11 ybo
            go_wp2_with (first | (at_builtin; refine wpList_append_own_at _ rfl (.tmp 47) (.tmp 49) 23 rfl (O + 1) 25 i0 (.agg #[.int .i8 0, .slice none 0 0]) 2 32 Tryz.underlying23 hi hz0 hz1 hz2 rfl (by decide) (.slice Av0 nv0 cv0) _ _ rfl (yO2.alloc _) ⟨u2.heap.size, 0, none⟩ 1 1 [.int .i8 (Ls.les L (kk, kd) m').1.1, .slice G mm cg] rfl rfl ?c1 ?c2 ?c3 ?c4 ?c5 ?_))
            case c1 => exact cells_of_heap (heap_new u2 _)
            case c2 => intro x hx; simp at hx; rcases hx with rfl | rfl <;> rfl
            case c3 => have h1 := HJ.out.1; unfold maxLen; omega
            case c4 => have h1 := HJ.out.1; omega
            case c5 => have h1 := HYB.out.1; have h2 := HYB.out.2; have h3 := HS9.out; have h4 := HJ.out.2.2; simp; omega
            intro v' w3 hown3 hg3 _ hat
            have hzz := HZ.out
            have hvO : some O ≠ (Value.slice Av0 nv0 cv0).ownBlock := fun e => by have := (YO.out.lt _ e.symm).1; omega
            have hvZ : some (w.heap.size + 1) ≠ (Value.slice Av0 nv0 cv0).ownBlock := fun e => by have := (YO.out.lt _ e.symm).1; omega
            have b3 := (hg3.block O (by have := heap_lt YBO.out; simp; omega) hvO).trans (heap_old YBO.out (.cells #[.int .i8 (Ls.les L (kk, kd) m').1.1, .slice G mm cg] 25))
            have z3 := (hg3.block (w.heap.size + 1) (by have := heap_lt YZ.out; simp; omega) hvZ).trans (heap_old YZ.out (.cells #[.int .i8 (Ls.les L (kk, kd) m').1.1, .slice G mm cg] 25))
            have hR3 := Lib.hid (HSTP.out w8 u2 w3 v' G mm cg _ HB8.out YB.out YI.out hown3 hg3 (by simpa using hat))
            have Z3 := Lib.hid z3
            have HNE := Lib.hid (show O ≠ w.heap.size + 1 by omega)
            clear hzz hown3 hg3 hat yO2 o0 o1 g0 g1 ol q0 q1 r0 r1 ql z3
            obtain ⟨Av, nv, cv, rfl⟩ := own_slice hR3.out.own
            obtain ⟨q0, q1, r0, r1, ql⟩ := own2 b3
            clear b3
            go_wp2_with fail
            go_roundw
            case rel =>
              refine ⟨i + 1, _, _, r, _, _, by go_num, rfl, hR3.out, ?_, ?_, HCN.out, ?_⟩
              · rw [Ty.cat_snoc]; exact HTF.out
              · exact HMF.out
              · rw [Below.heap_setCell _ _ _ _ (by show w.heap.size + 1 ≠ O; exact HNE.out.symm)]; exact Z3.out
            case measure => have h1 := HJ.out.1; simp [intOf]; omega
      · have hTT : T = ((0, .nil), m + 1) := by rw [← HT.out]; unfold Ls.les; rw [HHIT.out, if_pos rfl]
        have HTT := Lib.hid hTT
        clear hTT
        have z := set_two X1.out (.int .i8 0) (.slice none 0 0)
        go_enter Tryz.func35, Tryz.ntmps35
        go_upto_region 1 with fail
        rw [HW1.out]
        go_wp2_with fail
        obtain ⟨k0, k1, -, -, -⟩ := own2 z
        refine bodyPost_ret (v := .tuple #[.agg #[.int .i8 0, .slice none 0 0], .int .i64 ((m : Int) + 1)]) (by simp [results, Tryz.results35, go_sem, k0, k1]) rfl ?_
        rw [HTT.out]
        exact ⟨none, 0, 0, by simp, fun u _ => Ty.zero_is u, below_set2 HB1.out (by omega) _ _⟩
    · obtain rfl : ll = 0 := by omega
      have HHIT := Lib.hid (show Ls.hit L m = false by unfold Ls.hit; rw [← HLL.out.n_eq]; rfl)
      clear hpos hll hln
      have HST := Lib.hid (show LsRel w (w1.alloc (.cells #[.int .i8 k, .slice none 0 0] 25)) (w1.heap.size + 1) w1.heap.size A k kids (.slice none 0 0) n 0 .nil kids [] from ⟨rfl, by have := HNE0.out; omega, HI.out.lies, HB1.out.alloc HB1.out.size _, by simp, ⟨rfl, .inl ⟨rfl, rfl⟩⟩, rfl, heap_new w1 _, by omega, HB1.out.size, Nat.le_refl _⟩)
      go_enter Tryz.func35, Tryz.ntmps35
      go_upto_region 1 with fail
      rw [HW1.out]
      go_wp2_with fail
      clear b0 b1 hb0 d0 d1 f0 f1 hd0
      generalize w1.heap.size = O at *
      go_loopw [2, 35] (fun v2 v35 wr => ∃ (i m' : Nat) (done rest : Fo) (xs : List Value) (v : Value), v35 = .int .i64 i ∧ v2 = .int .i64 m' ∧ LsRel w wr (O + 1) O A k kids v n i done rest xs ∧ Ty.cat done (Ls.lesF L rest m').1 = (Ls.lesF L kids (m + 1)).1 ∧ (Ls.lesF L rest m').2 = (Ls.lesF L kids (m + 1)).2 ∧ m' + Ty.nodes rest ≤ 1000000 ∧ wr.heap[w.heap.size + 1]? = some (.cells #[.int .i8 0, .slice none 0 0] 25 (0, 0))) (fun _ v _ => n - (intOf v).toNat)
      case atStart => exact ⟨0, m + 1, .nil, kids, [], _, rfl, by simp, HST.out, rfl, rfl, by have := HMB.out; omega, heap_old X1.out _⟩
      case round =>
        obtain ⟨i, m', done, rest, xs, v, rfl, rfl, hR, htf, hmf, hmm', hres⟩ := hrel
        have hzz := HZ.out
        cases rest with
        | nil =>
          have hi2 : i = n := by have := hR.i_eq; simpa [Ty.len] using this
          subst hi2
          obtain ⟨G, cg, rfl, hL⟩ := hR.done hlo hhi
          simp only [Ls.lesF, Ty.cat_nil] at htf hmf
          have hTT : T = ((k, done), m') := by rw [← HT.out]; unfold Ls.les; rw [HHIT.out, if_neg (by decide), ← htf, ← hmf]
          have HTT := Lib.hid hTT
          have HB := Lib.hid hR.below
          have HL := Lib.hid hL
          obtain ⟨b0, b1, _, _, hb0⟩ := own2 hR.box
          obtain ⟨d0, d1, f0, f1, hd0⟩ := own2 hres
          have z := set_two hres (.int .i8 k) (.slice G i cg)
          clear hR hL hres htf hmf hTT hmm' hzz
          go_wp2_with fail
          obtain ⟨k0, k1, -, -, -⟩ := own2 z
          refine bodyPost_ret (v := .tuple #[.agg #[.int .i8 k, .slice G i cg], .int .i64 m']) (by simp [results, Tryz.results35, go_sem, k0, k1]) rfl ?_
          have hzz := HZ.out
          rw [HTT.out]
          refine ⟨G, i, cg, rfl, ?_, ?_⟩
          · refine HL.out.to fun b o x hP hx => ?_
            have hP2 : O + 1 ≤ b := hP
            refine ⟨by show w.heap.size ≤ b; omega, ?_⟩
            rw [World.cell?_setCell_other _ _ _ _ (fun e => by injection e with e; omega), World.cell?_setCell_other _ _ _ _ (fun e => by injection e with e; omega)]
            exact hx
          · exact (HB.out.setCell (p := ⟨w.heap.size + 1, 0, none⟩) (by simp) _).setCell (p := ⟨w.heap.size + 1, 1, none⟩) (by simp) _
        | node a b kk kd r =>
          obtain ⟨Av0, nv0, cv0, rfl⟩ := own_slice hR.own
          have h1 := hR.i_eq
          have h2 := hR.lies
          have h3 := hR.sub
          have h4 := hR.below
          have HR := Lib.hid hR
          have HRES := Lib.hid hres
          simp only [Ty.len, Ty.nodes] at h1 h3 hmm'
          rw [Ls.lesF_node] at htf hmf
          have HTF := Lib.hid htf
          have HMF := Lib.hid hmf
          have hcn := Ls.les_cnt L (kk, kd) m'
          have HCN := Lib.hid (show (Ls.les L (kk, kd) m').2 + Ty.nodes r ≤ 1000000 by dsimp only at hcn; omega)
          obtain ⟨bb, oo, B, cB, rfl, ⟨hk1, hk2⟩, c1, c2, hl1, hl2, hl3, hl4⟩ := h2
          have c1' : wr.cell? ⟨bb, oo + i * 2, none⟩ = some (.int .i8 kk) := by rw [h4.cell (p := ⟨bb, _, none⟩) (Ty.cell_lt c1)]; exact c1
          have c2' : wr.cell? ⟨bb, oo + i * 2 + 1, none⟩ = some (.slice B (Ty.len kd) cB) := by rw [h4.cell (p := ⟨bb, _, none⟩) (Ty.cell_lt c2)]; exact c2
          have HC := Lib.hid (fun (W : World) (hb : Below wr.heap.size wr W) => IH.out kk kd B (Ty.len kd) cB m' W (by have := HKB.out; omega) ((show Ty.Is w kk kd B (Ty.len kd) cB from ⟨hl3, rfl, hl1, hl2, hk1, hk2⟩).below (h4.trans (hb.mono h4.size))) (HLL.out.below (h4.trans (hb.mono h4.size))) (by omega))
          have HL4 := Lib.hid hl4
          have j1 : (i : Int) < n := by omega
          have hOO := hR.ole
          have hOS := heap_lt hR.box
          have hOW := hR.own
          have hb9 := below_n2 wr (.cells #[.int .i8 kk, .slice B (Ty.len kd) cB] 25) (.cells #[.int .i8 0, .slice none 0 0] 25)
          obtain ⟨xa, xb⟩ := heap_n2 wr (.cells #[.int .i8 kk, .slice B (Ty.len kd) cB] 25) (.cells #[.int .i8 0, .slice none 0 0] 25)
          have hs9 : ((wr.alloc (.cells #[.int .i8 kk, .slice B (Ty.len kd) cB] 25)).alloc (.cells #[.int .i8 0, .slice none 0 0] 25)).heap.size = wr.heap.size + 2 := by simp
          have hs8 : (wr.alloc (.cells #[.int .i8 kk, .slice B (Ty.len kd) cB] 25)).heap.size = wr.heap.size + 1 := by simp
          have hb8 := below_n1 wr (.cells #[.int .i8 kk, .slice B (Ty.len kd) cB] 25)
          have hb89 := below_n1 (wr.alloc (.cells #[.int .i8 kk, .slice B (Ty.len kd) cB] 25)) (.cells #[.int .i8 0, .slice none 0 0] 25)
          have XA := Lib.hid xa
          have XB := Lib.hid xb
          have HB9 := Lib.hid hb9
          have HB8 := Lib.hid hb8
          have HB89 := Lib.hid hb89
          have HO9 := Lib.hid (ownsRow_below hOW hb9)
          have HBX := Lib.hid (heap_below hb9 hOS hR.box)
          have HS9 := Lib.hid hs9
          have HS8 := Lib.hid hs8
          have HXO := Lib.hid (fun e => by have h1 := (hOW.lt _ e).2; omega : (Value.slice Av0 nv0 cv0).ownBlock ≠ some (wr.heap.size + 1))
          have HSTP := Lib.hid (fun W u w3 v' G m c o2 hW hb hI hown hg hat => HR.out.step (W := W) (u := u) (w3 := w3) (v' := v') (kk' := (Ls.les L (kk, kd) m').1.1) (kd' := (Ls.les L (kk, kd) m').1.2) (G := G) (m := m) (c := c) (o2 := o2) hW hb hI hown hg hat HL4.out)
          have HJ := Lib.hid (And.intro h1 (And.intro hOO hOS))
          clear hR hres hl1 hl2 hl3 hl4 c1 c2 h4 htf hmf hcn hb9 xa xb hb8 hb89 hOW h1 h3 hmm' hzz hOO hOS
          go_upto_region 9 with fail
          generalize hw8 : wr.alloc (.cells #[.int .i8 kk, .slice B (Ty.len kd) cB] 25) = w8 at *
          generalize hw9 : w8.alloc (.cells #[.int .i8 0, .slice none 0 0] 25) = w9 at *
          clear hw8 hw9 c1' c2' hs9 hs8
          obtain ⟨k0, k1, _, _, hk0⟩ := own2 XA.out
          go_wp2_with fail
          refine (HC.out w9 HB9.out).mono ?_
          rintro e u ⟨G, mm, cg, rfl, hnew, hb⟩
          have hzz := HZ.out
          obtain ⟨h1, hOO, hOS⟩ := HJ.out
          have hs9 := HS9.out
          have hs8 := HS8.out
          have hbs := hb.size
          have x11 := heap_below hb (heap_lt XB.out) XB.out
          have xbo := heap_below hb (heap_lt HBX.out) HBX.out
          have hOU := ownsRow_below HO9.out hb
          have y11 := set_two x11 (.int .i8 (Ls.les L (kk, kd) m').1.1) (.slice G mm cg)
          have ybo := set_two_ne xbo (show wr.heap.size + 1 ≠ O by omega) (.int .i8 (Ls.les L (kk, kd) m').1.1) (.slice G mm cg)
          have yO := ownsRow_setCell_other (ownsRow_setCell_other hOU (a := ⟨wr.heap.size + 1, 0, none⟩) HXO.out (.int .i8 (Ls.les L (kk, kd) m').1.1)) (a := ⟨wr.heap.size + 1, 1, none⟩) HXO.out (.slice G mm cg)
          have yB : Below w8.heap.size w8 ((u.setCell ⟨wr.heap.size + 1, 0, none⟩ (.int .i8 (Ls.les L (kk, kd) m').1.1)).setCell ⟨wr.heap.size + 1, 1, none⟩ (.slice G mm cg)) := below_set2 (HB89.out.trans (hb.mono (by omega))) (by omega) _ _
          have yI : Lone (fun b => w8.heap.size ≤ b) ((u.setCell ⟨wr.heap.size + 1, 0, none⟩ (.int .i8 (Ls.les L (kk, kd) m').1.1)).setCell ⟨wr.heap.size + 1, 1, none⟩ (.slice G mm cg)) (Ls.les L (kk, kd) m').1.1 (Ls.les L (kk, kd) m').1.2 G mm cg := hnew.to fun b o x hP hx => by
            have hP2 : w9.heap.size ≤ b := hP
            refine ⟨by show w8.heap.size ≤ b; omega, ?_⟩
            rw [World.cell?_setCell_other _ _ _ _ (fun e => by injection e with e; omega), World.cell?_setCell_other _ _ _ _ (fun e => by injection e with e; omega)]
            exact hx
          have yR := Below.heap_setCell
          have yS : ((u.setCell ⟨wr.heap.size + 1, 0, none⟩ (.int .i8 (Ls.les L (kk, kd) m').1.1)).setCell ⟨wr.heap.size + 1, 1, none⟩ (.slice G mm cg)).heap.size = u.heap.size := by simp
          have yZ := set_two_ne (heap_below hb (show w.heap.size + 1 < w9.heap.size by have := heap_lt HRES.out; omega) (heap_below HB9.out (heap_lt HRES.out) HRES.out)) (show wr.heap.size + 1 ≠ w.heap.size + 1 by have := heap_lt HRES.out; omega) (.int .i8 (Ls.les L (kk, kd) m').1.1) (.slice G mm cg)
          obtain ⟨o0, o1, g0, g1, ol⟩ := own2 x11
          have HYB := Lib.hid (And.intro yS hbs)
          clear yR hnew hb xbo hOU k0 k1 hk0 hzz h1 hOO hOS hs9 hs8 hbs
          go_upto_region 10 with fail
          generalize (u.setCell ⟨wr.heap.size + 1, 0, none⟩ (.int .i8 (Ls.les L (kk, kd) m').1.1)).setCell ⟨wr.heap.size + 1, 1, none⟩ (.slice G mm cg) = u2 at *
          have YI := Lib.hid yI
          have YB := Lib.hid yB
          have YBO := Lib.hid ybo
          have YO := Lib.hid yO
          have YZ := Lib.hid yZ
          have YS := Lib.hid yS
          have yO2 := yO
          clear yI yB yO yZ o0 o1 g0 g1 ol x11 yS
          obtain ⟨o0, o1, g0, g1, ol⟩ := own2 y11
          obtain ⟨q0, q1, r0, r1, ql⟩ := own2 ybo
          clear y11 ybo
          go_wp2_with (first | (at_builtin; refine wpList_append_own_at _ rfl (.tmp 47) (.tmp 49) 23 rfl (O + 1) 25 i0 (.agg #[.int .i8 0, .slice none 0 0]) 2 32 Tryz.underlying23 hi hz0 hz1 hz2 rfl (by decide) (.slice Av0 nv0 cv0) _ _ rfl (yO2.alloc _) ⟨u2.heap.size, 0, none⟩ 1 1 [.int .i8 (Ls.les L (kk, kd) m').1.1, .slice G mm cg] rfl rfl ?c1 ?c2 ?c3 ?c4 ?c5 ?_))
          case c1 => exact cells_of_heap (heap_new u2 _)
          case c2 => intro x hx; simp at hx; rcases hx with rfl | rfl <;> rfl
          case c3 => have h1 := HJ.out.1; unfold maxLen; omega
          case c4 => have h1 := HJ.out.1; omega
          case c5 => have h1 := HYB.out.1; have h2 := HYB.out.2; have h3 := HS9.out; have h4 := HJ.out.2.2; simp; omega
          intro v' w3 hown3 hg3 _ hat
          have hzz := HZ.out
          have hvO : some O ≠ (Value.slice Av0 nv0 cv0).ownBlock := fun e => by have := (YO.out.lt _ e.symm).1; omega
          have hvZ : some (w.heap.size + 1) ≠ (Value.slice Av0 nv0 cv0).ownBlock := fun e => by have := (YO.out.lt _ e.symm).1; omega
          have b3 := (hg3.block O (by have := heap_lt YBO.out; simp; omega) hvO).trans (heap_old YBO.out (.cells #[.int .i8 (Ls.les L (kk, kd) m').1.1, .slice G mm cg] 25))
          have z3 := (hg3.block (w.heap.size + 1) (by have := heap_lt YZ.out; simp; omega) hvZ).trans (heap_old YZ.out (.cells #[.int .i8 (Ls.les L (kk, kd) m').1.1, .slice G mm cg] 25))
          have hR3 := Lib.hid (HSTP.out w8 u2 w3 v' G mm cg _ HB8.out YB.out YI.out hown3 hg3 (by simpa using hat))
          have Z3 := Lib.hid z3
          have HNE := Lib.hid (show O ≠ w.heap.size + 1 by omega)
          clear hzz hown3 hg3 hat yO2 o0 o1 g0 g1 ol q0 q1 r0 r1 ql z3
          obtain ⟨Av, nv, cv, rfl⟩ := own_slice hR3.out.own
          obtain ⟨q0, q1, r0, r1, ql⟩ := own2 b3
          clear b3
          go_wp2_with fail
          go_roundw
          case rel =>
            refine ⟨i + 1, _, _, r, _, _, by go_num, rfl, hR3.out, ?_, ?_, HCN.out, ?_⟩
            · rw [Ty.cat_snoc]; exact HTF.out
            · exact HMF.out
            · rw [Below.heap_setCell _ _ _ _ (by show w.heap.size + 1 ≠ O; exact HNE.out.symm)]; exact Z3.out
          case measure => have h1 := HJ.out.1; simp [intOf]; omega
end Go.Proofs.YtekjhcfjpedbkaaGreatDoor
