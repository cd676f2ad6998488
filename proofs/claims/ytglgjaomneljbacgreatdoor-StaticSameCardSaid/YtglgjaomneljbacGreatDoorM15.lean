import Derived.Maps.AppendAt
import Derived.Deep.RegionLaw
import Derived.Deep.RegionHeld3
import Derived.Deep.DrawnRows
import Derived.Test.YtglgjaomneljbacGreatDoorM10
namespace Go.Proofs.YtglgjaomneljbacGreatDoor
open Go.RowKit
theorem zEK {P : Prop} (h : P := by
 have hl := zC HRES.out
 have e1 := zB HBU.out (Nat.lt_of_lt_of_le hl E1.size) (zB E1 hl HRES.out)
 rw [Below.heap_setCell _ _ _ _ (by show w.heap.size + 1 ≠ w.heap.size + 1 + 1; omega), HG3.out.block _ (by have := zC e1; simp; omega) (fun e => by have := (HOU.out.lt _ e.symm).1; omega)]
 exact zF e1 _) : P := h
theorem zEH {P : Prop} (h : P := by
 refine hown.kept (row := some O) ⟨rfl, rfl, rfl, by simp [World.setCell], fun q hq hne => Below.heap_setCell _ _ _ q (fun e => hne (by rw [e]))⟩ ?_
 cases hv : v'.ownBlock with
 | none => exact .inl rfl
 | some g => exact .inr (fun e => by injection e with e; have := (hown.lt g hv).1; omega)) : P := h
theorem zDz {P : Prop} (h : P := by
 have := zD ((w.alloc (.cells #[.int .i8 k, .slice A n c] 25)).alloc (.cells #[.int .i8 0, .slice none 0 0] 25)) (.cells #[.int .i8 k, .slice none 0 0] 25)
 simpa using this) : P := h
theorem zDr {P : Prop} (h : P := by
 rw [World.cell?_of_block (hg.block b' (by omega) hne), ((Below.refl u.heap.size u).alloc (Nat.le_refl _) o2).cell (p := ⟨b', o', none⟩) hbl]; exact hx) : P := h
def Lone (P : Nat → Prop) (w : World) (k : Int) (kids : Fo) (G : Option Addr) (m c : Nat) : Prop := ∀ u : World, (∀ b o v, P b → w.cell? ⟨b, o, none⟩ = some v → u.cell? ⟨b, o, none⟩ = some v) → Ty.Is u k kids G m c
theorem Lone.is {P : Nat → Prop} {w : World} {k : Int} {kids : Fo} {G : Option Addr} {m c : Nat} (h : Lone P w k kids G m c) : Ty.Is w k kids G m c := h w fun _ _ _ _ h => h
theorem Lone.to {P P' : Nat → Prop} {w w' : World} {k : Int} {kids : Fo} {G : Option Addr} {m c : Nat} (h : Lone P w k kids G m c) (hk : ∀ b o v, P b → w.cell? ⟨b, o, none⟩ = some v → P' b ∧ w'.cell? ⟨b, o, none⟩ = some v) : Lone P' w' k kids G m c :=
 fun u hu => h u fun b o v hb hc => hu b o v (hk b o v hb hc).1 (hk b o v hb hc).2
namespace Ty
def cat : Fo → Fo → Fo
 | .nil, g => g
 | .node a b k kids r, g => .node a b k kids (cat r g)
theorem xY : ∀ f : Fo, cat f .nil = f
 | .nil => rfl
 | .node a b k kids r => by simp only [cat]; rw [xY r]
theorem kP : ∀ (f : Fo) (a b : Nat) (k : Int) (kids r : Fo), cat (cat f (.node a b k kids .nil)) r = cat f (.node a b k kids r)
 | .nil, _, _, _, _, _ => rfl
 | .node _ _ _ _ q, a, b, k, kids, r => by simp only [cat]; rw [kP q]
theorem xM : ∀ (f : Fo) (a b : Nat) (k : Int) (kids : Fo), len (cat f (.node a b k kids .nil)) = len f + 1
 | .nil, _, _, _, _ => rfl
 | .node _ _ _ _ q, a, b, k, kids => by simp only [cat, len]; rw [xM q]
def FlatL (P : Nat → Prop) (w : World) : Fo → List Value → Prop
 | .nil, xs => xs = []
 | .node _ _ k kids r, xs => ∃ A m c ys, xs = .int .i8 k :: .slice A m c :: ys ∧ Lone P w k kids A m c ∧ FlatL P w r ys
theorem FlatL.snoc {P : Nat → Prop} {w : World} {a b : Nat} {k : Int} {kids : Fo} {A : Option Addr} {m c : Nat} (hI : Lone P w k kids A m c) : ∀ (f : Fo) (xs : List Value), FlatL P w f xs → FlatL P w (cat f (.node a b k kids .nil)) (xs ++ [.int .i8 k, .slice A m c])
 | .nil, xs, h => by cases h; exact ⟨A, m, c, [], rfl, hI, rfl⟩
 | .node _ _ _ _ q, xs, h => by
  obtain ⟨A', m', c', ys, rfl, h1, h2⟩ := h
  exact ⟨A', m', c', _, rfl, h1, FlatL.snoc hI q ys h2⟩
theorem FlatL.to {P P' : Nat → Prop} {w w' : World} (hk : ∀ b o v, P b → w.cell? ⟨b, o, none⟩ = some v → P' b ∧ w'.cell? ⟨b, o, none⟩ = some v) : ∀ (f : Fo) (xs : List Value), FlatL P w f xs → FlatL P' w' f xs
 | .nil, _, h => h
 | .node _ _ _ _ q, _, h => by
  obtain ⟨A', m', c', ys, rfl, h1, h2⟩ := h
  exact ⟨A', m', c', ys, rfl, h1.to hk, FlatL.to hk q ys h2⟩
theorem FlatL.lies {P : Nat → Prop} {w u : World} {g : Nat} (hu : ∀ b o v, P b → w.cell? ⟨b, o, none⟩ = some v → u.cell? ⟨b, o, none⟩ = some v) : ∀ (f : Fo) (xs : List Value) (i : Nat), FlatL P w f xs → (∀ j x, xs[j]? = some x → u.cell? ⟨g, i * 2 + j, none⟩ = some x) → Lies u f (some ⟨g, 0, none⟩) i
 | .nil, _, _, _, _ => trivial
 | .node _ _ k kids r, _, i, h, hc => by
  obtain ⟨A', m', c', ys, rfl, h1, h2⟩ := h
  have h1 := h1 u hu
  refine ⟨g, 0, A', c', rfl, ⟨h1.lo, h1.hi⟩, by rw [Nat.zero_add]; exact hc 0 _ rfl, by rw [Nat.zero_add, ← h1.n_eq]; exact hc 1 _ rfl, by rw [← h1.n_eq]; exact h1.n_le, h1.c_le, h1.lies, ?_⟩
  exact FlatL.lies hu r ys (i + 1) h2 fun j u hu => by
   have := hc (j + 2) u (by simpa using hu)
   rwa [show i * 2 + (j + 2) = (i + 1) * 2 + j by omega] at this
end Ty
theorem zAa : (Tryz.prog.info? 25).map (fun i => (i.zero, i.size, i.bytes)) = some (some (.agg #[.int .i8 0, .slice none 0 0]), 2, 32) := by kernel_rfl
theorem qL {P : Program} (w : World) {ops : Array Oper} {o : Oper} {a : Act} {K : Act → World → Prop} {Q : Exit → Act → World → Prop} {E : Prop} (hgd : o.guard = none) (s x : Operand) (t : TypeId)
  (ho : o.op = .call { callee := .builtin .append, args := #[s, x], argTypes := #[t, t] })
  (base : Nat) (e : TypeId) (i : TypeInfo) (z : Value) (size bytes : Nat) (ht : P.underlying t = some (.slice e)) (hi : P.info? e = some i) (hz : i.zero = some z)
  (hsize : i.size = size) (hby : i.bytes = bytes) (hzs : z.cells.size = size) (hsz : 0 < size)
  (v : Value) (n : Nat) (xs : List Value) (hs : a.eval s = v) (hown : w.ownsRow base e size v n xs)
  (ad : Addr) (m c : Nat) (news : List Value) (hx : a.eval x = .slice (some ad) m c) (hl : news.length = m * size) (hnews : ∀ j u, news[j]? = some u → w.cell? (ad.add j) = some u) (h1 : ∀ u ∈ news, u.oneCell' = true)
  (h63 : n + m ≤ maxLen) (hbytes : (n + m) * bytes ≤ 140737488355328) (hbase : base ≤ w.heap.size)
  (h : ∀ v' w', w'.ownsRow base e size v' (n + m) (xs ++ news) → w.grownBy w' v.ownBlock → (v'.ownBlock = v.ownBlock ∨ v'.ownBlock = some w.heap.size) → K (a.put o.dst v') w') :
  if Region.wanted o (yielded ops a.tmps) = true then Oper.wp P o a w K Q else E := by
 have hw : Region.wanted o (yielded ops a.tmps) = true := by simp [Region.wanted, hgd]
 rw [if_pos hw]
 obtain ⟨v', w', hr, h2, h3, h4, h5⟩ := run_append_own_at (P := P) w base t o.type e i z size bytes ht hi hz hsize hby hzs hsz v n xs hown ad m c news hl hnews h1 h63 hbytes hbase
 unfold Oper.wp execOp
 simp only [ho, resolve, invoke, builtin, Sem.run_bind, Sem.run_pure, Result.andThen_ok, List.map_toArray, List.map_cons, List.map_nil, hs, hx, hr]
 exact h v' w' h2 h3 h5
theorem yF {w : World} {base : Nat} {e : TypeId} {size : Nat} {v : Value} {n : Nat} {xs : List Value} (h : w.ownsRow base e size v n xs) : ∃ A m c, v = .slice A m c := by
 rcases h.2 with ⟨h, _⟩ | ⟨g, cap, cur, h, _⟩ <;> exact ⟨_, _, _, h⟩
def CopyL (w : World) (k : Int) (kids : Fo) (e : Ending) (w' : World) : Prop :=
 ∃ G m c, e = .returned (.agg #[.int .i8 k, .slice G m c]) ∧ Lone (fun b => w.heap.size ≤ b) w' k kids G m c ∧ Below w.heap.size w w'
structure CRel (w wr : World) (n0 O : Nat) (A : Option Addr) (k : Int) (kids : Fo) (v : Value) (n i : Nat) (done rest : Fo) (xs : List Value) : Prop where
 eq : Ty.cat done rest = kids
 len : Ty.len done = i
 i_eq : i + Ty.len rest = n
 lies : Ty.Lies w rest A i
 below : Below w.heap.size w wr
 size : n0 ≤ wr.heap.size
 own : wr.ownsRow n0 25 2 v i xs
 flat : Ty.FlatL (fun b => n0 ≤ b ∧ v.ownBlock ≠ some b) wr done xs
 box : wr.heap[O]? = some (.cells #[.int .i8 k, v] 25 (0, 0))
 olt : O < n0
 ole : w.heap.size ≤ O
 sub : Ty.nodes rest ≤ Ty.nodes kids
theorem CRel.step {w wr W u w3 : World} {n0 O : Nat} {A : Option Addr} {k : Int} {kids : Fo} {v v' : Value} {n i a b : Nat} {done r kd : Fo} {kk : Int} {xs : List Value} {G : Option Addr} {m c : Nat} {o2 : Obj}
  (h : CRel w wr n0 O A k kids v n i done (.node a b kk kd r) xs) (hW : Below wr.heap.size wr W) (hb : Below W.heap.size W u) (hI : Lone (fun b => W.heap.size ≤ b) u kk kd G m c)
  (hown : w3.ownsRow n0 25 2 v' (i + 1) (xs ++ [.int .i8 kk, .slice G m c])) (hg : (u.alloc o2).grownBy w3 v.ownBlock) (hat : v'.ownBlock = v.ownBlock ∨ v'.ownBlock = some (u.alloc o2).heap.size) (hl : Ty.Lies w r A (i + 1)) :
  CRel w (w3.setCell ⟨O, 1, none⟩ v') n0 O A k kids v' n (i + 1) (Ty.cat done (.node a b kk kd .nil)) r (xs ++ [.int .i8 kk, .slice G m c]) := by
 obtain ⟨h1, h2, h3, h4, h5, hsz, h6, h7, hbox, h9, h10, h8⟩ := h
 simp only [Ty.len, Ty.nodes] at h3 h8
 have hlt := h6.lt
 have hs2 := hb.size
 have hs3 : u.heap.size < (u.alloc o2).heap.size := by simp
 have hwW := hW.size
 have hwu : Below wr.heap.size wr (u.alloc o2) := (hW.trans (hb.mono hwW)).alloc (by omega) o2
 have hg2 := hg.size
 have hO : O ≠ v'.ownBlock.getD O + 0 ∨ True := .inr trivial
 have hvO : some O ≠ v.ownBlock := fun e => by have := (hlt O e.symm).1; omega
 have hb3 : w3.heap[O]? = some (.cells #[.int .i8 k, v] 25 (0, 0)) := by
  rw [hg.block O (by omega) hvO, hwu.block O (zC hbox)]; exact hbox
 have hcell : ∀ b' o' x, b' ≠ O → w3.cell? ⟨b', o', none⟩ = some x → (w3.setCell ⟨O, 1, none⟩ v').cell? ⟨b', o', none⟩ = some x := fun b' o' x hne hx => by
  rw [World.cell?_setCell_other _ _ _ _ (fun e => hne (by injection e with e; exact e.symm))]; exact hx
 have hown2 : (w3.setCell ⟨O, 1, none⟩ v').ownsRow n0 25 2 v' (i + 1) (xs ++ [.int .i8 kk, .slice G m c]) := by
  exact zEH
 refine ⟨by rw [Ty.kP]; exact h1, by rw [Ty.xM]; omega, by omega, hl, ?_, by simp [World.setCell]; omega, hown2, ?_, ?_, h9, h10, by omega⟩
 ·exact ((h5.trans (hwu.mono h5.size)).grown hg (Nat.le_trans h5.size hwu.size) fun q hq => by have := (hlt q hq).1; omega).setCell h10 _
 ·refine Ty.FlatL.snoc (hI.to fun b' o' x hP hx => ?_) done xs (Ty.FlatL.to (fun b' o' x hP hx => ?_) done xs h7)
  ·have hP' : W.heap.size ≤ b' := hP
   have hbl := Ty.zO hx
   have hne : some b' ≠ v.ownBlock := fun e => by have := (hlt b' e.symm).2; omega
   refine ⟨⟨by omega, fun e => ?_⟩, hcell _ _ _ (by omega) ?_⟩
   ·rcases hat with q | q
    ·exact hne (by rw [← q, e])
    ·rw [q] at e; injection e with e; omega
   ·exact zDr
  ·have hbl := Ty.zO hx
   have hne : some b' ≠ v.ownBlock := fun e => hP.2 e.symm
   have hP1 := hP.1
   refine ⟨⟨hP1, fun e => ?_⟩, hcell _ _ _ (by omega) ?_⟩
   ·rcases hat with q | q
    ·exact hP.2 (by rw [← q, e])
    ·rw [q] at e; injection e with e; have := hwu.size; omega
   ·rw [World.cell?_of_block (hg.block b' (Nat.lt_of_lt_of_le hbl hwu.size) hne), hwu.cell (p := ⟨b', o', none⟩) hbl]; exact hx
 ·simp [World.setCell, Array.getElem?_modify, hb3]
theorem CRel.done {w wr : World} {n0 O : Nat} {A : Option Addr} {k : Int} {kids done : Fo} {v : Value} {n : Nat} {xs : List Value} (hk1 : -128 ≤ k) (hk2 : k ≤ 127) (h : CRel w wr n0 O A k kids v n n done .nil xs) (hn : n = Ty.len kids) :
  ∃ G c, v = .slice G n c ∧ Lone (fun b => n0 ≤ b) wr k kids G n c := by
 obtain ⟨h1, h2, h3, h4, h5, hsz, h6, h7, hbox, h9, h10, h8⟩ := h
 rw [Ty.xY] at h1
 subst h1
 have hc := fun g hg => h6.cells (g := g) hg
 have hlt := h6.lt
 rcases h6.2 with ⟨hv, h0⟩ | ⟨g, cap, cur, rfl, hb, hg, h1, h2', _⟩
 ·have hd : done = .nil := by
   cases done with
   | nil => rfl
   | node _ _ _ _ _ => simp only [Ty.len] at h2; omega
  subst hd
  obtain rfl : n = 0 := by omega
  exact ⟨none, 0, hv, fun u _ => ⟨trivial, rfl, Nat.le_refl _, Nat.zero_le _, hk1, hk2⟩⟩
 ·refine ⟨_, cap, rfl, fun u hu => ⟨?_, hn, h1, h2', hk1, hk2⟩⟩
  refine Ty.FlatL.lies (P := fun b => n0 ≤ b ∧ Value.ownBlock (.slice (some ⟨g, 0, none⟩) n cap) ≠ some b) (w := wr) (fun b o x hP hx => hu b o x hP.1 hx) done xs 0 h7 fun j x hx => ?_
  have := hc g rfl j x hx
  rw [show (⟨g, 0, none⟩ : Addr).add j = ⟨g, j, none⟩ by unfold Addr.add; by_cases h : j = 0 <;> simp [h]] at this
  rw [Nat.zero_mul, Nat.zero_add]
  exact hu g j x hb this
set_option maxHeartbeats 4000000 in
set_option maxRecDepth 100000 in
theorem vF (K : Nat) : ∀ (k : Int) (kids : Fo) (A : Option Addr) (n c : Nat) (w : World), Ty.nodes kids < K → Ty.Is w k kids A n c → Ty.nodes kids ≤ 8192 →
  Calls Tryz.prog 50 #[.agg #[.int .i8 k, .slice A n c]] w (CopyL w k kids) := by
 induction K with
 | zero => intro _ _ _ _ _ _ hK; omega
 | succ K ih =>
  intro k kids A n c w hK hIs hsm
  have hln := Ty.qY kids
  have hneq := hIs.n_eq
  have hlo := hIs.lo
  have hhi := hIs.hi
  have i5 : (n : Int) ≤ 8192 := by omega
  obtain ⟨i0, hi, hz0, hz1, hz2⟩ := info_parts zAa
  have hb2 : Below w.heap.size w (((w.alloc (.cells #[.int .i8 k, .slice A n c] 25)).alloc (.cells #[.int .i8 0, .slice none 0 0] 25)).alloc (.cells #[.int .i8 k, .slice none 0 0] 25)) := (((Below.refl _ _).alloc (Nat.le_refl _) _).alloc (by simp) _).alloc (by simp; omega) _
  have hbx : (((w.alloc (.cells #[.int .i8 k, .slice A n c] 25)).alloc (.cells #[.int .i8 0, .slice none 0 0] 25)).alloc (.cells #[.int .i8 k, .slice none 0 0] 25)).heap[w.heap.size + 1 + 1]? = some (.cells #[.int .i8 k, .slice none 0 0] 25) := by
   exact zDz
  have hsz2 : (((w.alloc (.cells #[.int .i8 k, .slice A n c] 25)).alloc (.cells #[.int .i8 0, .slice none 0 0] 25)).alloc (.cells #[.int .i8 k, .slice none 0 0] 25)).heap.size = w.heap.size + 3 := by simp
  have hst : CRel w (((w.alloc (.cells #[.int .i8 k, .slice A n c] 25)).alloc (.cells #[.int .i8 0, .slice none 0 0] 25)).alloc (.cells #[.int .i8 k, .slice none 0 0] 25)) (w.heap.size + 3) (w.heap.size + 1 + 1) A k kids (.slice none 0 0) n 0 .nil kids [] :=
   ⟨rfl, rfl, by omega, hIs.lies, hb2, by omega, ⟨rfl, .inl ⟨rfl, rfl⟩⟩, rfl, hbx, by omega, by omega, Nat.le_refl _⟩
  have HS := k0_ hst
  have IH := k0_ ih
  have HR1 := k0_ (show (((w.alloc (.cells #[.int .i8 k, .slice A n c] 25)).alloc (.cells #[.int .i8 0, .slice none 0 0] 25)).alloc (.cells #[.int .i8 k, .slice none 0 0] 25)).heap[w.heap.size + 1]? = _ from zF (jS w _ _).2.1 _)
  have HNE := k0_ hneq
  clear hst ih hIs hb2 hbx hsz2 hneq
  go_enter Tryz.func50, Tryz.ntmps50
  go_wp2_with fail
  go_loopw [12] (fun v12 wr => ∃ (i : Nat) (done rest : Fo) (xs : List Value) (v : Value), v12 = .int .i64 i ∧ CRel w wr (w.heap.size + 3) (w.heap.size + 1 + 1) A k kids v n i done rest xs ∧ wr.heap[w.heap.size + 1]? = some (.cells #[.int .i8 0, .slice none 0 0] 25)) (fun v _ => n - (intOf v).toNat)
  case atStart => exact ⟨0, .nil, kids, [], _, rfl, HS.out, HR1.out⟩
  case round =>
   obtain ⟨i, done, rest, xs, v, rfl, hR, hres⟩ := hrel
   cases rest with
   | nil =>
    have hi2 : i = n := by have := hR.i_eq; simpa [Ty.len] using this
    subst hi2
    obtain ⟨G, cg, rfl, hL⟩ := hR.done hlo hhi HNE.out
    have HB := k0_ hR.below
    have HL := k0_ hL
    obtain ⟨b0, b1, _, _, hb0⟩ := zH hR.box
    obtain ⟨d0, d1, f0, f1, hd0⟩ := zH hres
    clear hR hL hres
    go_wp2_with fail
    refine bodyPost_ret (v := .agg #[.int .i8 k, .slice G i cg]) (by simp [results, Tryz.results50, go_sem, *]) rfl ⟨G, i, cg, rfl, ?_, ?_⟩
    ·refine HL.out.to fun b o x hP hx => ?_
     have hP2 : w.heap.size + 3 ≤ b := hP
     refine ⟨by show w.heap.size ≤ b; omega, ?_⟩
     rw [World.cell?_setCell_other _ _ _ _ (fun e => by injection e with e; omega), World.cell?_setCell_other _ _ _ _ (fun e => by injection e with e; omega)]
     exact hx
    ·exact (HB.out.setCell (p := ⟨w.heap.size + 1, 0, none⟩) (by simp) _).setCell (p := ⟨w.heap.size + 1, 1, none⟩) (by simp) _
   | node a b kk kd r =>
    have h1 := hR.i_eq
    have h2 := hR.lies
    have h3 := hR.sub
    have h4 := hR.below
    have HR := k0_ hR
    have HRES := k0_ hres
    simp only [Ty.len, Ty.nodes] at h1 h3
    obtain ⟨bb, oo, B, cB, rfl, ⟨hk1, hk2⟩, c1, c2, hl1, hl2, hl3, hl4⟩ := h2
    have c1' : wr.cell? ⟨bb, oo + i * 2, none⟩ = some (.int .i8 kk) := by rw [h4.cell (p := ⟨bb, _, none⟩) (Ty.zO c1)]; exact c1
    have c2' : wr.cell? ⟨bb, oo + i * 2 + 1, none⟩ = some (.slice B (Ty.len kd) cB) := by rw [h4.cell (p := ⟨bb, _, none⟩) (Ty.zO c2)]; exact c2
    have HC := k0_ (fun (W : World) (hb : Below wr.heap.size wr W) => IH.out kk kd B (Ty.len kd) cB W (by omega) ((show Ty.Is w kk kd B (Ty.len kd) cB from ⟨hl3, rfl, hl1, hl2, hk1, hk2⟩).below (h4.trans (hb.mono h4.size))) (by omega))
    have HL4 := k0_ hl4
    have j1 : (i : Int) < n := by omega
    obtain ⟨b0, b1, f0, f1, hb0⟩ := zH hR.box
    clear hR hres hl1 hl2 hl3 hl4 c1 c2 h4
    go_wp2_with fail
    have hb9 : Below wr.heap.size wr (wr.alloc (.cells #[.int .i8 kk, .slice B (Ty.len kd) cB] 25)) := (Below.refl _ _).alloc (Nat.le_refl _) _
    have HBX := k0_ (zB hb9 hb0 HR.out.box)
    have HKX := k0_ (zD wr (.cells #[.int .i8 kk, .slice B (Ty.len kd) cB] 25))
    have HO9 := k0_ (ownsRow_below HR.out.own hb9)
    clear b0 b1 f0 f1 c1' c2'
    generalize hwk : wr.alloc (.cells #[.int .i8 kk, .slice B (Ty.len kd) cB] 25) = wk at *
    have hws : wk.heap.size = wr.heap.size + 1 := by rw [← hwk]; simp
    have HWS := k0_ hws
    have E1 : Below wr.heap.size wr wk.drew := hb9.drew
    obtain ⟨b0, b1, f0, f1, hb0⟩ := zH HBX.out
    obtain ⟨k0, k1, _, _, hk0⟩ := zH HKX.out
    clear hb9 hwk hws
    go_region_law (first
     | (go_simp; go_at_call 50; (with_reducible refine (HC.out _ E1).mono ?_); rintro e u ⟨G, m, cg, rfl, hnew, hb⟩; have HNW := k0_ hnew; have HBU := k0_ hb; have HBO := k0_ (zB hb (show w.heap.size + 1 + 1 < wk.drew.heap.size from hb0) (show wk.drew.heap[w.heap.size + 1 + 1]? = _ from HBX.out)); have HOU := k0_ (ownsRow_below (show wk.drew.ownsRow _ _ _ _ _ _ from HO9.out) hb); obtain ⟨o0, o1, g0, g1, hol⟩ := zH HBO.out; clear hnew hb; go_wp2_with fail)
     | (refine qL _ (by rfl) (.tmp 17) (.tmp 20) 23 (by rfl) (w.heap.size + 3) 25 i0 (.agg #[.int .i8 0, .slice none 0 0]) 2 32 Tryz.underlying23 hi hz0 hz1 hz2 (by rfl) (by decide) v i xs (by rfl) (HOU.out.alloc _) ⟨u.heap.size, 0, none⟩ 1 1 [.int .i8 kk, .slice G m cg] (by rfl) (by rfl) (zk (zD u _)) (by intro x hx; simp at hx; rcases hx with rfl | rfl <;> rfl) (by unfold maxLen; omega) (by omega) (by have h1 := HBO.out; have h2 := zC h1; simp; omega) ?_; intro v' w3 hown3 hg3 hat3; obtain ⟨Av, nv, cv, rfl⟩ := yF hown3; obtain ⟨q0, q1, r0, r1, ql⟩ := zH ((hg3.block (w.heap.size + 1 + 1) (by simp; omega) (fun e => by have := (HOU.out.lt _ e.symm).1; omega)).trans (zF HBO.out (.cells #[.int .i8 kk, .slice G m cg] 25))); have HOW3 := k0_ hown3; have HG3 := k0_ hg3; have HAT3 := k0_ hat3; clear hown3 hg3 hat3))
    all_goals
     go_wp2_with fail
     go_roundw
     case rel =>
      refine ⟨i + 1, _, r, _, .slice Av nv cv, by go_num, HR.out.step E1 HBU.out HNW.out HOW3.out HG3.out (by simpa using HAT3.out) HL4.out, ?_⟩
      exact zEK
     case measure => simp [intOf]; omega
namespace Ty
def asOk (kd k : Int) (kids : Fo) : Bool := (chk k kids == 0) && decide (3 ≤ kd ∧ kd ≤ 5) && ((k == kd) || (k == 0))
def kid1 : Fo → Int × Fo
 | .node _ _ k f _ => (k, f)
 | .nil => (0, .nil)
def kid2 : Fo → Int × Fo
 | .node _ _ _ _ (.node _ _ k f _) => (k, f)
 | _ => (0, .nil)
def asL (kd k : Int) (kids : Fo) : Int × Fo := if asOk kd k kids then kid1 kids else (0, .nil)
def asR (kd k : Int) (kids : Fo) : Int × Fo := if asOk kd k kids then kid2 kids else (0, .nil)
theorem zDI {kd k : Int} {kids : Fo} (h : asOk kd k kids = false) : asL kd k kids = (0, .nil) ∧ asR kd k kids = (0, .nil) := by
 unfold asL asR; rw [h]; exact ⟨rfl, rfl⟩
theorem zDA {kd : Int} (h1 : 3 ≤ kd) (h2 : kd ≤ 5) : asOk kd 0 .nil = true ∧ asL kd 0 .nil = (0, .nil) ∧ asR kd 0 .nil = (0, .nil) := by
 have h : asOk kd 0 .nil = true := by unfold asOk; simp [h1, h2, show chk 0 .nil = 0 from rfl]
 unfold asL asR; rw [h]; exact ⟨rfl, rfl, rfl⟩
theorem zCa {kd : Int} {a b c d : Nat} {k1 k2 : Int} {f1 f2 : Fo} (h1 : 3 ≤ kd) (h2 : kd ≤ 5) (hc : chk kd (.node a b k1 f1 (.node c d k2 f2 .nil)) = 0) :
  asOk kd kd (.node a b k1 f1 (.node c d k2 f2 .nil)) = true ∧ asL kd kd (.node a b k1 f1 (.node c d k2 f2 .nil)) = (k1, f1) ∧ asR kd kd (.node a b k1 f1 (.node c d k2 f2 .nil)) = (k2, f2) := by
 have h : asOk kd kd (.node a b k1 f1 (.node c d k2 f2 .nil)) = true := by unfold asOk; simp [h1, h2, hc]
 unfold asL asR; rw [h]; exact ⟨rfl, rfl, rfl⟩
theorem qW (w : World) : Is w 0 .nil none 0 0 := ⟨trivial, rfl, Nat.le_refl _, Nat.zero_le _, by omega, by omega⟩
end Ty
def AsPost (w : World) (ok : Bool) (l r : Int × Fo) (e : Ending) (w' : World) : Prop :=
 ∃ G1 m1 c1 G2 m2 c2, e = .returned (.tuple #[.agg #[.int .i8 l.1, .slice G1 m1 c1], .agg #[.int .i8 r.1, .slice G2 m2 c2], .bool ok]) ∧ Ty.Is w' l.1 l.2 G1 m1 c1 ∧ Ty.Is w' r.1 r.2 G2 m2 c2 ∧ Below w.heap.size w w'
theorem qH {wb w2 : World} {b o : Nat} {v : Value} (h : wb.cell? ⟨b, o, none⟩ = some v) (hb : Below wb.heap.size wb w2) : w2.cell? ⟨b, o, none⟩ = some v := by rw [(jK hb).1 _ _ (Ty.zO h)]; exact h
theorem kH {w u : World} {X Y : Nat} (h : Below w.heap.size w u) (hX : w.heap.size ≤ X) (hY : w.heap.size ≤ Y) (v0 v1 v2 v3 : Value) : Below w.heap.size w ((((u.setCell ⟨X, 0, none⟩ v0).setCell ⟨X, 1, none⟩ v1).setCell ⟨Y, 0, none⟩ v2).setCell ⟨Y, 1, none⟩ v3) :=
 (((h.setCell (p := ⟨X, 0, none⟩) hX _).setCell (p := ⟨X, 1, none⟩) hX _).setCell (p := ⟨Y, 0, none⟩) hY _).setCell (p := ⟨Y, 1, none⟩) hY _
theorem yL {P : Nat → Prop} {u : World} {X Y : Nat} {v0 v1 v2 v3 : Value} (hX : ¬ P X) (hY : ¬ P Y) : ∀ b o v, P b → u.cell? ⟨b, o, none⟩ = some v → ((((u.setCell ⟨X, 0, none⟩ v0).setCell ⟨X, 1, none⟩ v1).setCell ⟨Y, 0, none⟩ v2).setCell ⟨Y, 1, none⟩ v3).cell? ⟨b, o, none⟩ = some v := by
 intro b o v hb hc
 have n1 : b ≠ X := fun e => hX (e ▸ hb)
 have n2 : b ≠ Y := fun e => hY (e ▸ hb)
 rw [World.cell?_setCell_other _ _ _ _ (fun e => n2 (by injection e with e; exact e.symm)), World.cell?_setCell_other _ _ _ _ (fun e => n2 (by injection e with e; exact e.symm)), World.cell?_setCell_other _ _ _ _ (fun e => n1 (by injection e with e; exact e.symm)), World.cell?_setCell_other _ _ _ _ (fun e => n1 (by injection e with e; exact e.symm))]
 exact hc
end Go.Proofs.YtglgjaomneljbacGreatDoor
