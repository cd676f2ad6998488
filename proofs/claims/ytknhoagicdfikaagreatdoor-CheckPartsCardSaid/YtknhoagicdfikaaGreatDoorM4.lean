/-
  Terms as forests: how many, how deep, what they are; how they lie in memory. An argument that is a term: its fields, its types, its kids, as they lie in memory. Layer 3's leaves: how many kids a kind has, which fields count; operators; labels. The world stays as it was. terms.shapeOf: the table of terms' shapes. terms.typesOf: the types of a term that count. parts.Types: a term's own types.
-/
import Derived.Test.YtknhoagicdfikaaGreatDoorM1
import Derived.Test.YtknhoagicdfikaaGreatDoorM3
import Derived.Test.YtknhoagicdfikaaGreatDoorM2
import Derived.SizedLaws
import Derived.Test.YtknhoagicdfikaaGreatDoorLeaf
import Derived.IntWalk
namespace Go.Proofs.YtknhoagicdfikaaGreatDoor
open Go.RowKit Go.ChangeShapes Go.WideShapes

/-- a term's own fields -/
structure Hd where
  kind : Int
  name : ByteArray
  arg : ByteArray
  num : Int
  tk : Int
  tkids : Fo
  uk : Int
  ukids : Fo
  label : Int
  pos : Int
/-- a list of terms: the first has the fields h and the kids -/
inductive Tm where
  | nil
  | node (h : Hd) (kids rest : Tm)
/-- where a term's types and kids lie -/
structure Pl where
  TA : Option Addr
  tn : Nat
  tc : Nat
  UA : Option Addr
  un : Nat
  uc : Nat
  A : Option Addr
  n : Nat
  c : Nat
/-- a term's cells -/
@[reducible] def Hd.cells (h : Hd) (p : Pl) : List Value :=
  [.int .i8 h.kind, .string h.name, .string h.arg, .int .i64 h.num, .int .i8 h.tk, .slice p.TA p.tn p.tc, .int .i8 h.uk, .slice p.UA p.un p.uc, .int .i64 h.label, .int .i64 h.pos, .slice p.A p.n p.c]

namespace Tm
def hasName (k : Int) : Bool := decide (k = 0 ∨ k = 4 ∨ k = 5 ∨ k = 7 ∨ k = 14 ∨ k = 15)
def hasArg (k : Int) : Bool := decide (k = 5 ∨ k = 14)
def hasNum (k : Int) : Bool := decide (k = 1)
def hasType (k : Int) : Bool := decide (k = 4 ∨ k = 5 ∨ k = 7 ∨ k = 12 ∨ k = 13 ∨ k = 16 ∨ k = 17)
def hasTo (k : Int) : Bool := decide (k = 5 ∨ k = 17)
def hasLabel (k : Int) : Bool := decide (k = 17)
def isKind (k : Int) : Bool := decide (0 ≤ k ∧ k ≤ 17)
def kidsN (k : Int) : Nat :=
  if k = 4 ∨ k = 5 ∨ k = 10 ∨ k = 11 ∨ k = 12 ∨ k = 13 ∨ k = 16 ∨ k = 17 then 1 else if k = 6 ∨ k = 7 ∨ k = 9 ∨ k = 15 then 2 else if k = 8 ∨ k = 14 then 3 else 0
def isOp (s : ByteArray) : Bool := decide (s.toList ∈ ([[43], [45], [42], [47], [60], [61]] : List (List UInt8)))

def len : Tm → Nat
  | .nil => 0
  | .node _ _ r => len r + 1
/-- the nodes of a term's own types that count -/
def tyN (h : Hd) : Nat := (if hasType h.kind then Ty.nod h.tkids else 0) + (if hasTo h.kind then Ty.nod h.ukids else 0)
def tyD (h : Hd) : Nat := max (if hasType h.kind then Ty.dpt h.tkids else 0) (if hasTo h.kind then Ty.dpt h.ukids else 0)
def nodes : Tm → Nat
  | .nil => 0
  | .node h kids r => 1 + tyN h + nodes kids + nodes r
def dep : Tm → Nat
  | .nil => 0
  | .node h kids r => max (1 + max (tyD h) (dep kids)) (dep r)
/-- the types that count, as a list -/
def tys (h : Hd) : Fo := if hasType h.kind then (if hasTo h.kind then .node 0 0 h.tk h.tkids (.node 0 0 h.uk h.ukids .nil) else .node 0 0 h.tk h.tkids .nil) else .nil
def nameOk (h : Hd) : Bool := if h.kind = 15 then isOp h.name else (!hasName h.kind || Sc.isName h.name) && (!hasArg h.kind || Sc.isName h.arg)
def labelOk (n : Int) : Bool := decide (n ≠ 0 ∧ -2147483648 ≤ n ∧ n ≤ 2147483648)
def tysOk (h : Hd) : Bool := (!hasType h.kind || Ty.chk h.tk h.tkids == 0) && (!hasTo h.kind || Ty.chk h.uk h.ukids == 0)
/-- what a term's own fields must be, with so many kids -/
def headOk (h : Hd) (n : Nat) : Bool := isKind h.kind && decide (n = kidsN h.kind) && nameOk h && (!hasLabel h.kind || labelOk h.label) && tysOk h
def okF : Tm → Bool
  | .nil => true
  | .node h kids r => headOk h (len kids) && okF kids && okF r
def okT (h : Hd) (kids : Tm) : Bool := headOk h (len kids) && okF kids
/-- a term's nodes, depth -/
def nd (h : Hd) (kids : Tm) : Nat := 1 + tyN h + nodes kids
def dp (h : Hd) (kids : Tm) : Nat := 1 + max (tyD h) (dep kids)
def nod (h : Hd) (kids : Tm) : Nat := min (nd h kids) 8193
def dpt (h : Hd) (kids : Tm) : Nat := if 8192 < nd h kids then 201 else min (dp h kids) 201
def chk (h : Hd) (kids : Tm) : Nat := if 8192 < nd h kids then 32 else if 200 < dp h kids then 31 else if okT h kids then 0 else 30

theorem hasTo_type {k : Int} (h : hasTo k = true) : hasType k = true := by simp [hasTo, hasType] at *; omega
/-- what is asked of a term's places -/
structure Fit (w : World) (h : Hd) (p : Pl) (n : Nat) : Prop where
  ty : Ty.Is w h.tk h.tkids p.TA p.tn p.tc
  to : Ty.Is w h.uk h.ukids p.UA p.un p.uc
  n_eq : p.n = n
  n_le : p.n ≤ p.c
  c_le : p.c ≤ maxLen
  klo : -128 ≤ h.kind
  khi : h.kind ≤ 127
  llo : -9223372036854775808 ≤ h.label
  lhi : h.label ≤ 9223372036854775807
  nm : h.name.size ≤ 281474976710656
  ar : h.arg.size ≤ 281474976710656
/-- the terms of a list lie in memory from the i-th place of a slice on -/
def Lies (w : World) : Tm → Option Addr → Nat → Prop
  | .nil, _, _ => True
  | .node h kids r, A, i => ∃ b o p, A = some ⟨b, o, none⟩ ∧ (∀ j v, (h.cells p)[j]? = some v → w.cell? ⟨b, o + i * 11 + j, none⟩ = some v) ∧ Fit w h p (len kids) ∧ Lies w kids p.A 0 ∧ Lies w r A (i + 1)
/-- a term's value -/
structure Is (w : World) (h : Hd) (kids : Tm) (p : Pl) : Prop where
  fit : Fit w h p (len kids)
  lies : Lies w kids p.A 0

/-- what keeps all blocks that hold a kind -/
def Kept (w w' : World) : Prop := ∀ b, (∃ o k, w.cell? ⟨b, o, none⟩ = some (.int .i8 k)) → ∀ o v, w.cell? ⟨b, o, none⟩ = some v → w'.cell? ⟨b, o, none⟩ = some v
end Tm
theorem Ty.Lies.kept {w w' : World} (hk : Tm.Kept w w') : ∀ (f : Fo) (A : Option Addr) (i : Nat), Ty.Lies w f A i → Ty.Lies w' f A i
  | .nil, _, _, _ => trivial
  | .node _ _ _ kids r, A, i, h => by
    obtain ⟨b, o, B, c, hA, hkk, h1, h2, h3, h4, h5, h6⟩ := h
    exact ⟨b, o, B, c, hA, hkk, hk b ⟨_, _, h1⟩ _ _ h1, hk b ⟨_, _, h1⟩ _ _ h2, h3, h4, Ty.Lies.kept hk kids B 0 h5, Ty.Lies.kept hk r A (i + 1) h6⟩
theorem Ty.Is.kept {w w' : World} {k : Int} {kids : Fo} {A : Option Addr} {n c : Nat} (h : Ty.Is w k kids A n c) (hk : Tm.Kept w w') : Ty.Is w' k kids A n c :=
  ⟨h.lies.kept hk, h.n_eq, h.n_le, h.c_le, h.lo, h.hi⟩
namespace Tm
theorem Fit.kept {w w' : World} {h : Hd} {p : Pl} {n : Nat} (f : Fit w h p n) (hk : Kept w w') : Fit w' h p n :=
  ⟨f.ty.kept hk, f.to.kept hk, f.n_eq, f.n_le, f.c_le, f.klo, f.khi, f.llo, f.lhi, f.nm, f.ar⟩
theorem Lies.kept {w w' : World} (hk : Kept w w') : ∀ (f : Tm) (A : Option Addr) (i : Nat), Lies w f A i → Lies w' f A i
  | .nil, _, _, _ => trivial
  | .node h kids r, A, i, hh => by
    obtain ⟨b, o, p, hA, h1, h2, h3, h4⟩ := hh
    exact ⟨b, o, p, hA, fun j v hv => hk b ⟨_, _, h1 0 _ rfl⟩ _ _ (h1 j v hv), h2.kept hk, Lies.kept hk kids p.A 0 h3, Lies.kept hk r A (i + 1) h4⟩
theorem Is.kept {w w' : World} {h : Hd} {kids : Tm} {p : Pl} (f : Is w h kids p) (hk : Kept w w') : Is w' h kids p := ⟨f.fit.kept hk, f.lies.kept hk⟩
theorem Kept.of_below {w w' : World} (hb : Below w.heap.size w w') : Kept w w' := fun b _ o v h => by rw [hb.cell (p := ⟨b, o, none⟩) (Ty.cell_lt h)]; exact h
theorem Lies.below {w w' : World} {f : Tm} {A : Option Addr} {i : Nat} (h : Lies w f A i) (hb : Below w.heap.size w w') : Lies w' f A i := h.kept (.of_below hb)
theorem Is.below {w w' : World} {h : Hd} {kids : Tm} {p : Pl} (f : Is w h kids p) (hb : Below w.heap.size w w') : Is w' h kids p := f.kept (.of_below hb)
theorem Is.alloc {w : World} {h : Hd} {kids : Tm} {p : Pl} (f : Is w h kids p) (o : Obj) : Is (w.alloc o) h kids p := f.below ((Below.refl _ _).alloc (Nat.le_refl _) _)
theorem Lies.alloc {w : World} {f : Tm} {A : Option Addr} {i : Nat} (h : Lies w f A i) (o : Obj) : Lies (w.alloc o) f A i := h.below ((Below.refl _ _).alloc (Nat.le_refl _) _)
/-- one block alone may have turned, and there is no kind in it -/
theorem Kept.grown {w w' : World} {g : Nat} (hg : w.grownBy w' (some g)) (hno : ∀ o (k : Int), w.cell? ⟨g, o, none⟩ = some (.int .i8 k) → False) : Kept w w' := fun b hb o v h => by
  by_cases e : b = g
  · subst e; obtain ⟨o', k, hk⟩ := hb; exact (hno o' k hk).elim
  · rw [World.cell?_of_block (hg.block b (Ty.cell_lt h) (fun h => e (by injection h)))]; exact h
end Tm
end Go.Proofs.YtknhoagicdfikaaGreatDoor
namespace Go.Proofs.YtknhoagicdfikaaGreatDoor
open Go.RowKit Go.ChangeShapes Go.WideShapes

theorem u_Term : ∃ f0 f1 f2 f3 f4 f5 f6 f7 f8 : Field, Tryz.prog.underlying 28 = some (.struct #[f0, f1, f2, f3, f4, f5, f6, f7, f8]) ∧ (f0.type = 22 ∧ f0.offset = 0) ∧ (f1.type = 9 ∧ f1.offset = 1) ∧ (f2.type = 9 ∧ f2.offset = 2) ∧ (f3.type = 2 ∧ f3.offset = 3) ∧ (f4.type = 25 ∧ f4.offset = 4) ∧ (f5.type = 25 ∧ f5.offset = 6) ∧ (f6.type = 3 ∧ f6.offset = 8) ∧ (f7.type = 3 ∧ f7.offset = 9) ∧ (f8.type = 26 ∧ f8.offset = 10) := ⟨_, _, _, _, _, _, _, _, _, Tryz.underlying28, ⟨rfl, rfl⟩, ⟨rfl, rfl⟩, ⟨rfl, rfl⟩, ⟨rfl, rfl⟩, ⟨rfl, rfl⟩, ⟨rfl, rfl⟩, ⟨rfl, rfl⟩, ⟨rfl, rfl⟩, ⟨rfl, rfl⟩⟩
theorem c_Term : Tryz.prog.cellsOf 28 = 11 := by kernel_rfl
theorem ct_string : Tryz.prog.cellsOf 9 = 1 := by kernel_rfl
theorem ct_int : Tryz.prog.cellsOf 3 = 1 := by kernel_rfl
theorem ct_int64 : Tryz.prog.cellsOf 2 = 1 := by kernel_rfl
theorem ct_kids : Tryz.prog.cellsOf 26 = 1 := by kernel_rfl

namespace Tm
theorem forest {w : World} {b o n : Nat} (hh : ∀ i, i < n → ∃ h kids p, (∀ j v, (h.cells p)[j]? = some v → w.cell? ⟨b, o + i * 11 + j, none⟩ = some v) ∧ Is w h kids p) :
    ∀ j, j ≤ n → ∃ f : Tm, len f = j ∧ Lies w f (some ⟨b, o, none⟩) (n - j) := by
  intro j
  induction j with
  | zero => exact fun _ => ⟨.nil, rfl, trivial⟩
  | succ j ih =>
    intro hj
    obtain ⟨f, hf, hL⟩ := ih (by omega)
    obtain ⟨h, kids, p, h1, h2⟩ := hh (n - (j + 1)) (by omega)
    refine ⟨.node h kids f, by simp only [len]; omega, b, o, p, rfl, h1, h2.fit, h2.lies, ?_⟩
    rw [show n - (j + 1) + 1 = n - j by omega]
    exact hL
end Tm
theorem weights_elems {H : Type} {P : Program} {e : TypeId} {d : DataW H} : ∀ {l : List (DataW H)}, d ∈ l → ∀ n ∈ d.weights P e, n ∈ DataW.weightsAll P e l
  | [], h, _, _ => by cases h
  | x :: r, h, n, hn => by
    simp only [DataW.weightsAll, List.mem_append]
    rcases List.mem_cons.1 h with rfl | h
    · exact .inl hn
    · exact .inr (weights_elems h n hn)

set_option maxRecDepth 100000 in
set_option maxHeartbeats 1000000 in
theorem open_term {H : Type} {enc : TypeId × Value → H} {w : World} {base : Nat} {sp : Nat → Bool} {hd : Bool} : ∀ (fuel : Nat) (cs : List Value) (x : DataW H × List MemPlace), DataW.trod enc Tryz.prog w base sp hd fuel 28 cs = some x →
    (∀ n ∈ x.1.weights Tryz.prog 28, n ≤ reachBytes) → ∃ h kids p, cs = h.cells p ∧ Tm.Is w h kids p := by
  intro fuel
  induction fuel using Nat.strongRecOn with
  | _ fuel ih =>
    intro cs x hx hsz
    obtain ⟨f0, f1, f2, f3, f4, f5, f6, f7, f8, hu, ⟨t0, o0⟩, ⟨t1, o1⟩, ⟨t2, o2⟩, ⟨t3, o3⟩, ⟨t4, o4⟩, ⟨t5, o5⟩, ⟨t6, o6⟩, ⟨t7, o7⟩, ⟨t8, o8⟩⟩ := u_Term
    obtain ⟨xs, m, rfl, rfl, hl, hxl, hf⟩ := DataW.trod_struct hu hx
    rw [c_Term] at hl
    match cs, hl with
    | [v0, v1, v2, v3, v4, v5, v6, v7, v8, v9, v10], _ =>
    have hw : ∀ (i : Nat) (f : Field) (hi : i < 9), (#[f0, f1, f2, f3, f4, f5, f6, f7, f8] : Array Field)[i]? = some f → ∀ n ∈ (xs[i]'(by rw [hxl]; exact hi)).1.weights Tryz.prog f.type, n ≤ reachBytes := by
      intro i f hi hfi n hn
      refine hsz n ?_
      simp only [DataW.weights, hu]
      refine DataW.weights_mem_each (j := i) (t := f.type) (d := (xs[i]'(by rw [hxl]; exact hi)).1) ?_ ?_ n hn
      · rw [List.getElem?_map, Array.getElem?_toList, hfi]; rfl
      · rw [List.getElem?_map, List.getElem?_eq_getElem (by rw [hxl]; exact hi)]; rfl
    have h0 := hf 0 f0 rfl
    rw [t0, o0, c_int8] at h0
    have hx0 : xs[0]? = some (xs[0]'(by rw [hxl]; simp)) := List.getElem?_eq_getElem _
    rw [hx0] at h0
    simp only [List.drop_zero, List.take_succ_cons, List.take_zero] at h0
    have h1 := hf 1 f1 rfl
    rw [t1, o1, ct_string] at h1
    have hx1 : xs[1]? = some (xs[1]'(by rw [hxl]; simp)) := List.getElem?_eq_getElem _
    rw [hx1] at h1
    simp only [List.drop_zero, List.take_succ_cons, List.take_zero, List.drop_succ_cons] at h1
    have h2 := hf 2 f2 rfl
    rw [t2, o2, ct_string] at h2
    have hx2 : xs[2]? = some (xs[2]'(by rw [hxl]; simp)) := List.getElem?_eq_getElem _
    rw [hx2] at h2
    simp only [List.drop_zero, List.take_succ_cons, List.take_zero, List.drop_succ_cons] at h2
    have h3 := hf 3 f3 rfl
    rw [t3, o3, ct_int64] at h3
    have hx3 : xs[3]? = some (xs[3]'(by rw [hxl]; simp)) := List.getElem?_eq_getElem _
    rw [hx3] at h3
    simp only [List.drop_zero, List.take_succ_cons, List.take_zero, List.drop_succ_cons] at h3
    have h4 := hf 4 f4 rfl
    rw [t4, o4, c_Type] at h4
    have hx4 : xs[4]? = some (xs[4]'(by rw [hxl]; simp)) := List.getElem?_eq_getElem _
    rw [hx4] at h4
    simp only [List.drop_zero, List.take_succ_cons, List.take_zero, List.drop_succ_cons] at h4
    have h5 := hf 5 f5 rfl
    rw [t5, o5, c_Type] at h5
    have hx5 : xs[5]? = some (xs[5]'(by rw [hxl]; simp)) := List.getElem?_eq_getElem _
    rw [hx5] at h5
    simp only [List.drop_zero, List.take_succ_cons, List.take_zero, List.drop_succ_cons] at h5
    have h6 := hf 6 f6 rfl
    rw [t6, o6, ct_int] at h6
    have hx6 : xs[6]? = some (xs[6]'(by rw [hxl]; simp)) := List.getElem?_eq_getElem _
    rw [hx6] at h6
    simp only [List.drop_zero, List.take_succ_cons, List.take_zero, List.drop_succ_cons] at h6
    have h7 := hf 7 f7 rfl
    rw [t7, o7, ct_int] at h7
    have hx7 : xs[7]? = some (xs[7]'(by rw [hxl]; simp)) := List.getElem?_eq_getElem _
    rw [hx7] at h7
    simp only [List.drop_zero, List.take_succ_cons, List.take_zero, List.drop_succ_cons] at h7
    have h8 := hf 8 f8 rfl
    rw [t8, o8, ct_kids] at h8
    have hx8 : xs[8]? = some (xs[8]'(by rw [hxl]; simp)) := List.getElem?_eq_getElem _
    rw [hx8] at h8
    simp only [List.drop_zero, List.take_succ_cons, List.take_zero, List.drop_succ_cons] at h8
    obtain ⟨k, hk, -, hwf0⟩ := DataW.trod_int Tryz.underlying22 h0
    have hlo : -128 ≤ k ∧ k ≤ 127 := by
      have hmin : IntKind.i8.min = -128 := rfl
      have hmax : IntKind.i8.max = 127 := rfl
      simp only [Lit.wf, Bool.and_eq_true, decide_eq_true_eq, hmin, hmax] at hwf0
      omega
    obtain ⟨nm, hnm, hxn, -⟩ := DataW.trod_string Tryz.underlying9 h1
    obtain ⟨ar, har, hxa, -⟩ := DataW.trod_string Tryz.underlying9 h2
    obtain ⟨nu, hnu, -, -⟩ := DataW.trod_int Tryz.underlying2 h3
    obtain ⟨tk, tks, TA, tn, tc, htc, hIt⟩ := open_type m _ _ h4
    obtain ⟨uk, uks, UA, un, uc, huc, hIu⟩ := open_type m _ _ h5
    obtain ⟨lb, hlb, -, hwf6⟩ := DataW.trod_int Tryz.underlying3 h6
    have hll : -9223372036854775808 ≤ lb ∧ lb ≤ 9223372036854775807 := by
      have hmin : IntKind.i64.min = -9223372036854775808 := rfl
      have hmax : IntKind.i64.max = 9223372036854775807 := rfl
      simp only [Lit.wf, Bool.and_eq_true, decide_eq_true_eq, hmin, hmax] at hwf6
      omega
    obtain ⟨ps, hps, -, -⟩ := DataW.trod_int Tryz.underlying3 h7
    injection hk with hk
    injection hnm with hnm
    injection har with har
    injection hnu with hnu
    injection htc with htc1 htc
    injection htc with htc2
    injection huc with huc1 huc
    injection huc with huc2
    injection hlb with hlb
    injection hps with hps
    subst hk hnm har hnu htc1 htc2 huc1 huc2 hlb hps
    have hrb := reachBytes_lt
    have z1 : nm.size ≤ 281474976710656 := by
      have := hw 1 f1 (by decide) rfl nm.data.toList.length (by rw [hxn]; simp [DataW.weights])
      rw [Sc.data_len] at this
      omega
    have z2 : ar.size ≤ 281474976710656 := by
      have := hw 2 f2 (by decide) rfl ar.data.toList.length (by rw [hxa]; simp [DataW.weights])
      rw [Sc.data_len] at this
      omega
    rcases DataW.trod_slice Tryz.underlying26 h8 with ⟨hcs, -⟩ | ⟨a, len, cap, elems, rest, m', hm, hcs, hx8', hb, hle, hcap, hel, hat, -, -⟩
    · injection hcs with hcs
      subst hcs
      exact ⟨⟨k, nm, ar, nu, tk, tks, uk, uks, lb, ps⟩, .nil, ⟨TA, tn, tc, UA, un, uc, none, 0, 0⟩, rfl, ⟨hIt, hIu, rfl, Nat.le_refl _, Nat.zero_le _, hlo.1, hlo.2, hll.1, hll.2, z1, z2⟩, trivial⟩
    · injection hcs with hcs
      subst hcs
      rw [c_Term] at hat
      obtain ⟨b, o, s⟩ := a
      by_cases hz : len = 0
      · subst hz
        exact ⟨⟨k, nm, ar, nu, tk, tks, uk, uks, lb, ps⟩, .nil, ⟨TA, tn, tc, UA, un, uc, some ⟨b, o, s⟩, 0, cap⟩, rfl, ⟨hIt, hIu, rfl, hle, hcap, hlo.1, hlo.2, hll.1, hll.2, z1, z2⟩, trivial⟩
      · have hsp : s = none := by
          have h2 := hat 0 (by omega)
          rw [List.getElem?_eq_getElem (by omega : 0 < elems.length)] at h2
          obtain ⟨cs', hc, -⟩ := Option.bind_eq_some_iff.1 h2
          obtain ⟨-, hcl, hcell⟩ := World.cells?_some hc
          have h3 := hcell 0 (by omega)
          rw [List.getElem?_eq_getElem (by omega : 0 < cs'.length)] at h3
          simpa [Addr.add] using World.cell?_spot h3
        subst hsp
        have hfor : ∀ i, i < len → ∃ h kids p, (∀ j v, (Hd.cells h p)[j]? = some v → w.cell? ⟨b, o + i * 11 + j, none⟩ = some v) ∧ Tm.Is w h kids p := by
          intro i hi
          have h2 := hat i hi
          rw [List.getElem?_eq_getElem (by omega : i < elems.length)] at h2
          obtain ⟨cs', hc, htr⟩ := Option.bind_eq_some_iff.1 h2
          have hwi : ∀ n ∈ (elems[i]'(by omega)).1.weights Tryz.prog 28, n ≤ reachBytes := by
            intro n hn
            refine hw 8 f8 (by decide) rfl n ?_
            rw [hx8', t8]
            simp only [DataW.weights, Tryz.underlying26]
            refine List.mem_cons_of_mem _ (List.mem_append_left _ (weights_elems ?_ n hn))
            exact List.mem_map.2 ⟨_, List.getElem_mem _, rfl⟩
          obtain ⟨h', kids', p', rfl, hIs⟩ := ih m' (by omega) cs' _ htr hwi
          obtain ⟨-, hcl, hcell⟩ := World.cells?_some hc
          refine ⟨h', kids', p', fun j v hv => ?_, hIs⟩
          have hj : j < 11 := by
            rcases Nat.lt_or_ge j 11 with h | h
            · exact h
            · rw [List.getElem?_eq_none (by simpa using h)] at hv; cases hv
          have h3 := hcell j hj
          rw [add_at, add_at, hv] at h3
          exact h3
        obtain ⟨f, hf1, hf2⟩ := Tm.forest hfor len (Nat.le_refl _)
        rw [Nat.sub_self] at hf2
        exact ⟨⟨k, nm, ar, nu, tk, tks, uk, uks, lb, ps⟩, f, ⟨TA, tn, tc, UA, un, uc, some ⟨b, o, none⟩, len, cap⟩, rfl, ⟨hIt, hIu, hf1.symm, hle, hcap, hlo.1, hlo.2, hll.1, hll.2, z1, z2⟩, hf2⟩
end Go.Proofs.YtknhoagicdfikaaGreatDoor
namespace Go.Proofs.YtknhoagicdfikaaGreatDoor
open Go.RowKit

namespace Tm
theorem isOp_iff (s : ByteArray) : isOp s = (s.toList == [43] || s.toList == [45] || s.toList == [42] || s.toList == [47] || s.toList == [60] || s.toList == [61]) := by
  unfold isOp; rw [Bool.eq_iff_iff]; simp [or_assoc]
end Tm

set_option maxHeartbeats 1000000 in
set_option maxRecDepth 100000 in
theorem operator_any (s : ByteArray) (w : World) :
    Calls Tryz.prog 81 #[.string s] w fun e w' => e = .returned (.bool (Tm.isOp s)) ∧ w = w' := by
  go_enter Tryz.func81, Tryz.ntmps81
  go_wp2
  all_goals go_ret
  all_goals exact ⟨ret_b (by simp_all [Tm.isOp_iff]), rfl⟩

set_option maxHeartbeats 1000000 in
set_option maxRecDepth 100000 in
theorem label_any (n : Int) (w : World) (h1 : -9223372036854775808 ≤ n) (h2 : n ≤ 9223372036854775807) :
    Calls Tryz.prog 55 #[.int .i64 n] w fun e w' => e = .returned (.bool (Tm.labelOk n)) ∧ w = w' := by
  go_enter Tryz.func55, Tryz.ntmps55
  go_wp2
  all_goals go_ret
  all_goals refine ⟨ret_b ?_, rfl⟩
  all_goals (rw [Bool.eq_iff_iff]; simp [Tm.labelOk]; try omega)
end Go.Proofs.YtknhoagicdfikaaGreatDoor
namespace Go.Proofs.YtknhoagicdfikaaGreatDoor
open Go.RowKit

/-- a kind's row of the table -/
def tshape (k : Int) : List Value := [.bool (Tm.hasName k), .bool (Tm.hasArg k), .bool (Tm.hasNum k), .bool (Tm.hasType k), .bool (Tm.hasTo k), .bool (Tm.hasLabel k), .int .i64 (Tm.kidsN k)]
structure TShapes (w : World) : Prop where
  lt : 2 < w.heap.size
  row : ∀ k : Int, 0 ≤ k → k < 18 → ∀ j v, (tshape k)[j]? = some v → w.cell? ⟨2, k.toNat * 7 + j, none⟩ = some v
theorem TShapes.below {w w' : World} (h : TShapes w) (hb : Below w.heap.size w w') : TShapes w' :=
  ⟨Nat.lt_of_lt_of_le h.lt hb.size, fun k h0 h1 j v hv => by rw [(bcell hb).1 _ _ h.lt]; exact h.row k h0 h1 j v hv⟩
theorem TShapes.alloc {w : World} (h : TShapes w) (o : Obj) : TShapes (w.alloc o) := h.below ((Below.refl _ _).alloc (Nat.le_refl _) _)
theorem TShapes.grown {w w' : World} {g : Nat} (h : TShapes w) (hg : w.grownBy w' (some g)) (hne : g ≠ 2) : TShapes w' :=
  ⟨Nat.lt_of_lt_of_le h.lt hg.size, fun k h0 h1 j v hv => by
    rw [World.cell?_of_block (hg.block 2 h.lt (fun e => hne (by injection e with e; exact e.symm)))]; exact h.row k h0 h1 j v hv⟩

set_option maxHeartbeats 1000000 in
set_option maxRecDepth 100000 in
theorem shapeOf_in (k : Int) (w : World) (h0 : 0 ≤ k) (h1 : k < 18) (hS : TShapes w) :
    Calls Tryz.prog 53 #[.int .i8 k] w fun e w' => e = .returned (.tuple #[.agg #[.bool (Tm.hasName k), .bool (Tm.hasArg k), .bool (Tm.hasNum k), .bool (Tm.hasType k), .bool (Tm.hasTo k), .bool (Tm.hasLabel k), .int .i64 (Tm.kidsN k)], .bool true]) ∧ Below w.heap.size w w' := by
  have hr := fun j v hv => ((hS.alloc (.cells #[.bool false, .bool false, .bool false, .bool false, .bool false, .bool false, .int .i64 0] 97)).row k h0 h1 j v hv)
  have c0 := hr 0 _ rfl
  have c1 := hr 1 _ rfl
  have c2 := hr 2 _ rfl
  have c3 := hr 3 _ rfl
  have c4 := hr 4 _ rfl
  have c5 := hr 5 _ rfl
  have c6 := hr 6 _ rfl
  rw [Nat.add_zero] at c0
  have hl := hS.lt
  clear hr hS
  have hd1 : decide (k < (0 : Int)) = false := by simp; omega
  have hd2 : decide ((18 : Int) ≤ k) = false := by simp; omega
  have hw : IntKind.i64.wrap k = k := IntWalk.i64_in _ (by omega)
  have hix : 0 ≤ k ∧ k < 18 := ⟨h0, h1⟩
  generalize Tm.hasName k = b0 at *
  generalize Tm.hasArg k = b1 at *
  generalize Tm.hasNum k = b2 at *
  generalize Tm.hasType k = b3 at *
  generalize Tm.hasTo k = b4 at *
  generalize Tm.hasLabel k = b5 at *
  generalize Tm.kidsN k = n at *
  go_enter Tryz.func53, Tryz.ntmps53
  go_wp2_with fail
  refine bodyPost_ret (v := .tuple #[.agg #[.bool b0, .bool b1, .bool b2, .bool b3, .bool b4, .bool b5, .int .i64 n], .bool true]) (by simp [results, Tryz.results53, go_sem]) rfl ⟨rfl, ?_⟩
  exact (Below.refl _ _).alloc (Nat.le_refl _) _

set_option maxHeartbeats 1000000 in
set_option maxRecDepth 100000 in
theorem shapeOf_out (k : Int) (w : World) (hk : -128 ≤ k) (hk2 : k ≤ 127) (h : ¬(0 ≤ k ∧ k < 18)) :
    Calls Tryz.prog 53 #[.int .i8 k] w fun e w' => e = .returned (.tuple #[.agg #[.bool false, .bool false, .bool false, .bool false, .bool false, .bool false, .int .i64 0], .bool false]) ∧ Below w.heap.size w w' := by
  have hw : IntKind.i64.wrap k = k := IntWalk.i64_in _ (by omega)
  by_cases h0 : (0 : Int) ≤ k
  · have hd1 : decide (k < (0 : Int)) = false := by simp; omega
    have hd2 : decide ((18 : Int) ≤ k) = true := by simp; omega
    go_enter Tryz.func53, Tryz.ntmps53
    go_wp2_with fail
    refine bodyPost_ret (v := .tuple #[.agg #[.bool false, .bool false, .bool false, .bool false, .bool false, .bool false, .int .i64 0], .bool false]) (by simp [results, Tryz.results53, go_sem]) rfl ⟨rfl, ?_⟩
    exact (Below.refl _ _).alloc (Nat.le_refl _) _
  · have hd1 : decide (k < (0 : Int)) = true := by simp; omega
    go_enter Tryz.func53, Tryz.ntmps53
    go_wp2_with fail
    refine bodyPost_ret (v := .tuple #[.agg #[.bool false, .bool false, .bool false, .bool false, .bool false, .bool false, .int .i64 0], .bool false]) (by simp [results, Tryz.results53, go_sem]) rfl ⟨rfl, ?_⟩
    exact (Below.refl _ _).alloc (Nat.le_refl _) _

theorem shapeOf_any (k : Int) (w : World) (hk : -128 ≤ k) (hk2 : k ≤ 127) (hS : TShapes w) :
    Calls Tryz.prog 53 #[.int .i8 k] w fun e w' => e = .returned (.tuple #[.agg #[.bool (Tm.hasName k), .bool (Tm.hasArg k), .bool (Tm.hasNum k), .bool (Tm.hasType k), .bool (Tm.hasTo k), .bool (Tm.hasLabel k), .int .i64 (Tm.kidsN k)], .bool (Tm.isKind k)]) ∧ Below w.heap.size w w' := by
  by_cases h : 0 ≤ k ∧ k < 18
  · rw [show Tm.isKind k = true by simp [Tm.isKind]; omega]
    exact shapeOf_in k w h.1 h.2 hS
  · rw [show Tm.isKind k = false by simp [Tm.isKind]; omega, show Tm.hasName k = false by simp [Tm.hasName]; omega, show Tm.hasArg k = false by simp [Tm.hasArg]; omega,
      show Tm.hasNum k = false by simp [Tm.hasNum]; omega, show Tm.hasType k = false by simp [Tm.hasType]; omega, show Tm.hasTo k = false by simp [Tm.hasTo]; omega,
      show Tm.hasLabel k = false by simp [Tm.hasLabel]; omega, show Tm.kidsN k = 0 by unfold Tm.kidsN; rw [if_neg (by omega), if_neg (by omega), if_neg (by omega)]]
    exact shapeOf_out k w hk hk2 h
end Go.Proofs.YtknhoagicdfikaaGreatDoor
namespace Go.Proofs.YtknhoagicdfikaaGreatDoor
open Go.RowKit

theorem info_Type : (Tryz.prog.info? 25).map (fun i => (i.zero, i.size, i.bytes)) = some (some (.agg #[.int .i8 0, .slice none 0 0]), 2, 32) := by kernel_rfl

/-- what typesOf leaves: the list of the types that count -/
def TysPost (w : World) (h : Hd) (e : Ending) (w' : World) : Prop :=
  ∃ A n c, e = .returned (.slice A n c) ∧ Ty.Lies w' (Tm.tys h) A 0 ∧ n = Ty.len (Tm.tys h) ∧ n ≤ c ∧ c ≤ maxLen ∧ Below w.heap.size w w'

theorem Tm.lies_t1 {w : World} {g : Nat} {k : Int} {kids : Fo} {A : Option Addr} {n c : Nat} (h0 : w.cell? ⟨g, 0, none⟩ = some (.int .i8 k)) (h1 : w.cell? ⟨g, 1, none⟩ = some (.slice A n c)) (h : Ty.Is w k kids A n c) :
    Ty.Lies w (.node 0 0 k kids .nil) (some ⟨g, 0, none⟩) 0 :=
  ⟨g, 0, A, c, rfl, ⟨h.lo, h.hi⟩, h0, by rw [← h.n_eq]; exact h1, by rw [← h.n_eq]; exact h.n_le, h.c_le, h.lies, trivial⟩
theorem Tm.lies_t2 {w : World} {g : Nat} {k k2 : Int} {kids kids2 : Fo} {A A2 : Option Addr} {n c n2 c2 : Nat} (h0 : w.cell? ⟨g, 0, none⟩ = some (.int .i8 k)) (h1 : w.cell? ⟨g, 1, none⟩ = some (.slice A n c)) (h : Ty.Is w k kids A n c)
    (h2 : w.cell? ⟨g, 2, none⟩ = some (.int .i8 k2)) (h3 : w.cell? ⟨g, 3, none⟩ = some (.slice A2 n2 c2)) (h' : Ty.Is w k2 kids2 A2 n2 c2) :
    Ty.Lies w (.node 0 0 k kids (.node 0 0 k2 kids2 .nil)) (some ⟨g, 0, none⟩) 0 :=
  ⟨g, 0, A, c, rfl, ⟨h.lo, h.hi⟩, h0, by rw [← h.n_eq]; exact h1, by rw [← h.n_eq]; exact h.n_le, h.c_le, h.lies, g, 0, A2, c2, rfl, ⟨h'.lo, h'.hi⟩, h2, by rw [← h'.n_eq]; exact h3, by rw [← h'.n_eq]; exact h'.n_le, h'.c_le, h'.lies, trivial⟩

set_option maxHeartbeats 2000000 in
set_option maxRecDepth 100000 in
theorem typesOf_any (h : Hd) (n0 : Nat) (p : Pl) (w : World) (hF : Tm.Fit w h p n0) (hS : TShapes w) :
    Calls Tryz.prog 57 #[.agg #[.int .i8 h.kind, .string h.name, .string h.arg, .int .i64 h.num, .int .i8 h.tk, .slice p.TA p.tn p.tc, .int .i8 h.uk, .slice p.UA p.un p.uc, .int .i64 h.label, .int .i64 h.pos, .slice p.A p.n p.c]] w (TysPost w h) := by
  have hB0 : Below w.heap.size w (w.alloc (.cells #[.int .i8 h.kind, .string h.name, .string h.arg, .int .i64 h.num, .int .i8 h.tk, .slice p.TA p.tn p.tc, .int .i8 h.uk, .slice p.UA p.un p.uc, .int .i64 h.label, .int .i64 h.pos, .slice p.A p.n p.c] 28)) := (Below.refl _ _).alloc (Nat.le_refl _) _
  have hsh := shapeOf_any h.kind (w.alloc (.cells #[.int .i8 h.kind, .string h.name, .string h.arg, .int .i64 h.num, .int .i8 h.tk, .slice p.TA p.tn p.tc, .int .i8 h.uk, .slice p.UA p.un p.uc, .int .i64 h.label, .int .i64 h.pos, .slice p.A p.n p.c] 28)) hF.klo hF.khi (hS.below hB0)
  have HTY := Lib.hid (fun (W : World) (hb : Below w.heap.size w W) => (hF.ty.below hb))
  have HTO := Lib.hid (fun (W : World) (hb : Below w.heap.size w W) => (hF.to.below hb))
  have HN := Lib.hid (heap_new w (.cells #[.int .i8 h.kind, .string h.name, .string h.arg, .int .i64 h.num, .int .i8 h.tk, .slice p.TA p.tn p.tc, .int .i8 h.uk, .slice p.UA p.un p.uc, .int .i64 h.label, .int .i64 h.pos, .slice p.A p.n p.c] 28))
  generalize Tm.hasName h.kind = b0 at hsh
  generalize Tm.hasArg h.kind = b1 at hsh
  generalize Tm.hasNum h.kind = b2 at hsh
  generalize Tm.hasLabel h.kind = b5 at hsh
  generalize Tm.kidsN h.kind = kn at hsh
  generalize Tm.isKind h.kind = ik at hsh
  cases ht : Tm.hasType h.kind
  · have hu : Tm.hasTo h.kind = false := by
      cases hq : Tm.hasTo h.kind
      · rfl
      · rw [Tm.hasTo_type hq] at ht; cases ht
    have e1 : Tm.tys h = .nil := by unfold Tm.tys; rw [ht]; rfl
    rw [ht, hu] at hsh
    unfold TysPost
    rw [e1]
    have HS := Lib.hid hsh
    clear hsh hF hS e1 ht hu HTY HTO
    obtain ⟨k, nm, ar, nu, tk, tks, uk, uks, lb, ps⟩ := h
    obtain ⟨TA, tn, tc, UA, un, uc, A, n, c⟩ := p
    dsimp only at *
    go_enter Tryz.func57, Tryz.ntmps57
    obtain ⟨q0, q1, q2, q3, q4, q5, q6, q7, q8, q9, q10, ql⟩ := own11 HN.out
    go_wp2_with fail
    refine HS.out.mono ?_
    rintro e w2 ⟨rfl, hb⟩
    go_wp2_with fail
    go_ret
    exact ⟨none, 0, 0, rfl, trivial, rfl, Nat.le_refl _, Nat.zero_le _, (hB0.trans (hb.mono hB0.size)).alloc (by have := hb.size; simp at this; omega) _⟩
  · cases hu : Tm.hasTo h.kind
    · rw [ht, hu] at hsh
      have e1 : Tm.tys h = .node 0 0 h.tk h.tkids .nil := by unfold Tm.tys; rw [ht, hu]; rfl
      unfold TysPost
      rw [e1]
      have HS := Lib.hid hsh
      clear hsh hF hS e1 ht hu
      obtain ⟨k, nm, ar, nu, tk, tks, uk, uks, lb, ps⟩ := h
      obtain ⟨TA, tn, tc, UA, un, uc, A, n, c⟩ := p
      dsimp only at *
      obtain ⟨i0, hi, hz0, hz1, hz2⟩ := info_parts info_Type
      go_enter Tryz.func57, Tryz.ntmps57
      obtain ⟨q0, q1, q2, q3, q4, q5, q6, q7, q8, q9, q10, ql⟩ := own11 HN.out
      go_wp2_with fail
      refine HS.out.mono ?_
      rintro e w2 ⟨rfl, hb⟩
      have hB2 := hB0.trans (hb.mono hB0.size)
      have HN2 := Lib.hid (heap_below hb (by simp) HN.out)
      obtain ⟨q0, q1, q2, q3, q4, q5, q6, q7, q8, q9, q10, ql⟩ := own11 HN2.out
      clear hb
      go_wp2_with (first | (at_builtin; refine wpList_append_own _ rfl (.tmp 14) (.tmp 17) 23 rfl w.heap.size 25 i0 (.agg #[.int .i8 0, .slice none 0 0]) 2 32 Tryz.underlying23 hi hz0 hz1 hz2 rfl (by decide) (.slice none 0 0) 0 [] rfl ⟨rfl, .inl ⟨rfl, rfl⟩⟩ ⟨w2.heap.size + 1, 0, none⟩ 1 1 [.int .i8 tk, .slice TA tn tc] rfl rfl ?c1 ?c2 ?c3 ?c4 ?c5 ?_))
      case c1 => exact cells_of_heap (heap_new2 w2 _ _)
      case c2 => intro u hu; simp at hu; rcases hu with rfl | rfl <;> rfl
      case c3 => unfold maxLen; omega
      case c4 => omega
      case c5 => have := hB2.size; simp; omega
      intro v1 w3 hown1 hg1 _
      have hbb := Below.grown (Below.refl _ _) hg1 (Nat.le_refl _) (fun k hk => by cases hk)
      have hB3 : Below w.heap.size w w3 := ((hB2.alloc hB2.size _).alloc (by have := hB2.size; simp; omega) _).trans (hbb.mono (by have := hB2.size; simp; omega))
      have HS3 := Lib.hid (heap_below hbb (by simp; omega) (heap_old (heap_new w2 (.cells #[.bool b0, .bool b1, .bool b2, .bool true, .bool false, .bool b5, .int .i64 kn] 97)) (.cells #[.int .i8 tk, .slice TA tn tc] 25)))
      obtain ⟨s0, s1, s2, s3, s4, s5, s6, sl⟩ := own7 HS3.out
      obtain ⟨g, cap, rfl, hg0, hgl, hcap1, hcap2, hcs⟩ := row_reads hown1 (by omega)
      have c0 := hcs 0 _ rfl
      have c1 := hcs 1 _ rfl
      clear hcs hown1 hg1
      go_wp2_with fail
      go_ret
      exact ⟨some ⟨g, 0, none⟩, 1, cap, rfl, Tm.lies_t1 c0 c1 (HTY.out _ hB3), rfl, hcap1, hcap2, hB3⟩
    · rw [ht, hu] at hsh
      have e1 : Tm.tys h = .node 0 0 h.tk h.tkids (.node 0 0 h.uk h.ukids .nil) := by unfold Tm.tys; rw [ht, hu]; rfl
      unfold TysPost
      rw [e1]
      have HS := Lib.hid hsh
      clear hsh hF hS e1 ht hu
      obtain ⟨k, nm, ar, nu, tk, tks, uk, uks, lb, ps⟩ := h
      obtain ⟨TA, tn, tc, UA, un, uc, A, n, c⟩ := p
      dsimp only at *
      obtain ⟨i0, hi, hz0, hz1, hz2⟩ := info_parts info_Type
      go_enter Tryz.func57, Tryz.ntmps57
      obtain ⟨q0, q1, q2, q3, q4, q5, q6, q7, q8, q9, q10, ql⟩ := own11 HN.out
      go_wp2_with fail
      refine HS.out.mono ?_
      rintro e w2 ⟨rfl, hb⟩
      have hB2 := hB0.trans (hb.mono hB0.size)
      have HN2 := Lib.hid (heap_below hb (by simp) HN.out)
      obtain ⟨q0, q1, q2, q3, q4, q5, q6, q7, q8, q9, q10, ql⟩ := own11 HN2.out
      clear hb
      go_wp2_with (first | (at_builtin; refine wpList_append_own _ rfl (.tmp 14) (.tmp 17) 23 rfl w.heap.size 25 i0 (.agg #[.int .i8 0, .slice none 0 0]) 2 32 Tryz.underlying23 hi hz0 hz1 hz2 rfl (by decide) (.slice none 0 0) 0 [] rfl ⟨rfl, .inl ⟨rfl, rfl⟩⟩ ⟨w2.heap.size + 1, 0, none⟩ 1 1 [.int .i8 tk, .slice TA tn tc] rfl rfl ?c1 ?c2 ?c3 ?c4 ?c5 ?_))
      case c1 => exact cells_of_heap (heap_new2 w2 _ _)
      case c2 => intro u hu; simp at hu; rcases hu with rfl | rfl <;> rfl
      case c3 => unfold maxLen; omega
      case c4 => omega
      case c5 => have := hB2.size; simp; omega
      intro v1 w3 hown1 hg1 _
      have hbb := Below.grown (Below.refl _ _) hg1 (Nat.le_refl _) (fun k hk => by cases hk)
      have hB3 : Below w.heap.size w w3 := ((hB2.alloc hB2.size _).alloc (by have := hB2.size; simp; omega) _).trans (hbb.mono (by have := hB2.size; simp; omega))
      have HN3 := Lib.hid (heap_below hbb (by have := heap_lt HN2.out; simp; omega) (heap_old (heap_old HN2.out _) _))
      have HS3 := Lib.hid (heap_below hbb (by simp; omega) (heap_old (heap_new w2 (.cells #[.bool b0, .bool b1, .bool b2, .bool true, .bool true, .bool b5, .int .i64 kn] 97)) (.cells #[.int .i8 tk, .slice TA tn tc] 25)))
      obtain ⟨q0, q1, q2, q3, q4, q5, q6, q7, q8, q9, q10, ql⟩ := own11 HN3.out
      obtain ⟨s0, s1, s2, s3, s4, s5, s6, sl⟩ := own7 HS3.out
      clear hbb hg1
      go_wp2_with (first | (at_builtin; refine wpList_append_own _ rfl (.tmp 21) (.tmp 24) 23 rfl w.heap.size 25 i0 (.agg #[.int .i8 0, .slice none 0 0]) 2 32 Tryz.underlying23 hi hz0 hz1 hz2 rfl (by decide) v1 _ _ rfl (hown1.alloc _) ⟨w3.heap.size, 0, none⟩ 1 1 [.int .i8 uk, .slice UA un uc] rfl rfl ?d1 ?d2 ?d3 ?d4 ?d5 ?_))
      case d1 => exact cells_of_heap (heap_new w3 _)
      case d2 => intro u hu; simp at hu; rcases hu with rfl | rfl <;> rfl
      case d3 => unfold maxLen; omega
      case d4 => omega
      case d5 => have := hB3.size; simp; omega
      intro v2 w4 hown2 hg2 _
      have hB4 : Below w.heap.size w w4 := (hB3.alloc hB3.size _).grown hg2 (by have := hB3.size; simp; omega) fun k hk => (hown1.lt k hk).1
      obtain ⟨g, cap, rfl, hg0, hgl, hcap1, hcap2, hcs⟩ := row_reads hown2 (by omega)
      have c0 := hcs 0 _ rfl
      have c1 := hcs 1 _ rfl
      have c2 := hcs 2 _ rfl
      have c3 := hcs 3 _ rfl
      clear hcs hown2 hg2 hown1
      go_wp2_with fail
      go_ret
      exact ⟨some ⟨g, 0, none⟩, 2, cap, rfl, Tm.lies_t2 c0 c1 (HTY.out _ hB4) c2 c3 (HTO.out _ hB4), rfl, hcap1, hcap2, hB4⟩
end Go.Proofs.YtknhoagicdfikaaGreatDoor
namespace Go.Proofs.YtknhoagicdfikaaGreatDoor
open Go.RowKit
set_option maxHeartbeats 1000000 in
set_option maxRecDepth 100000 in
theorem ptypes_any (h : Hd) (kids : Tm) (p : Pl) (w : World) (hIs : Tm.Is w h kids p) :
    Calls Tryz.prog 63 #[.agg #[.int .i8 h.kind, .string h.name, .string h.arg, .int .i64 h.num, .int .i8 h.tk, .slice p.TA p.tn p.tc, .int .i8 h.uk, .slice p.UA p.un p.uc, .int .i64 h.label, .int .i64 h.pos, .slice p.A p.n p.c]] w fun e w' => ∃ G m c, e = .returned (.slice G m c) ∧ Ty.Lies w' (Tm.tys h) G 0 ∧ m = Ty.len (Tm.tys h) ∧ m ≤ c ∧ c ≤ maxLen ∧ Below w.heap.size w w' := by
  have hB1 := below_n1 w (.cells #[.int .i8 h.kind, .string h.name, .string h.arg, .int .i64 h.num, .int .i8 h.tk, .slice p.TA p.tn p.tc, .int .i8 h.uk, .slice p.UA p.un p.uc, .int .i64 h.label, .int .i64 h.pos, .slice p.A p.n p.c] 28)
  have hT := hIs.fit.ty
  have hU := hIs.fit.to
  by_cases hk1 : h.kind = 4 ∨ h.kind = 7 ∨ h.kind = 12 ∨ h.kind = 13 ∨ h.kind = 16
  · have ha : Tm.tys h = .node 0 0 h.tk h.tkids .nil := by unfold Tm.tys; rcases hk1 with hk | hk | hk | hk | hk <;> rw [hk] <;> rfl
    rw [ha]
    have HT1 := Lib.hid (hT.below hB1)
    have HB1 := Lib.hid hB1
    have hA := below_n1 (w.alloc (.cells #[.int .i8 h.kind, .string h.name, .string h.arg, .int .i64 h.num, .int .i8 h.tk, .slice p.TA p.tn p.tc, .int .i8 h.uk, .slice p.UA p.un p.uc, .int .i64 h.label, .int .i64 h.pos, .slice p.A p.n p.c] 28)) (.cells #[.int .i8 h.tk, .slice p.TA p.tn p.tc] 25)
    have HFIN := Lib.hid (show Ty.Lies ((w.alloc (.cells #[.int .i8 h.kind, .string h.name, .string h.arg, .int .i64 h.num, .int .i8 h.tk, .slice p.TA p.tn p.tc, .int .i8 h.uk, .slice p.UA p.un p.uc, .int .i64 h.label, .int .i64 h.pos, .slice p.A p.n p.c] 28)).alloc (.cells #[.int .i8 h.tk, .slice p.TA p.tn p.tc] 25)) (.node 0 0 h.tk h.tkids .nil) (some ⟨w.heap.size + 1, 0, none⟩) 0 ∧ Below w.heap.size w ((w.alloc (.cells #[.int .i8 h.kind, .string h.name, .string h.arg, .int .i64 h.num, .int .i8 h.tk, .slice p.TA p.tn p.tc, .int .i8 h.uk, .slice p.UA p.un p.uc, .int .i64 h.label, .int .i64 h.pos, .slice p.A p.n p.c] 28)).alloc (.cells #[.int .i8 h.tk, .slice p.TA p.tn p.tc] 25)) from by
      have q := HT1.out.below hA
      refine ⟨⟨_, 0, p.TA, p.tc, rfl, ⟨q.lo, q.hi⟩, by simp, ?_, ?_, q.c_le, q.lies, trivial⟩, hB1.trans (hA.mono hB1.size)⟩
      · have := q.n_eq; rw [← this]; simp
      · have := q.n_eq; rw [← this]; exact q.n_le)
    clear ha hT hU hB1 hA hIs HT1 HB1
    rcases hk1 with hk | hk | hk | hk | hk
    all_goals
      rw [hk] at HFIN
      rw [hk]
      go_enter Tryz.func63, Tryz.ntmps63
      go_wp2_with fail
      go_ret
      exact ⟨_, 1, 1, rfl, HFIN.out.1, rfl, Nat.le_refl _, by decide, HFIN.out.2⟩
  by_cases hk2 : h.kind = 5 ∨ h.kind = 17
  · have ha : Tm.tys h = .node 0 0 h.tk h.tkids (.node 0 0 h.uk h.ukids .nil) := by unfold Tm.tys; rcases hk2 with hk | hk <;> rw [hk] <;> rfl
    rw [ha]
    have HT1 := Lib.hid (hT.below hB1)
    have HU1 := Lib.hid (hU.below hB1)
    have hA := below_n1 (w.alloc (.cells #[.int .i8 h.kind, .string h.name, .string h.arg, .int .i64 h.num, .int .i8 h.tk, .slice p.TA p.tn p.tc, .int .i8 h.uk, .slice p.UA p.un p.uc, .int .i64 h.label, .int .i64 h.pos, .slice p.A p.n p.c] 28)) (.cells #[.int .i8 h.tk, .slice p.TA p.tn p.tc, .int .i8 h.uk, .slice p.UA p.un p.uc] 25)
    have HFIN := Lib.hid (show Ty.Lies ((w.alloc (.cells #[.int .i8 h.kind, .string h.name, .string h.arg, .int .i64 h.num, .int .i8 h.tk, .slice p.TA p.tn p.tc, .int .i8 h.uk, .slice p.UA p.un p.uc, .int .i64 h.label, .int .i64 h.pos, .slice p.A p.n p.c] 28)).alloc (.cells #[.int .i8 h.tk, .slice p.TA p.tn p.tc, .int .i8 h.uk, .slice p.UA p.un p.uc] 25)) (.node 0 0 h.tk h.tkids (.node 0 0 h.uk h.ukids .nil)) (some ⟨w.heap.size + 1, 0, none⟩) 0 ∧ Below w.heap.size w ((w.alloc (.cells #[.int .i8 h.kind, .string h.name, .string h.arg, .int .i64 h.num, .int .i8 h.tk, .slice p.TA p.tn p.tc, .int .i8 h.uk, .slice p.UA p.un p.uc, .int .i64 h.label, .int .i64 h.pos, .slice p.A p.n p.c] 28)).alloc (.cells #[.int .i8 h.tk, .slice p.TA p.tn p.tc, .int .i8 h.uk, .slice p.UA p.un p.uc] 25)) from by
      have q := HT1.out.below hA
      have r := HU1.out.below hA
      refine ⟨⟨_, 0, p.TA, p.tc, rfl, ⟨q.lo, q.hi⟩, by simp, ?_, ?_, q.c_le, q.lies, _, 0, p.UA, p.uc, rfl, ⟨r.lo, r.hi⟩, by simp, ?_, ?_, r.c_le, r.lies, trivial⟩, hB1.trans (hA.mono hB1.size)⟩
      · have := q.n_eq; rw [← this]; simp
      · have := q.n_eq; rw [← this]; exact q.n_le
      · have := r.n_eq; rw [← this]; simp
      · have := r.n_eq; rw [← this]; exact r.n_le)
    clear ha hT hU hB1 hA hIs HT1 HU1 hk1
    rcases hk2 with hk | hk
    all_goals
      rw [hk] at HFIN
      rw [hk]
      go_enter Tryz.func63, Tryz.ntmps63
      go_wp2_with fail
      go_ret
      exact ⟨_, 2, 2, rfl, HFIN.out.1, rfl, Nat.le_refl _, by decide, HFIN.out.2⟩
  · have ha : Tm.tys h = .nil := by unfold Tm.tys; rw [if_neg (by simp [Tm.hasType]; omega)]
    rw [ha]
    have HB1 := Lib.hid hB1
    have e4 : (h.kind == 4) = false := by simp; omega
    have e5 : (h.kind == 5) = false := by simp; omega
    have e7 : (h.kind == 7) = false := by simp; omega
    have e12 : (h.kind == 12) = false := by simp; omega
    have e13 : (h.kind == 13) = false := by simp; omega
    have e16 : (h.kind == 16) = false := by simp; omega
    have e17 : (h.kind == 17) = false := by simp; omega
    clear ha hT hU hB1 hIs hk1 hk2
    go_enter Tryz.func63, Tryz.ntmps63
    go_wp2_with fail
    go_ret
    exact ⟨none, 0, 0, rfl, trivial, rfl, Nat.le_refl _, Nat.zero_le _, HB1.out⟩
end Go.Proofs.YtknhoagicdfikaaGreatDoor
