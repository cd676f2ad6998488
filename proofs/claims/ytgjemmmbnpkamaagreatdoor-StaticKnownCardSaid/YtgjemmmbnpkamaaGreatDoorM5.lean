import Derived.Test.YtgjemmmbnpkamaaGreatDoorM1
import Derived.Test.YtgjemmmbnpkamaaGreatDoorM2
import Derived.SizedLaws
import Derived.IntWalk
namespace Go.Proofs.YtgjemmmbnpkamaaGreatDoor
open Go.RowKit Go.ChangeShapes Go.WideShapes
structure Hd where
  kind : Int
  name : ByteArray
  arg : ByteArray
  num : Int
  tk : Int
  tkids : Fo
  uk : Int
  ukids : Fo
  label : Int
  pos : Int
inductive Tm where
  | nil
  | node (h : Hd) (kids rest : Tm)
structure Pl where
  TA : Option Addr
  tn : Nat
  tc : Nat
  UA : Option Addr
  un : Nat
  uc : Nat
  A : Option Addr
  n : Nat
  c : Nat
@[reducible] def Hd.cells (h : Hd) (p : Pl) : List Value :=
  [.int .i8 h.kind, .string h.name, .string h.arg, .int .i64 h.num, .int .i8 h.tk, .slice p.TA p.tn p.tc, .int .i8 h.uk, .slice p.UA p.un p.uc, .int .i64 h.label, .int .i64 h.pos, .slice p.A p.n p.c]
namespace Tm
def hasName (k : Int) : Bool := decide (k = 0 ∨ k = 4 ∨ k = 5 ∨ k = 7 ∨ k = 14 ∨ k = 15)
def hasArg (k : Int) : Bool := decide (k = 5 ∨ k = 14)
def hasNum (k : Int) : Bool := decide (k = 1)
def hasType (k : Int) : Bool := decide (k = 4 ∨ k = 5 ∨ k = 7 ∨ k = 12 ∨ k = 13 ∨ k = 16 ∨ k = 17)
def hasTo (k : Int) : Bool := decide (k = 5 ∨ k = 17)
def hasLabel (k : Int) : Bool := decide (k = 17)
def isKind (k : Int) : Bool := decide (0 ≤ k ∧ k ≤ 17)
def kidsN (k : Int) : Nat :=
  if k = 4 ∨ k = 5 ∨ k = 10 ∨ k = 11 ∨ k = 12 ∨ k = 13 ∨ k = 16 ∨ k = 17 then 1 else if k = 6 ∨ k = 7 ∨ k = 9 ∨ k = 15 then 2 else if k = 8 ∨ k = 14 then 3 else 0
def isOp (s : ByteArray) : Bool := decide (s.toList ∈ ([[43], [45], [42], [47], [60], [61]] : List (List UInt8)))
def len : Tm → Nat
  | .nil => 0
  | .node _ _ r => len r + 1
def tyN (h : Hd) : Nat := (if hasType h.kind then Ty.nod h.tkids else 0) + (if hasTo h.kind then Ty.nod h.ukids else 0)
def tyD (h : Hd) : Nat := max (if hasType h.kind then Ty.dpt h.tkids else 0) (if hasTo h.kind then Ty.dpt h.ukids else 0)
def nodes : Tm → Nat
  | .nil => 0
  | .node h kids r => 1 + tyN h + nodes kids + nodes r
def dep : Tm → Nat
  | .nil => 0
  | .node h kids r => max (1 + max (tyD h) (dep kids)) (dep r)
def tys (h : Hd) : Fo := if hasType h.kind then (if hasTo h.kind then .node 0 0 h.tk h.tkids (.node 0 0 h.uk h.ukids .nil) else .node 0 0 h.tk h.tkids .nil) else .nil
def nameOk (h : Hd) : Bool := if h.kind = 15 then isOp h.name else (!hasName h.kind || Sc.isName h.name) && (!hasArg h.kind || Sc.isName h.arg)
def labelOk (n : Int) : Bool := decide (n ≠ 0 ∧ -2147483648 ≤ n ∧ n ≤ 2147483648)
def tysOk (h : Hd) : Bool := (!hasType h.kind || Ty.chk h.tk h.tkids == 0) && (!hasTo h.kind || Ty.chk h.uk h.ukids == 0)
def headOk (h : Hd) (n : Nat) : Bool := isKind h.kind && decide (n = kidsN h.kind) && nameOk h && (!hasLabel h.kind || labelOk h.label) && tysOk h
def okF : Tm → Bool
  | .nil => true
  | .node h kids r => headOk h (len kids) && okF kids && okF r
def okT (h : Hd) (kids : Tm) : Bool := headOk h (len kids) && okF kids
def nd (h : Hd) (kids : Tm) : Nat := 1 + tyN h + nodes kids
def dp (h : Hd) (kids : Tm) : Nat := 1 + max (tyD h) (dep kids)
def nod (h : Hd) (kids : Tm) : Nat := min (nd h kids) 8193
def dpt (h : Hd) (kids : Tm) : Nat := if 8192 < nd h kids then 201 else min (dp h kids) 201
def chk (h : Hd) (kids : Tm) : Nat := if 8192 < nd h kids then 32 else if 200 < dp h kids then 31 else if okT h kids then 0 else 30
theorem xB {k : Int} (h : hasTo k = true) : hasType k = true := by simp [hasTo, hasType] at *; omega
structure Fit (w : World) (h : Hd) (p : Pl) (n : Nat) : Prop where
  ty : Ty.Is w h.tk h.tkids p.TA p.tn p.tc
  to : Ty.Is w h.uk h.ukids p.UA p.un p.uc
  n_eq : p.n = n
  n_le : p.n ≤ p.c
  c_le : p.c ≤ maxLen
  klo : -128 ≤ h.kind
  khi : h.kind ≤ 127
  llo : -9223372036854775808 ≤ h.label
  lhi : h.label ≤ 9223372036854775807
  nm : h.name.size ≤ 281474976710656
  ar : h.arg.size ≤ 281474976710656
def Lies (w : World) : Tm → Option Addr → Nat → Prop
  | .nil, _, _ => True
  | .node h kids r, A, i => ∃ b o p, A = some ⟨b, o, none⟩ ∧ (∀ j v, (h.cells p)[j]? = some v → w.cell? ⟨b, o + i * 11 + j, none⟩ = some v) ∧ Fit w h p (len kids) ∧ Lies w kids p.A 0 ∧ Lies w r A (i + 1)
structure Is (w : World) (h : Hd) (kids : Tm) (p : Pl) : Prop where
  fit : Fit w h p (len kids)
  lies : Lies w kids p.A 0
def Kept (w w' : World) : Prop := ∀ b, (∃ o k, w.cell? ⟨b, o, none⟩ = some (.int .i8 k)) → ∀ o v, w.cell? ⟨b, o, none⟩ = some v → w'.cell? ⟨b, o, none⟩ = some v
end Tm
theorem Ty.Lies.kept {w w' : World} (hk : Tm.Kept w w') : ∀ (f : Fo) (A : Option Addr) (i : Nat), Ty.Lies w f A i → Ty.Lies w' f A i
  | .nil, _, _, _ => trivial
  | .node _ _ _ kids r, A, i, h => by
    obtain ⟨b, o, B, c, hA, hkk, h1, h2, h3, h4, h5, h6⟩ := h
    exact ⟨b, o, B, c, hA, hkk, hk b ⟨_, _, h1⟩ _ _ h1, hk b ⟨_, _, h1⟩ _ _ h2, h3, h4, Ty.Lies.kept hk kids B 0 h5, Ty.Lies.kept hk r A (i + 1) h6⟩
theorem Ty.Is.kept {w w' : World} {k : Int} {kids : Fo} {A : Option Addr} {n c : Nat} (h : Ty.Is w k kids A n c) (hk : Tm.Kept w w') : Ty.Is w' k kids A n c :=
  ⟨h.lies.kept hk, h.n_eq, h.n_le, h.c_le, h.lo, h.hi⟩
namespace Tm
theorem Fit.kept {w w' : World} {h : Hd} {p : Pl} {n : Nat} (f : Fit w h p n) (hk : Kept w w') : Fit w' h p n :=
  ⟨f.ty.kept hk, f.to.kept hk, f.n_eq, f.n_le, f.c_le, f.klo, f.khi, f.llo, f.lhi, f.nm, f.ar⟩
theorem Lies.kept {w w' : World} (hk : Kept w w') : ∀ (f : Tm) (A : Option Addr) (i : Nat), Lies w f A i → Lies w' f A i
  | .nil, _, _, _ => trivial
  | .node h kids r, A, i, hh => by
    obtain ⟨b, o, p, hA, h1, h2, h3, h4⟩ := hh
    exact ⟨b, o, p, hA, fun j v hv => hk b ⟨_, _, h1 0 _ rfl⟩ _ _ (h1 j v hv), h2.kept hk, Lies.kept hk kids p.A 0 h3, Lies.kept hk r A (i + 1) h4⟩
theorem Is.kept {w w' : World} {h : Hd} {kids : Tm} {p : Pl} (f : Is w h kids p) (hk : Kept w w') : Is w' h kids p := ⟨f.fit.kept hk, f.lies.kept hk⟩
theorem Kept.of_below {w w' : World} (hb : Below w.heap.size w w') : Kept w w' := fun b _ o v h => by rw [hb.cell (p := ⟨b, o, none⟩) (Ty.zR h)]; exact h
theorem Lies.below {w w' : World} {f : Tm} {A : Option Addr} {i : Nat} (h : Lies w f A i) (hb : Below w.heap.size w w') : Lies w' f A i := h.kept (.of_below hb)
theorem Is.below {w w' : World} {h : Hd} {kids : Tm} {p : Pl} (f : Is w h kids p) (hb : Below w.heap.size w w') : Is w' h kids p := f.kept (.of_below hb)
theorem Is.alloc {w : World} {h : Hd} {kids : Tm} {p : Pl} (f : Is w h kids p) (o : Obj) : Is (w.alloc o) h kids p := f.below ((Below.refl _ _).alloc (Nat.le_refl _) _)
theorem Lies.alloc {w : World} {f : Tm} {A : Option Addr} {i : Nat} (h : Lies w f A i) (o : Obj) : Lies (w.alloc o) f A i := h.below ((Below.refl _ _).alloc (Nat.le_refl _) _)
theorem Kept.grown {w w' : World} {g : Nat} (hg : w.grownBy w' (some g)) (hno : ∀ o (k : Int), w.cell? ⟨g, o, none⟩ = some (.int .i8 k) → False) : Kept w w' := fun b hb o v h => by
  by_cases e : b = g
  · subst e; obtain ⟨o', k, hk⟩ := hb; exact (hno o' k hk).elim
  · rw [World.cell?_of_block (hg.block b (Ty.zR h) (fun h => e (by injection h)))]; exact h
end Tm
abbrev tC_ (h : Hd) (p : Pl) : Array Value := #[.int .i8 h.kind, .string h.name, .string h.arg, .int .i64 h.num, .int .i8 h.tk, .slice p.TA p.tn p.tc, .int .i8 h.uk, .slice p.UA p.un p.uc, .int .i64 h.label, .int .i64 h.pos, .slice p.A p.n p.c]
abbrev tD_ (h : Hd) (TA : Option Addr) (tn tc : Nat) (UA : Option Addr) (un uc : Nat) (A : Option Addr) (n c : Nat) : Array Value := #[.int .i8 h.kind, .string h.name, .string h.arg, .int .i64 h.num, .int .i8 h.tk, .slice TA tn tc, .int .i8 h.uk, .slice UA un uc, .int .i64 h.label, .int .i64 h.pos, .slice A n c]
namespace Tm
end Tm
end Go.Proofs.YtgjemmmbnpkamaaGreatDoor
namespace Go.Proofs.YtgjemmmbnpkamaaGreatDoor
open Go.RowKit
theorem zHG {P : Prop} (h : P := by
  go_enter Tryz.func85, Tryz.ntmps85
  go_wp2_with fail
  refine bodyPost_ret (v := .tuple #[.agg #[.bool false, .bool false, .bool false, .bool false, .bool false, .bool false, .int .i64 0], .bool false]) (by simp [results, Tryz.results85, go_sem]) rfl ⟨rfl, ?_⟩
  exact (Below.refl _ _).alloc (Nat.le_refl _) _) : P := h
end Go.Proofs.YtgjemmmbnpkamaaGreatDoor
namespace Go.Proofs.YtgjemmmbnpkamaaGreatDoor
set_option maxHeartbeats 1000000
set_option maxRecDepth 100000
open Go.RowKit
namespace Tm
theorem zE0 (s : ByteArray) : isOp s = (s.toList == [43] || s.toList == [45] || s.toList == [42] || s.toList == [47] || s.toList == [60] || s.toList == [61]) := by
  unfold isOp; rw [Bool.eq_iff_iff]; simp [or_assoc]
end Tm
theorem wm (s : ByteArray) (w : World) :
    Calls Tryz.prog 121 #[.string s] w fun e w' => e = .returned (.bool (Tm.isOp s)) ∧ w = w' := by
  go_enter Tryz.func121, Tryz.ntmps121
  go_wp2
  all_goals go_ret
  all_goals exact ⟨yR (by simp_all [Tm.zE0]), rfl⟩
theorem zCV (n : Int) (w : World) (h1 : -9223372036854775808 ≤ n) (h2 : n ≤ 9223372036854775807) :
    Calls Tryz.prog 87 #[.int .i64 n] w fun e w' => e = .returned (.bool (Tm.labelOk n)) ∧ w = w' := by
  go_enter Tryz.func87, Tryz.ntmps87
  go_wp2
  all_goals go_ret
  all_goals refine ⟨yR ?_, rfl⟩
  all_goals (rw [Bool.eq_iff_iff]; simp [Tm.labelOk]; try omega)
set_option maxHeartbeats 1000000
set_option maxRecDepth 100000
open Go.RowKit
def tshape (k : Int) : List Value := [.bool (Tm.hasName k), .bool (Tm.hasArg k), .bool (Tm.hasNum k), .bool (Tm.hasType k), .bool (Tm.hasTo k), .bool (Tm.hasLabel k), .int .i64 (Tm.kidsN k)]
structure TShapes (w : World) : Prop where
  lt : 1 < w.heap.size
  row : ∀ k : Int, 0 ≤ k → k < 18 → ∀ j v, (tshape k)[j]? = some v → w.cell? ⟨1, k.toNat * 7 + j, none⟩ = some v
theorem TShapes.below {w w' : World} (h : TShapes w) (hb : Below w.heap.size w w') : TShapes w' :=
  ⟨Nat.lt_of_lt_of_le h.lt hb.size, fun k h0 h1 j v hv => by rw [(vo hb).1 _ _ h.lt]; exact h.row k h0 h1 j v hv⟩
theorem TShapes.alloc {w : World} (h : TShapes w) (o : Obj) : TShapes (w.alloc o) := h.below ((Below.refl _ _).alloc (Nat.le_refl _) _)
theorem TShapes.grown {w w' : World} {g : Nat} (h : TShapes w) (hg : w.grownBy w' (some g)) (hne : g ≠ 1) : TShapes w' :=
  ⟨Nat.lt_of_lt_of_le h.lt hg.size, fun k h0 h1 j v hv => by
    rw [World.cell?_of_block (hg.block 1 h.lt (fun e => hne (by injection e with e; exact e.symm)))]; exact h.row k h0 h1 j v hv⟩
theorem zAg (k : Int) (w : World) (h0 : 0 ≤ k) (h1 : k < 18) (hS : TShapes w) :
    Calls Tryz.prog 85 #[.int .i8 k] w fun e w' => e = .returned (.tuple #[.agg #[.bool (Tm.hasName k), .bool (Tm.hasArg k), .bool (Tm.hasNum k), .bool (Tm.hasType k), .bool (Tm.hasTo k), .bool (Tm.hasLabel k), .int .i64 (Tm.kidsN k)], .bool true]) ∧ Below w.heap.size w w' := by
  have hr := fun j v hv => ((hS.alloc (.cells #[.bool false, .bool false, .bool false, .bool false, .bool false, .bool false, .int .i64 0] 154)).row k h0 h1 j v hv)
  have c0 := hr 0 _ rfl
  have c1 := hr 1 _ rfl
  have c2 := hr 2 _ rfl
  have c3 := hr 3 _ rfl
  have c4 := hr 4 _ rfl
  have c5 := hr 5 _ rfl
  have c6 := hr 6 _ rfl
  rw [Nat.add_zero] at c0
  have hl := hS.lt
  clear hr hS
  have hd1 : decide (k < (0 : Int)) = false := by simp; omega
  have hd2 : decide ((18 : Int) ≤ k) = false := by simp; omega
  have hw : IntKind.i64.wrap k = k := IntWalk.i64_in _ (by omega)
  have hix : 0 ≤ k ∧ k < 18 := ⟨h0, h1⟩
  generalize Tm.hasName k = b0 at *
  generalize Tm.hasArg k = b1 at *
  generalize Tm.hasNum k = b2 at *
  generalize Tm.hasType k = b3 at *
  generalize Tm.hasTo k = b4 at *
  generalize Tm.hasLabel k = b5 at *
  generalize Tm.kidsN k = n at *
  go_enter Tryz.func85, Tryz.ntmps85
  go_wp2_with fail
  refine bodyPost_ret (v := .tuple #[.agg #[.bool b0, .bool b1, .bool b2, .bool b3, .bool b4, .bool b5, .int .i64 n], .bool true]) (by simp [results, Tryz.results85, go_sem]) rfl ⟨rfl, ?_⟩
  exact (Below.refl _ _).alloc (Nat.le_refl _) _
theorem uo (k : Int) (w : World) (hk : -128 ≤ k) (hk2 : k ≤ 127) (h : ¬(0 ≤ k ∧ k < 18)) :
    Calls Tryz.prog 85 #[.int .i8 k] w fun e w' => e = .returned (.tuple #[.agg #[.bool false, .bool false, .bool false, .bool false, .bool false, .bool false, .int .i64 0], .bool false]) ∧ Below w.heap.size w w' := by
  have hw : IntKind.i64.wrap k = k := IntWalk.i64_in _ (by omega)
  by_cases h0 : (0 : Int) ≤ k
  · have hd1 : decide (k < (0 : Int)) = false := by simp; omega
    have hd2 : decide ((18 : Int) ≤ k) = true := by simp; omega
    exact zHG
  · have hd1 : decide (k < (0 : Int)) = true := by simp; omega
    exact zHG
theorem kW (k : Int) (w : World) (hk : -128 ≤ k) (hk2 : k ≤ 127) (hS : TShapes w) :
    Calls Tryz.prog 85 #[.int .i8 k] w fun e w' => e = .returned (.tuple #[.agg #[.bool (Tm.hasName k), .bool (Tm.hasArg k), .bool (Tm.hasNum k), .bool (Tm.hasType k), .bool (Tm.hasTo k), .bool (Tm.hasLabel k), .int .i64 (Tm.kidsN k)], .bool (Tm.isKind k)]) ∧ Below w.heap.size w w' := by
  by_cases h : 0 ≤ k ∧ k < 18
  · rw [show Tm.isKind k = true by simp [Tm.isKind]; omega]
    exact zAg k w h.1 h.2 hS
  · rw [show Tm.isKind k = false by simp [Tm.isKind]; omega, show Tm.hasName k = false by simp [Tm.hasName]; omega, show Tm.hasArg k = false by simp [Tm.hasArg]; omega,
      show Tm.hasNum k = false by simp [Tm.hasNum]; omega, show Tm.hasType k = false by simp [Tm.hasType]; omega, show Tm.hasTo k = false by simp [Tm.hasTo]; omega,
      show Tm.hasLabel k = false by simp [Tm.hasLabel]; omega, show Tm.kidsN k = 0 by unfold Tm.kidsN; rw [if_neg (by omega), if_neg (by omega), if_neg (by omega)]]
    exact uo k w hk hk2 h
end Go.Proofs.YtgjemmmbnpkamaaGreatDoor
namespace Go.Proofs.YtgjemmmbnpkamaaGreatDoor
open Go.RowKit
theorem kJ : (Tryz.prog.info? 25).map (fun i => (i.zero, i.size, i.bytes)) = some (some (.agg #[.int .i8 0, .slice none 0 0]), 2, 32) := by kernel_rfl
def TysPost (w : World) (h : Hd) (e : Ending) (w' : World) : Prop :=
  ∃ A n c, e = .returned (.slice A n c) ∧ Ty.Lies w' (Tm.tys h) A 0 ∧ n = Ty.len (Tm.tys h) ∧ n ≤ c ∧ c ≤ maxLen ∧ Below w.heap.size w w'
theorem Tm.zEo {w : World} {g : Nat} {k : Int} {kids : Fo} {A : Option Addr} {n c : Nat} (h0 : w.cell? ⟨g, 0, none⟩ = some (.int .i8 k)) (h1 : w.cell? ⟨g, 1, none⟩ = some (.slice A n c)) (h : Ty.Is w k kids A n c) :
    Ty.Lies w (.node 0 0 k kids .nil) (some ⟨g, 0, none⟩) 0 :=
  ⟨g, 0, A, c, rfl, ⟨h.lo, h.hi⟩, h0, by rw [← h.n_eq]; exact h1, by rw [← h.n_eq]; exact h.n_le, h.c_le, h.lies, trivial⟩
theorem Tm.zEn {w : World} {g : Nat} {k k2 : Int} {kids zg : Fo} {A A2 : Option Addr} {n c n2 c2 : Nat} (h0 : w.cell? ⟨g, 0, none⟩ = some (.int .i8 k)) (h1 : w.cell? ⟨g, 1, none⟩ = some (.slice A n c)) (h : Ty.Is w k kids A n c)
    (h2 : w.cell? ⟨g, 2, none⟩ = some (.int .i8 k2)) (h3 : w.cell? ⟨g, 3, none⟩ = some (.slice A2 n2 c2)) (h' : Ty.Is w k2 zg A2 n2 c2) :
    Ty.Lies w (.node 0 0 k kids (.node 0 0 k2 zg .nil)) (some ⟨g, 0, none⟩) 0 :=
  ⟨g, 0, A, c, rfl, ⟨h.lo, h.hi⟩, h0, by rw [← h.n_eq]; exact h1, by rw [← h.n_eq]; exact h.n_le, h.c_le, h.lies, g, 0, A2, c2, rfl, ⟨h'.lo, h'.hi⟩, h2, by rw [← h'.n_eq]; exact h3, by rw [← h'.n_eq]; exact h'.n_le, h'.c_le, h'.lies, trivial⟩
set_option maxHeartbeats 2000000 in
set_option maxRecDepth 100000 in
theorem kR (h : Hd) (n0 : Nat) (p : Pl) (w : World) (hF : Tm.Fit w h p n0) (hS : TShapes w) :
    Calls Tryz.prog 88 #[.agg (tC_ h p)] w (TysPost w h) := by
  try unfold tC_
  have hB0 : Below w.heap.size w (w.alloc (.cells (tC_ h p) 28)) := (Below.refl _ _).alloc (Nat.le_refl _) _
  have hsh := kW h.kind (w.alloc (.cells (tC_ h p) 28)) hF.klo hF.khi (hS.below hB0)
  have HTY := k0_ (fun (W : World) (hb : Below w.heap.size w W) => (hF.ty.below hb))
  have HTO := k0_ (fun (W : World) (hb : Below w.heap.size w W) => (hF.to.below hb))
  have HN := k0_ (zF w (.cells (tC_ h p) 28))
  generalize Tm.hasName h.kind = b0 at hsh
  generalize Tm.hasArg h.kind = b1 at hsh
  generalize Tm.hasNum h.kind = b2 at hsh
  generalize Tm.hasLabel h.kind = b5 at hsh
  generalize Tm.kidsN h.kind = kn at hsh
  generalize Tm.isKind h.kind = ik at hsh
  cases ht : Tm.hasType h.kind
  · have hu : Tm.hasTo h.kind = false := by
      cases hq : Tm.hasTo h.kind
      · rfl
      · rw [Tm.xB hq] at ht; cases ht
    have e1 : Tm.tys h = .nil := by unfold Tm.tys; rw [ht]; rfl
    rw [ht, hu] at hsh
    unfold TysPost
    rw [e1]
    have HS := k0_ hsh
    clear hsh hF hS e1 ht hu HTY HTO
    obtain ⟨k, nm, ar, nu, tk, tks, uk, uks, lb, ps⟩ := h
    obtain ⟨TA, tn, tc, UA, un, uc, A, n, c⟩ := p
    dsimp only [tC_, tD_] at *
    go_enter Tryz.func88, Tryz.ntmps88
    obtain ⟨q0, q1, q2, q3, q4, q5, q6, q7, q8, q9, q10, ql⟩ := zN HN.out
    go_wp2_with fail
    refine HS.out.mono ?_
    rintro e w2 ⟨rfl, hb⟩
    go_wp2_with fail
    go_ret
    exact ⟨none, 0, 0, rfl, trivial, rfl, Nat.le_refl _, Nat.zero_le _, (hB0.trans (hb.mono hB0.size)).alloc (by have := hb.size; simp at this; omega) _⟩
  · cases hu : Tm.hasTo h.kind
    · rw [ht, hu] at hsh
      have e1 : Tm.tys h = .node 0 0 h.tk h.tkids .nil := by unfold Tm.tys; rw [ht, hu]; rfl
      unfold TysPost
      rw [e1]
      have HS := k0_ hsh
      clear hsh hF hS e1 ht hu
      obtain ⟨k, nm, ar, nu, tk, tks, uk, uks, lb, ps⟩ := h
      obtain ⟨TA, tn, tc, UA, un, uc, A, n, c⟩ := p
      dsimp only [tC_, tD_] at *
      obtain ⟨i0, hi, hz0, hz1, hz2⟩ := info_parts kJ
      go_enter Tryz.func88, Tryz.ntmps88
      obtain ⟨q0, q1, q2, q3, q4, q5, q6, q7, q8, q9, q10, ql⟩ := zN HN.out
      go_wp2_with fail
      refine HS.out.mono ?_
      rintro e w2 ⟨rfl, hb⟩
      have hB2 := hB0.trans (hb.mono hB0.size)
      have HN2 := k0_ (zC hb (by simp) HN.out)
      obtain ⟨q0, q1, q2, q3, q4, q5, q6, q7, q8, q9, q10, ql⟩ := zN HN2.out
      clear hb
      go_wp2_with (first | (at_builtin; refine wpList_append_own _ rfl (.tmp 14) (.tmp 17) 23 rfl w.heap.size 25 i0 (.agg #[.int .i8 0, .slice none 0 0]) 2 32 Tryz.underlying23 hi hz0 hz1 hz2 rfl (by decide) (.slice none 0 0) 0 [] rfl ⟨rfl, .inl ⟨rfl, rfl⟩⟩ ⟨w2.heap.size + 1, 0, none⟩ 1 1 [.int .i8 tk, .slice TA tn tc] rfl rfl ?c1 ?c2 ?c3 ?c4 ?c5 ?_))
      case c1 => exact qL (qP w2 _ _)
      case c2 => intro u hu; simp at hu; rcases hu with rfl | rfl <;> rfl
      case c3 => unfold maxLen; omega
      case c4 => omega
      case c5 => have := hB2.size; simp; omega
      intro v1 w3 hown1 hg1 _
      have hbb := Below.grown (Below.refl _ _) hg1 (Nat.le_refl _) (fun k hk => by cases hk)
      have hB3 : Below w.heap.size w w3 := ((hB2.alloc hB2.size _).alloc (by have := hB2.size; simp; omega) _).trans (hbb.mono (by have := hB2.size; simp; omega))
      have HS3 := k0_ (zC hbb (by simp; omega) (zG (zF w2 (.cells #[.bool b0, .bool b1, .bool b2, .bool true, .bool false, .bool b5, .int .i64 kn] 154)) (.cells #[.int .i8 tk, .slice TA tn tc] 25)))
      obtain ⟨s0, s1, s2, s3, s4, s5, s6, sl⟩ := vW HS3.out
      obtain ⟨g, cap, rfl, hg0, hgl, hcap1, hcap2, hcs⟩ := xe hown1 (by omega)
      have c0 := hcs 0 _ rfl
      have c1 := hcs 1 _ rfl
      clear hcs hown1 hg1
      go_wp2_with fail
      go_ret
      exact ⟨some ⟨g, 0, none⟩, 1, cap, rfl, Tm.zEo c0 c1 (HTY.out _ hB3), rfl, hcap1, hcap2, hB3⟩
    · rw [ht, hu] at hsh
      have e1 : Tm.tys h = .node 0 0 h.tk h.tkids (.node 0 0 h.uk h.ukids .nil) := by unfold Tm.tys; rw [ht, hu]; rfl
      unfold TysPost
      rw [e1]
      have HS := k0_ hsh
      clear hsh hF hS e1 ht hu
      obtain ⟨k, nm, ar, nu, tk, tks, uk, uks, lb, ps⟩ := h
      obtain ⟨TA, tn, tc, UA, un, uc, A, n, c⟩ := p
      dsimp only [tC_, tD_] at *
      obtain ⟨i0, hi, hz0, hz1, hz2⟩ := info_parts kJ
      go_enter Tryz.func88, Tryz.ntmps88
      obtain ⟨q0, q1, q2, q3, q4, q5, q6, q7, q8, q9, q10, ql⟩ := zN HN.out
      go_wp2_with fail
      refine HS.out.mono ?_
      rintro e w2 ⟨rfl, hb⟩
      have hB2 := hB0.trans (hb.mono hB0.size)
      have HN2 := k0_ (zC hb (by simp) HN.out)
      obtain ⟨q0, q1, q2, q3, q4, q5, q6, q7, q8, q9, q10, ql⟩ := zN HN2.out
      clear hb
      go_wp2_with (first | (at_builtin; refine wpList_append_own _ rfl (.tmp 14) (.tmp 17) 23 rfl w.heap.size 25 i0 (.agg #[.int .i8 0, .slice none 0 0]) 2 32 Tryz.underlying23 hi hz0 hz1 hz2 rfl (by decide) (.slice none 0 0) 0 [] rfl ⟨rfl, .inl ⟨rfl, rfl⟩⟩ ⟨w2.heap.size + 1, 0, none⟩ 1 1 [.int .i8 tk, .slice TA tn tc] rfl rfl ?c1 ?c2 ?c3 ?c4 ?c5 ?_))
      case c1 => exact qL (qP w2 _ _)
      case c2 => intro u hu; simp at hu; rcases hu with rfl | rfl <;> rfl
      case c3 => unfold maxLen; omega
      case c4 => omega
      case c5 => have := hB2.size; simp; omega
      intro v1 w3 hown1 hg1 _
      have hbb := Below.grown (Below.refl _ _) hg1 (Nat.le_refl _) (fun k hk => by cases hk)
      have hB3 : Below w.heap.size w w3 := ((hB2.alloc hB2.size _).alloc (by have := hB2.size; simp; omega) _).trans (hbb.mono (by have := hB2.size; simp; omega))
      have HN3 := k0_ (zC hbb (by have := zD HN2.out; simp; omega) (zG (zG HN2.out _) _))
      have HS3 := k0_ (zC hbb (by simp; omega) (zG (zF w2 (.cells #[.bool b0, .bool b1, .bool b2, .bool true, .bool true, .bool b5, .int .i64 kn] 154)) (.cells #[.int .i8 tk, .slice TA tn tc] 25)))
      obtain ⟨q0, q1, q2, q3, q4, q5, q6, q7, q8, q9, q10, ql⟩ := zN HN3.out
      obtain ⟨s0, s1, s2, s3, s4, s5, s6, sl⟩ := vW HS3.out
      clear hbb hg1
      go_wp2_with (first | (at_builtin; refine wpList_append_own _ rfl (.tmp 21) (.tmp 24) 23 rfl w.heap.size 25 i0 (.agg #[.int .i8 0, .slice none 0 0]) 2 32 Tryz.underlying23 hi hz0 hz1 hz2 rfl (by decide) v1 _ _ rfl (hown1.alloc _) ⟨w3.heap.size, 0, none⟩ 1 1 [.int .i8 uk, .slice UA un uc] rfl rfl ?d1 ?d2 ?d3 ?d4 ?d5 ?_))
      case d1 => exact qL (zF w3 _)
      case d2 => intro u hu; simp at hu; rcases hu with rfl | rfl <;> rfl
      case d3 => unfold maxLen; omega
      case d4 => omega
      case d5 => have := hB3.size; simp; omega
      intro v2 w4 hown2 hg2 _
      have hB4 : Below w.heap.size w w4 := (hB3.alloc hB3.size _).grown hg2 (by have := hB3.size; simp; omega) fun k hk => (hown1.lt k hk).1
      obtain ⟨g, cap, rfl, hg0, hgl, hcap1, hcap2, hcs⟩ := xe hown2 (by omega)
      have c0 := hcs 0 _ rfl
      have c1 := hcs 1 _ rfl
      have c2 := hcs 2 _ rfl
      have c3 := hcs 3 _ rfl
      clear hcs hown2 hg2 hown1
      go_wp2_with fail
      go_ret
      exact ⟨some ⟨g, 0, none⟩, 2, cap, rfl, Tm.zEn c0 c1 (HTY.out _ hB4) c2 c3 (HTO.out _ hB4), rfl, hcap1, hcap2, hB4⟩
set_option maxHeartbeats 1000000 in
set_option maxRecDepth 100000 in
theorem zAt (h : Hd) (kids : Tm) (p : Pl) (w : World) (hIs : Tm.Is w h kids p) :
    Calls Tryz.prog 61 #[.agg #[.int .i8 h.kind, .string h.name, .string h.arg, .int .i64 h.num, .int .i8 h.tk, .slice p.TA p.tn p.tc, .int .i8 h.uk, .slice p.UA p.un p.uc, .int .i64 h.label, .int .i64 h.pos, .slice p.A p.n p.c]] w fun e w' => ∃ G m c, e = .returned (.slice G m c) ∧ Ty.Lies w' (Tm.tys h) G 0 ∧ m = Ty.len (Tm.tys h) ∧ m ≤ c ∧ c ≤ maxLen ∧ Below w.heap.size w w' := by
  have hB1 := za w (.cells #[.int .i8 h.kind, .string h.name, .string h.arg, .int .i64 h.num, .int .i8 h.tk, .slice p.TA p.tn p.tc, .int .i8 h.uk, .slice p.UA p.un p.uc, .int .i64 h.label, .int .i64 h.pos, .slice p.A p.n p.c] 28)
  have hT := hIs.fit.ty
  have hU := hIs.fit.to
  by_cases hk1 : h.kind = 4 ∨ h.kind = 7 ∨ h.kind = 12 ∨ h.kind = 13 ∨ h.kind = 16
  · have ha : Tm.tys h = .node 0 0 h.tk h.tkids .nil := by unfold Tm.tys; rcases hk1 with hk | hk | hk | hk | hk <;> rw [hk] <;> rfl
    rw [ha]
    have HT1 := k0_ (hT.below hB1)
    have HB1 := k0_ hB1
    have hA := za (w.alloc (.cells #[.int .i8 h.kind, .string h.name, .string h.arg, .int .i64 h.num, .int .i8 h.tk, .slice p.TA p.tn p.tc, .int .i8 h.uk, .slice p.UA p.un p.uc, .int .i64 h.label, .int .i64 h.pos, .slice p.A p.n p.c] 28)) (.cells #[.int .i8 h.tk, .slice p.TA p.tn p.tc] 25)
    have HFIN := k0_ (show Ty.Lies ((w.alloc (.cells #[.int .i8 h.kind, .string h.name, .string h.arg, .int .i64 h.num, .int .i8 h.tk, .slice p.TA p.tn p.tc, .int .i8 h.uk, .slice p.UA p.un p.uc, .int .i64 h.label, .int .i64 h.pos, .slice p.A p.n p.c] 28)).alloc (.cells #[.int .i8 h.tk, .slice p.TA p.tn p.tc] 25)) (.node 0 0 h.tk h.tkids .nil) (some ⟨w.heap.size + 1, 0, none⟩) 0 ∧ Below w.heap.size w ((w.alloc (.cells #[.int .i8 h.kind, .string h.name, .string h.arg, .int .i64 h.num, .int .i8 h.tk, .slice p.TA p.tn p.tc, .int .i8 h.uk, .slice p.UA p.un p.uc, .int .i64 h.label, .int .i64 h.pos, .slice p.A p.n p.c] 28)).alloc (.cells #[.int .i8 h.tk, .slice p.TA p.tn p.tc] 25)) from by
      have q := HT1.out.below hA
      refine ⟨⟨_, 0, p.TA, p.tc, rfl, ⟨q.lo, q.hi⟩, by simp, ?_, ?_, q.c_le, q.lies, trivial⟩, hB1.trans (hA.mono hB1.size)⟩
      · have := q.n_eq; rw [← this]; simp
      · have := q.n_eq; rw [← this]; exact q.n_le)
    clear ha hT hU hB1 hA hIs HT1 HB1
    rcases hk1 with hk | hk | hk | hk | hk
    all_goals
      rw [hk] at HFIN
      rw [hk]
      go_enter Tryz.func61, Tryz.ntmps61
      go_wp2_with fail
      go_ret
      exact ⟨_, 1, 1, rfl, HFIN.out.1, rfl, Nat.le_refl _, by decide, HFIN.out.2⟩
  by_cases hk2 : h.kind = 5 ∨ h.kind = 17
  · have ha : Tm.tys h = .node 0 0 h.tk h.tkids (.node 0 0 h.uk h.ukids .nil) := by unfold Tm.tys; rcases hk2 with hk | hk <;> rw [hk] <;> rfl
    rw [ha]
    have HT1 := k0_ (hT.below hB1)
    have HU1 := k0_ (hU.below hB1)
    have hA := za (w.alloc (.cells #[.int .i8 h.kind, .string h.name, .string h.arg, .int .i64 h.num, .int .i8 h.tk, .slice p.TA p.tn p.tc, .int .i8 h.uk, .slice p.UA p.un p.uc, .int .i64 h.label, .int .i64 h.pos, .slice p.A p.n p.c] 28)) (.cells #[.int .i8 h.tk, .slice p.TA p.tn p.tc, .int .i8 h.uk, .slice p.UA p.un p.uc] 25)
    have HFIN := k0_ (show Ty.Lies ((w.alloc (.cells #[.int .i8 h.kind, .string h.name, .string h.arg, .int .i64 h.num, .int .i8 h.tk, .slice p.TA p.tn p.tc, .int .i8 h.uk, .slice p.UA p.un p.uc, .int .i64 h.label, .int .i64 h.pos, .slice p.A p.n p.c] 28)).alloc (.cells #[.int .i8 h.tk, .slice p.TA p.tn p.tc, .int .i8 h.uk, .slice p.UA p.un p.uc] 25)) (.node 0 0 h.tk h.tkids (.node 0 0 h.uk h.ukids .nil)) (some ⟨w.heap.size + 1, 0, none⟩) 0 ∧ Below w.heap.size w ((w.alloc (.cells #[.int .i8 h.kind, .string h.name, .string h.arg, .int .i64 h.num, .int .i8 h.tk, .slice p.TA p.tn p.tc, .int .i8 h.uk, .slice p.UA p.un p.uc, .int .i64 h.label, .int .i64 h.pos, .slice p.A p.n p.c] 28)).alloc (.cells #[.int .i8 h.tk, .slice p.TA p.tn p.tc, .int .i8 h.uk, .slice p.UA p.un p.uc] 25)) from by
      have q := HT1.out.below hA
      have r := HU1.out.below hA
      refine ⟨⟨_, 0, p.TA, p.tc, rfl, ⟨q.lo, q.hi⟩, by simp, ?_, ?_, q.c_le, q.lies, _, 0, p.UA, p.uc, rfl, ⟨r.lo, r.hi⟩, by simp, ?_, ?_, r.c_le, r.lies, trivial⟩, hB1.trans (hA.mono hB1.size)⟩
      · have := q.n_eq; rw [← this]; simp
      · have := q.n_eq; rw [← this]; exact q.n_le
      · have := r.n_eq; rw [← this]; simp
      · have := r.n_eq; rw [← this]; exact r.n_le)
    clear ha hT hU hB1 hA hIs HT1 HU1 hk1
    rcases hk2 with hk | hk
    all_goals
      rw [hk] at HFIN
      rw [hk]
      go_enter Tryz.func61, Tryz.ntmps61
      go_wp2_with fail
      go_ret
      exact ⟨_, 2, 2, rfl, HFIN.out.1, rfl, Nat.le_refl _, by decide, HFIN.out.2⟩
  · have ha : Tm.tys h = .nil := by unfold Tm.tys; rw [if_neg (by simp [Tm.hasType]; omega)]
    rw [ha]
    have HB1 := k0_ hB1
    have e4 : (h.kind == 4) = false := by simp; omega
    have e5 : (h.kind == 5) = false := by simp; omega
    have e7 : (h.kind == 7) = false := by simp; omega
    have e12 : (h.kind == 12) = false := by simp; omega
    have e13 : (h.kind == 13) = false := by simp; omega
    have e16 : (h.kind == 16) = false := by simp; omega
    have e17 : (h.kind == 17) = false := by simp; omega
    clear ha hT hU hB1 hIs hk1 hk2
    go_enter Tryz.func61, Tryz.ntmps61
    go_wp2_with fail
    go_ret
    exact ⟨none, 0, 0, rfl, trivial, rfl, Nat.le_refl _, Nat.zero_le _, HB1.out⟩
end Go.Proofs.YtgjemmmbnpkamaaGreatDoor
