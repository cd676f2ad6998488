import Derived.Test.YtjpohjcnjanoaaaGreatDoorM8
import Derived.Test.YtjpohjcnjanoaaaGreatDoorM9
import Derived.Test.YtjpohjcnjanoaaaGreatDoorM12
import Derived.ArgAppend
import Derived.Deep.DeepCutAuto
import Derived.Test.YtjpohjcnjanoaaaGreatDoorM5
namespace Go.Proofs.YtjpohjcnjanoaaaGreatDoor
namespace Ck
abbrev T2 := Int × Fo
abbrev Env := List (ByteArray × T2)
inductive R where
  | ok (a : T2)
  | bad (E p : Int) (x : ByteArray)
def e0 : ByteArray := ⟨#[]⟩
def fnd : Env → ByteArray → Option T2
  | [], _ => none
  | b :: l, x => match fnd l x with
    | some a => some a
    | none => if (b.1.toList == x.toList) = true then some b.2 else none
def mk2 (k : Int) (a b : T2) : T2 := (k, .node 0 0 a.1 a.2 (.node 0 0 b.1 b.2 .nil))
def hd0 : Hd := ⟨0, e0, e0, 0, 0, .nil, 0, .nil, 0, 0⟩
def k1 : Tm → Hd × Tm
  | .node h k _ => (h, k)
  | .nil => (hd0, .nil)
def k2 : Tm → Hd × Tm
  | .node _ _ r => k1 r
  | .nil => (hd0, .nil)
def k3 : Tm → Hd × Tm
  | .node _ _ r => k2 r
  | .nil => (hd0, .nil)
def TT (h : Hd) : T2 := (h.tk, h.tkids)
def UU (h : Hd) : T2 := (h.uk, h.ukids)
def chk (a : T2) : Nat := Ty.chk a.1 a.2
def ag (a b : T2) : Bool := Ty.agreeT a.1 a.2 b.1 b.2
def asO (k : Int) (a : T2) : Bool := Ty.asOk k a.1 a.2
def asl (k : Int) (a : T2) : T2 := Ty.asL k a.1 a.2
def asr (k : Int) (a : T2) : T2 := Ty.asR k a.1 a.2
def mt (a b : T2) : T2 := (Ty.mK a.1 b.1, Ty.mT a.1 a.2 b.1 b.2)
def lift (h : Hd) : R → R
  | .ok a => if chk a = 0 then .ok a else .bad (chk a) h.pos e0
  | .bad E p x => .bad E p x
def bnd (r : R) (f : T2 → R) : R := match r with
  | .ok a => f a
  | .bad E p x => .bad E p x
def fault (h : Hd) (E : Int) : R := .bad E h.pos e0
def meet (h : Hd) (a b : T2) : R := if ag a b = true then .ok (mt a b) else fault h 91
def opAns (s : ByteArray) : T2 := if (s.toList == [60] || s.toList == [61]) = true then (2, .nil) else (1, .nil)
def over (h : Hd) (a b c : T2) : R :=
  if h.kind = 6 then (if asO 3 a = true then (if ag b (asl 3 a) = true then .ok (asr 3 a) else fault h 91) else fault h 90)
  else if h.kind = 8 then (if ag a (2, .nil) = true then meet h b c else fault h 91)
  else if h.kind = 9 then .ok (mk2 4 a b)
  else if h.kind = 10 then (if asO 4 a = true then .ok (asl 4 a) else fault h 90)
  else if h.kind = 11 then (if asO 4 a = true then .ok (asr 4 a) else fault h 90)
  else if h.kind = 12 then (if asO 5 (TT h) = true then (if ag a (asl 5 (TT h)) = true then .ok (mk2 5 (asl 5 (TT h)) (asr 5 (TT h))) else fault h 91) else fault h 90)
  else if h.kind = 13 then (if asO 5 (TT h) = true then (if ag a (asr 5 (TT h)) = true then .ok (mk2 5 (asl 5 (TT h)) (asr 5 (TT h))) else fault h 91) else fault h 90)
  else if h.kind = 15 then (if ag a (1, .nil) = true then (if ag b (1, .nil) = true then .ok (opAns h.name) else fault h 91) else fault h 91)
  else (if ag a (TT h) = true then .ok (TT h) else fault h 91)
def raw (F : Hd → Tm → Env → R) (h : Hd) (kids : Tm) (l : Env) : R :=
  if h.kind = 0 then (match fnd l h.name with
    | some a => .ok a
    | none => .bad 41 h.pos h.name)
  else if h.kind = 1 then .ok (1, .nil)
  else if h.kind = 2 ∨ h.kind = 3 then .ok (2, .nil)
  else if h.kind = 4 then bnd (F (k1 kids).1 (k1 kids).2 (l ++ [(h.name, TT h)])) fun b => .ok (mk2 3 (TT h) b)
  else if h.kind = 5 then bnd (F (k1 kids).1 (k1 kids).2 (l ++ [(h.name, mk2 3 (TT h) (UU h)), (h.arg, TT h)])) fun b => if ag b (UU h) = true then .ok (mk2 3 (TT h) (UU h)) else fault h 91
  else if h.kind = 7 then bnd (F (k1 kids).1 (k1 kids).2 l) fun a => if ag a (TT h) = true then F (k2 kids).1 (k2 kids).2 (l ++ [(h.name, TT h)]) else fault h 91
  else if h.kind = 14 then bnd (F (k1 kids).1 (k1 kids).2 l) fun a => if asO 5 a = true then bnd (F (k2 kids).1 (k2 kids).2 (l ++ [(h.name, asl 5 a)])) fun b => bnd (F (k3 kids).1 (k3 kids).2 (l ++ [(h.arg, asr 5 a)])) fun c => meet h b c else fault h 90
  else if h.kind = 6 ∨ h.kind = 9 ∨ h.kind = 15 then bnd (F (k1 kids).1 (k1 kids).2 l) fun a => bnd (F (k2 kids).1 (k2 kids).2 l) fun b => over h a b (0, .nil)
  else if h.kind = 8 then bnd (F (k1 kids).1 (k1 kids).2 l) fun a => bnd (F (k2 kids).1 (k2 kids).2 l) fun b => bnd (F (k3 kids).1 (k3 kids).2 l) fun c => over h a b c
  else bnd (F (k1 kids).1 (k1 kids).2 l) fun a => over h a (0, .nil) (0, .nil)
def ty : Nat → Hd → Tm → Env → R
  | 0, h, _, _ => fault h 0
  | K + 1, h, kids, l => lift h (raw (ty K) h kids l)
theorem vC (K : Nat) (h : Hd) (kids : Tm) (l : Env) : ty (K + 1) h kids l = lift h (raw (ty K) h kids l) := rfl
def castF : Tm → Bool
  | .nil => false
  | .node h kids r => (h.kind == 17) || castF kids || castF r
def castT (h : Hd) (kids : Tm) : Bool := (h.kind == 17) || castF kids
def tell (h : Hd) (kids : Tm) : R :=
  if Tm.chk h kids ≠ 0 then .bad (Tm.chk h kids) 0 e0 else if castT h kids = true then .bad 30 0 e0 else ty (Tm.nodes kids + 1) h kids []
theorem wI {h : Hd} {r : R} {a : T2} (e : lift h r = .ok a) : r = .ok a ∧ chk a = 0 := by
  cases r with
  | ok b =>
    simp only [lift] at e
    split at e
    · injection e with e; subst e; exact ⟨rfl, by assumption⟩
    · cases e
  | bad _ _ _ => cases e
theorem uB : ∀ {K : Nat} {h : Hd} {kids : Tm} {l : Env} {a : T2}, ty K h kids l = .ok a → chk a = 0
  | 0, _, _, _, _, e => by cases e
  | _ + 1, _, _, _, _, e => (wI e).2
end Ck
end Go.Proofs.YtjpohjcnjanoaaaGreatDoor
namespace Go.Proofs.YtjpohjcnjanoaaaGreatDoor
namespace Ck
theorem xJ (F : Hd → Tm → Env → R) (h : Hd) (kids : Tm) (l : Env) (hk : h.kind = 0) : raw F h kids l = (match fnd l h.name with | some a => .ok a | none => .bad 41 h.pos h.name) := by
  unfold raw
  rw [if_pos hk]
  all_goals (cases fnd l h.name <;> rfl)
theorem xI (F : Hd → Tm → Env → R) (h : Hd) (kids : Tm) (l : Env) (hk : h.kind = 1) : raw F h kids l = .ok (1, .nil) := by
  unfold raw
  simp [hk]
theorem xH (F : Hd → Tm → Env → R) (h : Hd) (kids : Tm) (l : Env) (hk : h.kind = 2) : raw F h kids l = .ok (2, .nil) := by
  unfold raw
  simp [hk]
theorem xG (F : Hd → Tm → Env → R) (h : Hd) (kids : Tm) (l : Env) (hk : h.kind = 3) : raw F h kids l = .ok (2, .nil) := by
  unfold raw
  simp [hk]
theorem xE (F : Hd → Tm → Env → R) (h : Hd) (kids : Tm) (l : Env) (hk : h.kind = 4) : raw F h kids l = bnd (F (k1 kids).1 (k1 kids).2 (l ++ [(h.name, TT h)])) fun b => .ok (mk2 3 (TT h) b) := by
  unfold raw
  simp [hk]
theorem xD (F : Hd → Tm → Env → R) (h : Hd) (kids : Tm) (l : Env) (hk : h.kind = 5) : raw F h kids l = bnd (F (k1 kids).1 (k1 kids).2 (l ++ [(h.name, mk2 3 (TT h) (UU h)), (h.arg, TT h)])) fun b => if ag b (UU h) = true then .ok (mk2 3 (TT h) (UU h)) else fault h 91 := by
  unfold raw
  simp [hk]
theorem xC (F : Hd → Tm → Env → R) (h : Hd) (kids : Tm) (l : Env) (hk : h.kind = 6) : raw F h kids l = bnd (F (k1 kids).1 (k1 kids).2 l) fun a => bnd (F (k2 kids).1 (k2 kids).2 l) fun b => over h a b (0, .nil) := by
  unfold raw
  simp [hk]
theorem xB (F : Hd → Tm → Env → R) (h : Hd) (kids : Tm) (l : Env) (hk : h.kind = 7) : raw F h kids l = bnd (F (k1 kids).1 (k1 kids).2 l) fun a => if ag a (TT h) = true then F (k2 kids).1 (k2 kids).2 (l ++ [(h.name, TT h)]) else fault h 91 := by
  unfold raw
  simp [hk]
theorem xA (F : Hd → Tm → Env → R) (h : Hd) (kids : Tm) (l : Env) (hk : h.kind = 8) : raw F h kids l = bnd (F (k1 kids).1 (k1 kids).2 l) fun a => bnd (F (k2 kids).1 (k2 kids).2 l) fun b => bnd (F (k3 kids).1 (k3 kids).2 l) fun c => over h a b c := by
  unfold raw
  simp [hk]
theorem yz (F : Hd → Tm → Env → R) (h : Hd) (kids : Tm) (l : Env) (hk : h.kind = 9) : raw F h kids l = bnd (F (k1 kids).1 (k1 kids).2 l) fun a => bnd (F (k2 kids).1 (k2 kids).2 l) fun b => over h a b (0, .nil) := by
  unfold raw
  simp [hk]
theorem vk (F : Hd → Tm → Env → R) (h : Hd) (kids : Tm) (l : Env) (hk : h.kind = 10) : raw F h kids l = bnd (F (k1 kids).1 (k1 kids).2 l) fun a => over h a (0, .nil) (0, .nil) := by
  unfold raw
  simp [hk]
theorem vg (F : Hd → Tm → Env → R) (h : Hd) (kids : Tm) (l : Env) (hk : h.kind = 11) : raw F h kids l = bnd (F (k1 kids).1 (k1 kids).2 l) fun a => over h a (0, .nil) (0, .nil) := by
  unfold raw
  simp [hk]
theorem ve (F : Hd → Tm → Env → R) (h : Hd) (kids : Tm) (l : Env) (hk : h.kind = 12) : raw F h kids l = bnd (F (k1 kids).1 (k1 kids).2 l) fun a => over h a (0, .nil) (0, .nil) := by
  unfold raw
  simp [hk]
theorem vZ (F : Hd → Tm → Env → R) (h : Hd) (kids : Tm) (l : Env) (hk : h.kind = 13) : raw F h kids l = bnd (F (k1 kids).1 (k1 kids).2 l) fun a => over h a (0, .nil) (0, .nil) := by
  unfold raw
  simp [hk]
theorem vY (F : Hd → Tm → Env → R) (h : Hd) (kids : Tm) (l : Env) (hk : h.kind = 14) : raw F h kids l = bnd (F (k1 kids).1 (k1 kids).2 l) fun a => if asO 5 a = true then bnd (F (k2 kids).1 (k2 kids).2 (l ++ [(h.name, asl 5 a)])) fun b => bnd (F (k3 kids).1 (k3 kids).2 (l ++ [(h.arg, asr 5 a)])) fun c => meet h b c else fault h 90 := by
  unfold raw
  simp [hk]
theorem vX (F : Hd → Tm → Env → R) (h : Hd) (kids : Tm) (l : Env) (hk : h.kind = 15) : raw F h kids l = bnd (F (k1 kids).1 (k1 kids).2 l) fun a => bnd (F (k2 kids).1 (k2 kids).2 l) fun b => over h a b (0, .nil) := by
  unfold raw
  simp [hk]
theorem vW (F : Hd → Tm → Env → R) (h : Hd) (kids : Tm) (l : Env) (hk : h.kind = 16) : raw F h kids l = bnd (F (k1 kids).1 (k1 kids).2 l) fun a => over h a (0, .nil) (0, .nil) := by
  unfold raw
  simp [hk]
theorem xu (F : Hd → Tm → Env → R) (h : Hd) (kids : Tm) (l : Env) (hk : h.kind = 17) : raw F h kids l = bnd (F (k1 kids).1 (k1 kids).2 l) fun a => over h a (0, .nil) (0, .nil) := by
  unfold raw
  simp [hk]
theorem xy (h : Hd) (a b c : T2) (hk : h.kind = 6) : over h a b c = if asO 3 a = true then (if ag b (asl 3 a) = true then .ok (asr 3 a) else fault h 91) else fault h 90 := by
  unfold over
  simp [hk]
theorem xx (h : Hd) (a b c : T2) (hk : h.kind = 8) : over h a b c = if ag a (2, .nil) = true then meet h b c else fault h 91 := by
  unfold over
  simp [hk]
theorem xw (h : Hd) (a b c : T2) (hk : h.kind = 9) : over h a b c = .ok (mk2 4 a b) := by
  unfold over
  simp [hk]
theorem kY (h : Hd) (a b c : T2) (hk : h.kind = 10) : over h a b c = if asO 4 a = true then .ok (asl 4 a) else fault h 90 := by
  unfold over
  simp [hk]
theorem kX (h : Hd) (a b c : T2) (hk : h.kind = 11) : over h a b c = if asO 4 a = true then .ok (asr 4 a) else fault h 90 := by
  unfold over
  simp [hk]
theorem kW (h : Hd) (a b c : T2) (hk : h.kind = 12) : over h a b c = if asO 5 (TT h) = true then (if ag a (asl 5 (TT h)) = true then .ok (mk2 5 (asl 5 (TT h)) (asr 5 (TT h))) else fault h 91) else fault h 90 := by
  unfold over
  simp [hk]
theorem kV (h : Hd) (a b c : T2) (hk : h.kind = 13) : over h a b c = if asO 5 (TT h) = true then (if ag a (asr 5 (TT h)) = true then .ok (mk2 5 (asl 5 (TT h)) (asr 5 (TT h))) else fault h 91) else fault h 90 := by
  unfold over
  simp [hk]
theorem kS (h : Hd) (a b c : T2) (hk : h.kind = 15) : over h a b c = if ag a (1, .nil) = true then (if ag b (1, .nil) = true then .ok (opAns h.name) else fault h 91) else fault h 91 := by
  unfold over
  simp [hk]
theorem kR (h : Hd) (a b c : T2) (hk : h.kind = 16) : over h a b c = if ag a (TT h) = true then .ok (TT h) else fault h 91 := by
  unfold over
  simp [hk]
theorem zAx (h : Hd) (a b c : T2) (hk : h.kind = 17) : over h a b c = if ag a (TT h) = true then .ok (TT h) else fault h 91 := by
  unfold over
  simp [hk]
end Ck
end Go.Proofs.YtjpohjcnjanoaaaGreatDoor
namespace Go.Proofs.YtjpohjcnjanoaaaGreatDoor
namespace Ck
theorem zBK {F G : Hd → Tm → Env → R} (h : Hd) (kids : Tm) (l : Env) (hi : Tm.isKind h.kind = true) (hn : Tm.len kids = Tm.kidsN h.kind)
    (h1 : 1 ≤ Tm.len kids → ∀ l, F (k1 kids).1 (k1 kids).2 l = G (k1 kids).1 (k1 kids).2 l)
    (h2 : 2 ≤ Tm.len kids → ∀ l, F (k2 kids).1 (k2 kids).2 l = G (k2 kids).1 (k2 kids).2 l)
    (h3 : 3 ≤ Tm.len kids → ∀ l, F (k3 kids).1 (k3 kids).2 l = G (k3 kids).1 (k3 kids).2 l) : raw F h kids l = raw G h kids l := by
  have hk : h.kind = 0 ∨ h.kind = 1 ∨ h.kind = 2 ∨ h.kind = 3 ∨ h.kind = 4 ∨ h.kind = 5 ∨ h.kind = 6 ∨ h.kind = 7 ∨ h.kind = 8 ∨ h.kind = 9 ∨ h.kind = 10 ∨ h.kind = 11 ∨ h.kind = 12 ∨ h.kind = 13 ∨ h.kind = 14 ∨ h.kind = 15 ∨ h.kind = 16 ∨ h.kind = 17 := by
    simp only [Tm.isKind, decide_eq_true_eq] at hi
    omega
  rcases hk with hk | hk | hk | hk | hk | hk | hk | hk | hk | hk | hk | hk | hk | hk | hk | hk | hk | hk
  · rw [hn, hk] at h1 h2 h3
    simp only [xJ F h kids l hk, xJ G h kids l hk]
  · rw [hn, hk] at h1 h2 h3
    simp only [xI F h kids l hk, xI G h kids l hk]
  · rw [hn, hk] at h1 h2 h3
    simp only [xH F h kids l hk, xH G h kids l hk]
  · rw [hn, hk] at h1 h2 h3
    simp only [xG F h kids l hk, xG G h kids l hk]
  · rw [hn, hk] at h1 h2 h3
    simp only [xE F h kids l hk, xE G h kids l hk, h1 (by decide)]
  · rw [hn, hk] at h1 h2 h3
    simp only [xD F h kids l hk, xD G h kids l hk, h1 (by decide)]
  · rw [hn, hk] at h1 h2 h3
    simp only [xC F h kids l hk, xC G h kids l hk, h1 (by decide), h2 (by decide)]
  · rw [hn, hk] at h1 h2 h3
    simp only [xB F h kids l hk, xB G h kids l hk, h1 (by decide), h2 (by decide)]
  · rw [hn, hk] at h1 h2 h3
    simp only [xA F h kids l hk, xA G h kids l hk, h1 (by decide), h2 (by decide), h3 (by decide)]
  · rw [hn, hk] at h1 h2 h3
    simp only [yz F h kids l hk, yz G h kids l hk, h1 (by decide), h2 (by decide)]
  · rw [hn, hk] at h1 h2 h3
    simp only [vk F h kids l hk, vk G h kids l hk, h1 (by decide)]
  · rw [hn, hk] at h1 h2 h3
    simp only [vg F h kids l hk, vg G h kids l hk, h1 (by decide)]
  · rw [hn, hk] at h1 h2 h3
    simp only [ve F h kids l hk, ve G h kids l hk, h1 (by decide)]
  · rw [hn, hk] at h1 h2 h3
    simp only [vZ F h kids l hk, vZ G h kids l hk, h1 (by decide)]
  · rw [hn, hk] at h1 h2 h3
    simp only [vY F h kids l hk, vY G h kids l hk, h1 (by decide), h2 (by decide), h3 (by decide)]
  · rw [hn, hk] at h1 h2 h3
    simp only [vX F h kids l hk, vX G h kids l hk, h1 (by decide), h2 (by decide)]
  · rw [hn, hk] at h1 h2 h3
    simp only [vW F h kids l hk, vW G h kids l hk, h1 (by decide)]
  · rw [hn, hk] at h1 h2 h3
    simp only [xu F h kids l hk, xu G h kids l hk, h1 (by decide)]
theorem zh {h : Hd} {k r : Tm} (h0 : Tm.okF (.node h k r) = true) : Tm.okT h k = true ∧ Tm.okF r = true := by
  simp only [Tm.okF, Bool.and_eq_true] at h0
  exact ⟨by unfold Tm.okT; rw [h0.1.1, h0.1.2]; rfl, h0.2⟩
theorem zDE {kids : Tm} (h : 1 ≤ Tm.len kids) : (Tm.okF kids = true → Tm.okT (k1 kids).1 (k1 kids).2 = true) ∧ (castF kids = false → castT (k1 kids).1 (k1 kids).2 = false) ∧ Tm.nodes (k1 kids).2 < Tm.nodes kids := by
  cases kids with
  | nil => simp [Tm.len] at h
  | node h k r =>
    refine ⟨fun h0 => (zh h0).1, fun h0 => ?_, by simp only [k1, Tm.nodes]; omega⟩
    simp only [castF, Bool.or_eq_false_iff] at h0
    simp only [k1, castT, h0.1.1, h0.1.2, Bool.or_false]
theorem zDD {kids : Tm} (h : 2 ≤ Tm.len kids) : (Tm.okF kids = true → Tm.okT (k2 kids).1 (k2 kids).2 = true) ∧ (castF kids = false → castT (k2 kids).1 (k2 kids).2 = false) ∧ Tm.nodes (k2 kids).2 < Tm.nodes kids := by
  cases kids with
  | nil => simp [Tm.len] at h
  | node h' k r =>
    obtain ⟨x, y, z⟩ := zDE (kids := r) (by simp only [Tm.len] at h; omega)
    refine ⟨fun h0 => x (zh h0).2, fun h0 => ?_, by simp only [k2, Tm.nodes]; omega⟩
    simp only [castF, Bool.or_eq_false_iff] at h0
    exact y h0.2
theorem zDf {kids : Tm} (h : 3 ≤ Tm.len kids) : (Tm.okF kids = true → Tm.okT (k3 kids).1 (k3 kids).2 = true) ∧ (castF kids = false → castT (k3 kids).1 (k3 kids).2 = false) ∧ Tm.nodes (k3 kids).2 < Tm.nodes kids := by
  cases kids with
  | nil => simp [Tm.len] at h
  | node h' k r =>
    obtain ⟨x, y, z⟩ := zDD (kids := r) (by simp only [Tm.len] at h; omega)
    refine ⟨fun h0 => x (zh h0).2, fun h0 => ?_, by simp only [k3, Tm.nodes]; omega⟩
    simp only [castF, Bool.or_eq_false_iff] at h0
    exact y h0.2
theorem qf {h : Hd} {kids : Tm} (h0 : Tm.okT h kids = true) : Tm.isKind h.kind = true ∧ Tm.len kids = Tm.kidsN h.kind ∧ Tm.okF kids = true := by
  unfold Tm.okT Tm.headOk at h0
  simp only [Bool.and_eq_true, decide_eq_true_eq] at h0
  exact ⟨h0.1.1.1.1.1, h0.1.1.1.1.2, h0.2⟩
theorem zf {h : Hd} {kids : Tm} (h0 : castT h kids = false) : h.kind ≠ 17 ∧ castF kids = false := by
  unfold castT at h0
  simp only [Bool.or_eq_false_iff, beq_eq_false_iff_ne] at h0
  exact h0
theorem kQ : ∀ (K K' : Nat) (h : Hd) (kids : Tm) (l : Env), Tm.okT h kids = true → Tm.nodes kids < K → Tm.nodes kids < K' → ty K h kids l = ty K' h kids l
  | 0, _, _, _, _, _, h1, _ => by omega
  | _ + 1, 0, _, _, _, _, _, h2 => by omega
  | K + 1, K' + 1, h, kids, l, h0, hK, hK' => by
    obtain ⟨x, y, z⟩ := qf h0
    rw [vC, vC, zBK (F := ty K) (G := ty K') h kids l x y
      (fun g l => by obtain ⟨a, -, c⟩ := zDE g; exact kQ K K' _ _ l (a z) (by omega) (by omega))
      (fun g l => by obtain ⟨a, -, c⟩ := zDD g; exact kQ K K' _ _ l (a z) (by omega) (by omega))
      (fun g l => by obtain ⟨a, -, c⟩ := zDf g; exact kQ K K' _ _ l (a z) (by omega) (by omega))]
theorem vz {h : Hd} {kids : Tm} (h0 : Tm.chk h kids = 0) : Tm.nd h kids ≤ 8192 ∧ Tm.dp h kids ≤ 200 ∧ Tm.okT h kids = true := by
  unfold Tm.chk at h0
  split at h0
  · cases h0
  · split at h0
    · cases h0
    · split at h0
      · exact ⟨by omega, by omega, by assumption⟩
      · cases h0
theorem zD5 {h : Hd} {kids : Tm} (h1 : Tm.nd h kids ≤ 8192) (h2 : Tm.dp h kids ≤ 200) (h3 : Tm.okT h kids = true) : Tm.chk h kids = 0 := by
  unfold Tm.chk
  rw [if_neg (by omega), if_neg (by omega), if_pos h3]
def two (h : Hd) (k : Tm) (h' : Hd) (k' : Tm) : Tm := .node h k (.node h' k' .nil)
theorem zAv {h : Hd} {k : Tm} (h0 : Tm.chk h k = 0) (hc : castT h k = false) : tell h k = ty (Tm.nodes k + 1) h k [] := by
  unfold tell
  rw [if_neg (by omega), if_neg (by rw [hc]; decide)]
end Ck
end Go.Proofs.YtjpohjcnjanoaaaGreatDoor
namespace Go.Proofs.YtjpohjcnjanoaaaGreatDoor
open Go.RowKit
namespace Ck
def FltAt (w : World) (g : Nat) (E p : Int) (x : ByteArray) : Prop := w.heap[g]? = some (.cells #[.int .i64 E, .int .i64 p, .string x] 69 (0, 0))
def Gave (w : World) (E p : Int) (x : ByteArray) (e : Ending) (w' : World) : Prop :=
  ∃ g, e = .panicked [{ v := .iface 65 (.pointer (some ⟨g, 0, none⟩)), recovered := false }] ∧ FltAt w' g E p x ∧ w.heap.size ≤ g ∧ Below w.heap.size w w'
theorem Gave.from {w u w' : World} {E p : Int} {x : ByteArray} {e : Ending} (h : Gave u E p x e w') (hb : Below w.heap.size w u) : Gave w E p x e w' := by
  obtain ⟨g, h1, h2, h3, h4⟩ := h
  exact ⟨g, h1, h2, Nat.le_trans hb.size h3, hb.trans (h4.mono hb.size)⟩
def Cut (Q : Nat → Prop) (N M : Nat) (b : Nat) : Prop := (Q b ∧ b < N) ∨ M ≤ b
theorem Cut.in {Q : Nat → Prop} {N M S b : Nat} (hS : M ≤ S) (h : Cut (Cut Q N M) S S b) : Cut Q N M b := by
  rcases h with ⟨h, -⟩ | h
  · exact h
  · exact .inr (by omega)
theorem Cut.out {Q : Nat → Prop} {N M b : Nat} (hM : N ≤ M) (h : Cut Q N M b) : Cut Q N N b := by
  rcases h with h | h
  · exact .inl h
  · exact .inr (by omega)
theorem Cut.ne {Q : Nat → Prop} {N M b X : Nat} (h : Cut Q N M b) (h1 : N ≤ X) (h2 : X < M) : b ≠ X := by
  rcases h with h | h <;> omega
abbrev Ly (Q : Nat → Prop) (w : World) (a : T2) (G : Option Addr) (m c : Nat) : Prop := Lone Q w a.1 a.2 G m c
theorem Ly.later {Q : Nat → Prop} {w w' : World} {a : T2} {G : Option Addr} {m c : Nat} (h : Ly Q w a G m c) (hb : Below w.heap.size w w') : Ly Q w' a G m c :=
  Lone.to h fun _ _ _ hQ hc => ⟨hQ, by rw [hb.cell (p := ⟨_, _, none⟩) (Ty.zN hc)]; exact hc⟩
theorem Ly.weak {Q Q' : Nat → Prop} {w : World} {a : T2} {G : Option Addr} {m c : Nat} (h : Ly Q w a G m c) (hq : ∀ b, b < w.heap.size → Q b → Q' b) : Ly Q' w a G m c :=
  Lone.to h fun _ _ _ hQ hc => ⟨hq _ (Ty.zN hc) hQ, hc⟩
theorem Ly.set {Q : Nat → Prop} {w : World} {a : T2} {G : Option Addr} {m c : Nat} (h : Ly Q w a G m c) {X : Nat} (hX : ∀ b, Q b → b ≠ X) (o : Nat) (v : Value) : Ly Q (w.setCell ⟨X, o, none⟩ v) a G m c :=
  Lone.to h fun b o' v' hQ hc => ⟨hQ, by rw [World.cell?_setCell_other _ _ _ _ (fun e => hX b hQ (by injection e with e; exact e.symm))]; exact hc⟩
theorem Ly.is {Q : Nat → Prop} {w : World} {a : T2} {G : Option Addr} {m c : Nat} (h : Ly Q w a G m c) : Ty.Is w a.1 a.2 G m c := Lone.is h
theorem Ly.of {w : World} {a : T2} {G : Option Addr} {m c : Nat} (h : Ty.Is w a.1 a.2 G m c) : Ly (fun b => b < w.heap.size) w a G m c :=
  fun _ hu => (h.inP.to (P' := fun _ => True) fun b o v hP hc => ⟨trivial, hu b o v hP hc⟩).is
theorem Ly.zero (Q : Nat → Prop) (w : World) : Ly Q w (0, .nil) none 0 0 := fun _ _ => Ty.qX _
def Gives (Q : Nat → Prop) (w : World) (a : T2) (e : Ending) (w' : World) : Prop :=
  ∃ G m c, e = .returned (.agg #[.int .i8 a.1, .slice G m c]) ∧ Ly (Cut Q w.heap.size w.heap.size) w' a G m c ∧ Below w.heap.size w w'
def Post (Q : Nat → Prop) (w : World) (r : R) (e : Ending) (w' : World) : Prop := match r with
  | .ok a => Gives Q w a e w'
  | .bad E p x => Gave w E p x e w'
def EFlat (Q : Nat → Prop) (w : World) : Env → List Value → Prop
  | [], [] => True
  | x :: l, a :: b :: c :: xs => (a = .string x.1 ∧ b = .int .i8 x.2.1 ∧ ∃ G m k, c = .slice G m k ∧ Ly Q w x.2 G m k) ∧ EFlat Q w l xs
  | _, _ => False
theorem EFlat.below {Q : Nat → Prop} {w w' : World} (hb : Below w.heap.size w w') : ∀ {l : Env} {xs : List Value}, EFlat Q w l xs → EFlat Q w' l xs
  | [], [], _ => trivial
  | _ :: _, _ :: _ :: _ :: _, ⟨⟨h1, h2, G, m, k, h3, h4⟩, h5⟩ => ⟨⟨h1, h2, G, m, k, h3, h4.later hb⟩, EFlat.below hb h5⟩
  | [], _ :: _, h => h.elim
  | _ :: _, [], h => h.elim
  | _ :: _, [_], h => h.elim
  | _ :: _, [_, _], h => h.elim
theorem EFlat.weak {Q Q' : Nat → Prop} {w : World} (hq : ∀ b, b < w.heap.size → Q b → Q' b) : ∀ {l : Env} {xs : List Value}, EFlat Q w l xs → EFlat Q' w l xs
  | [], [], _ => trivial
  | _ :: _, _ :: _ :: _ :: _, ⟨⟨h1, h2, G, m, k, h3, h4⟩, h5⟩ => ⟨⟨h1, h2, G, m, k, h3, h4.weak hq⟩, EFlat.weak hq h5⟩
  | [], _ :: _, h => h.elim
  | _ :: _, [], h => h.elim
  | _ :: _, [_], h => h.elim
  | _ :: _, [_, _], h => h.elim
theorem EFlat.app {Q : Nat → Prop} {w : World} : ∀ {l : Env} {xs : List Value} {l' : Env} {xs' : List Value}, EFlat Q w l xs → EFlat Q w l' xs' → EFlat Q w (l ++ l') (xs ++ xs')
  | [], [], _, _, _, h => h
  | _ :: _, _ :: _ :: _ :: _, _, _, ⟨h1, h5⟩, h => ⟨h1, EFlat.app h5 h⟩
  | [], _ :: _, _, _, h, _ => h.elim
  | _ :: _, [], _, _, h, _ => h.elim
  | _ :: _, [_], _, _, h, _ => h.elim
  | _ :: _, [_, _], _, _, h, _ => h.elim
theorem EFlat.len {Q : Nat → Prop} {w : World} : ∀ {l : Env} {xs : List Value}, EFlat Q w l xs → xs.length = l.length * 3
  | [], [], _ => rfl
  | _ :: _, _ :: _ :: _ :: _, ⟨_, h5⟩ => by have := EFlat.len h5; simp only [List.length_cons]; omega
  | [], _ :: _, h => h.elim
  | _ :: _, [], h => h.elim
  | _ :: _, [_], h => h.elim
  | _ :: _, [_, _], h => h.elim
theorem EFlat.at {Q : Nat → Prop} {w : World} : ∀ {l : Env} {xs : List Value}, EFlat Q w l xs → ∀ (i : Nat) (x : ByteArray × T2), l[i]? = some x → xs[i * 3]? = some (.string x.1) ∧ xs[i * 3 + 1]? = some (.int .i8 x.2.1) ∧ ∃ G m k, xs[i * 3 + 2]? = some (.slice G m k) ∧ Ly Q w x.2 G m k
  | [], [], _, i, x, h => by simp at h
  | y :: _, _ :: _ :: _ :: _, ⟨⟨h1, h2, G, m, k, h3, h4⟩, h5⟩, i, x, h => by
    cases i with
    | zero =>
      rw [List.getElem?_cons_zero] at h
      injection h with h; subst h
      exact ⟨by simp [h1], by simp [h2], G, m, k, by simp [h3], h4⟩
    | succ i =>
      rw [List.getElem?_cons_succ] at h
      have q := EFlat.at h5 i x h
      rw [show (i + 1) * 3 = i * 3 + 3 by omega, show i * 3 + 3 + 1 = i * 3 + 1 + 3 by omega, show i * 3 + 3 + 2 = i * 3 + 2 + 3 by omega]
      simpa using q
  | [], _ :: _, h, _, _, _ => h.elim
  | _ :: _, [], h, _, _, _ => h.elim
  | _ :: _, [_], h, _, _, _ => h.elim
  | _ :: _, [_, _], h, _, _, _ => h.elim
theorem EFlat.one {Q : Nat → Prop} {w : World} : ∀ {l : Env} {xs : List Value}, EFlat Q w l xs → ∀ u ∈ xs, u.oneCell' = true
  | [], [], _, u, hu => by cases hu
  | _ :: _, _ :: _ :: _ :: _, ⟨⟨h1, h2, G, m, k, h3, _⟩, h5⟩, u, hu => by
    simp only [List.mem_cons] at hu
    rcases hu with rfl | rfl | rfl | hu
    · rw [h1]; rfl
    · rw [h2]; rfl
    · rw [h3]; rfl
    · exact EFlat.one h5 u hu
  | [], _ :: _, h, _, _ => h.elim
  | _ :: _, [], h, _, _ => h.elim
  | _ :: _, [_], h, _, _ => h.elim
  | _ :: _, [_, _], h, _, _ => h.elim
structure EAt (Q : Nat → Prop) (w : World) (l : Env) (A : Option Addr) (n c : Nat) : Prop where
  n_eq : n = l.length
  n_le : n ≤ c
  c_le : c ≤ maxLen
  nil : A = none → n = 0 ∧ c = 0
  row : ∃ xs, EFlat Q w l xs ∧ ∀ a, A = some a → ∃ b o, a = ⟨b, o, none⟩ ∧ b < w.heap.size ∧ ∀ j u, xs[j]? = some u → w.cell? ⟨b, o + j, none⟩ = some u
theorem EAt.empty (Q : Nat → Prop) (w : World) : EAt Q w [] none 0 0 := ⟨rfl, Nat.le_refl _, Nat.zero_le _, fun _ => ⟨rfl, rfl⟩, [], trivial, fun _ h => by cases h⟩
theorem EAt.weak {Q Q' : Nat → Prop} {w : World} {l : Env} {A : Option Addr} {n c : Nat} (h : EAt Q w l A n c) (hq : ∀ b, b < w.heap.size → Q b → Q' b) : EAt Q' w l A n c := by
  obtain ⟨h1, h2, h3, h4, xs, h5, h6⟩ := h
  exact ⟨h1, h2, h3, h4, xs, h5.weak hq, h6⟩
theorem EAt.below {Q : Nat → Prop} {w w' : World} {l : Env} {A : Option Addr} {n c : Nat} (h : EAt Q w l A n c) (hb : Below w.heap.size w w') : EAt Q w' l A n c := by
  obtain ⟨h1, h2, h3, h4, xs, h5, h6⟩ := h
  refine ⟨h1, h2, h3, h4, xs, h5.below hb, fun a ha => ?_⟩
  obtain ⟨b, o, e, hl, hc⟩ := h6 a ha
  exact ⟨b, o, e, Nat.lt_of_lt_of_le hl hb.size, fun j u hu => by rw [hb.cell (p := ⟨b, o + j, none⟩) hl]; exact hc j u hu⟩
theorem EAt.at {Q : Nat → Prop} {w : World} {l : Env} {A : Option Addr} {n c : Nat} (h : EAt Q w l A n c) {i : Nat} {x : ByteArray × T2} (hx : l[i]? = some x) : ∃ b o G m k, A = some ⟨b, o, none⟩ ∧ w.cell? ⟨b, o + i * 3, none⟩ = some (.string x.1) ∧ w.cell? ⟨b, o + i * 3 + 1, none⟩ = some (.int .i8 x.2.1) ∧ w.cell? ⟨b, o + i * 3 + 2, none⟩ = some (.slice G m k) ∧ Ly Q w x.2 G m k := by
  obtain ⟨h1, h2, h3, h4, xs, h5, h6⟩ := h
  cases A with
  | none =>
    have := (h4 rfl).1
    have hl : i < l.length := by
      rcases Nat.lt_or_ge i l.length with q | q
      · exact q
      · rw [List.getElem?_eq_none q] at hx; cases hx
    omega
  | some a =>
    obtain ⟨b, o, rfl, hl, hc⟩ := h6 a rfl
    obtain ⟨q1, q2, G, m, k, q3, q4⟩ := h5.at i x hx
    exact ⟨b, o, G, m, k, rfl, hc _ _ q1, by have := hc _ _ q2; rwa [show o + (i * 3 + 1) = o + i * 3 + 1 by omega] at this, by have := hc _ _ q3; rwa [show o + (i * 3 + 2) = o + i * 3 + 2 by omega] at this, q4⟩
end Ck

set_option maxHeartbeats 1000000 in
set_option maxRecDepth 100000 in
theorem jr (h : Hd) (p : Pl) (E : Int) (w : World) : Calls Tryz.prog 83 #[.agg #[.int .i8 h.kind, .string h.name, .string h.arg, .int .i64 h.num, .int .i8 h.tk, .slice p.TA p.tn p.tc, .int .i8 h.uk, .slice p.UA p.un p.uc, .int .i64 h.label, .int .i64 h.pos, .slice p.A p.n p.c], .int .i64 E] w (Ck.Gave w E h.pos Ck.e0) := by
  have hb1 : Below w.heap.size w (w.alloc (.cells #[.int .i8 h.kind, .string h.name, .string h.arg, .int .i64 h.num, .int .i8 h.tk, .slice p.TA p.tn p.tc, .int .i8 h.uk, .slice p.UA p.un p.uc, .int .i64 h.label, .int .i64 h.pos, .slice p.A p.n p.c] 28)) := (Below.refl _ _).alloc (Nat.le_refl _) _
  have hb2 := hb1.alloc hb1.size (.cells #[.int .i64 E, .int .i64 h.pos, .string Ck.e0] 69)
  obtain ⟨q0, q1, q2, q3, q4, q5, q6, q7, q8, q9, q10, ql⟩ := zI (zG w (.cells #[.int .i8 h.kind, .string h.name, .string h.arg, .int .i64 h.num, .int .i8 h.tk, .slice p.TA p.tn p.tc, .int .i8 h.uk, .slice p.UA p.un p.uc, .int .i64 h.label, .int .i64 h.pos, .slice p.A p.n p.c] 28))
  have HP := Lib.hid (show Ck.Gave w E h.pos Ck.e0 (.panicked [{ v := .iface 65 (.pointer (some ⟨w.heap.size + 1, 0, none⟩)), recovered := false }]) _ from ⟨w.heap.size + 1, rfl, jc w _ _, by omega, hb2⟩)
  clear hb1 hb2
  go_enter Tryz.func83, Tryz.ntmps83
  go_wp2_with fail
  exact ⟨rfl, HP.out⟩

set_option maxHeartbeats 1000000 in
set_option maxRecDepth 100000 in
theorem qI (k : Int) (A : Option Addr) (n c : Nat) (w : World) : Calls Tryz.prog 81 #[.int .i8 k, .slice A n c] w fun e w' => e = .returned (.agg #[.int .i8 k, .slice A n c]) ∧ Below w.heap.size w w' := by
  have HB := Lib.hid ((Below.refl w.heap.size w).alloc (Nat.le_refl _) (.cells #[.int .i8 k, .slice A n c] 25))
  go_enter Tryz.func81, Tryz.ntmps81
  go_wp2_with fail
  refine bodyPost_ret (v := .agg #[.int .i8 k, .slice A n c]) (by simp [results, Tryz.results81, go_sem, *]) rfl ⟨rfl, HB.out⟩

theorem wP : (Tryz.prog.info? 165).map (fun i => (i.zero, i.size, i.bytes)) = some (some (.agg #[.string ⟨#[]⟩, .int .i8 0, .slice none 0 0]), 3, 48) := by kernel_rfl

theorem Ck.EAt.end {Q : Nat → Prop} {w w1 : World} {l : Ck.Env} {xs : List Value} {base : Nat} {v : Value} {n : Nat} (hn : n = l.length) (hn0 : 0 < n) (hE : Ck.EFlat Q w l xs) (hw : Below w.heap.size w w1) (hown : w1.ownsRow base 165 3 v n xs) :
    ∃ G k, v = .slice G n k ∧ Ck.EAt Q w1 l G n k := by
  rcases hown.2 with ⟨-, h0⟩ | ⟨g, cap, cur, hv, -, hg, h1, h2, -, -⟩
  · omega
  · refine ⟨some ⟨g, 0, none⟩, cap, hv, hn, h1, h2, (fun h => by cases h), xs, hE.below hw, fun a ha => ?_⟩
    injection ha with ha
    subst ha
    refine ⟨g, 0, rfl, zC hg, fun j u hu => ?_⟩
    have := hown.cells (g := g) (by rw [hv]; rfl) j u hu
    rw [show (⟨g, 0, none⟩ : Addr).add j = ⟨g, j, none⟩ by unfold Addr.add; by_cases h : j = 0 <;> simp [h]] at this
    rw [Nat.zero_add]; exact this

set_option maxHeartbeats 2000000 in
set_option maxRecDepth 100000 in
theorem qp (Q : Nat → Prop) (l l' : Ck.Env) (A : Option Addr) (n c : Nat) (Y m c' : Nat) (w : World) (hE : Ck.EAt Q w l A n c) (hE' : Ck.EAt Q w l' (some ⟨Y, 0, none⟩) m c') (hm : 0 < m) (hb : n + m ≤ 20000) :
    Calls Tryz.prog 120 #[.slice A n c, .slice (some ⟨Y, 0, none⟩) m c'] w fun e w' => ∃ G k, e = .returned (.slice G (n + m) k) ∧ Ck.EAt Q w' (l ++ l') G (n + m) k ∧ Below w.heap.size w w' := by
  obtain ⟨e1, e2, e3, e4, xs, e5, e6⟩ := hE
  obtain ⟨d1, d2, d3, -, ys, d5, d6⟩ := hE'
  obtain ⟨b', o', he, hlt', hc'⟩ := d6 _ rfl
  injection he with he1 he2 he3
  subst he1 he2
  obtain ⟨i0, hi, hz1, hz2, hz3⟩ := info_parts wP
  have hlx := e5.len
  have hly := d5.len
  rw [← e1] at hlx
  rw [← d1] at hly
  have hcy : ∀ j u, ys[j]? = some u → w.cell? ((⟨Y, 0, none⟩ : Addr).add j) = some u := fun j u hu => by
    have : (⟨Y, 0, none⟩ : Addr).add j = ⟨Y, 0 + j, none⟩ := by unfold Addr.add; by_cases h : j = 0 <;> simp [h]
    rw [this]; exact hc' j u hu
  have h1c := d5.one
  have HFIN := Lib.hid (fun (v : Value) (w1 : World) (hown : w1.ownsRow w.heap.size 165 3 v (n + m) (xs ++ ys)) (hg : w.grownBy w1 none) => (show ∃ G k, v = .slice G (n + m) k ∧ Ck.EAt Q w1 (l ++ l') G (n + m) k ∧ Below w.heap.size w w1 by
    have hbw : Below w.heap.size w w1 := (Below.refl _ _).grown hg (Nat.le_refl _) fun k hk => by cases hk
    obtain ⟨G, k, h1, h2⟩ := Ck.EAt.end (by rw [List.length_append, ← e1, ← d1]) (by omega) (e5.app d5) hbw hown
    exact ⟨G, k, h1, h2, hbw⟩))
  cases A with
  | none =>
    obtain ⟨h0, h00⟩ := e4 rfl
    clear e1 d1 e5 d5 e6 hc' e4 d6
    subst h0 h00
    go_enter Tryz.func120, Tryz.ntmps120
    go_wp2_with (first | (at_builtin; refine wpList_append_grows _ rfl (.tmp 10) (.tmp 11) 113 rfl 165 i0 (.agg #[.string ⟨#[]⟩, .int .i8 0, .slice none 0 0]) 3 48 Tryz.underlying113 hi hz1 hz2 hz3 rfl (by decide) none 0 0 xs rfl (fun _ => ⟨rfl, rfl⟩) hlx (fun _ h => by cases h) ⟨Y, 0, none⟩ m c' ys rfl hly hcy h1c ?_ ?_ ?_ ?_))
    · unfold maxLen; omega
    · omega
    · intro v' w' hown hg
      have hfin := HFIN.out v' w' (by simpa using hown) hg
      obtain ⟨G, k, rfl, h1, h2⟩ := hfin
      have HF := Lib.hid (And.intro h1 h2)
      clear h1 h2 hown hg
      go_wp2_with fail
      go_ret
      exact ⟨G, k, rfl, HF.out.1, HF.out.2⟩
  | some a =>
    obtain ⟨b, o, rfl, hbl, hcx0⟩ := e6 a rfl
    have hcx : ∀ b', some (⟨b, o, none⟩ : Addr) = some b' → ∀ j u, xs[j]? = some u → w.cell? (b'.add j) = some u := fun b' hb' j u hu => by
      injection hb' with hb'
      subst hb'
      have : (⟨b, o, none⟩ : Addr).add j = ⟨b, o + j, none⟩ := by unfold Addr.add; by_cases h : j = 0 <;> simp [h]
      rw [this]; exact hcx0 j u hu
    have hnc : (n : Int) ≤ c := by omega
    have hnn : (0 : Int) ≤ n := by omega
    clear e1 d1 e5 d5 e6 hc' e4 d6 hcx0
    go_enter Tryz.func120, Tryz.ntmps120
    go_wp2_with (first | (at_builtin; refine wpList_append_grows _ rfl (.tmp 10) (.tmp 11) 113 rfl 165 i0 (.agg #[.string ⟨#[]⟩, .int .i8 0, .slice none 0 0]) 3 48 Tryz.underlying113 hi hz1 hz2 hz3 rfl (by decide) (some ⟨b, o, none⟩) n n xs rfl (fun h => by cases h) hlx hcx ⟨Y, 0, none⟩ m c' ys rfl hly hcy h1c ?_ ?_ ?_ ?_))
    · unfold maxLen; omega
    · omega
    · intro v' w' hown hg
      have hfin := HFIN.out v' w' (by simpa using hown) hg
      obtain ⟨G, k, rfl, h1, h2⟩ := hfin
      have HF := Lib.hid (And.intro h1 h2)
      clear h1 h2 hown hg
      go_wp2_with fail
      go_ret
      exact ⟨G, k, rfl, HF.out.1, HF.out.2⟩
end Go.Proofs.YtjpohjcnjanoaaaGreatDoor
namespace Go.Proofs.YtjpohjcnjanoaaaGreatDoor
namespace Cg
open Ck
structure Ops where
  ag : T2 → T2 → Bool
  asO : Int → T2 → Bool
  asl : Int → T2 → T2
  asr : Int → T2 → T2
  mt : T2 → T2 → T2
def meet (D : Ops) (h : Hd) (a b : T2) : R := if D.ag a b = true then .ok (D.mt a b) else fault h 91
def over (D : Ops) (h : Hd) (a b c : T2) : R :=
  if h.kind = 6 then (if D.asO 3 a = true then (if D.ag b (D.asl 3 a) = true then .ok (D.asr 3 a) else fault h 91) else fault h 90)
  else if h.kind = 8 then (if D.ag a (2, .nil) = true then meet D h b c else fault h 91)
  else if h.kind = 9 then .ok (mk2 4 a b)
  else if h.kind = 10 then (if D.asO 4 a = true then .ok (D.asl 4 a) else fault h 90)
  else if h.kind = 11 then (if D.asO 4 a = true then .ok (D.asr 4 a) else fault h 90)
  else if h.kind = 12 then (if D.asO 5 (TT h) = true then (if D.ag a (D.asl 5 (TT h)) = true then .ok (mk2 5 (D.asl 5 (TT h)) (D.asr 5 (TT h))) else fault h 91) else fault h 90)
  else if h.kind = 13 then (if D.asO 5 (TT h) = true then (if D.ag a (D.asr 5 (TT h)) = true then .ok (mk2 5 (D.asl 5 (TT h)) (D.asr 5 (TT h))) else fault h 91) else fault h 90)
  else if h.kind = 15 then (if D.ag a (1, .nil) = true then (if D.ag b (1, .nil) = true then .ok (opAns h.name) else fault h 91) else fault h 91)
  else (if D.ag a (TT h) = true then .ok (TT h) else fault h 91)
def raw (D : Ops) (F : Hd → Tm → Env → R) (h : Hd) (kids : Tm) (l : Env) : R :=
  if h.kind = 0 then (match fnd l h.name with
    | some a => .ok a
    | none => .bad 41 h.pos h.name)
  else if h.kind = 1 then .ok (1, .nil)
  else if h.kind = 2 ∨ h.kind = 3 then .ok (2, .nil)
  else if h.kind = 4 then bnd (F (k1 kids).1 (k1 kids).2 (l ++ [(h.name, TT h)])) fun b => .ok (mk2 3 (TT h) b)
  else if h.kind = 5 then bnd (F (k1 kids).1 (k1 kids).2 (l ++ [(h.name, mk2 3 (TT h) (UU h)), (h.arg, TT h)])) fun b => if D.ag b (UU h) = true then .ok (mk2 3 (TT h) (UU h)) else fault h 91
  else if h.kind = 7 then bnd (F (k1 kids).1 (k1 kids).2 l) fun a => if D.ag a (TT h) = true then F (k2 kids).1 (k2 kids).2 (l ++ [(h.name, TT h)]) else fault h 91
  else if h.kind = 14 then bnd (F (k1 kids).1 (k1 kids).2 l) fun a => if D.asO 5 a = true then bnd (F (k2 kids).1 (k2 kids).2 (l ++ [(h.name, D.asl 5 a)])) fun b => bnd (F (k3 kids).1 (k3 kids).2 (l ++ [(h.arg, D.asr 5 a)])) fun c => meet D h b c else fault h 90
  else if h.kind = 6 ∨ h.kind = 9 ∨ h.kind = 15 then bnd (F (k1 kids).1 (k1 kids).2 l) fun a => bnd (F (k2 kids).1 (k2 kids).2 l) fun b => over D h a b (0, .nil)
  else if h.kind = 8 then bnd (F (k1 kids).1 (k1 kids).2 l) fun a => bnd (F (k2 kids).1 (k2 kids).2 l) fun b => bnd (F (k3 kids).1 (k3 kids).2 l) fun c => over D h a b c
  else bnd (F (k1 kids).1 (k1 kids).2 l) fun a => over D h a (0, .nil) (0, .nil)
def ty (D : Ops) : Nat → Hd → Tm → Env → R
  | 0, h, _, _ => fault h 0
  | K + 1, h, kids, l => lift h (raw D (ty D K) h kids l)
theorem vC (D : Ops) (K : Nat) (h : Hd) (kids : Tm) (l : Env) : ty D (K + 1) h kids l = lift h (raw D (ty D K) h kids l) := rfl
theorem uB {D : Ops} : ∀ {K : Nat} {h : Hd} {kids : Tm} {l : Env} {a : T2}, ty D K h kids l = .ok a → chk a = 0
  | 0, _, _, _, _, e => by cases e
  | _ + 1, _, _, _, _, e => (wI e).2
def grad : Ops := ⟨ag, asO, asl, asr, mt⟩
theorem zAt : ∀ K : Nat, ty grad K = Ck.ty K
  | 0 => rfl
  | K + 1 => by
    funext h kids l
    show lift h (raw grad (ty grad K) h kids l) = lift h (Ck.raw (Ck.ty K) h kids l)
    rw [zAt K]; rfl
end Cg
end Go.Proofs.YtjpohjcnjanoaaaGreatDoor
namespace Go.Proofs.YtjpohjcnjanoaaaGreatDoor
open Go.RowKit
namespace Cg
open Ck
def AsPost (Q : Nat → Prop) (w : World) (ok : Bool) (l r : T2) (e : Ending) (w' : World) : Prop :=
  ∃ G1 m1 c1 G2 m2 c2, e = .returned (.tuple #[.agg #[.int .i8 l.1, .slice G1 m1 c1], .agg #[.int .i8 r.1, .slice G2 m2 c2], .bool ok]) ∧ Ly (Cut Q w.heap.size w.heap.size) w' l G1 m1 c1 ∧ Ly (Cut Q w.heap.size w.heap.size) w' r G2 m2 c2 ∧ Below w.heap.size w w'
def RefPost (w : World) (r : Option (Int × Int)) (e : Ending) (w' : World) : Prop := match r with
  | none => e = .returned (.pointer none) ∧ Below w.heap.size w w'
  | some x => ∃ g, e = .returned (.pointer (some ⟨g, 0, none⟩)) ∧ FltAt w' g x.1 x.2 e0 ∧ w.heap.size ≤ g ∧ Below w.heap.size w w'
structure Rv where
  fr : FuncId
  fa : FuncId
  fm : FuncId
  ft : FuncId
  D : Ops
  ref : Hd → Tm → Option (Int × Int)
  cfr : ∀ (args : Array Value) (W : World), (callFunc fr args).run Tryz.prog W = .ok (.enter fr args) W
  cfa : ∀ (args : Array Value) (W : World), (callFunc fa args).run Tryz.prog W = .ok (.enter fa args) W
  cfm : ∀ (args : Array Value) (W : World), (callFunc fm args).run Tryz.prog W = .ok (.enter fm args) W
  cft : ∀ (args : Array Value) (W : World), (callFunc ft args).run Tryz.prog W = .ok (.enter ft args) W
  agC : ∀ (k : Int) (kids : Fo) (A : Option Addr) (n c : Nat) (k' : Int) (kids' : Fo) (A' : Option Addr) (n' c' : Nat) (w : World), Ty.Is w k kids A n c → Ty.Is w k' kids' A' n' c' → Shapes w →
    Calls Tryz.prog fa #[.agg #[.int .i8 k, .slice A n c], .agg #[.int .i8 k', .slice A' n' c']] w fun e w' => e = .returned (.bool (D.ag (k, kids) (k', kids'))) ∧ Below w.heap.size w w'
  asC : ∀ (Q : Nat → Prop) (kd : Int) (a : T2) (A : Option Addr) (n c : Nat) (w : World), 3 ≤ kd ∧ kd ≤ 5 → Ly Q w a A n c → Ty.okT a.1 a.2 = true → Shapes w →
    Calls Tryz.prog fm #[.int .i8 kd, .agg #[.int .i8 a.1, .slice A n c]] w (AsPost Q w (D.asO kd a) (D.asl kd a) (D.asr kd a))
  mtC : ∀ (Q : Nat → Prop) (a : T2) (A : Option Addr) (n c : Nat) (b : T2) (A' : Option Addr) (n' c' : Nat) (w : World), Ly Q w a A n c → Ly Q w b A' n' c' → D.ag a b = true → Shapes w →
    Calls Tryz.prog ft #[.agg #[.int .i8 a.1, .slice A n c], .agg #[.int .i8 b.1, .slice A' n' c']] w (Gives Q w (D.mt a b))
  refC : ∀ (h : Hd) (kids : Tm) (p : Pl) (w : World), Tm.Is w h kids p → TGlob w →
    Calls Tryz.prog fr #[.agg #[.int .i8 h.kind, .string h.name, .string h.arg, .int .i64 h.num, .int .i8 h.tk, .slice p.TA p.tn p.tc, .int .i8 h.uk, .slice p.UA p.un p.uc, .int .i64 h.label, .int .i64 h.pos, .slice p.A p.n p.c]] w (RefPost w (ref h kids))
end Cg
end Go.Proofs.YtjpohjcnjanoaaaGreatDoor
namespace Go.Proofs.YtjpohjcnjanoaaaGreatDoor
namespace Cg
open Ck
theorem xJ (D : Ops) (F : Hd → Tm → Env → R) (h : Hd) (kids : Tm) (l : Env) (hk : h.kind = 0) : raw D F h kids l = (match fnd l h.name with | some a => .ok a | none => .bad 41 h.pos h.name) := by
  unfold raw
  rw [if_pos hk]
  all_goals (cases fnd l h.name <;> rfl)
theorem xI (D : Ops) (F : Hd → Tm → Env → R) (h : Hd) (kids : Tm) (l : Env) (hk : h.kind = 1) : raw D F h kids l = .ok (1, .nil) := by
  unfold raw
  simp [hk]
theorem xH (D : Ops) (F : Hd → Tm → Env → R) (h : Hd) (kids : Tm) (l : Env) (hk : h.kind = 2) : raw D F h kids l = .ok (2, .nil) := by
  unfold raw
  simp [hk]
theorem xG (D : Ops) (F : Hd → Tm → Env → R) (h : Hd) (kids : Tm) (l : Env) (hk : h.kind = 3) : raw D F h kids l = .ok (2, .nil) := by
  unfold raw
  simp [hk]
theorem xE (D : Ops) (F : Hd → Tm → Env → R) (h : Hd) (kids : Tm) (l : Env) (hk : h.kind = 4) : raw D F h kids l = bnd (F (k1 kids).1 (k1 kids).2 (l ++ [(h.name, TT h)])) fun b => .ok (mk2 3 (TT h) b) := by
  unfold raw
  simp [hk]
theorem xD (D : Ops) (F : Hd → Tm → Env → R) (h : Hd) (kids : Tm) (l : Env) (hk : h.kind = 5) : raw D F h kids l = bnd (F (k1 kids).1 (k1 kids).2 (l ++ [(h.name, mk2 3 (TT h) (UU h)), (h.arg, TT h)])) fun b => if D.ag b (UU h) = true then .ok (mk2 3 (TT h) (UU h)) else fault h 91 := by
  unfold raw
  simp [hk]
theorem xC (D : Ops) (F : Hd → Tm → Env → R) (h : Hd) (kids : Tm) (l : Env) (hk : h.kind = 6) : raw D F h kids l = bnd (F (k1 kids).1 (k1 kids).2 l) fun a => bnd (F (k2 kids).1 (k2 kids).2 l) fun b => over D h a b (0, .nil) := by
  unfold raw
  simp [hk]
theorem xB (D : Ops) (F : Hd → Tm → Env → R) (h : Hd) (kids : Tm) (l : Env) (hk : h.kind = 7) : raw D F h kids l = bnd (F (k1 kids).1 (k1 kids).2 l) fun a => if D.ag a (TT h) = true then F (k2 kids).1 (k2 kids).2 (l ++ [(h.name, TT h)]) else fault h 91 := by
  unfold raw
  simp [hk]
theorem xA (D : Ops) (F : Hd → Tm → Env → R) (h : Hd) (kids : Tm) (l : Env) (hk : h.kind = 8) : raw D F h kids l = bnd (F (k1 kids).1 (k1 kids).2 l) fun a => bnd (F (k2 kids).1 (k2 kids).2 l) fun b => bnd (F (k3 kids).1 (k3 kids).2 l) fun c => over D h a b c := by
  unfold raw
  simp [hk]
theorem yz (D : Ops) (F : Hd → Tm → Env → R) (h : Hd) (kids : Tm) (l : Env) (hk : h.kind = 9) : raw D F h kids l = bnd (F (k1 kids).1 (k1 kids).2 l) fun a => bnd (F (k2 kids).1 (k2 kids).2 l) fun b => over D h a b (0, .nil) := by
  unfold raw
  simp [hk]
theorem vk (D : Ops) (F : Hd → Tm → Env → R) (h : Hd) (kids : Tm) (l : Env) (hk : h.kind = 10) : raw D F h kids l = bnd (F (k1 kids).1 (k1 kids).2 l) fun a => over D h a (0, .nil) (0, .nil) := by
  unfold raw
  simp [hk]
theorem vg (D : Ops) (F : Hd → Tm → Env → R) (h : Hd) (kids : Tm) (l : Env) (hk : h.kind = 11) : raw D F h kids l = bnd (F (k1 kids).1 (k1 kids).2 l) fun a => over D h a (0, .nil) (0, .nil) := by
  unfold raw
  simp [hk]
theorem ve (D : Ops) (F : Hd → Tm → Env → R) (h : Hd) (kids : Tm) (l : Env) (hk : h.kind = 12) : raw D F h kids l = bnd (F (k1 kids).1 (k1 kids).2 l) fun a => over D h a (0, .nil) (0, .nil) := by
  unfold raw
  simp [hk]
theorem vZ (D : Ops) (F : Hd → Tm → Env → R) (h : Hd) (kids : Tm) (l : Env) (hk : h.kind = 13) : raw D F h kids l = bnd (F (k1 kids).1 (k1 kids).2 l) fun a => over D h a (0, .nil) (0, .nil) := by
  unfold raw
  simp [hk]
theorem vY (D : Ops) (F : Hd → Tm → Env → R) (h : Hd) (kids : Tm) (l : Env) (hk : h.kind = 14) : raw D F h kids l = bnd (F (k1 kids).1 (k1 kids).2 l) fun a => if D.asO 5 a = true then bnd (F (k2 kids).1 (k2 kids).2 (l ++ [(h.name, D.asl 5 a)])) fun b => bnd (F (k3 kids).1 (k3 kids).2 (l ++ [(h.arg, D.asr 5 a)])) fun c => meet D h b c else fault h 90 := by
  unfold raw
  simp [hk]
theorem vX (D : Ops) (F : Hd → Tm → Env → R) (h : Hd) (kids : Tm) (l : Env) (hk : h.kind = 15) : raw D F h kids l = bnd (F (k1 kids).1 (k1 kids).2 l) fun a => bnd (F (k2 kids).1 (k2 kids).2 l) fun b => over D h a b (0, .nil) := by
  unfold raw
  simp [hk]
theorem vW (D : Ops) (F : Hd → Tm → Env → R) (h : Hd) (kids : Tm) (l : Env) (hk : h.kind = 16) : raw D F h kids l = bnd (F (k1 kids).1 (k1 kids).2 l) fun a => over D h a (0, .nil) (0, .nil) := by
  unfold raw
  simp [hk]
theorem xy (D : Ops) (h : Hd) (a b c : T2) (hk : h.kind = 6) : over D h a b c = if D.asO 3 a = true then (if D.ag b (D.asl 3 a) = true then .ok (D.asr 3 a) else fault h 91) else fault h 90 := by
  unfold over
  simp [hk]
theorem xx (D : Ops) (h : Hd) (a b c : T2) (hk : h.kind = 8) : over D h a b c = if D.ag a (2, .nil) = true then meet D h b c else fault h 91 := by
  unfold over
  simp [hk]
theorem xw (D : Ops) (h : Hd) (a b c : T2) (hk : h.kind = 9) : over D h a b c = .ok (mk2 4 a b) := by
  unfold over
  simp [hk]
theorem kY (D : Ops) (h : Hd) (a b c : T2) (hk : h.kind = 10) : over D h a b c = if D.asO 4 a = true then .ok (D.asl 4 a) else fault h 90 := by
  unfold over
  simp [hk]
theorem kX (D : Ops) (h : Hd) (a b c : T2) (hk : h.kind = 11) : over D h a b c = if D.asO 4 a = true then .ok (D.asr 4 a) else fault h 90 := by
  unfold over
  simp [hk]
theorem kW (D : Ops) (h : Hd) (a b c : T2) (hk : h.kind = 12) : over D h a b c = if D.asO 5 (TT h) = true then (if D.ag a (D.asl 5 (TT h)) = true then .ok (mk2 5 (D.asl 5 (TT h)) (D.asr 5 (TT h))) else fault h 91) else fault h 90 := by
  unfold over
  simp [hk]
theorem kV (D : Ops) (h : Hd) (a b c : T2) (hk : h.kind = 13) : over D h a b c = if D.asO 5 (TT h) = true then (if D.ag a (D.asr 5 (TT h)) = true then .ok (mk2 5 (D.asl 5 (TT h)) (D.asr 5 (TT h))) else fault h 91) else fault h 90 := by
  unfold over
  simp [hk]
theorem kS (D : Ops) (h : Hd) (a b c : T2) (hk : h.kind = 15) : over D h a b c = if D.ag a (1, .nil) = true then (if D.ag b (1, .nil) = true then .ok (opAns h.name) else fault h 91) else fault h 91 := by
  unfold over
  simp [hk]
theorem kR (D : Ops) (h : Hd) (a b c : T2) (hk : h.kind = 16) : over D h a b c = if D.ag a (TT h) = true then .ok (TT h) else fault h 91 := by
  unfold over
  simp [hk]
end Cg
end Go.Proofs.YtjpohjcnjanoaaaGreatDoor
namespace Go.Proofs.YtjpohjcnjanoaaaGreatDoor
open Go.RowKit
namespace Ck
theorem xU : ∀ t : Tm, castF t = Tm.anyF castT t
  | .nil => rfl
  | .node h kids r => by
    simp only [castF, Tm.anyF, castT]
    rw [xU r]
end Ck
theorem zD6 (args : Array Value) (W : World) : (callFunc 77 args).run Tryz.prog W = .ok (.enter 77 args) W := by simp [go_sem]

set_option maxHeartbeats 4000000 in
set_option maxRecDepth 100000 in
theorem zAj (K : Nat) : ∀ (h : Hd) (kids : Tm) (p : Pl) (w : World), Tm.nodes kids < K → Tm.Is w h kids p →
    Calls Tryz.prog 77 #[.agg #[.int .i8 h.kind, .string h.name, .string h.arg, .int .i64 h.num, .int .i8 h.tk, .slice p.TA p.tn p.tc, .int .i8 h.uk, .slice p.UA p.un p.uc, .int .i64 h.label, .int .i64 h.pos, .slice p.A p.n p.c]] w fun e w' => e = .returned (.bool (Ck.castT h kids)) ∧ Below w.heap.size w w' := by
  induction K with
  | zero => intro _ _ _ _ hK; omega
  | succ K ih =>
    intro h kids p w hK hIs
    have hB0 : Below w.heap.size w (w.alloc (.cells #[.int .i8 h.kind, .string h.name, .string h.arg, .int .i64 h.num, .int .i8 h.tk, .slice p.TA p.tn p.tc, .int .i8 h.uk, .slice p.UA p.un p.uc, .int .i64 h.label, .int .i64 h.pos, .slice p.A p.n p.c] 28)) := (Below.refl _ _).alloc (Nat.le_refl _) _
    have hI := hIs.below hB0
    have CC := Lib.hid (jI 77 Ck.castT kids p.A p.n p.c _ hI.lies hI.fit.n_eq hI.fit.n_le hI.fit.c_le zD6 (fun h1 k1 q W h2 h3 _ => ih h1 k1 q W (by omega) h3))
    rw [← Ck.xU] at CC
    obtain ⟨b0, hb0⟩ : ∃ b, (h.kind == 17) = b := ⟨_, rfl⟩
    obtain ⟨R, hR⟩ : ∃ b, Ck.castF kids = b := ⟨_, rfl⟩
    have hres : Ck.castT h kids = (b0 || R) := by unfold Ck.castT; rw [hb0, hR]
    rw [hres]
    rw [hR] at CC
    clear ih hIs hI hres hR
    cases b0
    all_goals
      go_enter Tryz.func77, Tryz.ntmps77
      go_wp2_with fail
      first
        | (go_ret
           exact ⟨rfl, hB0⟩)
        | (refine CC.out.mono ?_
           rintro e w2 ⟨rfl, hb⟩
           go_wp2_with fail
           go_ret
           exact ⟨rfl, hB0.trans (hb.mono hB0.size)⟩)

namespace Ck
def refu (h : Hd) (kids : Tm) : Int := if Tm.chk h kids ≠ 0 then Tm.chk h kids else if castT h kids = true then 30 else 0
end Ck
namespace Ck
def refO (h : Hd) (kids : Tm) : Option (Int × Int) := if refu h kids = 0 then none else some (refu h kids, 0)
end Ck
set_option maxHeartbeats 1000000 in
set_option maxRecDepth 100000 in
theorem wY (h : Hd) (kids : Tm) (p : Pl) (w : World) (hIs : Tm.Is w h kids p) (hG : TGlob w) :
    Calls Tryz.prog 38 #[.agg #[.int .i8 h.kind, .string h.name, .string h.arg, .int .i64 h.num, .int .i8 h.tk, .slice p.TA p.tn p.tc, .int .i8 h.uk, .slice p.UA p.un p.uc, .int .i64 h.label, .int .i64 h.pos, .slice p.A p.n p.c]] w (Cg.RefPost w (Ck.refO h kids)) := by
  have hB0 : Below w.heap.size w (w.alloc (.cells #[.int .i8 h.kind, .string h.name, .string h.arg, .int .i64 h.num, .int .i8 h.tk, .slice p.TA p.tn p.tc, .int .i8 h.uk, .slice p.UA p.un p.uc, .int .i64 h.label, .int .i64 h.pos, .slice p.A p.n p.c] 28)) := (Below.refl _ _).alloc (Nat.le_refl _) _
  have HC := Lib.hid (fun (W : World) (hb : Below w.heap.size w W) => jB h kids p W (hIs.below hb) (hG.below hb))
  have HH := Lib.hid (fun (W : World) (hb : Below w.heap.size w W) => zAj (Tm.nodes kids + 1) h kids p W (Nat.lt_succ_self _) (hIs.below hb))
  have HB0 := Lib.hid hB0
  have HX := Lib.hid (zG w (.cells #[.int .i8 h.kind, .string h.name, .string h.arg, .int .i64 h.num, .int .i8 h.tk, .slice p.TA p.tn p.tc, .int .i8 h.uk, .slice p.UA p.un p.uc, .int .i64 h.label, .int .i64 h.pos, .slice p.A p.n p.c] 28))
  clear hIs hG hB0
  by_cases h0 : Tm.chk h kids = 0
  · rw [h0] at HC
    cases hc : Ck.castT h kids
    · have hr : Ck.refO h kids = none := by
        have hu : Ck.refu h kids = 0 := by unfold Ck.refu; rw [if_neg (by simpa using h0), if_neg (by rw [hc]; decide)]
        unfold Ck.refO; rw [if_pos hu]
      rw [hr]
      rw [hc] at HH
      clear hc hr h0
      go_enter Tryz.func38, Tryz.ntmps38
      go_wp2_with fail
      refine (HC.out _ HB0.out).mono ?_
      rintro e w2 ⟨rfl, hb2⟩
      have HB2 := Lib.hid (HB0.out.trans (hb2.mono HB0.out.size))
      obtain ⟨q0, q1, q2, q3, q4, q5, q6, q7, q8, q9, q10, ql⟩ := zI (zA hb2 (zC HX.out) HX.out)
      clear hb2
      go_wp2_with fail
      refine (HH.out _ HB2.out).mono ?_
      rintro e w3 ⟨rfl, hb3⟩
      have HB3 := Lib.hid (HB2.out.trans (hb3.mono HB2.out.size))
      clear hb3 q0 q1 q2 q3 q4 q5 q6 q7 q8 q9 q10 ql
      go_wp2_with fail
      go_ret
      exact ⟨rfl, HB3.out⟩
    · have hr : Ck.refO h kids = some (30, 0) := by
        have hu : Ck.refu h kids = 30 := by unfold Ck.refu; rw [if_neg (by simpa using h0), if_pos hc]
        unfold Ck.refO; rw [hu]; rfl
      rw [hr]
      rw [hc] at HH
      clear hc hr h0
      go_enter Tryz.func38, Tryz.ntmps38
      go_wp2_with fail
      refine (HC.out _ HB0.out).mono ?_
      rintro e w2 ⟨rfl, hb2⟩
      have HB2 := Lib.hid (HB0.out.trans (hb2.mono HB0.out.size))
      obtain ⟨q0, q1, q2, q3, q4, q5, q6, q7, q8, q9, q10, ql⟩ := zI (zA hb2 (zC HX.out) HX.out)
      clear hb2
      go_wp2_with fail
      refine (HH.out _ HB2.out).mono ?_
      rintro e w3 ⟨rfl, hb3⟩
      have HB3 := Lib.hid (HB2.out.trans (hb3.mono HB2.out.size))
      have HB4 := Lib.hid (HB3.out.alloc HB3.out.size (.cells #[.int .i64 30, .int .i64 0, .string ⟨#[]⟩] 69))
      have HF := Lib.hid (zG w3 (.cells #[.int .i64 30, .int .i64 0, .string ⟨#[]⟩] 69))
      clear hb3 q0 q1 q2 q3 q4 q5 q6 q7 q8 q9 q10 ql
      go_wp2_with fail
      go_ret
      exact ⟨w3.heap.size, rfl, HF.out, HB3.out.size, HB4.out⟩
  · have hr : Ck.refO h kids = some (((Tm.chk h kids : Nat) : Int), 0) := by
      have hu : Ck.refu h kids = Tm.chk h kids := by unfold Ck.refu; rw [if_pos (by simpa using h0)]
      unfold Ck.refO; rw [hu, if_neg (by omega)]
    rw [hr]
    have hcn : (((Tm.chk h kids : Nat) : Int) == 0) = false := by simp; omega
    generalize Tm.chk h kids = C at *
    clear hr h0
    go_enter Tryz.func38, Tryz.ntmps38
    go_wp2_with fail
    refine (HC.out _ HB0.out).mono ?_
    rintro e w2 ⟨rfl, hb2⟩
    have HB2 := Lib.hid (HB0.out.trans (hb2.mono HB0.out.size))
    have HB4 := Lib.hid (HB2.out.alloc HB2.out.size (.cells #[.int .i64 C, .int .i64 0, .string ⟨#[]⟩] 69))
    have HF := Lib.hid (zG w2 (.cells #[.int .i64 C, .int .i64 0, .string ⟨#[]⟩] 69))
    clear hb2
    go_wp2_with fail
    go_ret
    exact ⟨w2.heap.size, rfl, HF.out, HB2.out.size, HB4.out⟩

theorem zBl (p : Option Addr) (w : World) : (Instr.typeAssert (.iface 65 (.pointer p)) 20 65 true).run Tryz.prog w = .ok (.tuple #[.pointer p, .bool true]) w := by kernel_rfl
theorem zCY (w : World) : (Instr.typeAssert .nilIface 20 65 true).run Tryz.prog w = .ok (.tuple #[.pointer none, .bool false]) w := by kernel_rfl
set_option maxHeartbeats 4000000 in
set_option maxRecDepth 100000 in
theorem ym (P R : Nat) (g : Addr) (x0 x1 z : Value) (w : World) (h0 : w.cell? ⟨P, 0, none⟩ = some x0) (h1 : w.cell? ⟨P, 1, none⟩ = some x1) (hr : w.cell? ⟨R, 0, none⟩ = some z)
    (hPR : P ≠ R) (f0 : w.frozen? ⟨P, 0, none⟩ = false) (f1 : w.frozen? ⟨P, 1, none⟩ = false) (fr : w.frozen? ⟨R, 0, none⟩ = false) :
    CallsD Tryz.prog 43 #[.pointer (some ⟨P, 0, none⟩), .pointer (some ⟨R, 0, none⟩)] (.panicking [{ v := .iface 65 (.pointer (some g)), recovered := false }]) w fun e u' w' =>
      e = .returned (.tuple #[]) ∧ u' = .panicking [{ v := .iface 65 (.pointer (some g)), recovered := true }] ∧ w' = ((w.setCell ⟨P, 0, none⟩ (.int .i8 0)).setCell ⟨P, 1, none⟩ (.slice none 0 0)).setCell ⟨R, 0, none⟩ (.iface 65 (.pointer (some g))) := by
  have e1 := zBl
  have k1 : (w.setCell ⟨P, 0, none⟩ (.int .i8 0)).cell? ⟨P, 1, none⟩ = some x1 := by
    rw [World.cell?_setCell_other _ _ _ _ (fun e => by injection e with e1 e2; omega)]; exact h1
  have kr : ((w.setCell ⟨P, 0, none⟩ (.int .i8 0)).setCell ⟨P, 1, none⟩ (.slice none 0 0)).cell? ⟨R, 0, none⟩ = some z := by
    rw [World.cell?_setCell_other _ _ _ _ (fun e => by injection e with e1 e2; omega), World.cell?_setCell_other _ _ _ _ (fun e => by injection e with e1 e2; omega)]; exact hr
  refine callsD_of_wpS Tryz.func43 rfl fun c₀ cs hu => ?_
  apply wpS_seq
  apply wpS_region
  simp [wpOpsS, go_sem, recoverD, hu, Tryz.ntmps43, Exit.thenS]
  refine wpS_of_wp ?_
  change Code.wp _ _ _ { tmps := #[.pointer (some ⟨P, 0, none⟩), .pointer (some ⟨R, 0, none⟩), .iface 65 (.pointer (some g)), undef, undef, .iface 65 (.pointer (some g)), undef, undef, undef, undef, undef, undef, undef, undef, undef, undef, undef, undef], defers := [] } w
  clear hu
  go_wp2_with fail
  exact ⟨rfl, _, rfl, .tuple #[], by simp [results, Tryz.results43], rfl, rfl, rfl⟩

set_option maxHeartbeats 4000000 in
set_option maxRecDepth 100000 in
theorem wZ (p r : Addr) (w : World) :
    CallsD Tryz.prog 43 #[.pointer (some p), .pointer (some r)] .returning w fun e u' w' => e = .returned (.tuple #[]) ∧ u' = .returning ∧ w' = w := by
  have e1 := zCY
  have e2 := zB1
  refine callsD_of_wpS Tryz.func43 rfl fun c₀ cs hu => ?_
  apply wpS_seq
  apply wpS_region
  simp [wpOpsS, go_sem, recoverD, hu, Tryz.ntmps43, Exit.thenS]
  refine wpS_of_wp ?_
  change Code.wp _ _ _ { tmps := #[.pointer (some p), .pointer (some r), .nilIface, undef, undef, .nilIface, undef, undef, undef, undef, undef, undef, undef, undef, undef, undef, undef, undef], defers := [] } w
  go_wp2_with fail
  exact ⟨rfl, .returning, by cases c₀; simp_all, .tuple #[], by simp [results, Tryz.results43], rfl, rfl, rfl⟩
end Go.Proofs.YtjpohjcnjanoaaaGreatDoor
