/-
  Layer 11: what is left open in a term; what the static rules' words mean; a type's parts, as they lie. Layer 13: what the kernel's rules tell; a cast over what they take.
-/
import Derived.Test.YtekjhcfjpedbkaaGreatDoorM16
import Derived.Test.YtekjhcfjpedbkaaGreatDoorM7
import Derived.Test.YtekjhcfjpedbkaaGreatDoorM17
import Derived.Test.YtekjhcfjpedbkaaGreatDoorCk5
import Derived.Test.YtekjhcfjpedbkaaGreatDoorM19
namespace Go.Proofs.YtekjhcfjpedbkaaGreatDoor
open Go.RowKit
namespace St
def p1 : Fo → Ck.T2
  | .node _ _ k f _ => (k, f)
  | .nil => (0, .nil)
def p2 : Fo → Ck.T2
  | .node _ _ _ _ r => p1 r
  | .nil => (0, .nil)
/-- the static rules' words -/
def ops : Cg.Ops where
  ag a b := Ty.sameT a.1 a.2 b.1 b.2
  asO k a := a.1 == k
  asl k a := if a.1 = k then p1 a.2 else (0, .nil)
  asr k a := if a.1 = k then p2 a.2 else (0, .nil)
  mt a _ := a
  gs _ _ := false
  ca := false
end St
theorem cell_set_same {w : World} {b o : Nat} {v x : Value} (h : w.cell? ⟨b, o, none⟩ = some v) : (w.setCell ⟨b, o, none⟩ x).cell? ⟨b, o, none⟩ = some x := by
  unfold World.cell? at h ⊢
  unfold World.setCell
  simp only [Array.getElem?_modify, if_true]
  cases hb : w.heap[b]? with
  | none => rw [hb] at h; cases h
  | some ob =>
    rw [hb] at h
    cases ob with
    | cells c t z =>
      simp only [Option.isSome_none, Bool.false_eq_true, if_false] at h
      have hlt : o < c.size := by
        rcases Nat.lt_or_ge o c.size with q | q
        · exact q
        · rw [Array.getElem?_eq_none q] at h; cases h
      simp [hlt]
    | _ => cases h
/-- a type's two parts, as they lie -/
theorem Ck.Ly.parts {Q : Nat → Prop} {w : World} {k : Int} {a1 a2 a3 a4 : Nat} {p1 p2 : Int} {f1 f2 : Fo} {A : Option Addr} {n c : Nat} (h : Ck.Ly Q w (k, .node a1 a2 p1 f1 (.node a3 a4 p2 f2 .nil)) A n c) :
    ∃ bb oo B1 c1 B2 c2, A = some ⟨bb, oo, none⟩ ∧ Q bb ∧ w.cell? ⟨bb, oo, none⟩ = some (.int .i8 p1) ∧ w.cell? ⟨bb, oo + 1, none⟩ = some (.slice B1 (Ty.len f1) c1) ∧ w.cell? ⟨bb, oo + 2, none⟩ = some (.int .i8 p2) ∧ w.cell? ⟨bb, oo + 3, none⟩ = some (.slice B2 (Ty.len f2) c2) ∧ Ck.Ly Q w (p1, f1) B1 (Ty.len f1) c1 ∧ Ck.Ly Q w (p2, f2) B2 (Ty.len f2) c2 := by
  obtain ⟨bb, oo, B1, c1, B2, c2, rfl, x0, x1, x2, x3, -, -⟩ := Ty.lies2 h.is.lies
  have hQ : Q bb := by
    refine Classical.byContradiction fun hn => ?_
    obtain ⟨bb', oo', B1', c1', B2', c2', e, y0, -, -, -, -, -⟩ := Ty.lies2 (h (w.setCell ⟨bb, oo, none⟩ (.bool true)) fun b o v hb hc => by
      rw [World.cell?_setCell_other _ _ _ _ (fun e => by injection e with e1 e2; exact hn (e1 ▸ hb))]; exact hc).lies
    injection e with e; injection e with e1 e2; subst e1; subst e2
    rw [cell_set_same x0] at y0
    cases y0
  refine ⟨bb, oo, B1, c1, B2, c2, rfl, hQ, x0, x1, x2, x3, fun u hu => ?_, fun u hu => ?_⟩
  · obtain ⟨bb', oo', B1', c1', B2', c2', e, y0, y1, y2, y3, i1, i2⟩ := Ty.lies2 (h u hu).lies
    injection e with e; injection e with e1 e2; subst e1; subst e2
    rw [hu _ _ _ hQ x1] at y1
    injection y1 with y1; injection y1 with z1 z2 z3; subst z1; subst z3
    exact i1
  · obtain ⟨bb', oo', B1', c1', B2', c2', e, y0, y1, y2, y3, i1, i2⟩ := Ty.lies2 (h u hu).lies
    injection e with e; injection e with e1 e2; subst e1; subst e2
    rw [hu _ _ _ hQ x3] at y3
    injection y3 with y3; injection y3 with z1 z2 z3; subst z1; subst z3
    exact i2
end Go.Proofs.YtekjhcfjpedbkaaGreatDoor
namespace Go.Proofs.YtekjhcfjpedbkaaGreatDoor
open Go.RowKit
namespace Cg
open Ck
theorem raw_congr (D : Ops) {F G : Hd → Tm → Env → R} (h : Hd) (kids : Tm) (l : Env) (hi : Tm.isKind h.kind = true) (hn : Tm.len kids = Tm.kidsN h.kind)
    (h1 : 1 ≤ Tm.len kids → ∀ l, F (k1 kids).1 (k1 kids).2 l = G (k1 kids).1 (k1 kids).2 l)
    (h2 : 2 ≤ Tm.len kids → ∀ l, F (k2 kids).1 (k2 kids).2 l = G (k2 kids).1 (k2 kids).2 l)
    (h3 : 3 ≤ Tm.len kids → ∀ l, F (k3 kids).1 (k3 kids).2 l = G (k3 kids).1 (k3 kids).2 l) : raw D F h kids l = raw D G h kids l := by
  have hk : h.kind = 0 ∨ h.kind = 1 ∨ h.kind = 2 ∨ h.kind = 3 ∨ h.kind = 4 ∨ h.kind = 5 ∨ h.kind = 6 ∨ h.kind = 7 ∨ h.kind = 8 ∨ h.kind = 9 ∨ h.kind = 10 ∨ h.kind = 11 ∨ h.kind = 12 ∨ h.kind = 13 ∨ h.kind = 14 ∨ h.kind = 15 ∨ h.kind = 16 ∨ h.kind = 17 := by
    simp only [Tm.isKind, decide_eq_true_eq] at hi
    omega
  rcases hk with hk | hk | hk | hk | hk | hk | hk | hk | hk | hk | hk | hk | hk | hk | hk | hk | hk | hk
  all_goals rw [hn, hk] at h1 h2 h3
  · simp only [raw_0 D F h kids l hk, raw_0 D G h kids l hk]
  · simp only [raw_1 D F h kids l hk, raw_1 D G h kids l hk]
  · simp only [raw_2 D F h kids l hk, raw_2 D G h kids l hk]
  · simp only [raw_3 D F h kids l hk, raw_3 D G h kids l hk]
  · simp only [raw_4 D F h kids l hk, raw_4 D G h kids l hk, h1 (by decide)]
  · simp only [raw_5 D F h kids l hk, raw_5 D G h kids l hk, h1 (by decide)]
  · simp only [raw_6 D F h kids l hk, raw_6 D G h kids l hk, h1 (by decide), h2 (by decide)]
  · simp only [raw_7 D F h kids l hk, raw_7 D G h kids l hk, h1 (by decide), h2 (by decide)]
  · simp only [raw_8 D F h kids l hk, raw_8 D G h kids l hk, h1 (by decide), h2 (by decide), h3 (by decide)]
  · simp only [raw_9 D F h kids l hk, raw_9 D G h kids l hk, h1 (by decide), h2 (by decide)]
  · simp only [raw_10 D F h kids l hk, raw_10 D G h kids l hk, h1 (by decide)]
  · simp only [raw_11 D F h kids l hk, raw_11 D G h kids l hk, h1 (by decide)]
  · simp only [raw_12 D F h kids l hk, raw_12 D G h kids l hk, h1 (by decide)]
  · simp only [raw_13 D F h kids l hk, raw_13 D G h kids l hk, h1 (by decide)]
  · simp only [raw_14 D F h kids l hk, raw_14 D G h kids l hk, h1 (by decide), h2 (by decide), h3 (by decide)]
  · simp only [raw_15 D F h kids l hk, raw_15 D G h kids l hk, h1 (by decide), h2 (by decide)]
  · simp only [raw_16 D F h kids l hk, raw_16 D G h kids l hk, h1 (by decide)]
  · simp only [raw_17 D F h kids l hk, raw_17 D G h kids l hk, h1 (by decide)]
/-- more fuel tells the same -/
theorem ty_more (D : Ops) : ∀ (K K' : Nat) (h : Hd) (kids : Tm) (l : Env), Tm.okT h kids = true → Tm.nodes kids < K → Tm.nodes kids < K' → ty D K h kids l = ty D K' h kids l
  | 0, _, _, _, _, _, h1, _ => by omega
  | _ + 1, 0, _, _, _, _, _, h2 => by omega
  | K + 1, K' + 1, h, kids, l, h0, hK, hK' => by
    obtain ⟨x, y, z⟩ := okT_parts h0
    rw [ty_succ, ty_succ, raw_congr D (F := ty D K) (G := ty D K') h kids l x y
      (fun g l => by obtain ⟨a, -, c⟩ := k1_in g; exact ty_more D K K' _ _ l (a z) (by omega) (by omega))
      (fun g l => by obtain ⟨a, -, c⟩ := k2_in g; exact ty_more D K K' _ _ l (a z) (by omega) (by omega))
      (fun g l => by obtain ⟨a, -, c⟩ := k3_in g; exact ty_more D K K' _ _ l (a z) (by omega) (by omega))]
end Cg
namespace Kn
open Ck
/-- the strict rules, of terms with casts -/
def ops : Cg.Ops := { St.ops with gs := fun a b => Ty.agreeT a.1 a.2 b.1 b.2, ca := true }
/-- what Type tells -/
def tell (h : Hd) (kids : Tm) : R := Cg.tellR ops (refKO 16 h kids) h kids
/-- which rule failed makes no difference -/
def num (E : Int) : Int := if E = 30 ∨ E = 32 ∨ E = 31 then E else 130
/-- a cast's fields -/
def castH (a b : T2) (lab : Int) : Hd := ⟨17, e0, e0, 0, a.1, a.2, b.1, b.2, lab, 0⟩
theorem same_self (k : Int) (kids : Fo) (h : Ty.chk k kids = 0) : Ty.sameT k kids k kids = true := by
  unfold Ty.sameT Ty.eqT
  rw [Ty.eqF_refl]
  simp [h]
theorem chk_num {h : Hd} {kids : Tm} (h0 : Tm.chk h kids ≠ 0) : num (Tm.chk h kids : Int) = (Tm.chk h kids : Int) := by
  unfold num Tm.chk at *
  split
  · rfl
  · split
    · rfl
    · split
      · rename_i q1 q2 q3; rw [if_neg q1, if_neg q2, if_pos q3] at h0; exact absurd rfl h0
      · rfl
/-- what is told of a cast over what is taken -/
theorem tell_cast {h : Hd} {kids : Tm} {a : T2} (b : T2) (lab : Int) (ht : tell h kids = .ok a) :
    (Tm.chk (castH a b lab) (.node h kids .nil) ≠ 0 ∧ tell (castH a b lab) (.node h kids .nil) = .bad (Tm.chk (castH a b lab) (.node h kids .nil)) 0 e0)
    ∨ (Tm.chk (castH a b lab) (.node h kids .nil) = 0 ∧ Ty.agreeT a.1 a.2 b.1 b.2 = false ∧ tell (castH a b lab) (.node h kids .nil) = .bad 91 0 e0)
    ∨ (Tm.chk (castH a b lab) (.node h kids .nil) = 0 ∧ Ty.agreeT a.1 a.2 b.1 b.2 = true ∧ Ty.chk b.1 b.2 = 0 ∧ tell (castH a b lab) (.node h kids .nil) = .ok b) := by
  have hno : hasT 16 h kids = false ∧ Cg.ty ops (Tm.nodes kids + 1) h kids [] = .ok a := by
    unfold tell Cg.tellR at ht
    cases hq : refKO 16 h kids with
    | some x => rw [hq] at ht; cases ht
    | none =>
      rw [hq] at ht
      refine ⟨?_, ht⟩
      unfold refKO refK at hq
      by_cases h0 : Tm.chk h kids ≠ 0
      · rw [if_pos h0, if_neg (by omega)] at hq; cases hq
      · rw [if_neg h0] at hq
        cases hc : hasT 16 h kids
        · rfl
        · rw [hc] at hq; cases hq
  obtain ⟨hno, hty⟩ := hno
  by_cases h0 : Tm.chk (castH a b lab) (.node h kids .nil) = 0
  case neg =>
    refine .inl ⟨h0, ?_⟩
    unfold tell Cg.tellR refKO refK
    rw [if_pos h0, if_neg (by omega)]
  refine .inr ?_
  have hc : hasT 16 (castH a b lab) (.node h kids .nil) = false := by
    unfold hasT at hno ⊢
    simp only [hasF, hno]
    rfl
  have hr : refKO 16 (castH a b lab) (.node h kids .nil) = none := by
    have hu : refK 16 (castH a b lab) (.node h kids .nil) = 0 := by
      unfold refK
      rw [if_neg (by simpa using h0), if_neg (by rw [hc]; decide)]
    unfold refKO
    rw [if_pos hu]
  obtain ⟨-, -, hok⟩ := chk_parts h0
  have hho : Tm.headOk (castH a b lab) 1 = true := by
    unfold Tm.okT at hok
    rw [Bool.and_eq_true] at hok
    exact hok.1
  have hca : chk a = 0 := tt_chk hho rfl
  have hcb : chk b = 0 := uu_chk hho rfl
  obtain ⟨-, -, hokF⟩ := okT_parts hok
  have hk := (okF_node' hokF).1
  have ht2 : tell (castH a b lab) (.node h kids .nil) = Cg.ty ops (Tm.nodes (.node h kids .nil) + 1) (castH a b lab) (.node h kids .nil) [] := by
    unfold tell Cg.tellR
    rw [hr]
  have hkid : Cg.ty ops (Tm.nodes (.node h kids .nil)) h kids [] = .ok a := by
    rw [Cg.ty_more ops _ (Tm.nodes kids + 1) h kids [] hk (by simp only [Tm.nodes]; omega) (by omega), hty]
  rw [ht2, Cg.ty_succ, Cg.raw_17 _ _ _ _ _ rfl]
  show _ ∨ (_ ∧ _ ∧ _ ∧ lift _ (bnd (Cg.ty ops (Tm.nodes (.node h kids .nil)) h kids []) _) = _)
  show (_ ∧ _ ∧ lift _ (bnd (Cg.ty ops (Tm.nodes (.node h kids .nil)) h kids []) _) = _) ∨ _
  rw [hkid]
  show (_ ∧ _ ∧ lift _ (Cg.over ops _ a _ _) = _) ∨ (_ ∧ _ ∧ _ ∧ lift _ (Cg.over ops _ a _ _) = _)
  rw [Cg.over_17 _ _ _ _ _ rfl rfl, if_pos (show ops.ag a (TT (castH a b lab)) = true from same_self a.1 a.2 hca)]
  cases hg : Ty.agreeT a.1 a.2 b.1 b.2
  · exact .inl ⟨h0, rfl, by rw [if_neg (show ¬ ops.gs (TT (castH a b lab)) (UU (castH a b lab)) = true from by show ¬ Ty.agreeT a.1 a.2 b.1 b.2 = true; rw [hg]; decide)]; rfl⟩
  · refine .inr ⟨h0, rfl, hcb, ?_⟩
    rw [if_pos (show ops.gs (TT (castH a b lab)) (UU (castH a b lab)) = true from hg)]
    show (if chk b = 0 then _ else _) = _
    rw [if_pos hcb]
    rfl
end Kn
end Go.Proofs.YtekjhcfjpedbkaaGreatDoor
