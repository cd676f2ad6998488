/-
  Layer 9: less is taken too: the rules. Layer 9: annotations of which some nodes are made unknown. Plain facts.
-/
import Derived.Test.YtekjhcfjpedbkaaGreatDoorM17
import Derived.Test.YtekjhcfjpedbkaaGreatDoorM14
import Derived.Test.YtekjhcfjpedbkaaGreatDoorM19
import Derived.Test.YtekjhcfjpedbkaaGreatDoorM16
namespace Go.Proofs.YtekjhcfjpedbkaaGreatDoor
namespace Ck


/-- a right term, and one that is less precise -/
def Sub (h' : Hd) (kids' : Tm) (h : Hd) (kids : Tm) : Prop := Tm.okT h' kids' = true ∧ Tm.okT h kids = true ∧ Tm.reT h' kids' h kids = true
def SubF (kids' kids : Tm) : Prop := Tm.okF kids' = true ∧ Tm.okF kids = true ∧ Tm.reF kids' kids = true
theorem SubF.one : ∀ {kids' kids : Tm}, SubF kids' kids → 1 ≤ Tm.len kids → Sub (k1 kids').1 (k1 kids').2 (k1 kids).1 (k1 kids).2
  | .node h' t' r', .node h t r, ⟨x, y, z⟩, _ => by
    simp only [Tm.reF, Bool.and_eq_true] at z
    exact ⟨(Tm.okF_node x).1, (Tm.okF_node y).1, by unfold Tm.reT; simp only [k1, Bool.and_eq_true]; exact z.1⟩
  | .nil, .node _ _ _, ⟨_, _, z⟩, _ => by simp [Tm.reF] at z
  | _, .nil, _, hl => by simp only [Tm.len] at hl; omega
theorem SubF.rest : ∀ {h' h : Hd} {t' t r' r : Tm}, SubF (.node h' t' r') (.node h t r) → SubF r' r
  | _, _, _, _, _, _, ⟨x, y, z⟩ => by
    simp only [Tm.reF, Bool.and_eq_true] at z
    exact ⟨(Tm.okF_node x).2, (Tm.okF_node y).2, z.2⟩
theorem SubF.two : ∀ {kids' kids : Tm}, SubF kids' kids → 2 ≤ Tm.len kids → Sub (k2 kids').1 (k2 kids').2 (k2 kids).1 (k2 kids).2
  | .node _ _ _, .node _ _ _, hs, hl => hs.rest.one (by simp only [Tm.len] at hl; omega)
  | .nil, .node _ _ _, ⟨_, _, z⟩, _ => by simp [Tm.reF] at z
  | _, .nil, _, hl => by simp only [Tm.len] at hl; omega
theorem SubF.three : ∀ {kids' kids : Tm}, SubF kids' kids → 3 ≤ Tm.len kids → Sub (k3 kids').1 (k3 kids').2 (k3 kids).1 (k3 kids).2
  | .node _ _ _, .node _ _ _, hs, hl => hs.rest.two (by simp only [Tm.len] at hl; omega)
  | .nil, .node _ _ _, ⟨_, _, z⟩, _ => by simp [Tm.reF] at z
  | _, .nil, _, hl => by simp only [Tm.len] at hl; omega
theorem raw_le (F : Hd → Tm → Env → R) (_hFo : ∀ {h : Hd} {kids : Tm} {l : Env} {a : T2}, F h kids l = .ok a → chk a = 0)
    (ih : ∀ {h' : Hd} {kids' : Tm} {h : Hd} {kids : Tm} {l' l : Env} {a : T2}, Sub h' kids' h kids → eLe l' l → F h kids l = .ok a → ∃ a', F h' kids' l' = .ok a' ∧ le2 a' a)
    {h' : Hd} {kids' : Tm} {h : Hd} {kids : Tm} {l' l : Env} {a : T2} (hs : Sub h' kids' h kids) (hl : eLe l' l) (e : raw F h kids l = .ok a) (hc : chk a = 0) : ∃ a', raw F h' kids' l' = .ok a' ∧ le2 a' a := by
  obtain ⟨o', o, hr⟩ := hs
  unfold Tm.okT at o o'
  unfold Tm.reT at hr
  rw [Bool.and_eq_true] at o o' hr
  have hd := HdLe.of hr.1 o'.1 o.1
  have hf : SubF kids' kids := ⟨o'.2, o.2, hr.2⟩
  have ho := o.1
  unfold Tm.headOk at ho
  simp only [Bool.and_eq_true, decide_eq_true_eq] at ho
  have hn : Tm.len kids = Tm.kidsN h.kind := ho.1.1.1.2
  have hik := ho.1.1.1.1
  unfold Tm.isKind at hik
  simp only [decide_eq_true_eq] at hik
  clear ho o o' hr
  obtain ⟨hk', hnm, hag, htt, huu⟩ := hd
  have hz : h.kind = 0 ∨ h.kind = 1 ∨ h.kind = 2 ∨ h.kind = 3 ∨ h.kind = 4 ∨ h.kind = 5 ∨ h.kind = 6 ∨ h.kind = 7 ∨ h.kind = 8 ∨ h.kind = 9 ∨ h.kind = 10 ∨ h.kind = 11 ∨ h.kind = 12 ∨ h.kind = 13 ∨ h.kind = 14 ∨ h.kind = 15 ∨ h.kind = 16 ∨ h.kind = 17 := by omega
  rcases hz with hk | hk | hk | hk | hk | hk | hk | hk | hk | hk | hk | hk | hk | hk | hk | hk | hk | hk <;> rw [hk] at hk' hnm hag htt huu hn
  · rw [raw_0 _ _ _ _ hk] at e
    rw [raw_0 _ _ _ _ hk']
    obtain ⟨i1, i2⟩ := fnd_le hl (hnm (by decide))
    cases q : fnd l h.name with
    | none => rw [q] at e; cases e
    | some b =>
      rw [q] at e
      injection e with e; subst e
      obtain ⟨b', q', g⟩ := i2 b q
      rw [q']
      exact ⟨b', rfl, g⟩
  · rw [raw_1 _ _ _ _ hk] at e
    rw [raw_1 _ _ _ _ hk']
    injection e with e; subst e; exact ⟨_, rfl, le2.refl hc⟩
  · rw [raw_2 _ _ _ _ hk] at e
    rw [raw_2 _ _ _ _ hk']
    injection e with e; subst e; exact ⟨_, rfl, le2.refl hc⟩
  · rw [raw_3 _ _ _ _ hk] at e
    rw [raw_3 _ _ _ _ hk']
    injection e with e; subst e; exact ⟨_, rfl, le2.refl hc⟩
  · rw [raw_4 _ _ _ _ hk] at e
    rw [raw_4 _ _ _ _ hk']
    obtain ⟨b, e1, e⟩ := bnd_ok e
    injection e with e; subst e
    obtain ⟨b', q, g⟩ := ih (hf.one (by rw [hn]; decide)) (hl.snoc (hnm (by decide)) (htt (by decide))) e1
    rw [q]
    exact ⟨_, rfl, mk2_le (by decide) (htt (by decide)) g hc⟩
  · rw [raw_5 _ _ _ _ hk] at e
    rw [raw_5 _ _ _ _ hk']
    obtain ⟨b, e1, e⟩ := bnd_ok e
    obtain ⟨g1, e⟩ := if_ok e
    injection e with e; subst e
    have m := mk2_le (k := 3) (by decide) (htt (by decide)) (huu (by decide)) hc
    obtain ⟨b', q, g⟩ := ih (hf.one (by rw [hn]; decide)) (l' := l' ++ [(h'.name, mk2 3 (TT h') (UU h')), (h'.arg, TT h')]) (by have := (hl.snoc (hnm (by decide)) m).snoc (hag (by decide)) (htt (by decide)); simpa using this) e1
    rw [q]
    exact ⟨mk2 3 (TT h') (UU h'), by show (if ag b' (UU h') = true then _ else _) = _; rw [if_pos (ag_le g (huu (by decide)) g1)], m⟩
  · rw [raw_6 _ _ _ _ hk] at e
    rw [raw_6 _ _ _ _ hk']
    obtain ⟨b, e1, e⟩ := bnd_ok e
    obtain ⟨c, e2, e⟩ := bnd_ok e
    rw [over_6 _ _ _ _ hk] at e
    obtain ⟨g1, e⟩ := if_ok e
    obtain ⟨g2, e⟩ := if_ok e
    injection e with e; subst e
    obtain ⟨b', q, g⟩ := ih (hf.one (by rw [hn]; decide)) hl e1
    obtain ⟨c', q2, g3⟩ := ih (hf.two (by rw [hn]; decide)) hl e2
    obtain ⟨a1, a2, a3⟩ := as_le g g1
    rw [q, q2]
    exact ⟨asr 3 b', by show over h' b' c' (0, .nil) = _; rw [over_6 _ _ _ _ hk', if_pos a1, if_pos (ag_le g3 a2 g2)], a3⟩
  · rw [raw_7 _ _ _ _ hk] at e
    rw [raw_7 _ _ _ _ hk']
    obtain ⟨b, e1, e⟩ := bnd_ok e
    obtain ⟨g1, e⟩ := if_ok e
    obtain ⟨b', q, g⟩ := ih (hf.one (by rw [hn]; decide)) hl e1
    obtain ⟨c', q2, g3⟩ := ih (hf.two (by rw [hn]; decide)) (hl.snoc (hnm (by decide)) (htt (by decide))) e
    rw [q]
    exact ⟨c', by show (if ag b' (TT h') = true then _ else _) = _; rw [if_pos (ag_le g (htt (by decide)) g1)]; exact q2, g3⟩
  · rw [raw_8 _ _ _ _ hk] at e
    rw [raw_8 _ _ _ _ hk']
    obtain ⟨b, e1, e⟩ := bnd_ok e
    obtain ⟨c, e2, e⟩ := bnd_ok e
    obtain ⟨d, e3, e⟩ := bnd_ok e
    rw [over_8 _ _ _ _ hk] at e
    obtain ⟨g1, e⟩ := if_ok e
    obtain ⟨b', q, g⟩ := ih (hf.one (by rw [hn]; decide)) hl e1
    obtain ⟨c', q2, g3⟩ := ih (hf.two (by rw [hn]; decide)) hl e2
    obtain ⟨d', q3, g4⟩ := ih (hf.three (by rw [hn]; decide)) hl e3
    obtain ⟨m', q4, g5⟩ := meet_le (h' := h') g3 g4 e hc
    rw [q, q2, q3]
    exact ⟨m', by show over h' b' c' d' = _; rw [over_8 _ _ _ _ hk', if_pos (ag_le g (le2.refl rfl) g1)]; exact q4, g5⟩
  · rw [raw_9 _ _ _ _ hk] at e
    rw [raw_9 _ _ _ _ hk']
    obtain ⟨b, e1, e⟩ := bnd_ok e
    obtain ⟨c, e2, e⟩ := bnd_ok e
    rw [over_9 _ _ _ _ hk] at e
    injection e with e; subst e
    obtain ⟨b', q, g⟩ := ih (hf.one (by rw [hn]; decide)) hl e1
    obtain ⟨c', q2, g3⟩ := ih (hf.two (by rw [hn]; decide)) hl e2
    rw [q, q2]
    exact ⟨mk2 4 b' c', by show over h' b' c' (0, .nil) = _; rw [over_9 _ _ _ _ hk'], mk2_le (by decide) g g3 hc⟩
  · rw [raw_10 _ _ _ _ hk] at e
    rw [raw_10 _ _ _ _ hk']
    obtain ⟨b, e1, e⟩ := bnd_ok e
    rw [over_10 _ _ _ _ hk] at e
    obtain ⟨g1, e⟩ := if_ok e
    injection e with e; subst e
    obtain ⟨b', q, g⟩ := ih (hf.one (by rw [hn]; decide)) hl e1
    obtain ⟨a1, a2, a3⟩ := as_le g g1
    rw [q]
    exact ⟨asl 4 b', by show over h' b' (0, .nil) (0, .nil) = _; rw [over_10 _ _ _ _ hk', if_pos a1], a2⟩
  · rw [raw_11 _ _ _ _ hk] at e
    rw [raw_11 _ _ _ _ hk']
    obtain ⟨b, e1, e⟩ := bnd_ok e
    rw [over_11 _ _ _ _ hk] at e
    obtain ⟨g1, e⟩ := if_ok e
    injection e with e; subst e
    obtain ⟨b', q, g⟩ := ih (hf.one (by rw [hn]; decide)) hl e1
    obtain ⟨a1, a2, a3⟩ := as_le g g1
    rw [q]
    exact ⟨asr 4 b', by show over h' b' (0, .nil) (0, .nil) = _; rw [over_11 _ _ _ _ hk', if_pos a1], a3⟩
  · rw [raw_12 _ _ _ _ hk] at e
    rw [raw_12 _ _ _ _ hk']
    obtain ⟨b, e1, e⟩ := bnd_ok e
    rw [over_12 _ _ _ _ hk] at e
    obtain ⟨g1, e⟩ := if_ok e
    obtain ⟨g2, e⟩ := if_ok e
    injection e with e; subst e
    obtain ⟨b', q, g⟩ := ih (hf.one (by rw [hn]; decide)) hl e1
    obtain ⟨a1, a2, a3⟩ := as_le (htt (by decide)) g1
    rw [q]
    exact ⟨mk2 5 (asl 5 (TT h')) (asr 5 (TT h')), by show over h' b' (0, .nil) (0, .nil) = _; rw [over_12 _ _ _ _ hk', if_pos a1, if_pos (ag_le g a2 g2)], mk2_le (by decide) a2 a3 hc⟩
  · rw [raw_13 _ _ _ _ hk] at e
    rw [raw_13 _ _ _ _ hk']
    obtain ⟨b, e1, e⟩ := bnd_ok e
    rw [over_13 _ _ _ _ hk] at e
    obtain ⟨g1, e⟩ := if_ok e
    obtain ⟨g2, e⟩ := if_ok e
    injection e with e; subst e
    obtain ⟨b', q, g⟩ := ih (hf.one (by rw [hn]; decide)) hl e1
    obtain ⟨a1, a2, a3⟩ := as_le (htt (by decide)) g1
    rw [q]
    exact ⟨mk2 5 (asl 5 (TT h')) (asr 5 (TT h')), by show over h' b' (0, .nil) (0, .nil) = _; rw [over_13 _ _ _ _ hk', if_pos a1, if_pos (ag_le g a3 g2)], mk2_le (by decide) a2 a3 hc⟩
  · rw [raw_14 _ _ _ _ hk] at e
    rw [raw_14 _ _ _ _ hk']
    obtain ⟨b, e1, e⟩ := bnd_ok e
    obtain ⟨g1, e⟩ := if_ok e
    obtain ⟨c, e2, e⟩ := bnd_ok e
    obtain ⟨d, e3, e⟩ := bnd_ok e
    obtain ⟨b', q, g⟩ := ih (hf.one (by rw [hn]; decide)) hl e1
    obtain ⟨a1, a2, a3⟩ := as_le g g1
    obtain ⟨c', q2, g3⟩ := ih (hf.two (by rw [hn]; decide)) (hl.snoc (hnm (by decide)) a2) e2
    obtain ⟨d', q3, g4⟩ := ih (hf.three (by rw [hn]; decide)) (hl.snoc (hag (by decide)) a3) e3
    obtain ⟨m', q4, g5⟩ := meet_le (h' := h') g3 g4 e hc
    rw [q]
    exact ⟨m', by show (if asO 5 b' = true then _ else _) = _; rw [if_pos a1, q2]; show bnd (F _ _ _) _ = _; rw [q3]; exact q4, g5⟩
  · rw [raw_15 _ _ _ _ hk] at e
    rw [raw_15 _ _ _ _ hk']
    obtain ⟨b, e1, e⟩ := bnd_ok e
    obtain ⟨c, e2, e⟩ := bnd_ok e
    rw [over_15 _ _ _ _ hk] at e
    obtain ⟨g1, e⟩ := if_ok e
    obtain ⟨g2, e⟩ := if_ok e
    injection e with e; subst e
    obtain ⟨b', q, g⟩ := ih (hf.one (by rw [hn]; decide)) hl e1
    obtain ⟨c', q2, g3⟩ := ih (hf.two (by rw [hn]; decide)) hl e2
    rw [q, q2]
    exact ⟨opAns h.name, by show over h' b' c' (0, .nil) = _; rw [over_15 _ _ _ _ hk', if_pos (ag_le g (le2.refl rfl) g1), if_pos (ag_le g3 (le2.refl rfl) g2)]; unfold opAns; rw [hnm (by decide)], le2.refl hc⟩
  · rw [raw_16 _ _ _ _ hk] at e
    rw [raw_16 _ _ _ _ hk']
    obtain ⟨b, e1, e⟩ := bnd_ok e
    rw [over_16 _ _ _ _ hk] at e
    obtain ⟨g1, e⟩ := if_ok e
    injection e with e; subst e
    obtain ⟨b', q, g⟩ := ih (hf.one (by rw [hn]; decide)) hl e1
    rw [q]
    exact ⟨TT h', by show over h' b' (0, .nil) (0, .nil) = _; rw [over_16 _ _ _ _ hk', if_pos (ag_le g (htt (by decide)) g1)], htt (by decide)⟩
  · rw [raw_17 _ _ _ _ hk] at e
    rw [raw_17 _ _ _ _ hk']
    obtain ⟨b, e1, e⟩ := bnd_ok e
    rw [over_17 _ _ _ _ hk] at e
    obtain ⟨g1, e⟩ := if_ok e
    injection e with e; subst e
    obtain ⟨b', q, g⟩ := ih (hf.one (by rw [hn]; decide)) hl e1
    rw [q]
    exact ⟨TT h', by show over h' b' (0, .nil) (0, .nil) = _; rw [over_17 _ _ _ _ hk', if_pos (ag_le g (htt (by decide)) g1)], htt (by decide)⟩
theorem ty_le : ∀ (K : Nat) {h' : Hd} {kids' : Tm} {h : Hd} {kids : Tm} {l' l : Env} {a : T2}, Sub h' kids' h kids → eLe l' l → ty K h kids l = .ok a → ∃ a', ty K h' kids' l' = .ok a' ∧ le2 a' a
  | 0, _, _, _, _, _, _, _, _, _, e => by cases e
  | K + 1, h', kids', h, kids, l', l, a, hs, hl, e => by
    obtain ⟨e, hc⟩ := lift_ok e
    obtain ⟨a', e', g⟩ := raw_le (ty K) (fun q => ty_ok q) (fun x y z => ty_le K x y z) hs hl e hc
    exact ⟨a', by rw [ty_succ, e', lift_of g.1], g⟩
end Ck
namespace Ls
def hit (L : List Bool) (n : Nat) : Bool := decide (0 < L.length) && L.getD (n % L.length) false
def lesF (L : List Bool) : Fo → Nat → Fo × Nat
  | .nil, n => (.nil, n)
  | .node a b k kids r, n =>
    if hit L n = true then (.node a b 0 .nil (lesF L r (n + 1)).1, (lesF L r (n + 1)).2)
    else (.node a b k (lesF L kids (n + 1)).1 (lesF L r (lesF L kids (n + 1)).2).1, (lesF L r (lesF L kids (n + 1)).2).2)
/-- a type of which some nodes are made unknown -/
def les (L : List Bool) (a : Ck.T2) (n : Nat) : Ck.T2 × Nat := if hit L n = true then ((0, .nil), n + 1) else ((a.1, (lesF L a.2 (n + 1)).1), (lesF L a.2 (n + 1)).2)
theorem lesF_node (L : List Bool) (a b : Nat) (k : Int) (kids r : Fo) (n : Nat) : lesF L (.node a b k kids r) n = (.node a b (les L (k, kids) n).1.1 (les L (k, kids) n).1.2 (lesF L r (les L (k, kids) n).2).1, (lesF L r (les L (k, kids) n).2).2) := by
  unfold les
  rw [lesF]
  split <;> rfl
theorem lesF_ok (L : List Bool) : ∀ (f : Fo) (n : Nat), Ty.okF f = true → Ty.okF (lesF L f n).1 = true ∧ Ty.len (lesF L f n).1 = Ty.len f ∧ Ty.leF (lesF L f n).1 f = true ∧ (lesF L f n).2 ≤ n + Ty.nodes f
  | .nil, n, _ => ⟨rfl, rfl, rfl, Nat.le_refl _⟩
  | .node a b k kids r, n, h => by
    simp only [Ty.okF, Bool.and_eq_true] at h
    rw [lesF]
    split
    · obtain ⟨x, y, z, u⟩ := lesF_ok L r (n + 1) h.2
      refine ⟨by simp only [Ty.okF, x]; rfl, by simp only [Ty.len, y], by simp only [Ty.leF, z]; rfl, ?_⟩
      simp only [Ty.nodes]; omega
    · obtain ⟨x, y, z, u⟩ := lesF_ok L kids (n + 1) h.1.2
      obtain ⟨x', y', z', u'⟩ := lesF_ok L r (lesF L kids (n + 1)).2 h.2
      refine ⟨by simp only [Ty.okF, x, x', y, h.1.1]; rfl, by simp only [Ty.len, y'], by simp only [Ty.leF, z, z']; simp, ?_⟩
      simp only [Ty.nodes]; omega
theorem les_ok (L : List Bool) (a : Ck.T2) (n : Nat) (h : Ty.okT a.1 a.2 = true) : Ty.okT (les L a n).1.1 (les L a n).1.2 = true ∧ Ty.leT (les L a n).1.1 (les L a n).1.2 a.1 a.2 = true ∧ (les L a n).2 ≤ n + (Ty.nodes a.2 + 1) := by
  unfold Ty.okT at h
  rw [Bool.and_eq_true] at h
  obtain ⟨x, y, z, u⟩ := lesF_ok L a.2 (n + 1) h.2
  unfold les
  split
  · exact ⟨(show Ty.okT 0 .nil = true by decide), rfl, by show n + 1 ≤ _; omega⟩
  · refine ⟨by unfold Ty.okT; rw [x, y, h.1]; rfl, ?_, by show (lesF L a.2 (n + 1)).2 ≤ _; omega⟩
    unfold Ty.leT
    rw [z]; simp
theorem les_chk (L : List Bool) (a : Ck.T2) (n : Nat) (h : Ck.chk a = 0) : Ck.chk (les L a n).1 = 0 ∧ Ty.leT (les L a n).1.1 (les L a n).1.2 a.1 a.2 = true ∧ (les L a n).2 ≤ n + (Ty.nodes a.2 + 1) ∧ Ty.nodes (les L a n).1.2 ≤ Ty.nodes a.2 ∧ Ty.dep (les L a n).1.2 ≤ Ty.dep a.2 := by
  have hok := (Ty.chk_ok h).1
  obtain ⟨x, y, z⟩ := les_ok L a n hok
  obtain ⟨s1, s2⟩ := Ty.leT_size x hok y
  exact ⟨Ty.leT_chk x h y, y, z, s1, s2⟩
/-- a term's own fields, made less precise -/
def lesH (L : List Bool) (h : Hd) (n : Nat) : Hd × Nat :=
  if h.kind = 5 then ({ h with tk := (les L (Ck.TT h) n).1.1, tkids := (les L (Ck.TT h) n).1.2, uk := (les L (Ck.UU h) (les L (Ck.TT h) n).2).1.1, ukids := (les L (Ck.UU h) (les L (Ck.TT h) n).2).1.2 }, (les L (Ck.UU h) (les L (Ck.TT h) n).2).2)
  else if h.kind = 4 ∨ h.kind = 7 ∨ h.kind = 12 ∨ h.kind = 13 ∨ h.kind = 16 then ({ h with tk := (les L (Ck.TT h) n).1.1, tkids := (les L (Ck.TT h) n).1.2 }, (les L (Ck.TT h) n).2)
  else (h, n)
def lsF (L : List Bool) : Tm → Nat → Tm × Nat
  | .nil, n => (.nil, n)
  | .node h kids r, n => (.node (lesH L h n).1 (lsF L kids (lesH L h n).2).1 (lsF L r (lsF L kids (lesH L h n).2).2).1, (lsF L r (lsF L kids (lesH L h n).2).2).2)
theorem nod_ok {f : Fo} (h : Ty.nodes f + 1 ≤ 8192) : Ty.nod f = Ty.nodes f + 1 := by unfold Ty.nod; omega
theorem nod_le {f g : Fo} (h : Ty.nodes f ≤ Ty.nodes g) : Ty.nod f ≤ Ty.nod g := by unfold Ty.nod; omega
theorem dpt_le {f g : Fo} (h : Ty.nodes f ≤ Ty.nodes g) (h2 : Ty.dep f ≤ Ty.dep g) : Ty.dpt f ≤ Ty.dpt g := by
  unfold Ty.dpt
  split <;> split <;> omega
/-- what is kept of the own fields -/
theorem lesH_ok (L : List Bool) (h : Hd) (n m : Nat) (h0 : Tm.headOk h m = true) (_hk : h.kind ≠ 17) :
    (lesH L h n).1.kind = h.kind ∧ Tm.headOk (lesH L h n).1 m = true ∧ Tm.reH (lesH L h n).1 h = true ∧ Tm.tyN (lesH L h n).1 ≤ Tm.tyN h ∧ Tm.tyD (lesH L h n).1 ≤ Tm.tyD h ∧ (lesH L h n).2 ≤ n + Tm.tyN h := by
  have hh := h0
  unfold Tm.headOk at h0
  simp only [Bool.and_eq_true] at h0
  obtain ⟨⟨⟨⟨hik, hn⟩, hnm⟩, hlb⟩, hty⟩ := h0
  have hty0 := hty
  unfold Tm.tysOk at hty
  simp only [Bool.and_eq_true, Bool.or_eq_true, Bool.not_eq_true', beq_iff_eq] at hty
  have hkk : 0 ≤ h.kind ∧ h.kind ≤ 17 := by simpa [Tm.isKind] using hik
  have rn : (h.name.toList == h.name.toList) = true := by simp
  have ra : (h.arg.toList == h.arg.toList) = true := by simp
  have rnum : (h.num == h.num) = true := by simp
  have rk : (h.kind == h.kind) = true := by simp
  by_cases h5 : h.kind = 5
  · have hT : Ck.chk (Ck.TT h) = 0 := by
      rcases hty.1 with q | q
      · rw [h5] at q; exact absurd q (by decide)
      · exact q
    have hU : Ck.chk (Ck.UU h) = 0 := by
      rcases hty.2 with q | q
      · rw [h5] at q; exact absurd q (by decide)
      · exact q
    obtain ⟨a1, a2, a3, a4, a5⟩ := les_chk L (Ck.TT h) n hT
    obtain ⟨b1, b2, b3, b4, b5⟩ := les_chk L (Ck.UU h) (les L (Ck.TT h) n).2 hU
    have a6 := nod_le a4
    have a7 := dpt_le a4 a5
    have b6 := nod_le b4
    have b7 := dpt_le b4 b5
    have tn : Ty.nod h.tkids = Ty.nodes h.tkids + 1 := nod_ok (Ty.chk_ok hT).2.1
    have un : Ty.nod h.ukids = Ty.nodes h.ukids + 1 := nod_ok (Ty.chk_ok hU).2.1
    unfold lesH
    rw [if_pos h5]
    refine ⟨rfl, ?_, ?_, ?_, ?_, ?_⟩
    · unfold Tm.headOk
      simp only [Bool.and_eq_true]
      refine ⟨⟨⟨⟨hik, hn⟩, hnm⟩, hlb⟩, ?_⟩
      unfold Tm.tysOk
      simp only [Bool.and_eq_true, Bool.or_eq_true, beq_iff_eq]
      exact ⟨.inr a1, .inr b1⟩
    · unfold Tm.reH
      simp only [rk, rn, ra, rnum]
      have x : Ty.leT (les L (Ck.TT h) n).1.1 (les L (Ck.TT h) n).1.2 h.tk h.tkids = true := a2
      have y : Ty.leT (les L (Ck.UU h) (les L (Ck.TT h) n).2).1.1 (les L (Ck.UU h) (les L (Ck.TT h) n).2).1.2 h.uk h.ukids = true := b2
      simp [x, y]
    · unfold Tm.tyN
      simp only [h5]
      have x : Ty.nod (les L (Ck.TT h) n).1.2 ≤ Ty.nod h.tkids := a6
      have y : Ty.nod (les L (Ck.UU h) (les L (Ck.TT h) n).2).1.2 ≤ Ty.nod h.ukids := b6
      exact Nat.add_le_add (by simpa [Tm.hasType] using x) (by simpa [Tm.hasTo] using y)
    · unfold Tm.tyD
      simp only [h5]
      have e1 : Tm.hasType 5 = true := by decide
      have e2 : Tm.hasTo 5 = true := by decide
      rw [e1, e2]
      simp only [if_true]
      have x : Ty.dpt (les L (Ck.TT h) n).1.2 ≤ Ty.dpt h.tkids := a7
      have y : Ty.dpt (les L (Ck.UU h) (les L (Ck.TT h) n).2).1.2 ≤ Ty.dpt h.ukids := b7
      omega
    · unfold Tm.tyN
      simp only [h5]
      have e1 : Tm.hasType 5 = true := by decide
      have e2 : Tm.hasTo 5 = true := by decide
      rw [e1, e2]
      simp only [if_true]
      have x : (les L (Ck.TT h) n).2 ≤ n + (Ty.nodes h.tkids + 1) := a3
      have y : (les L (Ck.UU h) (les L (Ck.TT h) n).2).2 ≤ (les L (Ck.TT h) n).2 + (Ty.nodes h.ukids + 1) := b3
      show (les L (Ck.UU h) (les L (Ck.TT h) n).2).2 ≤ _
      omega
  · by_cases h4 : h.kind = 4 ∨ h.kind = 7 ∨ h.kind = 12 ∨ h.kind = 13 ∨ h.kind = 16
    · have e1 : Tm.hasType h.kind = true := by unfold Tm.hasType; simp only [decide_eq_true_eq]; omega
      have e2 : Tm.hasTo h.kind = false := by unfold Tm.hasTo; simp only [decide_eq_false_iff_not]; omega
      have hT : Ck.chk (Ck.TT h) = 0 := by
        rcases hty.1 with q | q
        · rw [e1] at q; cases q
        · exact q
      obtain ⟨a1, a2, a3, a4, a5⟩ := les_chk L (Ck.TT h) n hT
      have a6 := nod_le a4
      have a7 := dpt_le a4 a5
      have tn : Ty.nod h.tkids = Ty.nodes h.tkids + 1 := nod_ok (Ty.chk_ok hT).2.1
      unfold lesH
      rw [if_neg h5, if_pos h4]
      refine ⟨rfl, ?_, ?_, ?_, ?_, ?_⟩
      · unfold Tm.headOk
        simp only [Bool.and_eq_true]
        refine ⟨⟨⟨⟨hik, hn⟩, hnm⟩, hlb⟩, ?_⟩
        unfold Tm.tysOk
        simp only [Bool.and_eq_true, Bool.or_eq_true, beq_iff_eq, Bool.not_eq_true']
        exact ⟨.inr a1, .inl e2⟩
      · unfold Tm.reH
        simp only [rk, rn, ra, rnum, e1, e2]
        have x : Ty.leT (les L (Ck.TT h) n).1.1 (les L (Ck.TT h) n).1.2 h.tk h.tkids = true := a2
        simp [x]
      · unfold Tm.tyN
        simp only [e1, e2]
        have x : Ty.nod (les L (Ck.TT h) n).1.2 ≤ Ty.nod h.tkids := a6
        simpa using x
      · unfold Tm.tyD
        simp only [e1, e2]
        have x : Ty.dpt (les L (Ck.TT h) n).1.2 ≤ Ty.dpt h.tkids := a7
        simpa using x
      · unfold Tm.tyN
        simp only [e1, e2]
        have x : (les L (Ck.TT h) n).2 ≤ n + (Ty.nodes h.tkids + 1) := a3
        simp only [if_true]
        show (les L (Ck.TT h) n).2 ≤ _
        omega
    · unfold lesH
      rw [if_neg h5, if_neg h4]
      refine ⟨rfl, hh, ?_, Nat.le_refl _, Nat.le_refl _, by show n ≤ _; omega⟩
      unfold Tm.reH
      simp [Ty.leT, Ty.leF_refl]
/-- what is kept of a list of terms -/
theorem lsF_ok (L : List Bool) : ∀ (f : Tm) (n : Nat), Tm.okF f = true → Ck.castF f = false →
    Tm.okF (lsF L f n).1 = true ∧ Tm.len (lsF L f n).1 = Tm.len f ∧ Tm.reF (lsF L f n).1 f = true ∧ Ck.castF (lsF L f n).1 = false ∧ Tm.nodes (lsF L f n).1 ≤ Tm.nodes f ∧ Tm.dep (lsF L f n).1 ≤ Tm.dep f ∧ (lsF L f n).2 ≤ n + Tm.nodes f
  | .nil, n, _, _ => ⟨rfl, rfl, rfl, rfl, Nat.le_refl _, Nat.le_refl _, Nat.le_refl _⟩
  | .node h kids r, n, h0, hc => by
    simp only [Tm.okF, Bool.and_eq_true] at h0
    simp only [Ck.castF, Bool.or_eq_false_iff, beq_eq_false_iff_ne] at hc
    obtain ⟨a1, a2, a3, a4, a5, a6⟩ := lesH_ok L h n (Tm.len kids) h0.1.1 hc.1.1
    obtain ⟨b1, b2, b3, b4, b5, b6, b7⟩ := lsF_ok L kids (lesH L h n).2 h0.1.2 hc.1.2
    obtain ⟨c1, c2, c3, c4, c5, c6, c7⟩ := lsF_ok L r (lsF L kids (lesH L h n).2).2 h0.2 hc.2
    simp only [lsF]
    refine ⟨by simp only [Tm.okF, b2, a2, b1, c1]; rfl, by simp only [Tm.len, c2], by simp only [Tm.reF, a3, b3, c3]; rfl, ?_, ?_, ?_, ?_⟩
    · simp only [Ck.castF, b4, c4, Bool.or_false, beq_eq_false_iff_ne]
      rw [a1]; exact hc.1.1
    · simp only [Tm.nodes]; omega
    · simp only [Tm.dep]; omega
    · simp only [Tm.nodes]; omega
theorem hcF_eq : ∀ f : Tm, Tm.hcF f = Ck.castF f
  | .nil => rfl
  | .node h kids r => by simp only [Tm.hcF, Ck.castF]; rw [hcF_eq kids, hcF_eq r]
/-- what the law asks, in plain terms -/
theorem tell_less (L : List Bool) (h : Hd) (kids : Tm) (a : Ck.T2) (e : Ck.tell h kids = .ok a) :
    Tm.tellT (lesH L h 0).1 (lsF L kids (lesH L h 0).2).1 h kids = true ∧ ∃ b, Ck.tell (lesH L h 0).1 (lsF L kids (lesH L h 0).2).1 = .ok b ∧ Ty.lessT b.1 b.2 a.1 a.2 = true := by
  by_cases h0 : Tm.chk h kids = 0
  case neg => unfold Ck.tell at e; rw [if_pos h0] at e; cases e
  cases hc : Ck.castT h kids
  case true => unfold Ck.tell at e; rw [if_neg (by omega), if_pos hc] at e; cases e
  rw [Ck.tell_eq h0 hc] at e
  obtain ⟨hnd, hdp, hok⟩ := Ck.chk_parts h0
  obtain ⟨h17, hcF⟩ := Ck.castT_parts hc
  have hok2 := hok
  unfold Tm.okT at hok2
  rw [Bool.and_eq_true] at hok2
  obtain ⟨a1, a2, a3, a4, a5, a6⟩ := lesH_ok L h 0 (Tm.len kids) hok2.1 h17
  obtain ⟨b1, b2, b3, b4, b5, b6, b7⟩ := lsF_ok L kids (lesH L h 0).2 hok2.2 hcF
  generalize (lsF L kids (lesH L h 0).2).1 = kids' at *
  generalize (lesH L h 0).1 = h' at *
  have hok' : Tm.okT h' kids' = true := by unfold Tm.okT; rw [b2, a2, b1]; rfl
  have hc' : Ck.castT h' kids' = false := by unfold Ck.castT; rw [b4, Bool.or_false, beq_eq_false_iff_ne, a1]; exact h17
  have h0' : Tm.chk h' kids' = 0 := by
    unfold Tm.nd at hnd
    unfold Tm.dp at hdp
    refine Ck.chk_of' ?_ ?_ hok'
    · unfold Tm.nd; omega
    · unfold Tm.dp; omega
  have hre : Tm.reT h' kids' h kids = true := by unfold Tm.reT; rw [a3, b3]; rfl
  constructor
  · unfold Tm.tellT
    rw [h0', h0, hre]
    have x : Tm.hcT h' kids' = false := by unfold Tm.hcT; rw [hcF_eq]; exact hc'
    have y : Tm.hcT h kids = false := by unfold Tm.hcT; rw [hcF_eq]; exact hc
    rw [x, y]; rfl
  · rw [Ck.tell_eq h0' hc']
    obtain ⟨b, e', g⟩ := Ck.ty_le (Tm.nodes kids + 1) (h' := h') (kids' := kids') (l' := []) ⟨hok', hok, hre⟩ (by simp [Ck.eLe]) e
    refine ⟨b, ?_, ?_⟩
    · rw [← e']
      exact Ck.ty_more _ _ h' kids' [] hok' (by omega) (by omega)
    · obtain ⟨g1, g2, g3⟩ := g
      unfold Ty.lessT
      have x : Ty.chk b.1 b.2 = 0 := g1
      have y : Ty.chk a.1 a.2 = 0 := g2
      rw [x, y, g3]; rfl
end Ls
end Go.Proofs.YtekjhcfjpedbkaaGreatDoor
