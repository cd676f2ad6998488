/-
  Plain facts for P2.6: types that are the same have one text; brackets in pairs; with a pair less it is no such type's.
-/
import Derived.Test.YtkpdddlonmkebaaDoorScTy
import Derived.Test.YtkpdddlonmkebaaDoorRdQ4
namespace Go.Proofs.YtkpdddlonmkebaaDoor
namespace Ty
theorem eqF_all : ∀ f g : Fo, eqF f g = true → nodes f = nodes g ∧ dep f = dep g ∧ okF f = okF g ∧ len f = len g ∧ ∀ p b, txtIn f p b = txtIn g p b
  | .nil, .nil, _ => ⟨rfl, rfl, rfl, rfl, fun _ _ => rfl⟩
  | .nil, .node _ _ _ _ _, h => by simp [eqF] at h
  | .node _ _ _ _ _, .nil, h => by simp [eqF] at h
  | .node _ _ k kk r, .node _ _ k' kk' r', h => by
    simp only [eqF, Bool.and_eq_true, beq_iff_eq] at h
    obtain ⟨⟨hk, h1⟩, h2⟩ := h
    subst hk
    obtain ⟨a1, a2, a3, a4, a5⟩ := eqF_all kk kk' h1
    obtain ⟨b1, b2, b3, b4, b5⟩ := eqF_all r r' h2
    refine ⟨by simp only [nodes]; omega, by simp only [dep]; rw [a2, b2], by simp only [okF]; rw [a3, a4, b3], by simp only [len]; omega, fun p b => ?_⟩
    simp only [txtIn]
    rw [a5, b5]
theorem eqT_all {k k' : Int} {f g : Fo} (h : eqT k f k' g = true) : k' = k ∧ chk k f = chk k g ∧ okT k f = okT k g ∧ ∀ q, txt k f q = txt k g q := by
  unfold eqT at h
  rw [Bool.and_eq_true, beq_iff_eq] at h
  obtain ⟨rfl, h⟩ := h
  obtain ⟨a1, a2, a3, a4, a5⟩ := eqF_all f g h
  exact ⟨rfl, by unfold chk; rw [a1, a2, a3, a4], by unfold okT; rw [a3, a4], fun q => by unfold txt; rw [a5]⟩
end Ty
namespace Rd
theorem mb_eq : ∀ (K : Nat) (q : Nat) (k : Int) (f g : Fo), Ty.nodes f < K → Ty.eqF f g = true → mb q k f = mb q k g
  | 0, _, _, _, _, h, _ => absurd h (by omega)
  | K + 1, q, k, f, g, hK, h => by
    match f, g, hK, h with
    | .nil, .nil, _, _ => rfl
    | .nil, .node _ _ _ _ _, _, h => simp [Ty.eqF] at h
    | .node _ _ _ _ _, .nil, _, h => simp [Ty.eqF] at h
    | .node _ _ _ _ .nil, .node _ _ _ _ .nil, _, _ => rfl
    | .node _ _ _ _ .nil, .node _ _ _ _ (.node _ _ _ _ _), _, h => simp [Ty.eqF] at h
    | .node _ _ _ _ (.node _ _ _ _ _), .node _ _ _ _ .nil, _, h => simp [Ty.eqF] at h
    | .node _ _ _ _ (.node _ _ _ _ (.node _ _ _ _ _)), .node _ _ _ _ (.node _ _ _ _ .nil), _, h => simp [Ty.eqF] at h
    | .node _ _ _ _ (.node _ _ _ _ .nil), .node _ _ _ _ (.node _ _ _ _ (.node _ _ _ _ _)), _, h => simp [Ty.eqF] at h
    | .node _ _ _ _ (.node _ _ _ _ (.node _ _ _ _ _)), .node _ _ _ _ (.node _ _ _ _ (.node _ _ _ _ _)), _, _ => rfl
    | .node _ _ a aa (.node _ _ b bb .nil), .node _ _ a' aa' (.node _ _ b' bb' .nil), hK, h =>
      simp only [Ty.eqF, Bool.and_eq_true, beq_iff_eq] at h
      simp only [Ty.nodes] at hK
      obtain ⟨⟨e1, h1⟩, ⟨e2, h2⟩, -⟩ := h
      subst e1; subst e2
      show (if binds k < q then 1 else 0) + mb (lft k) a aa + mb (rgt k) b bb = (if binds k < q then 1 else 0) + mb (lft k) a aa' + mb (rgt k) b bb'
      rw [mb_eq K (lft k) a aa aa' (by omega) h1, mb_eq K (rgt k) b bb bb' (by omega) h2]

/-- an open bracket counts up, a closed one down -/
def dl (x : Int × List UInt8) : Int := if x.2 = [40] then 1 else if x.2 = [41] then -1 else 0
def sm (ws : List (Int × List UInt8)) : Int := (ws.map dl).sum
theorem sm_app (a b : List (Int × List UInt8)) : sm (a ++ b) = sm a + sm b := by unfold sm; rw [List.map_append, List.sum_append]
theorem sm_one (x : Int × List UInt8) : sm [x] = dl x := by unfold sm; simp
def Good (ws : List (Int × List UInt8)) : Prop := sm ws = 0 ∧ ∀ n, 0 ≤ sm (ws.take n)
theorem Good.app {a b : List (Int × List UInt8)} (h : Good a) (g : Good b) : Good (a ++ b) := by
  refine ⟨by rw [sm_app, h.1, g.1]; rfl, fun n => ?_⟩
  rw [List.take_append, sm_app]
  have := h.2 n
  have := g.2 (n - a.length)
  omega
theorem Good.one {x : Int × List UInt8} (h : dl x = 0) : Good [x] := by
  refine ⟨by rw [sm_one, h], fun n => ?_⟩
  cases n with
  | zero => exact Int.le_refl _
  | succ n => rw [List.take_of_length_le (by simp), sm_one, h]; exact Int.le_refl _
theorem Good.wrap {a : List (Int × List UInt8)} (h : Good a) : Good ([((4 : Int), ([40] : List UInt8))] ++ a ++ [(4, [41])]) := by
  have ho : dl ((4 : Int), ([40] : List UInt8)) = 1 := by decide
  have hc : dl ((4 : Int), ([41] : List UInt8)) = -1 := by decide
  refine ⟨by rw [sm_app, sm_app, sm_one, sm_one, h.1, ho, hc]; rfl, fun n => ?_⟩
  rw [List.take_append, sm_app, List.take_append, sm_app]
  have h1 := h.2 (n - [((4 : Int), ([40] : List UInt8))].length)
  cases n with
  | zero => simp [sm]
  | succ n =>
    have e1 : sm ([((4 : Int), ([40] : List UInt8))].take (n + 1)) = 1 := by rw [List.take_of_length_le (by simp), sm_one, ho]
    have e2 : -1 ≤ sm ([((4 : Int), ([41] : List UInt8))].take (n + 1 - ([((4 : Int), ([40] : List UInt8))] ++ a).length)) := by
      generalize n + 1 - ([((4 : Int), ([40] : List UInt8))] ++ a).length = m
      cases m with
      | zero => simp [sm]
      | succ m => rw [List.take_of_length_le (by simp), sm_one, hc]; exact Int.le_refl _
    omega
/-- is the word an open bracket? -/
def op (x : Int × List UInt8) : Bool := x.1 == 4 && x.2 == [40]

theorem wds_all : ∀ (K : Nat) (q : Nat) (k : Int) (f : Fo), Ty.nodes f < K → Good (wds q k f) ∧ (wds q k f).countP op = mb q k f ∧ ∀ x ∈ wds q k f, (x.2 = [40] ∨ x.2 = [41] → x.1 = 4) ∧ (x.1 = 3 ∨ x.1 = 4)
  | 0, _, _, _, h => absurd h (by omega)
  | K + 1, q, k, f, hK => by
    have leaf : Good (if k = 0 then [((4 : Int), ([63] : List UInt8))] else if k = 1 then [(3, sInt)] else [(3, sBool)]) ∧ (if k = 0 then [((4 : Int), ([63] : List UInt8))] else if k = 1 then [(3, sInt)] else [(3, sBool)]).countP op = 0 ∧
        ∀ x ∈ (if k = 0 then [((4 : Int), ([63] : List UInt8))] else if k = 1 then [(3, sInt)] else [(3, sBool)]), (x.2 = [40] ∨ x.2 = [41] → x.1 = 4) ∧ (x.1 = 3 ∨ x.1 = 4) := by
      split
      · exact ⟨Good.one (by decide), by decide, fun x hx => by obtain rfl := List.mem_singleton.1 hx; decide⟩
      · split
        · exact ⟨Good.one (by decide), by decide, fun x hx => by obtain rfl := List.mem_singleton.1 hx; decide⟩
        · exact ⟨Good.one (by decide), by decide, fun x hx => by obtain rfl := List.mem_singleton.1 hx; decide⟩
    match f, hK with
    | .nil, _ => exact leaf
    | .node _ _ _ _ .nil, _ => exact leaf
    | .node _ _ _ _ (.node _ _ _ _ (.node _ _ _ _ _)), _ => exact leaf
    | .node _ _ a aa (.node _ _ b bb .nil), hK =>
      simp only [Ty.nodes] at hK
      obtain ⟨g1, c1, m1⟩ := wds_all K (lft k) a aa (by omega)
      obtain ⟨g2, c2, m2⟩ := wds_all K (rgt k) b bb (by omega)
      have hop : dl ((4 : Int), if k = 3 then sArrow else if k = 4 then [42] else [43]) = 0 ∧ op ((4 : Int), if k = 3 then sArrow else if k = 4 then [42] else [43]) = false ∧ ((if k = 3 then sArrow else if k = 4 then [42] else [43]) = [40] ∨ (if k = 3 then sArrow else if k = 4 then [42] else [43]) = [41] → (4 : Int) = 4) := by
        refine ⟨?_, ?_, fun _ => rfl⟩
        · split
          · decide
          · split <;> decide
        · split
          · decide
          · split <;> decide
      have hi : Good (wds (lft k) a aa ++ [(4, if k = 3 then sArrow else if k = 4 then [42] else [43])] ++ wds (rgt k) b bb) := (g1.app (Good.one hop.1)).app g2
      have hn : (wds (lft k) a aa ++ [((4 : Int), if k = 3 then sArrow else if k = 4 then [42] else [43])] ++ wds (rgt k) b bb).countP op = mb (lft k) a aa + mb (rgt k) b bb := by
        rw [List.countP_append, List.countP_append, c1, c2, List.countP_singleton, hop.2.1]; rfl
      have hm : ∀ x ∈ wds (lft k) a aa ++ [((4 : Int), if k = 3 then sArrow else if k = 4 then [42] else [43])] ++ wds (rgt k) b bb, (x.2 = [40] ∨ x.2 = [41] → x.1 = 4) ∧ (x.1 = 3 ∨ x.1 = 4) := by
        intro x hx
        rcases List.mem_append.1 hx with hx | hx
        · rcases List.mem_append.1 hx with hx | hx
          · exact m1 x hx
          · obtain rfl := List.mem_singleton.1 hx; exact ⟨fun _ => rfl, .inr rfl⟩
        · exact m2 x hx
      show Good (if binds k < q then _ else _) ∧ (if binds k < q then _ else _ : List (Int × List UInt8)).countP op = (if binds k < q then 1 else 0) + mb (lft k) a aa + mb (rgt k) b bb ∧ ∀ x ∈ (if binds k < q then _ else _ : List (Int × List UInt8)), _
      by_cases hb : binds k < q
      · rw [if_pos hb, if_pos hb]
        refine ⟨hi.wrap, ?_, fun x hx => ?_⟩
        · rw [List.countP_append, List.countP_append, hn]
          show 1 + _ + 0 = _
          omega
        · rcases List.mem_append.1 hx with hx | hx
          · rcases List.mem_append.1 hx with hx | hx
            · obtain rfl := List.mem_singleton.1 hx; exact ⟨fun _ => rfl, .inr rfl⟩
            · exact hm x hx
          · obtain rfl := List.mem_singleton.1 hx; exact ⟨fun _ => rfl, .inr rfl⟩
      · rw [if_neg hb, if_neg hb]
        exact ⟨hi, by rw [hn]; omega, hm⟩

/-- kind and text -/
def kt (x : W4) : Int × List UInt8 := (x.kind, x.text.toList)
theorem sees_kt {l : List W4} {i : Nat} {k : Int} {t : List UInt8} : sees l i k t = ((l.map kt)[i]?.any fun x => x.1 == k && x.2 == t) := by
  unfold sees
  rw [List.getElem?_map]
  cases l[i]? <;> rfl
theorem pc_count (l : List W4) : ∀ j, j ≤ l.length → pc l j = (l.take j).countP (fun x => op (kt x))
  | 0, _ => rfl
  | j + 1, h => by
    have e : l.take (j + 1) = l.take j ++ [l[j]'(by omega)] := (List.take_append_getElem (by omega)).symm
    rw [e, List.countP_append, ← pc_count l j (by omega), List.countP_singleton]
    simp only [pc]
    congr 1
    unfold sees
    rw [List.getElem?_eq_getElem (by omega)]
    rfl
/-- a row of words that a type's text gives -/
structure OfType (l : List W4) (k : Int) (f : Fo) : Prop where
  words : l.map kt = wds 1 k f ++ [(0, [])]
  ok : Ty.chk k f = 0
theorem OfType.len {l : List W4} {k : Int} {f : Fo} (h : OfType l k f) : l.length = (wds 1 k f).length + 1 := by
  have := congrArg List.length h.words
  simpa using this
/-- the words are read as the type, to the last one -/
theorem OfType.out {l : List W4} {k : Int} {f : Fo} (h : OfType l k f) : ∃ g, Ty.eqT k f k g = true ∧ Out l 0 k g (l.length - 1) 0 0 ⟨#[]⟩ := by
  have hlen := h.len
  have hst : Stand l 0 (wds 1 k f) := by
    intro j x hx
    rw [Nat.zero_add, sees_kt, h.words, List.getElem?_append_left (List.getElem?_eq_some_iff.1 hx).1, hx]
    simp
  have hend : sees l (0 + (wds 1 k f).length) 0 [] = true := by
    rw [sees_kt, h.words, Nat.zero_add, List.getElem?_append_right (Nat.le_refl _), Nat.sub_self]; rfl
  have hop := opK_not hend (.inl (by decide)) (.inl (by decide)) (.inl (by decide))
  obtain ⟨g, he, hr⟩ := reads l (Ty.nodes f + 1) 1 k f 0 (Nat.lt_succ_self _) (Ty.chk_ok h.ok).1 (by decide) hst (.inr (.inr (.inl hop)))
  refine ⟨g, he, .inl ⟨?_, ?_, rfl, rfl, rfl⟩⟩
  · have hw := hr 1 _ (Nat.le_refl _) (.stop (.inl hop))
    rwa [show 0 + (wds 1 k f).length = l.length - 1 by omega] at hw
  · rw [← (Ty.eqT_all he).2.1]; exact h.ok
/-- with an open bracket less no such type is read -/
theorem OfType.less {l m : List W4} {k : Int} {f : Fo} (h : OfType l k f) (hm : m.countP (fun x => op (kt x)) + 1 = l.countP (fun x => op (kt x))) {k' : Int} {f' : Fo} {j : Nat} (hr : R m (.wh 1 0) (.ok k' f' j)) : Ty.eqT k f k' f' = false := by
  cases he : Ty.eqT k f k' f' with
  | false => rfl
  | true =>
    have h1 := hr.wants (by decide)
    have h2 := hr.goes (by simp [Tg.start])
    simp only [Tg.start] at h2
    have h3 := pc_mono m h2.2
    rw [pc_count m m.length (Nat.le_refl _), List.take_length] at h3
    have h4 : l.countP (fun x => op (kt x)) = mb 1 k f := by
      have : (l.map kt).countP op = l.countP (fun x => op (kt x)) := by rw [List.countP_map]; rfl
      rw [← this, h.words, List.countP_append, (wds_all _ 1 k f (Nat.lt_succ_self _)).2.1]
      rfl
    obtain ⟨e1, -⟩ := Ty.eqT_all he
    subst e1
    unfold Ty.eqT at he
    rw [Bool.and_eq_true] at he
    rw [← mb_eq _ 1 _ f f' (Nat.lt_succ_self _) he.2] at h1
    simp only [pc] at h1
    omega

/-- two words taken away, the first an open bracket, the second none -/
theorem count_less {l : List W4} {i k : Nat} (hik : i < k) (hkl : k < l.length) {x y : W4} (hx : l[i]? = some x) (hy : l[k]? = some y) (ox : op (kt x) = true) (oy : op (kt y) = false) :
    (l.take i ++ (l.drop (i + 1)).take (k - (i + 1)) ++ l.drop (k + 1)).countP (fun x => op (kt x)) + 1 = l.countP (fun x => op (kt x)) := by
  have e1 : l = l.take i ++ ([x] ++ (((l.drop (i + 1)).take (k - (i + 1))) ++ ([y] ++ l.drop (k + 1)))) := by
    have a1 : l.drop i = [x] ++ l.drop (i + 1) := by
      rw [List.drop_eq_getElem_cons (by omega)]
      rw [List.getElem?_eq_getElem (by omega)] at hx
      injection hx with hx
      rw [hx]; rfl
    have a2 : l.drop k = [y] ++ l.drop (k + 1) := by
      rw [List.drop_eq_getElem_cons (by omega)]
      rw [List.getElem?_eq_getElem (by omega)] at hy
      injection hy with hy
      rw [hy]; rfl
    have a3 : l.drop (i + 1) = (l.drop (i + 1)).take (k - (i + 1)) ++ l.drop k := by
      have := (List.take_append_drop (k - (i + 1)) (l.drop (i + 1))).symm
      rw [List.drop_drop, show i + 1 + (k - (i + 1)) = k by omega] at this
      exact this
    rw [← a2, ← a3, ← a1, List.take_append_drop]
  conv => rhs; rw [e1]
  rw [List.countP_append, List.countP_append, List.countP_append, List.countP_append, List.countP_append, List.countP_append, List.countP_singleton, List.countP_singleton]
  simp only [ox, oy]
  simp
  omega

/-- the bracket's partner: what the search knows behind the k-th word -/
def Seek (l : List W4) (i k : Nat) (o : Int) : Prop := sm ((l.map kt).take (k + 1)) = o + sm ((l.map kt).take i)
theorem Seek.start {l : List W4} {i : Nat} {x : W4} (hx : l[i]? = some x) (h : x.text.toList = [40]) : Seek l i i 1 := by
  unfold Seek
  have hi : i < l.length := (List.getElem?_eq_some_iff.1 hx).1
  have e : (l.map kt).take (i + 1) = (l.map kt).take i ++ [kt x] := by
    rw [List.take_add_one, List.getElem?_map, hx]; rfl
  rw [e, sm_app, sm_one]
  have : dl (kt x) = 1 := by unfold dl kt; rw [if_pos h]
  omega
theorem Seek.in {l : List W4} {k : Int} {f : Fo} (h : OfType l k f) {i n : Nat} {o : Int} (hs : Seek l i n o) (ho : 0 < o) : n + 2 < l.length := by
  have hlen := h.len
  obtain ⟨g1, g2⟩ := (wds_all _ 1 k f (Nat.lt_succ_self _)).1
  unfold Seek at hs
  rw [h.words] at hs
  have hz : sm [((0 : Int), ([] : List UInt8))] = 0 := by decide
  have hp : 0 ≤ sm ((wds 1 k f ++ [(0, [])]).take i) := by
    rw [List.take_append, sm_app]
    have := g2 i
    have h2 : sm ([((0 : Int), ([] : List UInt8))].take (i - (wds 1 k f).length)) = 0 := by
      generalize i - (wds 1 k f).length = m
      cases m with
      | zero => rfl
      | succ m => rw [List.take_of_length_le (by simp)]; exact hz
    omega
  rcases Nat.lt_or_ge (n + 2) l.length with h1 | h1
  · exact h1
  · exfalso
    have h2 : sm ((wds 1 k f ++ [(0, [])]).take (n + 1)) = 0 := by
      rw [List.take_append, sm_app, List.take_of_length_le (by omega), g1]
      generalize n + 1 - (wds 1 k f).length = m
      cases m with
      | zero => rfl
      | succ m => rw [List.take_of_length_le (by simp)]; exact hz
    omega
theorem Seek.step {l : List W4} {i n : Nat} {o : Int} {x : W4} (hs : Seek l i n o) (hx : l[n + 1]? = some x) : Seek l i (n + 1) (o + dl (kt x)) := by
  unfold Seek at hs ⊢
  have e : (l.map kt).take (n + 1 + 1) = (l.map kt).take (n + 1) ++ [kt x] := by
    rw [List.take_add_one, List.getElem?_map, hx]; rfl
  rw [e, sm_app, sm_one, hs]
  omega
end Rd
end Go.Proofs.YtkpdddlonmkebaaDoor
