/-
  Layer 14: a term's casts, the term without them, its height. Plain facts.
-/
import Derived.Test.YtfkbdpehdabepaaGreatDoorM12
import Derived.Test.YtfkbdpehdabepaaGreatDoorM13
namespace Go.Proofs.YtfkbdpehdabepaaGreatDoor
open Go.RowKit
namespace Ca
/-- what counts, where it stood -/
def plH (h : Hd) : Hd := { Tm.cnt h with pos := h.pos }
def plF : Tm → Tm
  | .nil => .nil
  | .node h kids r => .node (plH h) (plF kids) (plF r)
/-- the first of a list -/
def hd (d : Hd) : Tm → Hd
  | .nil => d
  | .node h _ _ => h
def kd : Tm → Tm
  | .nil => .nil
  | .node _ k _ => k
/-- without casts -/
def erF : Tm → Tm
  | .nil => .nil
  | .node h kids r => if h.kind = 17 then .node (hd h (erF kids)) (kd (erF kids)) (erF r) else .node h (erF kids) (erF r)
def erH (h : Hd) (kids : Tm) : Hd := if h.kind = 17 then hd h (erF kids) else h
def erK (h : Hd) (kids : Tm) : Tm := if h.kind = 17 then kd (erF kids) else erF kids
theorem erF_node (h : Hd) (kids r : Tm) : erF (.node h kids r) = .node (erH h kids) (erK h kids) (erF r) := by
  unfold erH erK
  by_cases e : h.kind = 17
  · rw [if_pos e, if_pos e]; simp only [erF]; rw [if_pos e]
  · rw [if_neg e, if_neg e]; simp only [erF]; rw [if_neg e]
/-- a term's fields, each ahead of those of its kids -/
def pre : Tm → List Hd
  | .nil => []
  | .node h kids r => h :: (pre kids ++ pre r)
def isC (h : Hd) : Bool := h.kind == 17
def cs (f : Tm) : List Hd := (pre f).filter isC
theorem isC_of {h : Hd} (e : h.kind = 17) : isC h = true := by simp [isC, e]
theorem isC_no {h : Hd} (e : ¬ h.kind = 17) : isC h = false := by simp [isC, e]
theorem cs_nil : cs .nil = [] := rfl
theorem cs_node (h : Hd) (kids r : Tm) : cs (.node h kids r) = (if h.kind = 17 then [h] else []) ++ (cs kids ++ cs r) := by
  unfold cs
  simp only [pre, List.filter_cons, List.filter_append]
  by_cases e : h.kind = 17
  · rw [if_pos e, isC_of e]; rfl
  · rw [if_neg e, isC_no e]; rfl
theorem mem_cs {f : Tm} {h : Hd} (e : h ∈ cs f) : h ∈ pre f ∧ h.kind = 17 := by
  unfold cs at e
  obtain ⟨a, b⟩ := List.mem_filter.mp e
  exact ⟨a, by simpa [isC] using b⟩
theorem pre_ok : ∀ f : Tm, Tm.okF f = true → ∀ h ∈ pre f, ∃ n, Tm.headOk h n = true
  | .nil, _, h, e => by simp [pre] at e
  | .node hd kids r, ho, h, e => by
    simp only [Tm.okF, Bool.and_eq_true] at ho
    simp only [pre, List.mem_cons, List.mem_append] at e
    rcases e with rfl | e | e
    · exact ⟨_, ho.1.1⟩
    · exact pre_ok kids ho.1.2 h e
    · exact pre_ok r ho.2 h e
/-- what a cast is, in a term that is one -/
theorem cast_ok {h : Hd} {n : Nat} (e : h.kind = 17) (ho : Tm.headOk h n = true) : n = 1 ∧ h.label ≠ 0 ∧ -2147483648 ≤ h.label ∧ h.label ≤ 2147483648 ∧ Ty.chk h.tk h.tkids = 0 ∧ Ty.chk h.uk h.ukids = 0 := by
  have e1 : Tm.hasType 17 = true := by decide
  have e2 : Tm.hasTo 17 = true := by decide
  have e3 : Tm.hasLabel 17 = true := by decide
  have e4 : Tm.kidsN 17 = 1 := by decide
  simp [Tm.headOk, Tm.tysOk, e, e1, e2, e3, e4, Tm.labelOk] at ho
  omega
theorem len1 : ∀ {f : Tm}, Tm.len f = 1 → ∃ h k, f = .node h k .nil
  | .nil, e => by simp [Tm.len] at e
  | .node h k .nil, _ => ⟨h, k, rfl⟩
  | .node _ _ (.node _ _ _), e => by simp [Tm.len] at e
theorem kid1 {h : Hd} {kids : Tm} (e : h.kind = 17) (ho : Tm.headOk h (Tm.len kids) = true) : ∃ h1 k1, kids = .node h1 k1 .nil := len1 (cast_ok e ho).1

/-- how often a node counts -/
def wt : List Hd → Nat
  | [] => 0
  | h :: l => 1 + Tm.tyN h + wt l
theorem wt_append : ∀ a b : List Hd, wt (a ++ b) = wt a + wt b
  | [], b => by simp [wt]
  | h :: a, b => by simp only [List.cons_append, wt]; rw [wt_append a b]; omega
theorem nodes_er : ∀ f : Tm, Tm.okF f = true → Tm.nodes f = Tm.nodes (erF f) + wt (cs f)
  | .nil, _ => rfl
  | .node h kids r, ho => by
    simp only [Tm.okF, Bool.and_eq_true] at ho
    have i1 := nodes_er kids ho.1.2
    have i2 := nodes_er r ho.2
    rw [cs_node, wt_append, wt_append]
    simp only [Tm.nodes, erF]
    by_cases e : h.kind = 17
    · obtain ⟨h1, k1, rfl⟩ := kid1 e ho.1.1
      rw [if_pos e, if_pos e]
      rw [erF_node] at i1 ⊢
      simp only [Tm.nodes, hd, kd, wt, erF] at i1 ⊢
      omega
    · rw [if_neg e, if_neg e]
      simp only [Tm.nodes, wt]
      omega
theorem len_er : ∀ f : Tm, Tm.len (erF f) = Tm.len f
  | .nil => rfl
  | .node h kids r => by rw [erF_node]; simp only [Tm.len]; rw [len_er r]
theorem ok_er : ∀ f : Tm, Tm.okF f = true → Tm.okF (erF f) = true
  | .nil, _ => rfl
  | .node h kids r, ho => by
    simp only [Tm.okF, Bool.and_eq_true] at ho
    have i1 := ok_er kids ho.1.2
    have i2 := ok_er r ho.2
    by_cases e : h.kind = 17
    · obtain ⟨h1, k1, rfl⟩ := kid1 e ho.1.1
      rw [erF_node]
      unfold erH erK
      rw [if_pos e, if_pos e]
      rw [erF_node] at i1 ⊢
      simp only [Tm.okF, Bool.and_eq_true, hd, kd] at i1 ⊢
      exact ⟨i1.1, i2⟩
    · simp only [erF]
      rw [if_neg e]
      simp only [Tm.okF, Bool.and_eq_true]
      rw [len_er]
      exact ⟨⟨ho.1.1, i1⟩, i2⟩
theorem dep_er : ∀ f : Tm, Tm.okF f = true → Tm.dep (erF f) ≤ Tm.dep f
  | .nil, _ => Nat.le_refl _
  | .node h kids r, ho => by
    simp only [Tm.okF, Bool.and_eq_true] at ho
    have i1 := dep_er kids ho.1.2
    have i2 := dep_er r ho.2
    rw [erF_node]
    by_cases e : h.kind = 17
    · obtain ⟨h1, k1, rfl⟩ := kid1 e ho.1.1
      unfold erH erK
      rw [if_pos e, if_pos e]
      rw [erF_node] at i1 ⊢
      simp only [Tm.dep, hd, kd, erF] at i1 ⊢
      omega
    · unfold erH erK
      rw [if_neg e, if_neg e]
      simp only [Tm.dep]
      omega
theorem none_er : ∀ f : Tm, Tm.okF f = true → cs (erF f) = []
  | .nil, _ => rfl
  | .node h kids r, ho => by
    simp only [Tm.okF, Bool.and_eq_true] at ho
    have i1 := none_er kids ho.1.2
    have i2 := none_er r ho.2
    rw [erF_node]
    by_cases e : h.kind = 17
    · obtain ⟨h1, k1, rfl⟩ := kid1 e ho.1.1
      unfold erH erK
      rw [if_pos e, if_pos e]
      rw [erF_node] at i1 ⊢
      simp only [hd, kd]
      rw [cs_node] at i1 ⊢
      simp only [List.append_eq_nil_iff] at i1 ⊢
      exact ⟨i1.1, i1.2.1, i2⟩
    · unfold erH erK
      rw [if_neg e, if_neg e, cs_node, if_neg e, i1, i2]
      rfl
theorem er_none : ∀ f : Tm, cs f = [] → erF f = f
  | .nil, _ => rfl
  | .node h kids r, e => by
    rw [cs_node] at e
    simp only [List.append_eq_nil_iff] at e
    have hk : ¬ h.kind = 17 := fun q => by rw [if_pos q] at e; cases e.1
    simp only [erF]
    rw [if_neg hk, er_none kids e.2.1, er_none r e.2.2]

/-- the greatest height -/
def htL : List Hd → Nat
  | [] => 0
  | h :: l => max (Ty.dep (Tm.tys h)) (htL l)
theorem htL_append : ∀ a b : List Hd, htL (a ++ b) = max (htL a) (htL b)
  | [], b => by simp [htL]
  | h :: a, b => by simp only [List.cons_append, htL]; rw [htL_append a b]; omega
theorem ht_er : ∀ f : Tm, Tm.okF f = true → htL (pre (erF f)) ≤ htL (pre f)
  | .nil, _ => Nat.le_refl _
  | .node h kids r, ho => by
    simp only [Tm.okF, Bool.and_eq_true] at ho
    have i1 := ht_er kids ho.1.2
    have i2 := ht_er r ho.2
    rw [erF_node]
    by_cases e : h.kind = 17
    · obtain ⟨h1, k1, rfl⟩ := kid1 e ho.1.1
      unfold erH erK
      rw [if_pos e, if_pos e]
      rw [erF_node] at i1 ⊢
      simp only [hd, kd, pre, htL, htL_append, erF] at i1 ⊢
      omega
    · unfold erH erK
      rw [if_neg e, if_neg e]
      simp only [pre, htL, htL_append]
      omega

theorem tys_cnt (h : Hd) : Tm.tys (Tm.cnt h) = Tm.tys h := by
  unfold Tm.tys Tm.cnt
  dsimp only
  cases h1 : Tm.hasType h.kind
  · simp
  · cases h2 : Tm.hasTo h.kind <;> simp
theorem tys_pl (h : Hd) : Tm.tys (plH h) = Tm.tys h := tys_cnt h
theorem tyN_pl (h : Hd) : Tm.tyN (plH h) = Tm.tyN h := by
  unfold Tm.tyN plH Tm.cnt
  dsimp only
  cases h1 : Tm.hasType h.kind <;> cases h2 : Tm.hasTo h.kind <;> simp
theorem tyD_pl (h : Hd) : Tm.tyD (plH h) = Tm.tyD h := by
  unfold Tm.tyD plH Tm.cnt
  dsimp only
  cases h1 : Tm.hasType h.kind <;> cases h2 : Tm.hasTo h.kind <;> simp
theorem headOk_pl (h : Hd) (n : Nat) : Tm.headOk (plH h) n = Tm.headOk h n := by
  unfold Tm.headOk Tm.nameOk Tm.tysOk plH Tm.cnt
  dsimp only
  by_cases h15 : h.kind = 15
  · have e0 : Tm.hasName 15 = true := by decide
    have e1 : Tm.hasType 15 = false := by decide
    have e2 : Tm.hasTo 15 = false := by decide
    have e3 : Tm.hasLabel 15 = false := by decide
    simp [h15, e0, e1, e2, e3]
  · cases h0 : Tm.hasName h.kind <;> cases h1 : Tm.hasType h.kind <;> cases h2 : Tm.hasTo h.kind <;> cases h3 : Tm.hasLabel h.kind <;> cases h4 : Tm.hasArg h.kind <;> simp [h15]
theorem len_pl : ∀ f : Tm, Tm.len (plF f) = Tm.len f
  | .nil => rfl
  | .node h kids r => by simp only [plF, Tm.len]; rw [len_pl r]
theorem nodes_pl : ∀ f : Tm, Tm.nodes (plF f) = Tm.nodes f
  | .nil => rfl
  | .node h kids r => by simp only [plF, Tm.nodes]; rw [nodes_pl r, nodes_pl kids, tyN_pl]
theorem dep_pl : ∀ f : Tm, Tm.dep (plF f) = Tm.dep f
  | .nil => rfl
  | .node h kids r => by simp only [plF, Tm.dep]; rw [dep_pl r, dep_pl kids, tyD_pl]
theorem ok_pl : ∀ f : Tm, Tm.okF (plF f) = Tm.okF f
  | .nil => rfl
  | .node h kids r => by simp only [plF, Tm.okF]; rw [ok_pl r, ok_pl kids, len_pl, headOk_pl]
theorem plH_idem (h : Hd) : plH (plH h) = plH h := by
  unfold plH Tm.cnt
  dsimp only
  cases h0 : Tm.hasName h.kind <;> cases h1 : Tm.hasType h.kind <;> cases h2 : Tm.hasTo h.kind <;> cases h3 : Tm.hasLabel h.kind <;> cases h4 : Tm.hasArg h.kind <;> cases h5 : Tm.hasNum h.kind <;> simp
theorem plF_idem : ∀ f : Tm, plF (plF f) = plF f
  | .nil => rfl
  | .node h kids r => by simp only [plF]; rw [plF_idem r, plF_idem kids, plH_idem]
theorem pl_er : ∀ f : Tm, plF f = f → plF (erF f) = erF f
  | .nil, _ => rfl
  | .node h kids r, e => by
    simp only [plF] at e
    injection e with e1 e2 e3
    have i1 := pl_er kids e2
    have i2 := pl_er r e3
    rw [erF_node]
    simp only [plF]
    rw [i2]
    unfold erH erK
    by_cases q : h.kind = 17
    · rw [if_pos q, if_pos q]
      cases he : erF kids with
      | nil => simp only [hd, kd, plF]; rw [e1]
      | node a b c =>
        rw [he] at i1
        simp only [plF] at i1
        injection i1 with j1 j2 j3
        simp only [hd, kd]
        rw [j1, j2]
    · rw [if_neg q, if_neg q, e1, i1]
theorem pre_pl : ∀ f : Tm, pre (plF f) = (pre f).map plH
  | .nil => rfl
  | .node h kids r => by simp only [plF, pre, List.map_cons, List.map_append]; rw [pre_pl kids, pre_pl r]
theorem pre_bF : ∀ f : Tm, pre (Tm.bF f) = (pre f).map Tm.cnt
  | .nil => rfl
  | .node h kids r => by simp only [Tm.bF, pre, List.map_cons, List.map_append]; rw [pre_bF kids, pre_bF r]
theorem htL_pl : ∀ l : List Hd, htL (l.map plH) = htL l
  | [] => rfl
  | h :: l => by simp only [List.map_cons, htL]; rw [htL_pl l, tys_pl]
theorem cs_pl (f : Tm) : cs (plF f) = (cs f).map plH := by
  unfold cs; rw [pre_pl, List.filter_map]; rfl
theorem cs_bF (f : Tm) : cs (Tm.bF f) = (cs f).map Tm.cnt := by
  unfold cs; rw [pre_bF, List.filter_map]; rfl

/-- what All tells of a cast -/
abbrev Cz := Int × Fo × Int × Fo × Int
def cz (h : Hd) : Cz := (h.tk, h.tkids, h.uk, h.ukids, h.label)
theorem cz_cnt {h : Hd} (e : h.kind = 17) : cz (Tm.cnt h) = cz h := by
  have e1 : Tm.hasType h.kind = true := by rw [e]; decide
  have e2 : Tm.hasTo h.kind = true := by rw [e]; decide
  have e3 : Tm.hasLabel h.kind = true := by rw [e]; decide
  unfold cz Tm.cnt
  simp [e1, e2, e3]
theorem cz_bF (f : Tm) : (cs (Tm.bF f)).map cz = (cs f).map cz := by
  rw [cs_bF, List.map_map]
  refine List.map_congr_left fun h hm => cz_cnt (mem_cs hm).2
/-- both sides -/
def sp (n : Int) (h : Hd) : Bool := if h.label = n then Ty.belowT 1 h.tk h.tkids h.uk h.ukids else if h.label = -n then Ty.belowT 2 h.tk h.tkids h.uk h.ukids else true
def sn (n : Int) (h : Hd) : Bool := if h.label = n then Ty.belowT 2 h.tk h.tkids h.uk h.ukids else if h.label = -n then Ty.belowT 1 h.tk h.tkids h.uk h.ukids else true
theorem sp_neg (n : Int) {h : Hd} (h0 : h.label ≠ 0) : sp (-n) h = sn n h := by
  unfold sp sn
  by_cases e1 : h.label = n
  · rw [if_pos e1, if_neg (by omega), if_pos (by omega)]
  · rw [if_neg e1]
    by_cases e2 : h.label = -n
    · rw [if_pos e2, if_pos e2]
    · rw [if_neg e2, if_neg e2, if_neg (by omega)]
theorem sn_neg (n : Int) {h : Hd} (h0 : h.label ≠ 0) : sn (-n) h = sp n h := by
  unfold sp sn
  by_cases e1 : h.label = n
  · rw [if_pos e1, if_neg (by omega), if_pos (by omega)]
  · rw [if_neg e1]
    by_cases e2 : h.label = -n
    · rw [if_pos e2, if_pos e2]
    · rw [if_neg e2, if_neg e2, if_neg (by omega)]
def sP (n : Int) (l : List Hd) : Bool := l.all (sp n)
def sN (n : Int) (l : List Hd) : Bool := l.all (sn n)
theorem all_congr' {p q : Hd → Bool} : ∀ l : List Hd, (∀ h ∈ l, p h = q h) → l.all p = l.all q
  | [], _ => rfl
  | h :: l, e => by simp only [List.all_cons]; rw [e h (by simp), all_congr' l fun x hx => e x (by simp [hx])]
theorem sP_neg (n : Int) {l : List Hd} (h0 : ∀ h ∈ l, h.label ≠ 0) : sP (-n) l = sN n l := all_congr' l fun h hm => sp_neg n (h0 h hm)
theorem sN_neg (n : Int) {l : List Hd} (h0 : ∀ h ∈ l, h.label ≠ 0) : sN (-n) l = sP n l := all_congr' l fun h hm => sn_neg n (h0 h hm)
/-- is one of these labels there? -/
def there (n : Int) (l : List Hd) : Bool := l.any fun h => h.label == n || h.label == -n
theorem not_there (n : Int) : ∀ l : List Hd, there n l = false → sP n l = true ∧ sN n l = true
  | [], _ => ⟨rfl, rfl⟩
  | h :: l, e => by
    unfold there at e
    simp only [List.any_cons, Bool.or_eq_false_iff] at e
    obtain ⟨⟨e1, e2⟩, e3⟩ := e
    have i := not_there n l e3
    have e1' : ¬ h.label = n := by simpa using e1
    have e2' : ¬ h.label = -n := by simpa using e2
    unfold sP sN at *
    simp only [List.all_cons]
    rw [i.1, i.2]
    unfold sp sn
    rw [if_neg e1', if_neg e2', if_neg e1', if_neg e2']
    exact ⟨rfl, rfl⟩
end Ca
end Go.Proofs.YtfkbdpehdabepaaGreatDoor
