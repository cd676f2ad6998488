/-
  Layer 14: what follows of a term's casts. Plain facts for the laws. Layer 14: a term in a cast, beside itself. Plain facts.
-/
import Derived.Test.YtfkbdpehdabepaaGreatDoorCaC
namespace Go.Proofs.YtfkbdpehdabepaaGreatDoor
open Go.RowKit
namespace Ca
theorem okF1 {h : Hd} {kids : Tm} (q : Tm.chk h kids = 0) : Tm.okF (.node h kids .nil) = true := by
  unfold Tm.chk at q
  split at q
  · omega
  · split at q
    · omega
    · split at q
      · rename_i ho
        simp only [Tm.okF, Bool.and_true]
        exact ho
      · omega
theorem chk0 {h : Hd} {kids : Tm} (h1 : Tm.nd h kids ≤ 8192) (h2 : Tm.dp h kids ≤ 200) (h3 : Tm.okF (.node h kids .nil) = true) : Tm.chk h kids = 0 := by
  unfold Tm.chk
  rw [if_neg (by omega), if_neg (by omega), if_pos]
  simp only [Tm.okF, Bool.and_true] at h3
  exact h3
theorem chk_dp {h : Hd} {kids : Tm} (q : Tm.chk h kids = 0) : Tm.nd h kids ≤ 8192 ∧ Tm.dp h kids ≤ 200 := by
  unfold Tm.chk at q
  split at q
  · omega
  · split at q
    · omega
    · omega
theorem nodes_nd (h : Hd) (kids : Tm) : Tm.nodes (.node h kids .nil) = Tm.nd h kids := by simp only [Tm.nodes, Tm.nd]; omega
theorem dep_dp (h : Hd) (kids : Tm) : Tm.dep (.node h kids .nil) = Tm.dp h kids := by simp only [Tm.dep, Tm.dp]; omega
theorem label_ne {h : Hd} {kids : Tm} (q : Tm.chk h kids = 0) : ∀ x ∈ cs (.node h kids .nil), x.label ≠ 0 := fun x hx => by
  obtain ⟨h1, h2⟩ := mem_cs hx
  obtain ⟨n, h3⟩ := pre_ok _ (okF1 q) x h1
  exact (cast_ok h2 h3).2.1
theorem sf_swap (n : Int) (h : Hd) (kids : Tm) : sfP (-n) h kids = sfN n h kids ∧ sfN (-n) h kids = sfP n h kids := by
  unfold sfP sfN
  by_cases q : Tm.chk h kids = 0
  · rw [if_pos q, if_pos q, if_pos q, if_pos q]
    exact ⟨sP_neg n (label_ne q), sN_neg n (label_ne q)⟩
  · rw [if_neg q, if_neg q, if_neg q, if_neg q]; exact ⟨rfl, rfl⟩
theorem wt_pl : ∀ l : List Hd, wt (l.map plH) = wt l
  | [] => rfl
  | h :: l => by simp only [List.map_cons, wt]; rw [wt_pl l, tyN_pl]
/-- what Erase gives, of a right term -/
theorem er_facts {h : Hd} {kids : Tm} (q : Tm.chk h kids = 0) : Tm.chk (eH h kids) (eK h kids) = 0 ∧ eH (eH h kids) (eK h kids) = eH h kids ∧ eK (eH h kids) (eK h kids) = eK h kids ∧ allL (eH h kids) (eK h kids) = [] ∧
    Tm.nd h kids = Tm.nd (eH h kids) (eK h kids) + wt (cs (.node h kids .nil)) ∧ htL (pre (.node (eH h kids) (eK h kids) .nil)) ≤ htL (pre (.node h kids .nil)) := by
  have hok := okF1 q
  obtain ⟨hnd, hdp⟩ := chk_dp q
  have hf : plF (.node h kids .nil) = .node (plH h) (plF kids) .nil := rfl
  have hokf : Tm.okF (.node (plH h) (plF kids) .nil) = true := by rw [← hf, ok_pl]; exact hok
  have hu1 : eH h kids = erH (plH h) (plF kids) := by unfold eH; rw [if_pos q]
  have hu2 : eK h kids = erK (plH h) (plF kids) := by unfold eK; rw [if_pos q]
  have hE : erF (.node (plH h) (plF kids) .nil) = .node (eH h kids) (eK h kids) .nil := by rw [hu1, hu2, erF_node]; rfl
  have hn := nodes_er _ hokf
  have hd := dep_er _ hokf
  have ho := ok_er _ hokf
  have hc := none_er _ hokf
  have hh := ht_er _ hokf
  have hp := pl_er (.node (plH h) (plF kids) .nil) (by rw [← hf, plF_idem])
  rw [hE] at hn hd ho hc hh hp
  rw [← hf, nodes_pl, cs_pl, wt_pl, nodes_nd, nodes_nd] at hn
  rw [← hf, dep_pl, dep_dp, dep_dp] at hd
  rw [← hf, pre_pl, htL_pl] at hh
  have hk := chk0 (h := eH h kids) (kids := eK h kids) (by omega) (by omega) ho
  have he := er_none _ hc
  simp only [plF] at hp
  injection hp with p1 p2 p3
  rw [erF_node] at he
  injection he with r1 r2 r3
  refine ⟨hk, ?_, ?_, ?_, hn, hh⟩
  · rw [eH, if_pos hk, p1, p2]; exact r1
  · rw [eK, if_pos hk, p1, p2]; exact r2
  · unfold allL; rw [if_pos hk, hc]; rfl
/-- a row's element -/
theorem RowC.nth {w : World} : ∀ (l : List Cz) (xs : List Value), RowC w l xs → ∀ i c, l[i]? = some c → ∃ T tn tc U un uc, Ty.Is w c.1 c.2.1 T tn tc ∧ Ty.Is w c.2.2.1 c.2.2.2.1 U un uc ∧ ∀ j v, (czv c T tn tc U un uc)[j]? = some v → xs[i * 5 + j]? = some v
  | [], _, _, i, c, e => by simp at e
  | a :: l, xs, h, 0, c, e => by
    obtain ⟨T, tn, tc, U, un, uc, ys, rfl, i1, i2, -⟩ := h
    simp only [List.getElem?_cons_zero, Option.some.injEq] at e
    subst e
    refine ⟨T, tn, tc, U, un, uc, i1, i2, fun j v hv => ?_⟩
    have hj : j < (czv a T tn tc U un uc).length := by
      rcases Nat.lt_or_ge j (czv a T tn tc U un uc).length with q | q
      · exact q
      · rw [List.getElem?_eq_none q] at hv; cases hv
    rw [show 0 * 5 + j = j by omega, List.getElem?_append_left hj]; exact hv
  | a :: l, xs, h, i + 1, c, e => by
    obtain ⟨T, tn, tc, U, un, uc, ys, rfl, -, -, i3⟩ := h
    simp only [List.getElem?_cons_succ] at e
    obtain ⟨T', tn', tc', U', un', uc', j1, j2, j3⟩ := RowC.nth l ys i3 i c e
    refine ⟨T', tn', tc', U', un', uc', j1, j2, fun j v hv => ?_⟩
    rw [show (i + 1) * 5 + j = 5 + (i * 5 + j) by omega, List.getElem?_append_right (by simp [czv])]
    rw [show 5 + (i * 5 + j) - (czv a T tn tc U un uc).length = i * 5 + j by simp [czv]]
    exact j3 j v hv
theorem RowAt.nth {w : World} {L : List Cz} {G : Option Addr} {m k : Nat} (h : RowAt w L G m k) {i : Nat} {c : Cz} (hi : L[i]? = some c) : ∃ g T tn tc U un uc, G = some ⟨g, 0, none⟩ ∧ Ty.Is w c.1 c.2.1 T tn tc ∧ Ty.Is w c.2.2.1 c.2.2.2.1 U un uc ∧
    w.cell? ⟨g, i * 5, none⟩ = some (.int .i8 c.1) ∧ w.cell? ⟨g, i * 5 + 1, none⟩ = some (.slice T tn tc) ∧ w.cell? ⟨g, i * 5 + 2, none⟩ = some (.int .i8 c.2.2.1) ∧ w.cell? ⟨g, i * 5 + 3, none⟩ = some (.slice U un uc) ∧ w.cell? ⟨g, i * 5 + 4, none⟩ = some (.int .i64 c.2.2.2.2) := by
  obtain ⟨h1, h2, h3, h4, h5⟩ := h
  rcases h5 with rfl | ⟨g, xs, rfl, hr, hc⟩
  · simp at hi
  · obtain ⟨T, tn, tc, U, un, uc, i1, i2, i3⟩ := RowC.nth L xs hr i c hi
    exact ⟨g, T, tn, tc, U, un, uc, rfl, i1, i2, hc _ _ (i3 0 _ rfl), hc _ _ (i3 1 _ rfl), hc _ _ (i3 2 _ rfl), hc _ _ (i3 3 _ rfl), hc _ _ (i3 4 _ rfl)⟩
theorem RowAt.below {w w' : World} {L : List Cz} {G : Option Addr} {m k : Nat} (h : RowAt w L G m k) (hb : Below w.heap.size w w') : RowAt w' L G m k := by
  obtain ⟨h1, h2, h3, h4, h5⟩ := h
  refine ⟨h1, h2, h3, h4, ?_⟩
  rcases h5 with h5 | ⟨g, xs, e, hr, hc⟩
  · exact .inl h5
  · exact .inr ⟨g, xs, e, RowC.kept (.of_below hb) _ _ hr, fun j u hu => by rw [hb.cell (p := ⟨g, j, none⟩) (Ty.cell_lt (hc j u hu))]; exact hc j u hu⟩
theorem there_snoc (n : Int) (l : List Hd) (x : Hd) : there n (l ++ [x]) = (there n l || (x.label == n || x.label == -n)) := by unfold there; rw [List.any_append]; simp
theorem wt_snoc (l : List Hd) (x : Hd) : wt (l ++ [x]) = wt l + 1 + Tm.tyN x := by rw [wt_append]; simp only [wt]; omega
end Ca
end Go.Proofs.YtfkbdpehdabepaaGreatDoor
namespace Go.Proofs.YtfkbdpehdabepaaGreatDoor
open Go.RowKit
namespace Ca
section
variable (k1 : Int) (f1 : Fo) (k2 : Int) (f2 : Fo) (n : Int) (h : Hd) (kids : Tm)
def cvU (k1 : Int) (f1 : Fo) (k2 : Int) (f2 : Fo) (n : Int) : Hd := ⟨17, ⟨#[]⟩, ⟨#[]⟩, 0, k1, f1, k2, f2, n, 0⟩
def cvV : Hd := ⟨9, ⟨#[]⟩, ⟨#[]⟩, 0, 0, .nil, 0, .nil, 0, 0⟩
def cvL (k1 : Int) (f1 : Fo) (k2 : Int) (f2 : Fo) : Hd := ⟨4, ⟨#[120]⟩, ⟨#[]⟩, 0, 4, Ty.two k1 f1 k2 f2, 0, .nil, 0, 0⟩
def cvY : Hd := ⟨2, ⟨#[]⟩, ⟨#[]⟩, 0, 0, .nil, 0, .nil, 0, 0⟩
end
variable {k1 : Int} {f1 : Fo} {k2 : Int} {f2 : Fo} {n : Int} {h : Hd} {kids : Tm}
theorem cv_chk (q : Tm.chk cvV (.node (cvU k1 f1 k2 f2 n) (.node h kids .nil) (.node h kids .nil)) = 0) :
    Tm.chk (cvU k1 f1 k2 f2 n) (.node h kids .nil) = 0 ∧ Tm.chk h kids = 0 ∧ Ty.chk k1 f1 = 0 ∧ Ty.chk k2 f2 = 0 ∧ Ty.nodes f1 + Ty.nodes f2 + 5 ≤ 8192 ∧ Ty.dep f1 ≤ 197 ∧ Ty.dep f2 ≤ 197 := by
  obtain ⟨hnd, hdp⟩ := chk_dp q
  have hok := okF1 q
  simp only [Tm.okF, Bool.and_eq_true] at hok
  obtain ⟨⟨-, ⟨⟨ou, ⟨⟨ot, ok⟩, -⟩⟩, -⟩⟩, -⟩ := hok
  obtain ⟨-, -, -, -, c1, c2⟩ := cast_ok (h := cvU k1 f1 k2 f2 n) rfl ou
  have e1 : Tm.tyN (cvU k1 f1 k2 f2 n) = Ty.nod f1 + Ty.nod f2 := rfl
  have e2 : Tm.tyD (cvU k1 f1 k2 f2 n) = max (Ty.dpt f1) (Ty.dpt f2) := rfl
  have e3 : Ty.nod f1 = min (Ty.nodes f1 + 1) 8193 := rfl
  have e4 : Ty.nod f2 = min (Ty.nodes f2 + 1) 8193 := rfl
  simp only [Tm.nd, Tm.nodes, e1] at hnd
  simp only [Tm.dp, Tm.dep, e2] at hdp
  have e5 : Ty.dpt f1 = if 8192 < Ty.nodes f1 + 1 then 201 else min (Ty.dep f1 + 1) 201 := rfl
  have e6 : Ty.dpt f2 = if 8192 < Ty.nodes f2 + 1 then 201 else min (Ty.dep f2 + 1) 201 := rfl
  rw [if_neg (by omega)] at e5 e6
  refine ⟨chk0 ?_ ?_ ?_, chk0 ?_ ?_ ?_, c1, c2, by omega, by omega, by omega⟩
  · simp only [Tm.nd, Tm.nodes, e1]; omega
  · simp only [Tm.dp, Tm.dep, e2]; omega
  · simp only [Tm.okF, Bool.and_eq_true]; exact ⟨⟨ou, ⟨ot, ok⟩, trivial⟩, trivial⟩
  · simp only [Tm.nd]; omega
  · simp only [Tm.dp]; omega
  · simp only [Tm.okF, Bool.and_eq_true]; exact ⟨⟨ot, ok⟩, trivial⟩
theorem cv_lam (c1 : Ty.chk k1 f1 = 0) (c2 : Ty.chk k2 f2 = 0) (hn : Ty.nodes f1 + Ty.nodes f2 + 5 ≤ 8192) (h1 : Ty.dep f1 ≤ 197) (h2 : Ty.dep f2 ≤ 197) : Tm.chk (cvL k1 f1 k2 f2) (.node cvY .nil .nil) = 0 := by
  have o1 : Ty.okK k1 (Ty.len f1) = true ∧ Ty.okF f1 = true := by have q := (Ty.chk_ok c1).1; unfold Ty.okT at q; rwa [Bool.and_eq_true] at q
  have o2 : Ty.okK k2 (Ty.len f2) = true ∧ Ty.okF f2 = true := by have q := (Ty.chk_ok c2).1; unfold Ty.okT at q; rwa [Bool.and_eq_true] at q
  have ht : Ty.chk 4 (Ty.two k1 f1 k2 f2) = 0 := by
    unfold Ty.chk
    rw [if_neg (by simp only [Ty.two, Ty.nodes]; omega), if_neg (by simp only [Ty.two, Ty.dep]; omega), if_pos]
    simp only [Ty.two, Ty.len, Ty.okF, Bool.and_eq_true]
    exact ⟨rfl, ⟨o1.1, o1.2⟩, ⟨o2.1, o2.2⟩, trivial⟩
  have e1 : Tm.tyN (cvL k1 f1 k2 f2) = Ty.nod (Ty.two k1 f1 k2 f2) := rfl
  have e2 : Tm.tyD (cvL k1 f1 k2 f2) = max (Ty.dpt (Ty.two k1 f1 k2 f2)) 0 := rfl
  have e3 : Ty.nod (Ty.two k1 f1 k2 f2) = min (Ty.nodes (Ty.two k1 f1 k2 f2) + 1) 8193 := rfl
  have e5 : Ty.dpt (Ty.two k1 f1 k2 f2) = if 8192 < Ty.nodes (Ty.two k1 f1 k2 f2) + 1 then 201 else min (Ty.dep (Ty.two k1 f1 k2 f2) + 1) 201 := rfl
  have e7 : Tm.tyN cvY = 0 := rfl
  have e8 : Tm.tyD cvY = 0 := rfl
  rw [if_neg (by simp only [Ty.two, Ty.nodes]; omega)] at e5
  have e3' : Ty.nod (Ty.two k1 f1 k2 f2) ≤ Ty.nodes f1 + Ty.nodes f2 + 3 := by
    have q : Ty.nodes (Ty.two k1 f1 k2 f2) = Ty.nodes f1 + 1 + (Ty.nodes f2 + 1 + 0) := rfl
    rw [e3]
    refine Nat.le_trans (Nat.min_le_left _ _) ?_
    rw [q]
    omega
  have e5' : Ty.dpt (Ty.two k1 f1 k2 f2) ≤ 199 := by
    have q : Ty.dep (Ty.two k1 f1 k2 f2) = max (Ty.dep f1 + 1) (max (Ty.dep f2 + 1) 0) := rfl
    rw [e5]
    refine Nat.le_trans (Nat.min_le_left _ _) ?_
    rw [q]
    omega
  have n1 : Tm.nodes (.node cvY .nil .nil) = 1 := rfl
  have d1 : Tm.dep (.node cvY .nil .nil) = 1 := rfl
  clear e3 e5 e7 e8
  generalize Ty.nod (Ty.two k1 f1 k2 f2) = Y1 at *
  generalize Ty.dpt (Ty.two k1 f1 k2 f2) = Y2 at *
  refine chk0 ?_ ?_ ?_
  · unfold Tm.nd; rw [e1, n1]; omega
  · unfold Tm.dp; rw [e2, d1]; omega
  · have hk : Tm.headOk (cvL k1 f1 k2 f2) 1 = true := by
      have hx : Tm.tysOk (cvL k1 f1 k2 f2) = (Ty.chk 4 (Ty.two k1 f1 k2 f2) == 0) := by
        show ((!Tm.hasType 4 || Ty.chk 4 (Ty.two k1 f1 k2 f2) == 0) && (!Tm.hasTo 4 || Ty.chk 0 .nil == 0)) = _
        rw [show Tm.hasType 4 = true by decide, show Tm.hasTo 4 = false by decide]
        simp
      have hy : Tm.nameOk (cvL k1 f1 k2 f2) = true := (by kernel_rfl : Tm.nameOk (⟨4, ⟨#[120]⟩, ⟨#[]⟩, 0, 4, .nil, 0, .nil, 0, 0⟩ : Hd) = true)
      unfold Tm.headOk
      rw [hx, hy, ht]
      exact (by decide : (Tm.isKind 4 && decide (1 = Tm.kidsN 4) && true && (!Tm.hasLabel 4 || Tm.labelOk 0) && (0 : Nat) == 0) = true)
    simp only [Tm.okF, Bool.and_eq_true]
    exact ⟨⟨hk, ⟨(by decide : Tm.headOk cvY 0 = true), trivial⟩, trivial⟩, trivial⟩
theorem cv_htl : htL (pre (.node (cvL k1 f1 k2 f2) (.node cvY .nil .nil) .nil)) = 1 + max (Ty.dep f1 + 1) (Ty.dep f2 + 1) := by
  have e1 : Tm.tys (cvL k1 f1 k2 f2) = .node 0 0 4 (Ty.two k1 f1 k2 f2) .nil := rfl
  have e2 : Tm.tys cvY = .nil := rfl
  simp only [pre, htL, List.append_nil, e1, e2, Ty.dep, Ty.two]
  omega
theorem cv_htu : htL (pre (.node (cvU k1 f1 k2 f2 n) (.node h kids .nil) .nil)) = max (max (Ty.dep f1 + 1) (Ty.dep f2 + 1)) (htL (pre (.node h kids .nil))) := by
  have e1 : Tm.tys (cvU k1 f1 k2 f2 n) = .node 0 0 k1 f1 (.node 0 0 k2 f2 .nil) := rfl
  simp only [pre, htL, List.append_nil, e1, Ty.dep]
  omega
theorem cv_alls (q : Tm.chk cvV (.node (cvU k1 f1 k2 f2 n) (.node h kids .nil) (.node h kids .nil)) = 0) :
    allL (cvU k1 f1 k2 f2 n) (.node h kids .nil) = (k1, f1, k2, f2, n) :: allL h kids ∧ allL cvV (.node (cvU k1 f1 k2 f2 n) (.node h kids .nil) (.node h kids .nil)) = (k1, f1, k2, f2, n) :: (allL h kids ++ allL h kids) := by
  obtain ⟨qu, qt, -⟩ := cv_chk q
  unfold allL
  rw [if_pos q, if_pos qu, if_pos qt]
  have hu : cs (.node (cvU k1 f1 k2 f2 n) (.node h kids .nil) .nil) = cvU k1 f1 k2 f2 n :: cs (.node h kids .nil) := by
    rw [cs_node, if_pos (show (cvU k1 f1 k2 f2 n).kind = 17 from rfl), cs_nil]; simp
  have hv : cs (.node cvV (.node (cvU k1 f1 k2 f2 n) (.node h kids .nil) (.node h kids .nil)) .nil) = cvU k1 f1 k2 f2 n :: (cs (.node h kids .nil) ++ cs (.node h kids .nil)) := by
    rw [cs_node, if_neg (by decide), cs_node (cvU k1 f1 k2 f2 n), if_pos (show (cvU k1 f1 k2 f2 n).kind = 17 from rfl), cs_nil]; simp
  rw [hu, hv]
  refine ⟨rfl, ?_⟩
  rw [List.map_cons, List.map_append]; rfl
theorem cv_er (qu : Tm.chk (cvU k1 f1 k2 f2 n) (.node h kids .nil) = 0) (qt : Tm.chk h kids = 0) : eH (cvU k1 f1 k2 f2 n) (.node h kids .nil) = eH h kids ∧ eK (cvU k1 f1 k2 f2 n) (.node h kids .nil) = eK h kids := by
  have hk : (plH (cvU k1 f1 k2 f2 n)).kind = 17 := rfl
  obtain ⟨e1, e2⟩ := er_cast (h1 := plH h) (k1 := plF kids) hk
  unfold eH eK
  rw [if_pos qu, if_pos qu, if_pos qt, if_pos qt]
  exact ⟨e1, e2⟩
end Ca
end Go.Proofs.YtfkbdpehdabepaaGreatDoor
