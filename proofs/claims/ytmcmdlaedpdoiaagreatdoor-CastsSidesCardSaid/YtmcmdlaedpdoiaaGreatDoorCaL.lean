/-
  Layer 14: what follows of a term's casts. Plain facts for the laws.
-/
import Derived.Test.YtmcmdlaedpdoiaaGreatDoorCaC
namespace Go.Proofs.YtmcmdlaedpdoiaaGreatDoor
open Go.RowKit
namespace Ca
theorem okF1 {h : Hd} {kids : Tm} (q : Tm.chk h kids = 0) : Tm.okF (.node h kids .nil) = true := by
  unfold Tm.chk at q
  split at q
  · omega
  · split at q
    · omega
    · split at q
      · rename_i ho
        simp only [Tm.okF, Bool.and_true]
        exact ho
      · omega
theorem chk0 {h : Hd} {kids : Tm} (h1 : Tm.nd h kids ≤ 8192) (h2 : Tm.dp h kids ≤ 200) (h3 : Tm.okF (.node h kids .nil) = true) : Tm.chk h kids = 0 := by
  unfold Tm.chk
  rw [if_neg (by omega), if_neg (by omega), if_pos]
  simp only [Tm.okF, Bool.and_true] at h3
  exact h3
theorem chk_dp {h : Hd} {kids : Tm} (q : Tm.chk h kids = 0) : Tm.nd h kids ≤ 8192 ∧ Tm.dp h kids ≤ 200 := by
  unfold Tm.chk at q
  split at q
  · omega
  · split at q
    · omega
    · omega
theorem nodes_nd (h : Hd) (kids : Tm) : Tm.nodes (.node h kids .nil) = Tm.nd h kids := by simp only [Tm.nodes, Tm.nd]; omega
theorem dep_dp (h : Hd) (kids : Tm) : Tm.dep (.node h kids .nil) = Tm.dp h kids := by simp only [Tm.dep, Tm.dp]; omega
theorem label_ne {h : Hd} {kids : Tm} (q : Tm.chk h kids = 0) : ∀ x ∈ cs (.node h kids .nil), x.label ≠ 0 := fun x hx => by
  obtain ⟨h1, h2⟩ := mem_cs hx
  obtain ⟨n, h3⟩ := pre_ok _ (okF1 q) x h1
  exact (cast_ok h2 h3).2.1
theorem sf_swap (n : Int) (h : Hd) (kids : Tm) : sfP (-n) h kids = sfN n h kids ∧ sfN (-n) h kids = sfP n h kids := by
  unfold sfP sfN
  by_cases q : Tm.chk h kids = 0
  · rw [if_pos q, if_pos q, if_pos q, if_pos q]
    exact ⟨sP_neg n (label_ne q), sN_neg n (label_ne q)⟩
  · rw [if_neg q, if_neg q, if_neg q, if_neg q]; exact ⟨rfl, rfl⟩
theorem wt_pl : ∀ l : List Hd, wt (l.map plH) = wt l
  | [] => rfl
  | h :: l => by simp only [List.map_cons, wt]; rw [wt_pl l, tyN_pl]
/-- what Erase gives, of a right term -/
theorem er_facts {h : Hd} {kids : Tm} (q : Tm.chk h kids = 0) : Tm.chk (eH h kids) (eK h kids) = 0 ∧ eH (eH h kids) (eK h kids) = eH h kids ∧ eK (eH h kids) (eK h kids) = eK h kids ∧ allL (eH h kids) (eK h kids) = [] ∧
    Tm.nd h kids = Tm.nd (eH h kids) (eK h kids) + wt (cs (.node h kids .nil)) ∧ htL (pre (.node (eH h kids) (eK h kids) .nil)) ≤ htL (pre (.node h kids .nil)) := by
  have hok := okF1 q
  obtain ⟨hnd, hdp⟩ := chk_dp q
  have hf : plF (.node h kids .nil) = .node (plH h) (plF kids) .nil := rfl
  have hokf : Tm.okF (.node (plH h) (plF kids) .nil) = true := by rw [← hf, ok_pl]; exact hok
  have hu1 : eH h kids = erH (plH h) (plF kids) := by unfold eH; rw [if_pos q]
  have hu2 : eK h kids = erK (plH h) (plF kids) := by unfold eK; rw [if_pos q]
  have hE : erF (.node (plH h) (plF kids) .nil) = .node (eH h kids) (eK h kids) .nil := by rw [hu1, hu2, erF_node]; rfl
  have hn := nodes_er _ hokf
  have hd := dep_er _ hokf
  have ho := ok_er _ hokf
  have hc := none_er _ hokf
  have hh := ht_er _ hokf
  have hp := pl_er (.node (plH h) (plF kids) .nil) (by rw [← hf, plF_idem])
  rw [hE] at hn hd ho hc hh hp
  rw [← hf, nodes_pl, cs_pl, wt_pl, nodes_nd, nodes_nd] at hn
  rw [← hf, dep_pl, dep_dp, dep_dp] at hd
  rw [← hf, pre_pl, htL_pl] at hh
  have hk := chk0 (h := eH h kids) (kids := eK h kids) (by omega) (by omega) ho
  have he := er_none _ hc
  simp only [plF] at hp
  injection hp with p1 p2 p3
  rw [erF_node] at he
  injection he with r1 r2 r3
  refine ⟨hk, ?_, ?_, ?_, hn, hh⟩
  · rw [eH, if_pos hk, p1, p2]; exact r1
  · rw [eK, if_pos hk, p1, p2]; exact r2
  · unfold allL; rw [if_pos hk, hc]; rfl
/-- a row's element -/
theorem RowC.nth {w : World} : ∀ (l : List Cz) (xs : List Value), RowC w l xs → ∀ i c, l[i]? = some c → ∃ T tn tc U un uc, Ty.Is w c.1 c.2.1 T tn tc ∧ Ty.Is w c.2.2.1 c.2.2.2.1 U un uc ∧ ∀ j v, (czv c T tn tc U un uc)[j]? = some v → xs[i * 5 + j]? = some v
  | [], _, _, i, c, e => by simp at e
  | a :: l, xs, h, 0, c, e => by
    obtain ⟨T, tn, tc, U, un, uc, ys, rfl, i1, i2, -⟩ := h
    simp only [List.getElem?_cons_zero, Option.some.injEq] at e
    subst e
    refine ⟨T, tn, tc, U, un, uc, i1, i2, fun j v hv => ?_⟩
    have hj : j < (czv a T tn tc U un uc).length := by
      rcases Nat.lt_or_ge j (czv a T tn tc U un uc).length with q | q
      · exact q
      · rw [List.getElem?_eq_none q] at hv; cases hv
    rw [show 0 * 5 + j = j by omega, List.getElem?_append_left hj]; exact hv
  | a :: l, xs, h, i + 1, c, e => by
    obtain ⟨T, tn, tc, U, un, uc, ys, rfl, -, -, i3⟩ := h
    simp only [List.getElem?_cons_succ] at e
    obtain ⟨T', tn', tc', U', un', uc', j1, j2, j3⟩ := RowC.nth l ys i3 i c e
    refine ⟨T', tn', tc', U', un', uc', j1, j2, fun j v hv => ?_⟩
    rw [show (i + 1) * 5 + j = 5 + (i * 5 + j) by omega, List.getElem?_append_right (by simp [czv])]
    rw [show 5 + (i * 5 + j) - (czv a T tn tc U un uc).length = i * 5 + j by simp [czv]]
    exact j3 j v hv
theorem RowAt.nth {w : World} {L : List Cz} {G : Option Addr} {m k : Nat} (h : RowAt w L G m k) {i : Nat} {c : Cz} (hi : L[i]? = some c) : ∃ g T tn tc U un uc, G = some ⟨g, 0, none⟩ ∧ Ty.Is w c.1 c.2.1 T tn tc ∧ Ty.Is w c.2.2.1 c.2.2.2.1 U un uc ∧
    w.cell? ⟨g, i * 5, none⟩ = some (.int .i8 c.1) ∧ w.cell? ⟨g, i * 5 + 1, none⟩ = some (.slice T tn tc) ∧ w.cell? ⟨g, i * 5 + 2, none⟩ = some (.int .i8 c.2.2.1) ∧ w.cell? ⟨g, i * 5 + 3, none⟩ = some (.slice U un uc) ∧ w.cell? ⟨g, i * 5 + 4, none⟩ = some (.int .i64 c.2.2.2.2) := by
  obtain ⟨h1, h2, h3, h4, h5⟩ := h
  rcases h5 with rfl | ⟨g, xs, rfl, hr, hc⟩
  · simp at hi
  · obtain ⟨T, tn, tc, U, un, uc, i1, i2, i3⟩ := RowC.nth L xs hr i c hi
    exact ⟨g, T, tn, tc, U, un, uc, rfl, i1, i2, hc _ _ (i3 0 _ rfl), hc _ _ (i3 1 _ rfl), hc _ _ (i3 2 _ rfl), hc _ _ (i3 3 _ rfl), hc _ _ (i3 4 _ rfl)⟩
theorem RowAt.below {w w' : World} {L : List Cz} {G : Option Addr} {m k : Nat} (h : RowAt w L G m k) (hb : Below w.heap.size w w') : RowAt w' L G m k := by
  obtain ⟨h1, h2, h3, h4, h5⟩ := h
  refine ⟨h1, h2, h3, h4, ?_⟩
  rcases h5 with h5 | ⟨g, xs, e, hr, hc⟩
  · exact .inl h5
  · exact .inr ⟨g, xs, e, RowC.kept (.of_below hb) _ _ hr, fun j u hu => by rw [hb.cell (p := ⟨g, j, none⟩) (Ty.cell_lt (hc j u hu))]; exact hc j u hu⟩
theorem there_snoc (n : Int) (l : List Hd) (x : Hd) : there n (l ++ [x]) = (there n l || (x.label == n || x.label == -n)) := by unfold there; rw [List.any_append]; simp
theorem wt_snoc (l : List Hd) (x : Hd) : wt (l ++ [x]) = wt l + 1 + Tm.tyN x := by rw [wt_append]; simp only [wt]; omega
end Ca
end Go.Proofs.YtmcmdlaedpdoiaaGreatDoor
