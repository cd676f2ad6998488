/-
  TypesBack: there and back, with the fewest brackets.
-/
import Derived.Test.YtkpdddlonmkebaaDoorBack0
import Derived.Test.YtkpdddlonmkebaaDoorLawReads
import Derived.Test.YtkpdddlonmkebaaDoorScanT
import Derived.Deep.AppendLies
namespace Go.Proofs.YtkpdddlonmkebaaDoor
open Go.RowKit Rd

theorem step_append_own {P : Program} (w : World) {ops : Array Oper} {o : Oper} {a : Act} {K : Act → World → Prop} {Q : Exit → Act → World → Prop} {E : Prop} (hgd : o.guard = none) (s x : Operand) (t : TypeId)
    (ho : o.op = .call { callee := .builtin .append, args := #[s, x], argTypes := #[t, t] })
    (base : Nat) (e : TypeId) (i : TypeInfo) (z : Value) (size bytes : Nat) (ht : P.underlying t = some (.slice e)) (hi : P.info? e = some i) (hz : i.zero = some z)
    (hsize : i.size = size) (hby : i.bytes = bytes) (hzs : z.cells.size = size) (hsz : 0 < size)
    (v : Value) (n : Nat) (xs : List Value) (hs : a.eval s = v) (hown : w.ownsRow base e size v n xs)
    (ad : Addr) (m c : Nat) (news : List Value) (hx : a.eval x = .slice (some ad) m c) (hl : news.length = m * size) (hnews : ∀ j u, news[j]? = some u → w.cell? (ad.add j) = some u) (h1 : ∀ u ∈ news, u.oneCell' = true)
    (h63 : n + m ≤ maxLen) (hbytes : (n + m) * bytes ≤ 140737488355328) (hbase : base ≤ w.heap.size)
    (h : ∀ v' w', w'.ownsRow base e size v' (n + m) (xs ++ news) → w.grownBy w' v.ownBlock → (v' = .slice none 0 0 ↔ v = .slice none 0 0 ∧ m = 0) → K (a.put o.dst v') w') :
    if Region.wanted o (yielded ops a.tmps) = true then Oper.wp P o a w K Q else E := by
  have hw : Region.wanted o (yielded ops a.tmps) = true := by simp [Region.wanted, hgd]
  rw [if_pos hw]
  exact wp_append_own w s x t ho base e i z size bytes ht hi hz hsize hby hzs hsz v n xs hs hown ad m c news hx hl hnews h1 h63 hbytes hbase h

/-- a word of the scanner's as a word that is read -/
def toW (x : Sc.Wd) : W4 := ⟨x.1, x.2.1, x.2.2.1, (x.2.2.2 : Nat)⟩
theorem flat_toW (ws : List Sc.Wd) : Rd.flat (ws.map toW) = Sc.flat ws := by unfold Rd.flat Sc.flat; rw [List.flatMap_map]; rfl
theorem wds_small : ∀ (K : Nat) (q : Nat) (k : Int) (f : Fo), Ty.nodes f < K → ∀ x ∈ wds q k f, x.2.length ≤ 4
  | 0, _, _, _, h => absurd h (by omega)
  | K + 1, q, k, f, hK => by
    have leaf : ∀ x ∈ (if k = 0 then [((4 : Int), ([63] : List UInt8))] else if k = 1 then [(3, sInt)] else [(3, sBool)]), x.2.length ≤ 4 := by
      intro x hx
      split at hx
      · obtain rfl := List.mem_singleton.1 hx; decide
      · split at hx
        · obtain rfl := List.mem_singleton.1 hx; decide
        · obtain rfl := List.mem_singleton.1 hx; decide
    match f, hK with
    | .nil, _ => exact leaf
    | .node _ _ _ _ .nil, _ => exact leaf
    | .node _ _ _ _ (.node _ _ _ _ (.node _ _ _ _ _)), _ => exact leaf
    | .node _ _ a aa (.node _ _ b bb .nil), hK =>
      simp only [Ty.nodes] at hK
      have m1 := wds_small K (lft k) a aa (by omega)
      have m2 := wds_small K (rgt k) b bb (by omega)
      have hm : ∀ x ∈ wds (lft k) a aa ++ [((4 : Int), if k = 3 then sArrow else if k = 4 then [42] else [43])] ++ wds (rgt k) b bb, x.2.length ≤ 4 := by
        intro x hx
        rcases List.mem_append.1 hx with hx | hx
        · rcases List.mem_append.1 hx with hx | hx
          · exact m1 x hx
          · obtain rfl := List.mem_singleton.1 hx
            show List.length (if k = 3 then sArrow else if k = 4 then [42] else [43]) ≤ 4
            split
            · decide
            · split <;> decide
        · exact m2 x hx
      show ∀ x ∈ (if binds k < q then _ else _ : List (Int × List UInt8)), _
      by_cases hb : binds k < q
      · rw [if_pos hb]
        intro x hx
        rcases List.mem_append.1 hx with hx | hx
        · rcases List.mem_append.1 hx with hx | hx
          · obtain rfl := List.mem_singleton.1 hx; decide
          · exact hm x hx
        · obtain rfl := List.mem_singleton.1 hx; decide
      · rw [if_neg hb]; exact hm
theorem wds_len : ∀ (K : Nat) (q : Nat) (k : Int) (f : Fo), Ty.nodes f < K → (wds q k f).length ≤ 3 * Ty.nodes f + 1
  | 0, _, _, _, h => absurd h (by omega)
  | K + 1, q, k, f, hK => by
    have leaf : (if k = 0 then [((4 : Int), ([63] : List UInt8))] else if k = 1 then [(3, sInt)] else [(3, sBool)]).length = 1 := by
      split
      · rfl
      · split <;> rfl
    match f, hK with
    | .nil, _ => exact Nat.le_trans (Nat.le_of_eq leaf) (by omega)
    | .node _ _ _ _ .nil, _ => exact Nat.le_trans (Nat.le_of_eq leaf) (by omega)
    | .node _ _ _ _ (.node _ _ _ _ (.node _ _ _ _ _)), _ => exact Nat.le_trans (Nat.le_of_eq leaf) (by omega)
    | .node _ _ a aa (.node _ _ b bb .nil), hK =>
      simp only [Ty.nodes] at hK ⊢
      have m1 := wds_len K (lft k) a aa (by omega)
      have m2 := wds_len K (rgt k) b bb (by omega)
      show List.length (if binds k < q then _ else _ : List (Int × List UInt8)) ≤ _
      by_cases hb : binds k < q
      · rw [if_pos hb]; simp only [List.length_append, List.length_singleton]; omega
      · rw [if_neg hb]; simp only [List.length_append, List.length_singleton]; omega
/-- the words of a type's text -/
theorem words_of {k : Int} {f : Fo} (hc : Ty.chk k f = 0) : ∃ l : List W4, OfType l k f ∧ (∀ x ∈ l, x.text.size ≤ 281474976710656) ∧ (Sc.tk (Ty.textT k f) 0).2 = none ∧ (Ty.textT k f).size ≤ 65536 ∧
    l.length = (Sc.tk (Ty.textT k f) 0).1.length + 1 ∧ l.length ≤ 65537 ∧ Rd.flat l = Sc.flat ((Sc.tk (Ty.textT k f) 0).1 ++ [(0, ⟨#[]⟩, 0, (Ty.textT k f).size)]) := by
  obtain ⟨hok, hn, -⟩ := Ty.chk_ok hc
  have hd : (Ty.textT k f).data.toList = Ty.txt k f 1 := by unfold Ty.textT; rw [if_pos hc]
  obtain ⟨h1, h2⟩ := Sc.scan_type (Ty.textT k f) k f hok hd
  have hsz : (Ty.textT k f).size ≤ 65536 := by
    have h3 := Ty.txt5 _ k f 1 (Nat.lt_succ_self _) hok
    have h4 := Sc.data_len (Ty.textT k f)
    rw [hd] at h4
    omega
  have hw : (((Sc.tk (Ty.textT k f) 0).1 ++ [((0 : Int), (⟨#[]⟩ : ByteArray), (0 : Int), (Ty.textT k f).size)]).map toW).map kt = wds 1 k f ++ [(0, [])] := by
    rw [List.map_map, List.map_append]
    have e : (Sc.tk (Ty.textT k f) 0).1.map (kt ∘ toW) = wds 1 k f := h2
    rw [e]
    show wds 1 k f ++ [((0 : Int), (⟨#[]⟩ : ByteArray).toList)] = _
    rw [lit_list _ [] rfl]
  refine ⟨((Sc.tk (Ty.textT k f) 0).1 ++ [((0 : Int), (⟨#[]⟩ : ByteArray), (0 : Int), (Ty.textT k f).size)]).map toW, ⟨hw, hc⟩, ?_, h1, hsz, by simp, ?_, flat_toW _⟩
  · intro x hx
    have hk : kt x ∈ wds 1 k f ++ [((0 : Int), ([] : List UInt8))] := by rw [← hw]; exact List.mem_map.2 ⟨x, hx, rfl⟩
    have hl : (kt x).2.length ≤ 4 := by
      rcases List.mem_append.1 hk with h | h
      · exact wds_small _ 1 k f (Nat.lt_succ_self _) _ h
      · obtain h := List.mem_singleton.1 h; rw [h]; decide
    have e : (kt x).2.length = x.text.size := by
      show x.text.toList.length = _
      rw [Lib.toList_data, Sc.data_len]
    omega
  · have h5 := wds_len _ 1 k f (Nat.lt_succ_self _)
    have h6 := congrArg List.length h2
    simp only [List.length_map] at h6
    simp only [List.length_map, List.length_append, List.length_singleton]
    omega
theorem row_of_owns0 {w : World} {e : TypeId} {g : Nat} {cur : Array Value} {l : List W4} (h : w.heap[g]? = some (.cells cur e (0, 0))) (ht : cur.toList.take (l.length * 4) = Rd.flat l) : WRow w (some ⟨g, 0, none⟩) l := by
  intro i x hx
  have hil : i < l.length := (List.getElem?_eq_some_iff.1 hx).1
  obtain ⟨f0, f1, f2, f3⟩ := Rd.flat_get l i x hx
  have hc : ∀ j u, (Rd.flat l)[j]? = some u → w.cell? ⟨g, 0 + j, none⟩ = some u := by
    intro j u hu
    refine cell_of_heap h (0 + j) ?_
    rw [← Array.getElem?_toList, Nat.zero_add]
    rw [← ht, List.getElem?_take] at hu
    split at hu
    · exact hu
    · cases hu
  exact ⟨g, 0, rfl, hc _ _ f0, hc _ _ f1, hc _ _ f2, hc _ _ f3⟩
theorem Rd.flat_app (a b : List W4) : Rd.flat (a ++ b) = Rd.flat a ++ Rd.flat b := by unfold Rd.flat; rw [List.flatMap_append]
theorem addr_add (b o i : Nat) : (⟨b, o, none⟩ : Addr).add i = ⟨b, o + i, none⟩ := by unfold Addr.add; by_cases h : i = 0 <;> simp [h]
/-- a stretch of a row -/
theorem WRow.sub {w : World} {M : Nat} {l : List W4} (h : WRow w (some ⟨M, 0, none⟩) l) (a m : Nat) (ha : a ≤ l.length) : ∀ j u, (Rd.flat ((l.drop a).take m))[j]? = some u → w.cell? ((⟨M, a * 4, none⟩ : Addr).add j) = some u := by
  intro j u hu
  have e : Rd.flat l = Rd.flat (l.take a) ++ (Rd.flat ((l.drop a).take m) ++ Rd.flat ((l.drop a).drop m)) := by
    rw [← Rd.flat_app, ← Rd.flat_app, List.take_append_drop, List.take_append_drop]
  have h1 : (Rd.flat l)[a * 4 + j]? = some u := by
    rw [e, List.getElem?_append_right (by rw [Rd.flat_length, List.length_take]; omega), Rd.flat_length, List.length_take, Nat.min_eq_left ha, Nat.add_sub_cancel_left, List.getElem?_append_left (List.getElem?_eq_some_iff.1 hu).1]
    exact hu
  have h2 := h.cells _ _ h1
  rw [addr_add] at h2 ⊢
  rwa [Nat.zero_add] at h2
theorem WRow.front {w : World} {M : Nat} {l : List W4} (h : WRow w (some ⟨M, 0, none⟩) l) (i : Nat) : ∀ j u, (Rd.flat (l.take i))[j]? = some u → w.cell? ((⟨M, 0, none⟩ : Addr).add j) = some u := by
  have := h.sub 0 i (Nat.zero_le _)
  rwa [List.drop_zero, Nat.zero_mul] at this
theorem owns_none (w : World) (e : TypeId) (m : Nat) : ((w.alloc (.cells #[] e)).drewN m).ownsRow w.heap.size e 4 (.slice (some ⟨w.heap.size, 0, none⟩) 0 0) 0 [] := ⟨rfl, .inr ⟨w.heap.size, 0, #[], rfl, Nat.le_refl _, heap_new w _, Nat.le_refl _, Nat.zero_le _, rfl, rfl⟩⟩
theorem eqlFaultNil (p : Option Addr) (w : World) : (binOp .eql 31 (.iface 53 (.pointer p)) .nilIface).run Tryd.prog w = .ok (.bool false) w := by kernel_rfl
theorem _root_.Go.Proofs.YtkpdddlonmkebaaDoor.Rd.OfType.opens {l : List W4} {k : Int} {f : Fo} (h : OfType l k f) {x : W4} (hx : x ∈ l) (ht : x.text.toList = [40]) : op (kt x) = true := by
  have hm : kt x ∈ wds 1 k f ++ [((0 : Int), ([] : List UInt8))] := by rw [← h.words]; exact List.mem_map.2 ⟨x, hx, rfl⟩
  rcases List.mem_append.1 hm with hm | hm
  · have := ((wds_all _ 1 k f (Nat.lt_succ_self _)).2.2 _ hm).1 (.inl ht)
    unfold op
    rw [this, show (kt x).2 = [40] from ht]
    rfl
  · obtain hm := List.mem_singleton.1 hm
    have : (kt x).2 = [40] := ht
    rw [hm] at this
    cases this
theorem placed_zero (n : Nat) : placed n 0 = 0 := by unfold placed; omega

set_option maxHeartbeats 8000000 in
set_option maxRecDepth 100000 in
theorem law_TypesBack_bad (k : Int) (f : Fo) (A : Option Addr) (n c : Nat) (w : World) (hIs : Ty.Is w k f A n c) (hS : Shapes w) (hc : Ty.chk k f ≠ 0) :
    Calls Tryd.prog 4 #[.agg #[.int .i8 k, .slice A n c]] w fun e w' => e = .returned (.bool true) ∧ Below w.heap.size w w' := by
  have hB0 := (Below.refl w.heap.size w).alloc (Nat.le_refl _) (.cells #[.int .i8 k, .slice A n c] 29)
  have HX := Lib.hid (heap_new w (.cells #[.int .i8 k, .slice A n c] 29))
  have CT := Lib.hid (fun (W : World) (hb : Below w.heap.size w W) => text_any k f A n c W (hIs.below hb) (hS.below hb))
  have CC := Lib.hid (fun (W : World) (hb : Below w.heap.size w W) => check_any k f A n c W (hIs.below hb) (hS.below hb))
  have CW := Lib.hid (fun (W : World) (hb : Below w.heap.size w W) => wakes_any W (hS.below hb))
  have ht : Ty.textT k f = ⟨#[]⟩ := by unfold Ty.textT; rw [if_neg hc]
  rw [ht] at CT
  have hn : (((Ty.chk k f : Nat) : Int) != 0) = true := by simp; omega
  generalize Ty.chk k f = C at *
  have HB0 := Lib.hid hB0
  clear hIs hS ht hc hB0
  obtain ⟨x0, x1, -, -, xl⟩ := own2 HX.out
  go_enter Tryd.func4, Tryd.ntmps4
  go_wp2_with fail
  refine (CT.out _ HB0.out).mono ?_
  rintro e w2 ⟨rfl, hb⟩
  have HB2 := Lib.hid (HB0.out.trans (hb.mono HB0.out.size))
  clear x0 x1 xl
  obtain ⟨x0, x1, -, -, xl⟩ := own2 (heap_below hb (heap_lt HX.out) HX.out)
  clear hb
  go_wp2_with fail
  refine (CC.out _ HB2.out).mono ?_
  rintro e w3 ⟨rfl, hb⟩
  have HB3 := Lib.hid (HB2.out.trans (hb.mono HB2.out.size))
  clear hb
  go_wp2_with fail
  refine (CW.out _ HB3.out).mono ?_
  rintro e w4 ⟨rfl, hb⟩
  go_wp2_with fail
  go_ret
  exact ⟨rfl, HB3.out.trans (hb.mono HB3.out.size)⟩

set_option maxHeartbeats 16000000 in
set_option maxRecDepth 100000 in
theorem law_TypesBack_ok (k : Int) (f : Fo) (A : Option Addr) (n c : Nat) (w : World) (hIs : Ty.Is w k f A n c) (hS : Shapes w) (hc : Ty.chk k f = 0) (tp : TypeId) (p : Value) (hvar : w.var? Tryd.prog "strconv.ErrRange" = some #[.iface tp p]) :
    Calls Tryd.prog 4 #[.agg #[.int .i8 k, .slice A n c]] w fun e w' => e = .returned (.bool true) ∧ Below w.heap.size w w' := by
  obtain ⟨l, hO, hsm, htk, hsz, hll, hlb, hfl⟩ := words_of hc
  obtain ⟨g, hg, hout⟩ := hO.out
  obtain ⟨-, hcg, -, htx⟩ := Ty.eqT_all hg
  have hB0 := (Below.refl w.heap.size w).alloc (Nat.le_refl _) (.cells #[.int .i8 k, .slice A n c] 29)
  have HX := Lib.hid (heap_new w (.cells #[.int .i8 k, .slice A n c] 29))
  have CT := Lib.hid (fun (W : World) (hb : Below w.heap.size w W) => text_any k f A n c W (hIs.below hb) (hS.below hb))
  rw [hc] at CT
  have CA := Lib.hid (fun (W : World) (hb : Below w.heap.size w W) => all_loop (Ty.textT k f) hsz W tp p (var_at hb hvar))
  have HIS := Lib.hid hIs
  have HS := Lib.hid hS
  have HO := Lib.hid hO
  have HSM := Lib.hid hsm
  have HTK := Lib.hid htk
  have HFL := Lib.hid hfl
  have HLL := Lib.hid hll
  have HG := Lib.hid hg
  have HOUT := Lib.hid hout
  have HSAME := Lib.hid (show Ty.sameT k f k g = true by unfold Ty.sameT; rw [hc, ← hcg, hc, hg]; rfl)
  have HTG := Lib.hid (show Ty.textT k g = Ty.textT k f by unfold Ty.textT; rw [← hcg, htx])
  have HCG := Lib.hid (show Ty.chk k g = 0 by rw [← hcg]; exact hc)
  have HB0 := Lib.hid hB0
  have hlen0 : 0 < l.length := by omega
  clear hIs hS hO hsm htk hfl hll hg hout hcg htx hvar hB0
  obtain ⟨x0, x1, -, -, xl⟩ := own2 HX.out
  generalize hs : Ty.textT k f = s at *
  have hs2 := Lib.hid hs
  clear hs
  go_enter Tryd.func4, Tryd.ntmps4
  go_wp2_with fail
  refine (CT.out _ HB0.out).mono ?_
  rintro e w2 ⟨rfl, hb⟩
  have HB2 := Lib.hid (HB0.out.trans (hb.mono HB0.out.size))
  have HX2 := Lib.hid (heap_below hb (heap_lt HX.out) HX.out)
  clear x0 x1 xl hb
  go_wp2_with fail
  refine (CA.out _ HB2.out).mono ?_
  rintro e w3 (⟨v, -, rfl, hown, hb⟩ | ⟨fl, NN, hbad, -⟩)
  case inr => exact absurd (HTK.out.symm.trans hbad) (by simp)
  rw [← HLL.out, ← HFL.out] at hown
  obtain ⟨-, ⟨-, hz⟩ | ⟨M, cap, cur, rfl, hM, hh, hle, hcap, hsz3, htk3⟩⟩ := hown
  · omega
  have HB3 := Lib.hid (HB2.out.trans (hb.mono HB2.out.size))
  have HX3 := Lib.hid (heap_below hb (heap_lt HX2.out) HX2.out)
  have HW3 := Lib.hid (row_of_owns0 hh htk3)
  have hMl := heap_lt hh
  have HCL := Lib.hid (show l.length ≤ cap from hle)
  have hlm : l.length < maxLen := by unfold maxLen; omega
  have hMw : w.heap.size < M := by have := heap_lt HX2.out; omega
  clear hb hh hle hsz3 htk3 hM HLL HFL HTK hsz CA CT HX2 HB2
  go_wp2_with fail
  refine (read_all l (some ⟨M, 0, none⟩) cap 0 w3 HW3.out (HS.out.below HB3.out) hlm HSM.out).mono ?_
  rintro e w4 ⟨k', kids', N, E, a, t, G, m, cg, err, hO', rfl, hF, hT, hb⟩
  rw [placed_zero] at hO'
  obtain ⟨rfl, rfl, rfl, rfl, rfl, rfl⟩ := HOUT.out.det hO'
  rcases hT with ⟨rfl, -⟩ | ⟨_, -, -, hE⟩
  case inr => exact absurd hE (by decide)
  obtain ⟨L, hL⟩ : ∃ L, l.length = L + 1 := ⟨l.length - 1, by omega⟩
  have HLL := Lib.hid hL
  have hbx := (Below.refl w4.heap.size w4).alloc (Nat.le_refl _) (.cells #[.int .i8 k', .slice G m cg] 29)
  have h34 := hb.size
  have HX5 := Lib.hid (heap_below hbx (by have := heap_lt HX3.out; omega) (heap_below hb (heap_lt HX3.out) HX3.out))
  have HB5 := Lib.hid ((HB3.out.trans (hb.mono HB3.out.size)).trans (hbx.mono (by have := HB3.out.size; omega)))
  have HW5 := Lib.hid ((HW3.out.below hb).below hbx)
  have HF5 := Lib.hid (hF.below hbx)
  have HP5 := Lib.hid (heap_new w4 (.cells #[.int .i8 k', .slice G m cg] 29))
  clear hb hbx hF hO' HX3 HB3 HW3 hlen0
  obtain ⟨x0, x1, -, -, xl⟩ := own2 HX5.out
  obtain ⟨p0, p1, -, -, pl⟩ := own2 HP5.out
  have i5 : (L : Int) + 1 ≤ 9223372036854775807 := by omega
  rw [hL]
  clear hL
  go_wp2_with fail
  clear x0 x1 xl p0 p1 pl
  generalize w4.alloc (.cells #[.int .i8 k', .slice G m cg] 29) = w5 at *
  generalize w4.heap.size = P at *
  have CS := same_any k' f A n c k' kids' G m cg w5 (HIS.out.below HB5.out) HF5.out.is (HS.out.below HB5.out)
  rw [HSAME.out] at CS
  refine CS.mono ?_
  rintro e w6 ⟨rfl, hb⟩
  have HB6 := Lib.hid (HB5.out.trans (hb.mono HB5.out.size))
  have HX6 := Lib.hid (heap_below hb (heap_lt HX5.out) HX5.out)
  have HP6 := Lib.hid (heap_below hb (heap_lt HP5.out) HP5.out)
  have HW6 := Lib.hid (HW5.out.below hb)
  have HF6 := Lib.hid (HF5.out.below hb)
  clear CS hb HB5 HX5 HP5 HW5 HF5
  obtain ⟨p0, p1, -, -, pl⟩ := own2 HP6.out
  go_wp2_with fail
  clear p0 p1 pl
  have CT2 := text_any k' kids' G m cg w6 HF6.out.is (HS.out.below HB6.out)
  rw [HTG.out, HCG.out] at CT2
  refine CT2.mono ?_
  rintro e w7 ⟨rfl, hb⟩
  have HB7 := Lib.hid (HB6.out.trans (hb.mono HB6.out.size))
  have HX7 := Lib.hid (heap_below hb (heap_lt HX6.out) HX6.out)
  have HW7 := Lib.hid (HW6.out.below hb)
  have hMl7 : M < w7.heap.size := by
    obtain ⟨x, hx⟩ : ∃ x, l[0]? = some x := ⟨l[0]'(by have := HLL.out; omega), List.getElem?_eq_getElem _⟩
    obtain ⟨g', o', e', c0, -⟩ := HW7.out 0 x hx
    injection e' with e'; injection e' with e1 e2; subst e1
    exact Ty.cell_lt c0
  clear CT2 hb HB6 HX6 HP6 HW6 HF6 hMl
  go_wp2_with fail
  go_loopw [12, 13] (fun v12 v13 wr => ∃ (tr i : Nat), v12 = .int .i64 tr ∧ v13 = .int .i64 i ∧ tr ≤ 40 ∧ i ≤ L + 1 ∧ Hid (Below w7.heap.size w7 wr)) (fun _ v _ => L + 1 - (intOf v).toNat)
  case atStart => exact ⟨0, 0, rfl, rfl, by omega, by omega, Lib.hid (Below.refl _ _)⟩
  case round =>
    obtain ⟨tr, i, rfl, rfl, htr, hi, HBr⟩ := hrel
    have HB8 := Lib.hid (HB7.out.trans (HBr.out.mono HB7.out.size))
    by_cases hend : i < L + 1 ∧ tr < 40
    case neg =>
      have CW := Lib.hid (wakes_any wr (HS.out.below HB8.out))
      have fin : ∀ (e : Ending) (u : World), (e = .returned (.bool true) ∧ Below wr.heap.size wr u) → e = .returned (.bool true) ∧ Below w.heap.size w u := fun e u h => ⟨h.1, HB8.out.trans (h.2.mono HB8.out.size)⟩
      have FIN := Lib.hid fin
      clear fin
      by_cases h1 : i < L + 1
      · have e1 : (i : Int) < (L : Int) + 1 := by omega
        have e2 : ¬ ((tr : Int) < 40) := by omega
        clear hend h1
        go_wp2_with fail
        refine CW.out.mono ?_
        rintro e w9 ⟨rfl, hb⟩
        go_wp2_with fail
        go_ret
        exact FIN.out _ _ ⟨rfl, hb⟩
      · have e1 : ¬ ((i : Int) < (L : Int) + 1) := by omega
        clear hend h1
        go_wp2_with fail
        refine CW.out.mono ?_
        rintro e w9 ⟨rfl, hb⟩
        go_wp2_with fail
        go_ret
        exact FIN.out _ _ ⟨rfl, hb⟩
    case pos =>
      obtain ⟨h1, h2⟩ := hend
      have e1 : (i : Int) < (L : Int) + 1 := by omega
      have e2 : (tr : Int) < 40 := by omega
      have e3 : (0 : Int) ≤ i ∧ (i : Int) < (L : Int) + 1 := by omega
      have e4 : (i : Int) + 1 ≤ 9223372036854775807 := by omega
      have HW8 := Lib.hid (HW7.out.below HBr.out)
      obtain ⟨x, hx⟩ : ∃ x, l[i]? = some x := ⟨l[i]'(by have := HLL.out; omega), List.getElem?_eq_getElem _⟩
      have hxc : wr.cell? ⟨M, i * 4 + 1, none⟩ = some (.string x.text) := by
        obtain ⟨g', o', e', c0, c1, -⟩ := HW8.out i x hx
        injection e' with e'; injection e' with q1 q2; subst q1; subst q2
        rw [Nat.zero_add] at c1; exact c1
      have HXX := Lib.hid hx
      clear hx
      by_cases h40 : x.text.toList = [40]
      case neg =>
        have hne : (x.text.toList == [40]) = false := by simpa using h40
        clear h40
        go_wp2_with fail
        go_roundw
        case rel => exact ⟨tr, i + 1, rfl, by go_num, htr, by omega, HBr⟩
        case measure => simp [intOf]; omega
      case pos =>
        have hne : (x.text.toList == [40]) = true := by simpa using h40
        have e5 : (tr : Int) + 1 ≤ 9223372036854775807 := by omega
        have HSK := Lib.hid (Seek.start HXX.out h40)
        clear h40
        go_wp2_with fail
        obtain ⟨wo, hwo⟩ : ∃ wo, wo = wr := ⟨_, rfl⟩
        subst hwo
        have HNE := Lib.hid hne
        have HOPX := Lib.hid (show op (kt x) = true from HO.out.opens (List.mem_of_getElem? HXX.out) (by simpa using hne))
        have HI := Lib.hid (And.intro e1 (And.intro e2 (And.intro e3 (And.intro e4 e5))))
        clear hne hxc e1 e2 e3 e4 e5
        go_loopw [14, 15] (fun v14 v15 wi => ∃ (q : Nat) (o : Int), v14 = .int .i64 q ∧ v15 = .int .i64 o ∧ i ≤ q ∧ q < L + 1 ∧ 0 ≤ o ∧ o ≤ q + 1 ∧ Hid (Seek l i q o) ∧ Hid (o = 0 → ∃ y, l[q]? = some y ∧ i < q ∧ y.text.toList = [41]) ∧ wi = wo) (fun v _ _ => L + 1 - (intOf v).toNat)
        case atStart => exact ⟨i, 1, rfl, rfl, Nat.le_refl _, by omega, by omega, by omega, HSK, Lib.hid (fun h => absurd h (by decide)), rfl⟩
        case round =>
          obtain ⟨q, o, rfl, rfl, hiq, hqL, ho0, hoq, HSQ, HOZ, rfl⟩ := hrel
          by_cases ho : (0 : Int) < o
          case pos =>
            have hq2 : q + 2 < L + 1 := by have := Seek.in HO.out HSQ.out ho; have := HLL.out; omega
            obtain ⟨y, hy⟩ : ∃ y, l[q + 1]? = some y := ⟨l[q + 1]'(by have := HLL.out; omega), List.getElem?_eq_getElem _⟩
            have hyc : wr.cell? ⟨M, (q + 1) * 4 + 1, none⟩ = some (.string y.text) := by
              obtain ⟨g', o', e', c0, c1, -⟩ := HW8.out (q + 1) y hy
              injection e' with e'; injection e' with q1 q2; subst q1; subst q2
              rw [Nat.zero_add] at c1; exact c1
            have e1 : (q : Int) + 1 ≤ 9223372036854775807 := by omega
            have e2 : (0 : Int) ≤ (q : Int) + 1 ∧ (q : Int) + 1 < (L : Int) + 1 := by omega
            have e3 : o + 1 ≤ 9223372036854775807 := by omega
            have e4 : -9223372036854775808 ≤ o - 1 := by omega
            have hst := HSQ.out.step hy
            have HY := Lib.hid hy
            clear hy
            by_cases h40 : y.text.toList = [40]
            case pos =>
              have hd : dl (kt y) = 1 := by unfold dl kt; rw [if_pos h40]
              rw [hd] at hst
              have b1 : (y.text.toList == [40]) = true := by simpa using h40
              have HST := Lib.hid hst
              clear hst hd h40
              go_wp2_with fail
              go_roundw
              case rel => exact ⟨q + 1, o + 1, by go_num, rfl, by omega, by omega, by omega, by omega, HST, Lib.hid (fun h => by omega), trivial⟩
              case measure => simp [intOf]; omega
            case neg =>
              by_cases h41 : y.text.toList = [41]
              case pos =>
                have hd : dl (kt y) = -1 := by unfold dl kt; rw [if_neg h40, if_pos h41]
                rw [hd] at hst
                have b1 : (y.text.toList == [40]) = false := by simpa using h40
                have b2 : (y.text.toList == [41]) = true := by simpa using h41
                have HST := Lib.hid hst
                have H41 := Lib.hid h41
                clear hst hd h40 h41
                go_wp2_with fail
                go_roundw
                case rel => exact ⟨q + 1, o - 1, by go_num, rfl, by omega, by omega, by omega, by omega, Lib.hid (by rw [Int.sub_eq_add_neg]; exact HST.out), Lib.hid (fun _ => ⟨y, HY.out, by omega, H41.out⟩), trivial⟩
                case measure => simp [intOf]; omega
              case neg =>
                have hd : dl (kt y) = 0 := by unfold dl kt; rw [if_neg h40, if_neg h41]
                rw [hd] at hst
                have b1 : (y.text.toList == [40]) = false := by simpa using h40
                have b2 : (y.text.toList == [41]) = false := by simpa using h41
                have HST := Lib.hid hst
                clear hst hd h40 h41
                go_wp2_with fail
                go_roundw
                case rel => exact ⟨q + 1, o, by go_num, rfl, by omega, by omega, by omega, by omega, Lib.hid (by have := HST.out; rwa [Int.add_zero] at this), Lib.hid (fun h => by omega), trivial⟩
                case measure => simp [intOf]; omega
          case neg =>
            have hoz : o = 0 := by omega
            obtain ⟨y, hy, hiq2, h41⟩ := HOZ.out hoz
            subst hoz
            clear ho
            go_wp2_with fail
            have hq2 : q + 1 < L + 1 := by
              have := HSQ.out
              have := HOZ.out
              rcases Nat.lt_or_ge (q + 1) (L + 1) with h | h
              · exact h
              · exfalso
                have hqe : q = L := by omega
                have hw := congrArg (fun z => z[L]?) HO.out.words
                simp only [List.getElem?_map] at hw
                rw [← hqe, hy] at hw
                have hlen := HO.out.len
                rw [List.getElem?_append_right (by have := HLL.out; omega), show q - (wds 1 k' f).length = 0 by have := HLL.out; omega] at hw
                have : kt y = (0, []) := by injection hw
                unfold kt at this
                injection this with _ e
                rw [h41] at e
                cases e
            have hcapL : L + 1 ≤ cap := by have := HCL.out; have := HLL.out; omega
            have e1 : (0 : Int) ≤ i ∧ (i : Int) ≤ cap := by omega
            have e2 : (0 : Int) ≤ (i : Int) + 1 ∧ (i : Int) + 1 ≤ q ∧ (q : Int) ≤ cap := by omega
            have e3 : (i : Int) + 1 ≤ 9223372036854775807 := by omega
            have e4 : (q : Int) + 1 ≤ 9223372036854775807 := by omega
            obtain ⟨i0, hi0, hz0, hz1, hz2⟩ := info_parts tinfo_Word
            have hb0 : Below wr.heap.size wr (wr.alloc (.cells #[] 26)).drew := ((Below.refl _ _).alloc (Nat.le_refl _) _).drew
            have HF1 := Lib.hid ((HW8.out.below hb0).front i)
            have HO1 := Lib.hid (owns_none wr 26 1)
            have HN1 := Lib.hid (show (Rd.flat (l.take i)).length = i * 4 by rw [Rd.flat_length, List.length_take]; have := HLL.out; omega)
            have HB0 := Lib.hid hb0
            have hLb : L + 1 ≤ 65537 := by have := HLL.out; omega
            have hwr : IntKind.i64.wrap ((i : Int) + 1) = (i : Int) + 1 := IntWalk.i64_in _ (by omega)
            have hm1 : 0 + i ≤ maxLen := by unfold maxLen; omega
            have hm2 : (0 + i) * 40 ≤ 140737488355328 := by omega
            clear hb0
            have HF2 := Lib.hid (fun (u : World) (hb : Below wr.heap.size wr u) => (HW8.out.below hb).sub (i + 1) (q - (i + 1)) (by have := HLL.out; omega))
            have HN2 := Lib.hid (show (Rd.flat ((l.drop (i + 1)).take (q - (i + 1)))).length = (q - (i + 1)) * 4 by rw [Rd.flat_length, List.length_take, List.length_drop]; have := HLL.out; omega)
            have hcne : ¬ cap = i + 1 := by omega
            have hm3 : i + (q - (i + 1)) ≤ maxLen := by unfold maxLen; omega
            have hm4 : (i + (q - (i + 1))) * 40 ≤ 140737488355328 := by omega
            go_region_law (first
              | (refine step_append_own _ (by rfl) (.tmp 116) (.tmp 119) 22 (by rfl) wr.heap.size 26 i0 (.agg #[.int .i8 0, .string ⟨#[]⟩, .int .i64 0, .int .i64 0]) 4 40 Tryd.underlying22 hi0 hz0 hz1 hz2 (by rfl) (by decide) (.slice (some ⟨wr.heap.size, 0, none⟩) 0 0) 0 [] (by rfl) HO1.out ⟨M, 0, none⟩ i cap (Rd.flat (l.take i)) (by rfl) HN1.out HF1.out (Rd.flat_one _) hm1 hm2 HB0.out.size ?_; intro v1 w1 hown1 hgrow1 _; rw [Nat.zero_add, List.nil_append] at hown1; have HO2 := Lib.hid hown1; have HB1 := Lib.hid (HB0.out.grown hgrow1 HB0.out.size (fun k hk => by have := (HO1.out.lt k hk).1; omega)); clear hown1 hgrow1)
              | (refine step_append_own _ (by rfl) (.tmp 120) (.tmp 125) 22 (by rfl) wr.heap.size 26 i0 (.agg #[.int .i8 0, .string ⟨#[]⟩, .int .i64 0, .int .i64 0]) 4 40 Tryd.underlying22 hi0 hz0 hz1 hz2 (by rfl) (by decide) _ i (Rd.flat (l.take i)) (by rfl) HO2.out ⟨M, (i + 1) * 4, none⟩ (q - (i + 1)) (cap - (i + 1)) (Rd.flat ((l.drop (i + 1)).take (q - (i + 1)))) (by first | rfl | (simp [Act.eval]; done) | (simp [Act.eval]; omega)) HN2.out (HF2.out _ HB1.out) (Rd.flat_one _) hm3 hm4 HB1.out.size ?_; intro v2 w2 hown2 hgrow2 _; rw [← Rd.flat_app] at hown2; have HO3 := Lib.hid hown2; have HB2 := Lib.hid (HB1.out.grown hgrow2 HB1.out.size (fun k hk => by have := (HO2.out.lt k hk).1; omega)); clear hown2 hgrow2))
            all_goals
              have HN3 := Lib.hid (show (Rd.flat ((l.drop (q + 1)).take (L - q))).length = (L - q) * 4 by rw [Rd.flat_length, List.length_take, List.length_drop]; have := HLL.out; omega)
              have HF3 := Lib.hid ((HW8.out.below HB2.out).sub (q + 1) (L - q) (by have := HLL.out; omega))
              have hcne2 : ¬ cap = q + 1 := by omega
              have hm5 : i + (q - (i + 1)) + (L - q) ≤ maxLen := by unfold maxLen; omega
              have hm6 : (i + (q - (i + 1)) + (L - q)) * 40 ≤ 140737488355328 := by omega
              have e5 : (0 : Int) ≤ (q : Int) + 1 ∧ (q : Int) + 1 ≤ (L : Int) + 1 := by omega
              have hwq : IntKind.i64.wrap ((q : Int) + 1) = (q : Int) + 1 := IntWalk.i64_in _ (by omega)
              go_wp2_with (first | (at_builtin; refine wpList_append_own _ rfl (.tmp 127) (.tmp 131) 22 rfl wr.heap.size 26 i0 (.agg #[.int .i8 0, .string ⟨#[]⟩, .int .i64 0, .int .i64 0]) 4 40 Tryd.underlying22 hi0 hz0 hz1 hz2 rfl (by decide) _ _ _ rfl HO3.out ⟨M, (q + 1) * 4, none⟩ (L - q) (cap - (q + 1)) (Rd.flat ((l.drop (q + 1)).take (L - q))) ?d0 HN3.out HF3.out (Rd.flat_one _) hm5 hm6 HB2.out.size ?_))
              case d0 => first | rfl | (simp [Act.eval]; done) | (simp [Act.eval]; omega)
              intro v3 w9 hown3 hgrow3 _
              have hB3 := HB2.out.grown hgrow3 HB2.out.size (fun k hk => by have := (HO3.out.lt k hk).1; omega)
              obtain ⟨less, hless⟩ : ∃ z, z = l.take i ++ (l.drop (i + 1)).take (q - (i + 1)) ++ (l.drop (q + 1)).take (L - q) := ⟨_, rfl⟩
              have hnn : i + (q - (i + 1)) + (L - q) = less.length := by
                rw [hless, List.length_append, List.length_append, List.length_take, List.length_take, List.length_take, List.length_drop, List.length_drop]; have := HLL.out; omega
              rw [hnn, ← Rd.flat_app, ← hless] at hown3
              have hcl : less.countP (fun x => op (kt x)) + 1 = l.countP (fun x => op (kt x)) := by
                have h := count_less hiq2 (by have := HLL.out; omega) HXX.out hy HOPX.out (by unfold op kt; rw [h41]; simp)
                rw [hless, List.take_of_length_le (l := l.drop (q + 1)) (by rw [List.length_drop]; have := HLL.out; omega)]
                exact h
              have hsl : ∀ x ∈ less, x.text.size ≤ 281474976710656 := by
                intro x hx
                rw [hless] at hx
                rcases List.mem_append.1 hx with hx | hx
                · rcases List.mem_append.1 hx with hx | hx
                  · exact HSM.out x (List.mem_of_mem_take hx)
                  · exact HSM.out x (List.mem_of_mem_drop (List.mem_of_mem_take hx))
                · exact HSM.out x (List.mem_of_mem_drop (List.mem_of_mem_take hx))
              have hlp : 0 < less.length := by omega
              have hlu : less.length ≤ 65537 := by omega
              have HCL2 := Lib.hid hcl
              have HSL2 := Lib.hid hsl
              clear hless hnn hcl hsl HO3 HB2 HF3 HN3 HF1 HF2 HN1 HN2 HO1 HO2 HB0 HB1 hi0 hz0 hz1 hz2
              obtain ⟨-, ⟨-, hz⟩ | ⟨M3, cap3, cur3, rfl, hM3, hh3, hle3, hcap3, hsz3, htk3⟩⟩ := hown3
              · omega
              have HW9 := Lib.hid (row_of_owns0 hh3 htk3)
              have HB9 := Lib.hid (HB8.out.trans (hB3.mono HB8.out.size))
              have HBR9 := Lib.hid (HBr.out.trans (hB3.mono HBr.out.size))
              clear hh3 hsz3 htk3 hgrow3
              have hlm9 : less.length < maxLen := by unfold maxLen; omega
              have HX9 := Lib.hid (heap_below HBR9.out (heap_lt HX7.out) HX7.out)
              go_wp2_with fail
              refine (read_all less (some ⟨M3, 0, none⟩) cap3 0 w9 HW9.out (HS.out.below HB9.out) hlm9 HSL2.out).mono ?_
              rintro e w10 ⟨k2, f2, N2, E2, a2, t2, G2, m2, cg2, err2, hO2, rfl, hF2, hT2, hb⟩
              rw [placed_zero] at hO2
              have hbx := (Below.refl w10.heap.size w10).alloc (Nat.le_refl _) (.cells #[.int .i8 k2, .slice G2 m2 cg2] 29)
              have h910 := hb.size
              have hX10 := heap_below hbx (by have := heap_lt HX9.out; omega) (heap_below hb (heap_lt HX9.out) HX9.out)
              have hY10 := heap_new w10 (.cells #[.int .i8 k2, .slice G2 m2 cg2] 29)
              have HB11 := Lib.hid ((HB9.out.trans (hb.mono HB9.out.size)).trans (hbx.mono (by have := HB9.out.size; omega)))
              have HBR11 := Lib.hid ((HBR9.out.trans (hb.mono HBR9.out.size)).trans (hbx.mono (by have := HBR9.out.size; omega)))
              have HF11 := Lib.hid (hF2.below hbx)
              obtain ⟨x0, x1, -, -, xl⟩ := own2 hX10
              obtain ⟨y0, y1, -, -, yl⟩ := own2 hY10
              clear hb hbx hF2 hX10 hY10 HW9 HB9 HBR9 HX9 HSL2
              obtain ⟨L2, hL2⟩ : ∃ L2, less.length = L2 + 1 := ⟨less.length - 1, by omega⟩
              rcases hT2 with ⟨rfl, rfl, -⟩ | ⟨g2, rfl, -, -⟩
              · have hRok : R less (.wh 1 0) (.ok k2 f2 N2) := by
                  rcases hO2 with ⟨h, -⟩ | ⟨k3, f3, j3, -, hc3, -, -, -, hE, -⟩ | ⟨q3, -, -, -, -, hE, -⟩
                  · exact h
                  · exfalso; omega
                  · exact absurd hE (by decide)
                have hsame : Ty.sameT k' f k2 f2 = false := by unfold Ty.sameT; rw [HO.out.less HCL2.out hRok]; simp
                have CS := same_any k' f A n c k2 f2 G2 m2 cg2 _ (HIS.out.below HB11.out) HF11.out.is (HS.out.below HB11.out)
                rw [hsame] at CS
                have CS := Lib.hid CS
                have i9 : (L2 : Int) + 1 ≤ 9223372036854775807 := by omega
                rw [hL2]
                clear hO2 hRok hsame hL2 hlm9 hlp hlu HF11 hle3
                by_cases hN : N2 = L2
                · subst hN
                  go_wp2_with fail
                  refine CS.out.mono ?_
                  rintro e w12 ⟨rfl, hb⟩
                  have HBR12 := Lib.hid (HBR11.out.trans (hb.mono HBR11.out.size))
                  clear hb
                  go_wp2_with fail
                  go_roundw
                  case rel => exact ⟨tr + 1, i + 1, by go_num, by go_num, by have := HI.out; omega, by omega, HBR12⟩
                  case measure => simp [intOf]; omega
                · have hN2 : ((N2 : Int) == (L2 : Int)) = false := by simp; omega
                  go_wp2_with fail
                  go_roundw
                  case rel => exact ⟨tr + 1, i + 1, by go_num, by go_num, by have := HI.out; omega, by omega, HBR11⟩
                  case measure => simp [intOf]; omega
              · have e9 := eqlFaultNil
                clear hO2 hL2 hlm9 hlp hlu HF11 hle3
                go_wp2_with fail
                go_roundw
                case rel => exact ⟨tr + 1, i + 1, by go_num, by go_num, by have := HI.out; omega, by omega, HBR11⟩
                case measure => simp [intOf]; omega

theorem law_TypesBack (k : Int) (f : Fo) (A : Option Addr) (n c : Nat) (w : World) (hIs : Ty.Is w k f A n c) (hS : Shapes w) (tp : TypeId) (p : Value) (hvar : w.var? Tryd.prog "strconv.ErrRange" = some #[.iface tp p]) :
    Calls Tryd.prog 4 #[.agg #[.int .i8 k, .slice A n c]] w fun e w' => e = .returned (.bool true) ∧ Below w.heap.size w w' := by
  by_cases hc : Ty.chk k f = 0
  · exact law_TypesBack_ok k f A n c w hIs hS hc tp p hvar
  · exact law_TypesBack_bad k f A n c w hIs hS hc
end Go.Proofs.YtkpdddlonmkebaaDoor
