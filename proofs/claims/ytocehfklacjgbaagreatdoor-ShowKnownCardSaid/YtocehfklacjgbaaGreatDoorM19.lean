/-
  A told term's text is read as a term that is the same. What was read can be told: no cast in it, no number that has no words; terms that are the same have the same words. The texts that the chapter tells by hand: how they are read and told. Layer 4: the two texts that its laws begin with: what they are read as.
-/
import Derived.Test.YtocehfklacjgbaaGreatDoorM15
import Derived.Test.YtocehfklacjgbaaGreatDoorTx1
import Derived.Test.YtocehfklacjgbaaGreatDoorM18
import Derived.Test.YtocehfklacjgbaaGreatDoorPl2
namespace Go.Proofs.YtocehfklacjgbaaGreatDoor
namespace Sh
open Rd Tt
def kt1 (x : W4) : Wk := (x.kind, x.text.toList)
theorem sees_kt1 {l : List W4} {i : Nat} {k : Int} {t : List UInt8} : sees l i k t = ((l.map kt1)[i]?.any fun x => x.1 == k && x.2 == t) := by
  unfold sees
  rw [List.getElem?_map]
  cases l[i]? <;> rfl
theorem num_ok {s : ByteArray} (h : (Sc.tk s 0).2 = none) : NumOk (wl s) := by
  intro i x n hx hk ht hn
  have hm := List.mem_of_getElem? hx
  unfold wl at hm
  obtain ⟨y, hy, rfl⟩ := List.mem_map.mp hm
  rcases List.mem_append.mp hy with hy | hy
  · have ho := Sc.chain_ok (Sc.chain_of s (s.size + 1) 0 (by omega) h) y hy
    have ht' : y.2.1.toList = Lib.decDigits n := ht
    obtain ⟨a1, a2, -, -⟩ := Sc.dec_all n
    have hne := decDigits_ne n
    have hd : Sc.digi (Sc.hd y.2.1) = true := by
      unfold Sc.hd
      rw [← Lib.toList_data, ht']
      cases hq : Lib.decDigits n with
      | nil => exact absurd hq hne
      | cons c r => exact a1 c (by rw [hq]; exact List.mem_cons_self)
    have hl := (Sc.digi_not hd).2.2
    have hv := ho.v
    have he := ho.e
    unfold Sc.fE at he
    rw [hl, hd] at he
    simp only [Bool.false_eq_true, if_false, if_true] at he
    unfold Sc.fV at hv
    rw [hl, hd] at hv
    simp only [Bool.false_eq_true, if_false, if_true] at hv
    unfold Sc.numNum at hv
    rw [if_pos he] at hv
    show y.2.2.1 = n
    rw [← hv]
    unfold Sc.numVal
    rw [ho.n, ← Lib.toList_data, ht', List.take_of_length_le (by rw [← ht', Lib.toList_data, Sc.data_len]; exact Nat.le_refl _), a2]
  · have := List.mem_singleton.mp hy
    subst this
    exact absurd (show (0 : Int) = 2 from hk) (by decide)
theorem wl_stand {s : ByteArray} {ws : List Wk} (h : (Sc.tk s 0).1.map Sc.tx = ws) : (wl s).map kt1 = ws ++ [(0, [])] := by
  unfold wl
  rw [List.map_map, List.map_append, ← h]
  congr 1
  show [((0 : Int), (⟨#[]⟩ : ByteArray).toList)] = _
  rw [Lib.toList_data]
theorem Good.of {h : Hd} {kids : Tm} (hc : Tm.chk h kids = 0) (hb : badT h kids = false) (hn : nuT h kids = true) : Good h kids := ⟨(chk_good hc).1, hb, hn⟩
theorem chk_bounds {h : Hd} {kids : Tm} (hc : Tm.chk h kids = 0) : Tm.nd h kids ≤ 8192 ∧ Tm.dp h kids ≤ 200 := by
  unfold Tm.chk at hc
  split at hc
  · cases hc
  · split at hc
    · cases hc
    · exact ⟨by omega, by omega⟩
/-- words that stand there, and then the end, are read as the term -/
theorem read_of {h : Hd} {kids : Tm} (g : Good h kids) (hc : Tm.chk h kids = 0) (s : ByteArray) (e : (Sc.tk s 0).2 = none) (m : (Sc.tk s 0).1.map Sc.tx = wkS (-1) h kids) (hz : s.size ≤ 65536) :
    ∃ g' u, Tm.sameT h kids g' u = true ∧ TxOut s (.ok g' u) := by
  have hm := wl_stand m
  have hst : Stand (wl s) 0 (wkS (-1) h kids) := by
    intro j x hx
    rw [Nat.zero_add, sees_kt1, hm, List.getElem?_append_left (List.getElem?_eq_some_iff.1 hx).1, hx]
    simp
  have hend : sees (wl s) (0 + (wkS (-1) h kids).length) 0 [] = true := by
    rw [sees_kt1, hm, Nat.zero_add, List.getElem?_append_right (Nat.le_refl _), Nat.sub_self]; rfl
  have o := own_all (num_ok e) (Tm.nodes kids + 1) h kids (Nat.lt_succ_self _) g
  obtain ⟨g', u, a1, a2⟩ := o.tm hst (Shut.oth hend (by decide))
  have hok := fun x hx => (wl_ok e x hx).1
  obtain ⟨n1, n2⟩ := alT_nd a1
  obtain ⟨b1, b2⟩ := chk_bounds hc
  have hc' : Tm.chk g' u = 0 := by
    rw [T.chk hok a2, if_neg (by omega), if_neg (by omega)]
  obtain ⟨x, hx, hk, -⟩ := sees_word hend
  refine ⟨g', u, ?_, .read hz e a2 (.good hc' hx hk)⟩
  unfold Tm.sameT
  rw [hc, hc', a1]
  rfl
theorem told_out {h : Hd} {kids : Tm} (g : Good h kids) (hc : Tm.chk h kids = 0) (s : ByteArray) (hs : s.data.toList = join (stand (-1) h kids)) (hz : s.size ≤ 65536) :
    ∃ g' u, Tm.sameT h kids g' u = true ∧ TxOut s (.ok g' u) := by
  obtain ⟨e, m⟩ := scan_told g s hs
  exact read_of g hc s e m hz
/-- a told text: its bytes -/
theorem told_pt {h : Hd} {kids : Tm} (g : Good h kids) (s : ByteArray) (hs : s.data.toList = join (stand (-1) h kids)) :
    0 < s.size ∧ (∀ (i : Nat) (h : i < s.size), s[i].toNat < 128) ∧ (∀ (i : Nat) (h : i < s.size), s[i].toNat = 32 → 0 < i ∧ i + 1 < s.size ∧ ∀ h2 : i - 1 < s.size, s[i - 1].toNat ≠ 32) := by
  have p := (sw_stand g (-1)).pt (stand_ne _ _ _)
  rw [← hs] at p
  have hl := Sc.data_len s
  have hget : ∀ (i : Nat) (h : i < s.size), s.data.toList[i]? = some s[i] := fun i h => by
    rw [List.getElem?_eq_getElem (by omega), Sc.get_data s i h (by omega)]
  refine ⟨?_, fun i h => ?_, fun i h h32 => ?_⟩
  · have := List.length_pos_iff.2 p.ne
    omega
  · exact p.low _ (List.mem_of_getElem? (hget i h))
  · have e32 : s[i] = 32 := by
      apply UInt8.toNat_inj.1
      exact h32
    obtain ⟨h1, h2, h3⟩ := p.gap i (by rw [hget i h, e32])
    refine ⟨h1, by omega, fun h4 e => h3 ?_⟩
    rw [hget _ h4]
    congr 1
    apply UInt8.toNat_inj.1
    exact e
/-- what Text tells, where it tells a text -/
theorem tx_ok {h : Hd} {kids : Tm} (hn : nuT h kids = true) (he : txE h kids = 0) : Tm.chk h kids = 0 ∧ Good h kids ∧ (txS h kids).data.toList = join (stand (-1) h kids) ∧ (txS h kids).size ≤ 65536 := by
  have he' := he
  unfold txE at he'
  split at he'
  · rename_i h1
    omega
  · rename_i h1
    have hc : Tm.chk h kids = 0 := by omega
    split at he'
    · cases he'
    · rename_i h2
      split at he'
      · cases he'
      · rename_i h3
        have g := Good.of hc (by simpa using h2) hn
        have hs : txS h kids = ⟨(outB h kids).toArray⟩ := by unfold txS; rw [if_pos he]
        have hj : outB h kids = join (stand (-1) h kids) := by
          unfold outB
          rw [puts_join _ _ (stand_ne _ _ _) (NE.at (x := (st h, own h kids)) (g.ownNE (kidsNE kids g.kids)) (-1)), if_pos rfl]
        refine ⟨hc, g, by rw [hs, ← hj], ?_⟩
        rw [hs]
        show (outB h kids).toArray.size ≤ 65536
        rw [List.size_toArray]
        omega
theorem tx_no {h : Hd} {kids : Tm} (he : txE h kids ≠ 0) : txS h kids = ⟨#[]⟩ := by
  unfold txS
  rw [if_neg he]
end Sh
end Go.Proofs.YtocehfklacjgbaaGreatDoor
namespace Go.Proofs.YtocehfklacjgbaaGreatDoor
namespace Sh
open Rd Tt
def HF (h : Hd) : Prop := h.kind ≠ 17 ∧ -9223372036854775808 < h.num ∧ h.num ≤ 9223372036854775807
def FF : Tm → Prop
  | .nil => True
  | .node h kids r => HF h ∧ FF kids ∧ FF r
def Fine (h : Hd) (t : Tm) : Prop := HF h ∧ FF t
def FV : Vl → Prop
  | .nu n => 0 ≤ n ∧ n ≤ 9223372036854775807
  | .tm h t => Fine h t
  | _ => True
theorem hf0 {k p : Int} (hk : k ≠ 17) : HF (hd0 k p) := ⟨hk, by show (-9223372036854775808 : Int) < 0; decide, by show (0 : Int) ≤ 9223372036854775807; decide⟩
theorem mk_fine {k p : Int} {vs : List Vl} (hk : k ≠ 17) (hv : ∀ v ∈ vs, FV v) : Fine (mk k p vs).1 (mk k p vs).2 := by
  have h0 := hf0 (p := p) hk
  unfold mk
  split
  · rename_i h t; have a := hv (.tm h t) (by simp); exact ⟨h0, a.1, a.2, trivial⟩
  · rename_i h t g u; have a := hv (.tm h t) (by simp); have b := hv (.tm g u) (by simp); exact ⟨h0, a.1, a.2, b.1, b.2, trivial⟩
  · rename_i h t g u o v; have a := hv (.tm h t) (by simp); have b := hv (.tm g u) (by simp); have c := hv (.tm o v) (by simp); exact ⟨h0, a.1, a.2, b.1, b.2, c.1, c.2, trivial⟩
  · rename_i h t; have a := hv (.tm h t) (by simp); exact ⟨h0, a.1, a.2, trivial⟩
  · rename_i h t _ g u _ o v; have a := hv (.tm h t) (by simp); have b := hv (.tm g u) (by simp); have c := hv (.tm o v) (by simp); exact ⟨h0, a.1, a.2, b.1, b.2, c.1, c.2, trivial⟩
  · rename_i h t
    have a := hv (.tm h t) (by simp)
    split
    · exact a
    · exact ⟨h0, a.1, a.2, trivial⟩
  · rename_i h t; have a := hv (.tm h t) (by simp); exact ⟨h0, a.1, a.2, trivial⟩
  · rename_i n
    have a : 0 ≤ n ∧ n ≤ 9223372036854775807 := hv (.nu n) (by simp)
    split
    · exact ⟨⟨by show (1 : Int) ≠ 17; decide, by show (-9223372036854775808 : Int) < -n; omega, by show -n ≤ (9223372036854775807 : Int); omega⟩, trivial⟩
    · exact ⟨⟨hk, by show (-9223372036854775808 : Int) < n; omega, a.2⟩, trivial⟩
  · rename_i h t g u; have a := hv (.tm h t) (by simp); have b := hv (.tm g u) (by simp); exact ⟨h0, a.1, a.2, b.1, b.2, trivial⟩
  · exact ⟨h0, trivial⟩
  · exact ⟨h0, trivial⟩
theorem mkO_fine {k p : Int} {sign : ByteArray} {h : Hd} {t : Tm} {vs : List Vl} (hk : k ≠ 17) (hh : Fine h t) (hv : ∀ v ∈ vs, FV v) : Fine (mkO k p sign h t vs).1 (mkO k p sign h t vs).2 := by
  have h0 := hf0 (p := p) hk
  unfold mkO
  split
  · rename_i g u
    have a := hv (.tm g u) (by simp)
    split
    · exact ⟨h0, hh.1, hh.2, a.1, a.2, trivial⟩
    · exact ⟨h0, hh.1, hh.2, a.1, a.2, trivial⟩
  · exact ⟨h0, hh.1, hh.2, trivial⟩
  · exact ⟨h0, trivial⟩
theorem formT_17 {l : List W4} {i : Nat} {k : Int} {its : List It} (h : formT l i = some (k, its)) : k ≠ 17 := by
  unfold formT at h
  repeat' split at h
  all_goals first
    | (cases h; done)
    | (injection h with h; injection h with h1 h2; subst h1; decide)
theorem formO_17 (l : List W4) (i : Nat) : (formO l i).1 ≠ 17 := by
  unfold formO
  repeat' split
  all_goals (dsimp only; decide)
theorem opr_17 {l : List W4} {j s lf : Nat} {k : Int} {its : List It} (h : opr l j = some (k, s, lf, its)) : k ≠ 17 := by
  unfold opr at h
  repeat' split at h
  all_goals first
    | (cases h; done)
    | (injection h with h; injection h with h1 h2; subst h1; decide)
def fineG (vs : List Vl) : Tt.Tg → Prop
  | .lp _ h0 t0 _ _ => Fine h0 t0 → ∀ v ∈ vs, FV v
  | _ => ∀ v ∈ vs, FV v
theorem mem_cons_fv {v : Vl} {vs : List Vl} (h : FV v) (g : ∀ x ∈ vs, FV x) : ∀ x ∈ v :: vs, FV x := fun x m => (List.mem_cons.1 m).elim (fun e => e ▸ h) (g x)
theorem read_fine {l : List W4} (hok : ∀ x ∈ l, OkWord x) {t : Tt.Tg} {r : Tt.Rs} (h : T l t r) : ∀ vs j, r = .ok vs j → fineG vs t := by
  induction h with
  | nil => intro vs j e; injection e with e _; subst e; intro v m; cases m
  | word h g ih => intro vs j e; exact ih vs j e
  | wordNo h => intro vs j e; cases e
  | @nm i x its r h hk g ih => intro vs j e; cases r with
    | bad => cases e
    | ok vs2 j2 => injection e with e1 _; subst e1; exact mem_cons_fv trivial (ih _ _ rfl)
  | nmNo h => intro vs j e; cases e
  | @nu i x its r h hk g ih => intro vs j e; cases r with
    | bad => cases e
    | ok vs2 j2 => injection e with e1 _; subst e1; exact mem_cons_fv ((hok x (List.mem_of_getElem? h)).2.2.2.1 hk) (ih _ _ rfl)
  | nuNo h => intro vs j e; cases e
  | @ty i j0 k f a t its r h g ih => intro vs j e; cases r with
    | bad => cases e
    | ok vs2 j2 => injection e with e1 _; subst e1; exact mem_cons_fv trivial (ih _ _ rfl)
  | tyNo h hE => intro vs j e; cases e
  | @tm i j0 h t its r f g ihf ihg => intro vs j e; cases r with
    | bad => cases e
    | ok vs2 j2 => injection e with e1 _; subst e1; exact mem_cons_fv (ihf _ _ rfl _ List.mem_cons_self) (ihg _ _ rfl)
  | tmNo f ih => intro vs j e; cases e
  | @pt q i j0 h t its r f g ihf ihg => intro vs j e; cases r with
    | bad => cases e
    | ok vs2 j2 => injection e with e1 _; subst e1; exact mem_cons_fv (ihf _ _ rfl _ List.mem_cons_self) (ihg _ _ rfl)
  | ptNo f ih => intro vs j e; cases e
  | @opn i k its r h g ih => intro vs j e; cases r with
    | bad => cases e
    | ok vs2 j2 => injection e with e1 _; subst e1; exact mem_cons_fv (mk_fine (formT_17 h) (ih _ _ rfl)) (fun _ m => by cases m)
  | term h g ih => intro vs j e; exact ih vs j e
  | @opnd i r g ih => intro vs j e; cases r with
    | bad => cases e
    | ok vs2 j2 => injection e with e1 _; subst e1; exact mem_cons_fv (mk_fine (formO_17 l i) (ih _ _ rfl)) (fun _ m => by cases m)
  | part f g ihf ihg => intro vs j e; exact ihg vs j e (ihf _ _ rfl _ List.mem_cons_self)
  | partNo f ih => intro vs j e; cases e
  | stop e => intro vs j e g0; injection e with e _; subst e; exact mem_cons_fv g0 (fun _ m => by cases m)
  | go e h1 h2 f g ihf ihg => intro vs j e2 g0; exact ihg vs j e2 (mkO_fine (opr_17 e) g0 (ihf _ _ rfl))
  | goNo e h1 h2 f ih => intro vs j e; cases e
theorem fine_bad : ∀ f : Tm, FF f → badF f = false ∧ nuF f = true
  | .nil, _ => ⟨rfl, rfl⟩
  | .node h kids r, g => by
    obtain ⟨⟨a1, a2, a3⟩, b, c⟩ := g
    obtain ⟨d1, d2⟩ := fine_bad kids b
    obtain ⟨e1, e2⟩ := fine_bad r c
    have h17 : (h.kind == 17) = false := by simpa using a1
    have hmn : (h.num == -9223372036854775808) = false := by simp; omega
    simp only [badF, nuF, badH, nuH, d1, d2, e1, e2, h17, hmn]
    simp; omega
theorem Fine.out {h : Hd} {t : Tm} (g : Fine h t) : badT h t = false ∧ nuT h t = true := by
  obtain ⟨a, b⟩ := fine_bad (.node h t .nil) ⟨g.1, g.2, trivial⟩
  simp only [badF, nuF, Bool.or_false, Bool.and_true] at a b
  exact ⟨a, b⟩
/-- what a text is read as can be told -/
theorem out_fine {s : ByteArray} {h : Hd} {t : Tm} (hO : TxOut s (.ok h t)) : Tm.chk h t = 0 ∧ badT h t = false ∧ nuT h t = true := by
  cases hO with
  | read hz e hT hf =>
    cases hf with
    | good h0 hx hk =>
      have := read_fine (fun x hx => (wl_ok e x hx).1) hT _ _ rfl _ List.mem_cons_self
      exact ⟨h0, Fine.out this⟩
theorem eqF_txt : ∀ f g : Fo, Ty.eqF f g = true → ∀ p b, Ty.txtIn f p b = Ty.txtIn g p b
  | .nil, .nil, _ => fun _ _ => rfl
  | .nil, .node _ _ _ _ _, h => by simp [Ty.eqF] at h
  | .node _ _ _ _ _, .nil, h => by simp [Ty.eqF] at h
  | .node _ _ k kk r, .node _ _ k' kk' r', h => by
    simp only [Ty.eqF, Bool.and_eq_true, beq_iff_eq] at h
    obtain ⟨⟨hk, h1⟩, h2⟩ := h
    subst hk
    intro p b
    simp only [Ty.txtIn]
    rw [eqF_txt kk kk' h1, eqF_txt r r' h2]
theorem same_tyW {k k' : Int} {f f' : Fo} (h : Ty.sameT k f k' f' = true) : tyW k f = tyW k' f' := by
  unfold Ty.sameT at h
  simp only [Bool.and_eq_true] at h
  have h3 := h.2
  unfold Ty.eqT at h3
  rw [Bool.and_eq_true, beq_iff_eq] at h3
  obtain ⟨rfl, h3⟩ := h3
  unfold tyW Ty.txt
  rw [eqF_txt f f' h3]
theorem eqH_facts {h g : Hd} (e : Tm.eqH (Tm.cnt h) (Tm.cnt g) = true) : h.kind = g.kind ∧ (Tm.hasName h.kind = true → h.name.toList = g.name.toList) ∧ (Tm.hasArg h.kind = true → h.arg.toList = g.arg.toList) ∧ (Tm.hasNum h.kind = true → h.num = g.num) ∧
    (Tm.hasType h.kind = true → tyW h.tk h.tkids = tyW g.tk g.tkids) ∧ (Tm.hasTo h.kind = true → tyW h.uk h.ukids = tyW g.uk g.ukids) := by
  unfold Tm.eqH Tm.cnt at e
  simp only [Bool.and_eq_true, beq_iff_eq] at e
  obtain ⟨hk, a, b, c, -, d, f⟩ := e
  rw [← hk] at a b c d f
  refine ⟨hk, fun q => ?_, fun q => ?_, fun q => ?_, fun q => ?_, fun q => ?_⟩
  · rw [if_pos q, if_pos q] at a; exact a
  · rw [if_pos q, if_pos q] at b; exact b
  · rw [if_pos q, if_pos q] at c; exact c
  · rw [if_pos q, if_pos q, if_pos q, if_pos q] at d; exact same_tyW d
  · rw [if_pos q, if_pos q, if_pos q, if_pos q] at f; exact same_tyW f
theorem ownW_eq {h g : Hd} (hk : 0 ≤ h.kind ∧ h.kind ≤ 16) (e : Tm.eqH (Tm.cnt h) (Tm.cnt g) = true) (ks : List (Int × List Bs)) : ownW h ks = ownW g ks ∧ st h = st g := by
  obtain ⟨hkk, hn, ha, hu, ht, hv⟩ := eqH_facts e
  rw [Lib.toList_data, Lib.toList_data] at ha
  have hd := hn
  rw [Lib.toList_data, Lib.toList_data] at hd
  have hcase : h.kind = 0 ∨ h.kind = 1 ∨ h.kind = 2 ∨ h.kind = 3 ∨ h.kind = 4 ∨ h.kind = 5 ∨ h.kind = 6 ∨ h.kind = 7 ∨ h.kind = 8 ∨ h.kind = 9 ∨ h.kind = 10 ∨ h.kind = 11 ∨ h.kind = 12 ∨ h.kind = 13 ∨ h.kind = 14 ∨ h.kind = 15 ∨ h.kind = 16 := by omega
  unfold ownW st opS
  rw [← hkk]
  rcases hcase with hq | hq | hq | hq | hq | hq | hq | hq | hq | hq | hq | hq | hq | hq | hq | hq | hq
  all_goals
    rw [hq] at hn hd ha hu ht hv ⊢
    simp only [Int.reduceEq, if_false, if_true, or_false, or_true, true_and, false_and]
    try rw [hn (by decide)]
    try rw [hd (by decide)]
    try rw [ha (by decide)]
    try rw [hu (by decide)]
    try rw [ht (by decide)]
    try rw [hv (by decide)]
    try first
      | exact ⟨rfl, rfl⟩
      | exact ⟨rfl, trivial⟩
theorem kids_al : ∀ f f' : Tm, GoodF f → Tm.alF f f' = true → kidsW f = kidsW f'
  | .nil, .nil, _, _ => rfl
  | .nil, .node _ _ _, _, h => by simp [Tm.alF] at h
  | .node _ _ _, .nil, _, h => by simp [Tm.alF] at h
  | .node h kids r, .node h' kids' r', g, e => by
    simp only [Tm.alF, Bool.and_eq_true] at e
    obtain ⟨⟨e1, e2⟩, e3⟩ := e
    obtain ⟨a, b⟩ := ownW_eq g.node.1.head.1 e1 (kidsW kids)
    simp only [kidsW]
    rw [a, b, kids_al kids kids' g.node.1.kids e2, kids_al r r' g.node.2 e3]
theorem tx_al {h : Hd} {kids : Tm} {g' : Hd} {u : Tm} (g : Good h kids) (e : Tm.sameT h kids g' u = true) (hb : badT g' u = false) : txS g' u = txS h kids ∧ txE g' u = txE h kids := by
  unfold Tm.sameT at e
  simp only [Bool.and_eq_true, beq_iff_eq] at e
  obtain ⟨h1, h2, h3⟩ := e
  have c1 : Tm.chk h kids = 0 := by omega
  have c2 : Tm.chk g' u = 0 := by omega
  unfold Tm.alT at h3
  rw [Bool.and_eq_true] at h3
  obtain ⟨a, b⟩ := ownW_eq g.head.1 h3.1 (kidsW kids)
  have hs : stand (-1) g' u = stand (-1) h kids := by
    unfold stand own
    rw [← kids_al kids u g.kids h3.2, a, b]
  have ho : outB g' u = outB h kids := by unfold outB; rw [hs]
  have he : txE g' u = txE h kids := by
    unfold txE
    rw [c1, c2, hb, g.nb, ho]
  exact ⟨by unfold txS; rw [he, ho], he⟩
end Sh
end Go.Proofs.YtocehfklacjgbaaGreatDoor
namespace Go.Proofs.YtocehfklacjgbaaGreatDoor
namespace Sh
open Rd Tt
theorem read_rt {h : Hd} {kids : Tm} (hc : Tm.chk h kids = 0) (s : ByteArray) (e : (Sc.tk s 0).2 = none) {n : Nat} (hR : RTm (wl s) h kids 0 n) (hend : sees (wl s) n 0 [] = true) (hz : s.size ≤ 65536) :
    ∃ g' u, Tm.sameT h kids g' u = true ∧ TxOut s (.ok g' u) := by
  obtain ⟨g', u, a1, a2⟩ := hR
  have hok := fun x hx => (wl_ok e x hx).1
  obtain ⟨n1, n2⟩ := alT_nd a1
  obtain ⟨b1, b2⟩ := chk_bounds hc
  have hc' : Tm.chk g' u = 0 := by
    rw [T.chk hok a2, if_neg (by omega), if_neg (by omega)]
  obtain ⟨x, hx, hk, -⟩ := sees_word hend
  refine ⟨g', u, ?_, .read hz e a2 (.good hc' hx hk)⟩
  unfold Tm.sameT
  rw [hc, hc', a1]
  rfl
/-- what is typed stands in brackets that it does not want -/
theorem is_wide {l : List W4} (h : Hd) (h0 : Hd) (k0 : Tm) (hq : h.kind = 16) (hT : Ty.chk h.tk h.tkids = 0) (o0 : Own l h0 k0) (i : Nat) (hs : Stand l i (wkS 5 h0 k0 ++ ([(4, [58])] ++ wds 1 h.tk h.tkids)))
    (hf : Fol l (i + (wkS 5 h0 k0).length + 1 + (wds 1 h.tk h.tkids).length) 0) : RQm l h (.node h0 k0 .nil) i (i + (wkS 5 h0 k0).length + 1 + (wds 1 h.tk h.tkids).length) 0 := by
  have hk0 := hs.left
  have hs := hs.right
  simp only [List.cons_append, List.nil_append] at hs
  obtain ⟨s1, hs⟩ := stand_cons hs
  have e : opr l (i + (wkS 5 h0 k0).length) = some (16, 0, 0, [.ty]) := by rw [opr_sig s1]; rfl
  obtain ⟨g0, u0, al0, A2, A3⟩ := o0.at 5 (by decide) hk0 (fol_at s1 e (Nat.zero_le _) (by decide))
  obtain ⟨y, ys, yo⟩ := ty_at hT hs (opK_fol hf)
  refine ⟨(mkO 16 (posAt l (i + (wkS 5 h0 k0).length)) (textAt l (i + (wkS 5 h0 k0).length)) g0 u0 [.ty h.tk y]).1, (mkO 16 (posAt l (i + (wkS 5 h0 k0).length)) (textAt l (i + (wkS 5 h0 k0).length)) g0 u0 [.ty h.tk y]).2, ?_, A2, fun q r hq2 hr => ?_⟩
  · show (Tm.eqH _ _ && (Tm.alT h0 k0 g0 u0 && true)) = true
    rw [eqc (by rw [hq]; rfl) (fun e => absurd e (by rw [hq]; decide)) (fun e => absurd e (by rw [hq]; decide)) (fun e => absurd e (by rw [hq]; decide)) (fun _ => ys) (fun e => absurd e (by rw [hq]; decide)) (by rw [hq]; rfl), al0]
    rfl
  · exact A3 q r (Nat.le_trans hq2 (Nat.zero_le _)) (T.go e hq2 (Nat.zero_le _) (T.ty yo .nil) hr)
theorem known_read (i : Nat) (hi : i < 7) : ∃ g' u, Tm.sameT (kt i).1 (kt i).2 g' u = true ∧ TxOut (kx i) (.ok g' u) := by
  obtain ⟨e, m, hc, hb, hn, hz, -, -⟩ := known_at i hi
  have g := Good.of hc hb hn
  by_cases h6 : i < 6
  · unfold kws at m
    rw [if_pos h6] at m
    exact read_of g hc (kx i) e m hz
  · obtain rfl : i = 6 := by omega
    unfold kws at m
    rw [if_neg (by decide)] at m
    have hm := wl_stand m
    have hst : Stand (wl (kx 6)) 0 (wkS 5 { hk0 16 with tk := 1 } (.node (vr 120) .nil .nil) ++ ([(4, [58])] ++ Rd.wds 1 0 .nil)) := by
      intro j x hx
      rw [Nat.zero_add, sees_kt1, hm, List.getElem?_append_left (List.getElem?_eq_some_iff.1 hx).1, hx]
      simp
    have hend : sees (wl (kx 6)) (0 + (wkS 5 { hk0 16 with tk := 1 } (.node (vr 120) .nil .nil)).length + 1 + (wds 1 0 .nil).length) 0 [] = true := by
      rw [sees_kt1, hm]; decide +kernel
    have gk : Good { hk0 16 with tk := 1 } (.node (vr 120) .nil .nil) := g.kids.node.1
    have o := own_all (num_ok e) 5 { hk0 16 with tk := 1 } (.node (vr 120) .nil .nil) (by decide) gk
    have sh := Shut.oth hend (by decide)
    exact read_rt hc (kx 6) e (RQm.term (is_wide { hk0 16 with tk := 0 } _ _ rfl (by decide) o 0 hst sh.fol) sh) hend hz
theorem known_pair (i : Nat) (hi : i < 7) : ∃ g u, TxOut (kx i) (.ok g u) ∧ nuT g u = true ∧ txS g u = kw i ∧ txE g u = 0 := by
  obtain ⟨e, m, hc, hb, hn, hz, hs, he⟩ := known_at i hi
  have g := Good.of hc hb hn
  obtain ⟨g', u, hsame, hO⟩ := known_read i hi
  obtain ⟨-, hb', hn'⟩ := out_fine hO
  obtain ⟨a, b⟩ := tx_al g hsame hb'
  exact ⟨g', u, hO, hn', a.trans hs, b.trans he⟩
/-- a cast: it has no words -/
def hc17 : Hd := { hk0 17 with label := 1 }
theorem cast_no : txE hc17 (.node (vr 120) .nil .nil) = 30 ∧ nuT hc17 (.node (vr 120) .nil .nil) = true := by decide +kernel
end Sh
end Go.Proofs.YtocehfklacjgbaaGreatDoor
namespace Go.Proofs.YtocehfklacjgbaaGreatDoor
namespace Sh
open Rd Tt
/-- \\x:int.x+1 -/
def wx1 : ByteArray := ⟨#[92, 120, 58, 105, 110, 116, 46, 120, 43, 49]⟩
/-- 1 < 2 < 3 -/
def wx2 : ByteArray := ⟨#[49, 32, 60, 32, 50, 32, 60, 32, 51]⟩
def wz (k : Int) : Hd := ⟨k, ⟨#[]⟩, ⟨#[]⟩, 0, 0, .nil, 0, .nil, 0, 0⟩
def wh1 : Hd := { wz 4 with name := ⟨#[120]⟩, tk := 1 }
def wk1 : Tm := .node { wz 15 with name := ⟨#[43]⟩ } (.node { wz 0 with name := ⟨#[120]⟩ } .nil (.node { wz 1 with num := 1 } .nil .nil)) .nil
theorem wx1_at : (Sc.tk wx1 0).2 = none ∧ (Sc.tk wx1 0).1.map Sc.tx = wkS (-1) wh1 wk1 ∧ Tm.chk wh1 wk1 = 0 ∧ badT wh1 wk1 = false ∧ nuT wh1 wk1 = true ∧ wx1.size ≤ 65536 :=
  ⟨by decide +kernel, by decide +kernel, by decide +kernel, by decide +kernel, by decide +kernel, by decide +kernel⟩
theorem plus_at (p : Nat) (h : p + 1 ≤ 10) (e : (wx1.extract p (p + 1)).toList = [43]) : p = 8 := by
  have hc : p = 0 ∨ p = 1 ∨ p = 2 ∨ p = 3 ∨ p = 4 ∨ p = 5 ∨ p = 6 ∨ p = 7 ∨ p = 8 ∨ p = 9 := by omega
  rcases hc with rfl | rfl | rfl | rfl | rfl | rfl | rfl | rfl | rfl | rfl
  case inr.inr.inr.inr.inr.inr.inr.inr.inl => rfl
  all_goals exact absurd e (by decide +kernel)
/-- the first text's term -/
theorem wx1_read : ∃ g h1 k1, TxOut wx1 (.ok g (.node h1 k1 .nil)) ∧ g.kind = 4 ∧ g.name = ⟨#[120]⟩ ∧ g.tk = 1 ∧ h1.kind = 15 ∧ h1.pos = 8 := by
  obtain ⟨e, m, hc, hb, hn, hz⟩ := wx1_at
  have gd := Good.of hc hb hn
  obtain ⟨g, u, hs, hO⟩ := read_of gd hc wx1 e m hz
  unfold Tm.sameT at hs
  simp only [Bool.and_eq_true, beq_iff_eq] at hs
  obtain ⟨-, -, hal⟩ := hs
  unfold Tm.alT wk1 at hal
  rw [Bool.and_eq_true] at hal
  obtain ⟨ha, hk⟩ := hal
  obtain ⟨f1, f2, -, -, -, -⟩ := eqH_facts ha
  have hty : Ty.sameT 1 .nil g.tk g.tkids = true := by
    unfold Tm.eqH Tm.cnt at ha
    simp only [Bool.and_eq_true, beq_iff_eq] at ha
    obtain ⟨hk1, -, -, -, -, d, -⟩ := ha
    rw [← hk1] at d
    exact d
  match u, hk with
  | .node h1 k1 .nil, hk =>
    simp only [Tm.alF, Bool.and_eq_true] at hk
    obtain ⟨q1, q2, -, -, -, -⟩ := eqH_facts hk.1.1
    refine ⟨g, h1, k1, hO, f1.symm, ?_, ?_, q1.symm, ?_⟩
    · have := f2 rfl
      rw [Lib.toList_data, Lib.toList_data] at this
      apply ByteArray.ext
      apply Array.ext'
      exact this.symm
    · unfold Ty.sameT Ty.eqT at hty
      simp only [Bool.and_eq_true, beq_iff_eq] at hty
      exact hty.2.1.symm
    · cases hO with
      | read hz2 e2 hT hf =>
        cases hf with
        | good h0 hx hk0 =>
          obtain ⟨p1, -⟩ := places_of e2 hT
          obtain ⟨p, t, it⟩ := p1 h1 (by simp [heads])
          have hh := it.head
          have ht : t = [43] := by
            unfold HeadIs at hh
            rw [← q1] at hh
            rcases hh with ⟨-, h⟩ | ⟨h, -⟩ | ⟨h, -⟩ | ⟨k, h⟩
            · rw [h, ← q2 rfl, Lib.toList_data]
            · exact absurd h (by decide)
            · exact absurd h (by decide)
            · exact absurd (show (none : Option (Int × List UInt8)) = some (k, t) from h) (by simp)
          have h8 := plus_at p (by have := it.le; rw [ht] at this; exact this) (by have := it.cut; rw [ht] at this; exact this)
          rw [it.pos, h8]; rfl
  | .nil, hk => simp [Tm.alF] at hk
  | .node _ _ (.node _ _ _), hk => simp [Tm.alF] at hk
/-- the second text's fault -/
theorem wx2_read : TxOut wx2 (.bad 40 6 ⟨#[60]⟩) := by
  have e : (Sc.tk wx2 0).2 = none := by decide +kernel
  have s0 : sees (wl wx2) 0 2 [49] = true := by decide +kernel
  have s1 : sees (wl wx2) 1 4 [60] = true := by decide +kernel
  have s2 : sees (wl wx2) 2 2 [50] = true := by decide +kernel
  have s3 : sees (wl wx2) 3 4 [60] = true := by decide +kernel
  obtain ⟨x0, hx0, k0, -⟩ := sees_word s0
  obtain ⟨x2, hx2, k2, -⟩ := sees_word s2
  obtain ⟨x3, hx3, k3, -⟩ := sees_word s3
  have F0 : formO (wl wx2) 0 = (1, [.nu], 0, 5) := by unfold formO; simp [sees_is s0, hx0, k0]
  have F2 : formO (wl wx2) 2 = (1, [.nu], 2, 5) := by unfold formO; simp [sees_is s2, hx2, k2]
  have O0 : T (wl wx2) (.opnd 0) (.ok [.tm (mk 1 (posAt (wl wx2) 0) [.nu x0.num]).1 (mk 1 (posAt (wl wx2) 0) [.nu x0.num]).2] 1) := by
    have q := T.opnd (l := wl wx2) (i := 0) (r := .ok [.nu x0.num] 1) (by rw [F0]; exact T.nu hx0 k0 .nil)
    rw [F0] at q
    exact q
  have O2 : T (wl wx2) (.opnd 2) (.ok [.tm (mk 1 (posAt (wl wx2) 2) [.nu x2.num]).1 (mk 1 (posAt (wl wx2) 2) [.nu x2.num]).2] 3) := by
    have q := T.opnd (l := wl wx2) (i := 2) (r := .ok [.nu x2.num] 3) (by rw [F2]; exact T.nu hx2 k2 .nil)
    rw [F2] at q
    exact q
  have op1 : opr (wl wx2) 1 = some (15, 1, 2, [.pt 2]) := by rw [opr_sig s1]; rfl
  have op3 : opr (wl wx2) 3 = some (15, 1, 2, [.pt 2]) := by rw [opr_sig s3]; rfl
  have P2 := T.part (q := 2) O2 (.stop (st := (formO (wl wx2) 2).2.2.2) fun k s lf its h => by rw [op3] at h; injection h with h; injection h with _ h; injection h with h _; omega)
  have L1 := T.go (q := 0) (st := 5) (h := (mk 1 (posAt (wl wx2) 0) [.nu x0.num]).1) (t := (mk 1 (posAt (wl wx2) 0) [.nu x0.num]).2) op1 (Nat.zero_le _) (by decide) (T.pt P2 .nil) (.stop fun k s lf its h => by rw [op3] at h; injection h with h; injection h with _ h; injection h with _ h; injection h with h _; omega)
  have P0 := T.part (q := 0) O0 (by rw [F0]; exact L1)
  have TT := T.term (formT_is s0 (.inl (by decide)) (.inl (by decide))) P0
  have hok := fun x hx => (wl_ok e x hx).1
  have hc := T.chk hok TT
  have h3 : fAt (wl wx2) 3 = 6 ∧ fWord (wl wx2) 3 = ⟨#[60]⟩ := by decide +kernel
  have hf := Fits.more (l := wl wx2) (h := _) (t := _) (j := 3) (hc.trans rfl) hx3 (by rw [k3]; decide)
  rw [h3.1, h3.2] at hf
  exact .read (by decide) e TT hf
end Sh
end Go.Proofs.YtocehfklacjgbaaGreatDoor
