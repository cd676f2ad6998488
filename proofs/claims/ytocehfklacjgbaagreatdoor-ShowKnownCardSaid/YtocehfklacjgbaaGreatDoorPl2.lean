/-
  Every term that a text is read as knows its place in the text: no two places are one; at each stands its head word.
-/
import Derived.Test.YtocehfklacjgbaaGreatDoorM18
import Derived.Test.YtocehfklacjgbaaGreatDoorM15
namespace Go.Proofs.YtocehfklacjgbaaGreatDoor
namespace Sc
theorem chain_at {s : ByteArray} : ∀ {l : List Wd} {lo : Nat}, Chain s lo l → ∀ (n : Nat) (y : Wd), l[n]? = some y → lo ≤ y.2.2.2 ∧ y.2.2.2 + y.2.1.size ≤ s.size ∧ s.extract y.2.2.2 (y.2.2.2 + y.2.1.size) = y.2.1 ∧ OkW y ∧ ∀ (m : Nat) (z : Wd), n < m → l[m]? = some z → y.2.2.2 + y.2.1.size ≤ z.2.2.2
  | [], _, _, n, y, h => by simp at h
  | x :: l, lo, hc, n, y, h => by
    obtain ⟨h1, h2, h3, h4, h5⟩ := hc
    cases n with
    | zero =>
      rw [List.getElem?_cons_zero] at h
      injection h with h
      subst h
      refine ⟨h1, h2, h3, h4, fun m z hm hz => ?_⟩
      cases m with
      | zero => omega
      | succ m => rw [List.getElem?_cons_succ] at hz; exact (chain_at h5 m z hz).1
    | succ n =>
      rw [List.getElem?_cons_succ] at h
      obtain ⟨a, b, c, d, e⟩ := chain_at h5 n y h
      refine ⟨by omega, b, c, d, fun m z hm hz => ?_⟩
      cases m with
      | zero => omega
      | succ m => rw [List.getElem?_cons_succ] at hz; exact e m z (by omega) hz
theorem numFrom_app (l : List UInt8) (c : UInt8) (a : Nat) : numFrom a (l ++ [c]) = numFrom a l * 10 + (c.toNat - 48) := by
  unfold numFrom
  rw [List.foldl_append]; rfl
theorem numFrom_pos : ∀ (l : List UInt8) (a : Nat), 0 < a → 0 < numFrom a l
  | [], a, h => h
  | c :: l, a, h => by rw [numFrom_cons]; exact numFrom_pos l _ (by omega)
/-- digits without a zero ahead are the number's -/
theorem dec_canon : ∀ (K : Nat) (l : List UInt8), l.length < K → l ≠ [] → (∀ c ∈ l, digi (c.toNat : Int) = true) → (1 < l.length → l.head? ≠ some 48) → l = Lib.decDigits (numFrom 0 l)
  | 0, _, h, _, _, _ => absurd h (by omega)
  | K + 1, l, hK, hne, hd, hz => by
    have dg : ∀ c : UInt8, digi (c.toNat : Int) = true → 48 ≤ c.toNat ∧ c.toNat ≤ 57 := fun c h => by
      unfold digi at h; simp only [decide_eq_true_eq] at h; omega
    obtain ⟨init, c, rfl⟩ : ∃ init c, l = init ++ [c] := ⟨l.dropLast, l.getLast hne, (List.dropLast_concat_getLast hne).symm⟩
    have hc := dg c (hd c (by simp))
    have back : UInt8.ofNat (48 + (c.toNat - 48)) = c := by
      rw [show 48 + (c.toNat - 48) = c.toNat by omega]
      exact UInt8.ofNat_toNat
    by_cases hi : init = []
    · subst hi
      have e : numFrom 0 ([] ++ [c]) = c.toNat - 48 := by simp [numFrom]
      rw [e, Lib.decDigits, dif_pos (by omega), back]
      rfl
    · have hlen := List.length_pos_iff.2 hi
      have hl1 : 1 < (init ++ [c]).length := by simp; omega
      have hh : (init ++ [c]).head? = init.head? := by
        cases init with
        | nil => exact absurd rfl hi
        | cons _ _ => rfl
      have hz' := hz hl1
      rw [hh] at hz'
      have ih := dec_canon K init (by simp at hK; omega) hi (fun d m => hd d (by simp [m])) (fun _ => hz')
      have hp : 0 < numFrom 0 init := by
        cases init with
        | nil => exact absurd rfl hi
        | cons d r =>
          rw [numFrom_cons]
          have hdd := dg d (hd d (by simp))
          have : d ≠ 48 := fun e => hz' (by simp [e])
          have h48 : d.toNat ≠ 48 := fun e => this (UInt8.toNat_inj.1 e)
          exact numFrom_pos r _ (by omega)
      rw [numFrom_app]
      have e1 : (numFrom 0 init * 10 + (c.toNat - 48)) / 10 = numFrom 0 init := by omega
      have e2 : (numFrom 0 init * 10 + (c.toNat - 48)) % 10 = c.toNat - 48 := by omega
      rw [Lib.decDigits, dif_neg (by omega), e1, e2, back, ← ih]
end Sc
namespace Tt
open Rd
/-- a number's word is its digits -/
theorem num_text {y : Sc.Wd} (h : Sc.OkW y) (hk : y.1 = 2) : 0 ≤ y.2.2.1 ∧ y.2.1.toList = Lib.decDigits y.2.2.1.toNat := by
  have hkk := h.k
  rw [hk] at hkk
  have hl : Sc.lett (Sc.hd y.2.1) = false := by
    cases hq : Sc.lett (Sc.hd y.2.1) with
    | false => rfl
    | true =>
      unfold Sc.fK at hkk
      rw [hq, if_pos rfl] at hkk
      unfold Sc.nameKind at hkk
      split at hkk
      · cases hkk
      · split at hkk <;> cases hkk
  have hd : Sc.digi (Sc.hd y.2.1) = true := by
    cases hq : Sc.digi (Sc.hd y.2.1) with
    | true => rfl
    | false =>
      unfold Sc.fK at hkk
      rw [hl, hq] at hkk
      simp only [Bool.false_eq_true, if_false] at hkk
      split at hkk <;> cases hkk
  have he := h.e
  unfold Sc.fE at he
  rw [hl, hd] at he
  simp only [Bool.false_eq_true, if_false, if_true] at he
  have hv := h.v
  unfold Sc.fV at hv
  rw [hl, hd] at hv
  simp only [Bool.false_eq_true, if_false, if_true] at hv
  unfold Sc.numNum at hv
  rw [if_pos he] at hv
  have hn := h.n
  have hsp : Sc.spanN Sc.digi y.2.1.data.toList = y.2.1.data.toList.length := by
    unfold Sc.fN at hn
    rw [hl, if_neg (by decide), hd, if_pos rfl] at hn
    rw [hn]
    exact (Sc.data_len _).symm
  have hall : ∀ c ∈ y.2.1.data.toList, Sc.digi (c.toNat : Int) = true := by
    intro c hc
    have := hsp
    unfold Sc.spanN at this
    have e : (y.2.1.data.toList.takeWhile fun b => Sc.digi (b.toNat : Int)) = y.2.1.data.toList := (List.takeWhile_sublist _).eq_of_length this
    rw [← e] at hc
    exact Sh.mem_while _ _ c hc
  have hne : y.2.1.data.toList ≠ [] := fun e => by
    have := Sc.data_len y.2.1
    rw [e] at this
    have := h.pos
    simp at *
    omega
  unfold Sc.numErr at he
  split at he
  · cases he
  · split at he
    · cases he
    · rename_i hb
      unfold Sc.numBad at hb
      have hlead : 1 < y.2.1.data.toList.length → y.2.1.data.toList.head? ≠ some 48 := fun h1 e => by
        apply hb
        have h2 : 1 < y.2.1.size := by rw [← Sc.data_len]; exact h1
        rw [h.n, e]
        simp [h2]
      have hval : Sc.numVal y.2.1 (Sc.fN y.2.1) = Sc.numFrom 0 y.2.1.data.toList := by
        unfold Sc.numVal
        rw [h.n, List.take_of_length_le (by rw [Sc.data_len]; exact Nat.le_refl _)]
      have hc := Sc.dec_canon _ _ (Nat.lt_succ_self _) hne hall hlead
      refine ⟨by omega, ?_⟩
      rw [Lib.toList_data, ← hv, hval, Int.toNat_natCast]
      exact hc
/-- a word of a text stands in it -/
theorem word_in {s : ByteArray} (h : (Sc.tk s 0).2 = none) {n : Nat} {x : W4} (hx : (wl s)[n]? = some x) (hk : x.kind ≠ 0) : ∃ y : Sc.Wd, x = w4 y ∧ (Sc.tk s 0).1[n]? = some y ∧ y.2.2.2 + y.2.1.size ≤ s.size ∧ s.extract y.2.2.2 (y.2.2.2 + y.2.1.size) = y.2.1 ∧ Sc.OkW y ∧
    ∀ (m : Nat) (x' : W4), n < m → (wl s)[m]? = some x' → x'.kind ≠ 0 → x.pos < x'.pos := by
  have hc := Sc.chain_of s (s.size + 1) 0 (by omega) h
  have key : ∀ (n : Nat) (x : W4), (wl s)[n]? = some x → x.kind ≠ 0 → ∃ y : Sc.Wd, x = w4 y ∧ (Sc.tk s 0).1[n]? = some y := fun n x hx hk => by
    unfold wl at hx
    rw [List.getElem?_map] at hx
    rcases Nat.lt_or_ge n (Sc.tk s 0).1.length with hl | hl
    · rw [List.getElem?_append_left hl, List.getElem?_eq_getElem hl] at hx
      injection hx with hx
      exact ⟨_, hx.symm, List.getElem?_eq_getElem hl⟩
    · rw [List.getElem?_append_right hl] at hx
      cases hq : n - (Sc.tk s 0).1.length with
      | zero =>
        rw [hq] at hx
        injection hx with hx
        rw [← hx] at hk
        exact absurd rfl hk
      | succ k => rw [hq] at hx; simp at hx
  obtain ⟨y, e, hy⟩ := key n x hx hk
  obtain ⟨-, a, b, c, d⟩ := Sc.chain_at hc n y hy
  refine ⟨y, e, hy, a, b, c, fun m x' hm hx' hk' => ?_⟩
  obtain ⟨z, e', hz⟩ := key m x' hx' hk'
  have := d m z hm hz
  have hp := c.pos
  rw [e, e']
  show ((y.2.2.2 : Nat) : Int) < ((z.2.2.2 : Nat) : Int)
  omega
/-- what stands at a term's place -/
def HeadIs (g : Hd) (t : List UInt8) : Prop :=
  ((g.kind = 0 ∨ g.kind = 15) ∧ t = g.name.toList) ∨ (g.kind = 1 ∧ 0 ≤ g.num ∧ t = Lib.decDigits g.num.toNat) ∨ (g.kind = 1 ∧ g.num ≤ 0 ∧ t = [45]) ∨ (∃ k, hw g.kind = some (k, t))
/-- a term knows its place in the text -/
structure InText (s : ByteArray) (g : Hd) (p : Nat) (t : List UInt8) : Prop where
  pos : g.pos = p
  ne : t ≠ []
  le : p + t.length ≤ s.size
  cut : (s.extract p (p + t.length)).toList = t
  head : HeadIs g t
theorem hw_kind {k kk : Int} {t : List UInt8} (h : hw k = some (kk, t)) : kk ≠ 0 := by
  unfold hw at h
  by_cases e2 : k = 2
  · rw [if_pos e2] at h; injection h with h; injection h with h _; omega
  rw [if_neg e2] at h
  by_cases e3 : k = 3
  · rw [if_pos e3] at h; injection h with h; injection h with h _; omega
  rw [if_neg e3] at h
  by_cases e4 : k = 4
  · rw [if_pos e4] at h; injection h with h; injection h with h _; omega
  rw [if_neg e4] at h
  by_cases e5 : k = 5
  · rw [if_pos e5] at h; injection h with h; injection h with h _; omega
  rw [if_neg e5] at h
  by_cases e6 : k = 6
  · rw [if_pos e6] at h; injection h with h; injection h with h _; omega
  rw [if_neg e6] at h
  by_cases e7 : k = 7
  · rw [if_pos e7] at h; injection h with h; injection h with h _; omega
  rw [if_neg e7] at h
  by_cases e8 : k = 8
  · rw [if_pos e8] at h; injection h with h; injection h with h _; omega
  rw [if_neg e8] at h
  by_cases e9 : k = 9
  · rw [if_pos e9] at h; injection h with h; injection h with h _; omega
  rw [if_neg e9] at h
  by_cases e10 : k = 10
  · rw [if_pos e10] at h; injection h with h; injection h with h _; omega
  rw [if_neg e10] at h
  by_cases e11 : k = 11
  · rw [if_pos e11] at h; injection h with h; injection h with h _; omega
  rw [if_neg e11] at h
  by_cases e12 : k = 12
  · rw [if_pos e12] at h; injection h with h; injection h with h _; omega
  rw [if_neg e12] at h
  by_cases e13 : k = 13
  · rw [if_pos e13] at h; injection h with h; injection h with h _; omega
  rw [if_neg e13] at h
  by_cases e14 : k = 14
  · rw [if_pos e14] at h; injection h with h; injection h with h _; omega
  rw [if_neg e14] at h
  by_cases e16 : k = 16
  · rw [if_pos e16] at h; injection h with h; injection h with h _; omega
  rw [if_neg e16] at h
  cases h
theorem HW.word {l : List W4} {n : Nat} {g : Hd} (h : HW l n g) : ∃ x, l[n]? = some x ∧ x.kind ≠ 0 ∧ g.pos = x.pos ∧ ((g.kind = 1 ∧ x.kind = 2 ∧ x.num = g.num) ∨ ∃ t, HeadIs g t ∧ x.text.toList = t) := by
  obtain ⟨hp, hlt, hc⟩ := h
  have hx : l[n]? = some l[n] := List.getElem?_eq_getElem hlt
  have hpos : g.pos = (l[n]).pos := by rw [hp]; unfold posAt; rw [hx]
  have sw : ∀ {k : Int} {t : List UInt8}, sees l n k t = true → (l[n]).kind = k ∧ (l[n]).text.toList = t := fun {k t} hs => by
    unfold sees at hs
    rw [hx] at hs
    simp only [Bool.and_eq_true, beq_iff_eq] at hs
    exact hs
  refine ⟨l[n], hx, ?_, hpos, ?_⟩
  · rcases hc with ⟨-, x, h1, h2, -⟩ | ⟨-, x, h1, h2, -⟩ | ⟨-, -, hs⟩ | ⟨k, t, h1, hs⟩ | ⟨-, hs⟩
    · rw [hx] at h1; injection h1 with h1; rw [h1, h2]; decide
    · rw [hx] at h1; injection h1 with h1; rw [h1, h2]; decide
    · rw [(sw hs).1]; decide
    · rw [(sw hs).1]; exact hw_kind h1
    · rw [(sw hs).1]; decide
  · rcases hc with ⟨h0, x, h1, h2, h3⟩ | ⟨h0, x, h1, h2, h3⟩ | ⟨h0, h1, hs⟩ | ⟨k, t, h1, hs⟩ | ⟨h0, hs⟩
    · rw [hx] at h1; injection h1 with h1; exact .inr ⟨_, .inl ⟨.inl h0, rfl⟩, by rw [h1, h3]⟩
    · rw [hx] at h1; injection h1 with h1; exact .inl ⟨h0, by rw [h1]; exact h2, by rw [h1]; exact h3⟩
    · exact .inr ⟨[45], .inr (.inr (.inl ⟨h0, h1, rfl⟩)), (sw hs).2⟩
    · exact .inr ⟨t, .inr (.inr (.inr ⟨k, h1⟩)), (sw hs).2⟩
    · exact .inr ⟨_, .inl ⟨.inr h0, rfl⟩, (sw hs).2⟩
theorem HW.inText {s : ByteArray} (h : (Sc.tk s 0).2 = none) {n : Nat} {g : Hd} (hw' : HW (wl s) n g) : ∃ p t, InText s g p t := by
  obtain ⟨x, hx, hk, hp, hc⟩ := hw'.word
  obtain ⟨y, rfl, hy, h1, h2, h3, -⟩ := word_in h hx hk
  have hlen : y.2.1.toList.length = y.2.1.size := by rw [Lib.toList_data, Sc.data_len]
  have hne : y.2.1.toList ≠ [] := fun e => by rw [e] at hlen; have := h3.pos; simp at hlen; omega
  refine ⟨y.2.2.2, y.2.1.toList, hp, hne, by rw [hlen]; exact h1, by rw [hlen, h2], ?_⟩
  rcases hc with ⟨h0, hk2, hnum⟩ | ⟨t, ht, e⟩
  · obtain ⟨a, b⟩ := num_text h3 hk2
    have e : y.2.2.1 = g.num := hnum
    rw [e] at a b
    exact .inr (.inl ⟨h0, a, b⟩)
  · have e' : y.2.1.toList = t := e
    rw [e']; exact ht
theorem all_in {s : ByteArray} (h : (Sc.tk s 0).2 = none) {ns : List Nat} {gs : List Hd} (ha : All2 (HW (wl s)) ns gs) : ∀ g ∈ gs, ∃ p t, InText s g p t := by
  induction ha with
  | nil => intro g hg; cases hg
  | cons hh _ ih =>
    intro g hg
    rcases List.mem_cons.1 hg with rfl | hg
    · exact hh.inText h
    · exact ih g hg
theorem pos_ne {s : ByteArray} (h : (Sc.tk s 0).2 = none) {n m : Nat} {g k : Hd} (a : HW (wl s) n g) (b : HW (wl s) m k) (hn : n ≠ m) : g.pos ≠ k.pos := by
  obtain ⟨x, hx, hkx, hpx, -⟩ := a.word
  obtain ⟨z, hz, hkz, hpz, -⟩ := b.word
  rw [hpx, hpz]
  rcases Nat.lt_or_gt_of_ne hn with hl | hl
  · obtain ⟨y, -, -, -, -, -, d⟩ := word_in h hx hkx
    have := d m z hl hz hkz
    omega
  · obtain ⟨y, -, -, -, -, -, d⟩ := word_in h hz hkz
    have := d n x hl hx hkx
    omega
theorem all_mem {α β : Type} {R : α → β → Prop} {xs : List α} {ys : List β} (h : All2 R xs ys) : ∀ y ∈ ys, ∃ x ∈ xs, R x y := by
  induction h with
  | nil => intro y hy; cases hy
  | cons hh _ ih =>
    intro y hy
    rcases List.mem_cons.1 hy with rfl | hy
    · exact ⟨_, List.mem_cons_self, hh⟩
    · obtain ⟨x, hx, hr⟩ := ih y hy
      exact ⟨x, List.mem_cons_of_mem _ hx, hr⟩
/-- no two places are one -/
theorem all_nodup {s : ByteArray} (h : (Sc.tk s 0).2 = none) {ns : List Nat} {gs : List Hd} (ha : All2 (HW (wl s)) ns gs) : ns.Nodup → (gs.map (·.pos)).Nodup := by
  induction ha with
  | nil => intro _; exact List.nodup_nil
  | @cons n g ns' gs' hh ht ih =>
    intro hn
    obtain ⟨h1, h2⟩ := List.nodup_cons.1 hn
    rw [List.map_cons, List.nodup_cons]
    refine ⟨fun hm => ?_, ih h2⟩
    obtain ⟨k, hk, e⟩ := List.mem_map.1 hm
    obtain ⟨m, hm2, hr⟩ := all_mem ht k hk
    exact pos_ne h hh hr (fun e' => h1 (e' ▸ hm2)) e.symm
/-- a text's term: each of its terms knows its place, no two places are one -/
theorem places_of {s : ByteArray} (h : (Sc.tk s 0).2 = none) {g : Hd} {t : Tm} {j : Nat} (hT : T (wl s) (.term 0) (.ok [.tm g t] j)) :
    (∀ k ∈ g :: heads t, ∃ p w, InText s k p w) ∧ ((g :: heads t).map (·.pos)).Nodup := by
  have q := hT.has (fun x hx => (wl_ok h x hx).1) (Nat.zero_le _) _ _ rfl
  obtain ⟨ns, a, b, -⟩ := (show Has (wl s) 0 j (vhs [.tm g t]) from q)
  have e : vhs [.tm g t] = g :: heads t := by simp [vhs]
  rw [e] at a
  exact ⟨all_in h a, all_nodup h a b⟩
end Tt
end Go.Proofs.YtocehfklacjgbaaGreatDoor
