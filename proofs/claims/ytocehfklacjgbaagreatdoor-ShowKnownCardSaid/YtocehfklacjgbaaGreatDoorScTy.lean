/-
  A type's text, scanned: its words.
-/
import Derived.Test.YtocehfklacjgbaaGreatDoorM3
import Derived.Test.YtocehfklacjgbaaGreatDoorM1
import Derived.Test.YtocehfklacjgbaaGreatDoorM7
namespace Go.Proofs.YtocehfklacjgbaaGreatDoor
namespace Sc
/-- kind and text of a word -/
def tx (x : Wd) : Int × List UInt8 := (x.1, x.2.1.toList)
/-- from behind P on, U gives those words -/
def Tks (s : ByteArray) (P U : List UInt8) (ws : List (Int × List UInt8)) : Prop := ∃ l : List Wd, l.map tx = ws ∧ tk s P.length = (l ++ (tk s (P.length + U.length)).1, (tk s (P.length + U.length)).2)
theorem Tks.app {s : ByteArray} {P U V : List UInt8} {ws vs : List (Int × List UInt8)} (h : Tks s P U ws) (g : Tks s (P ++ U) V vs) : Tks s P (U ++ V) (ws ++ vs) := by
  obtain ⟨l, h1, h2⟩ := h
  obtain ⟨m, g1, g2⟩ := g
  rw [List.length_append] at g2
  refine ⟨l ++ m, by rw [List.map_append, h1, g1], ?_⟩
  rw [h2, g2, List.length_append, ← Nat.add_assoc, List.append_assoc]
theorem at_len {s : ByteArray} {P U : List UInt8} (h : s.data.toList = P ++ U) (hU : U ≠ []) : P.length < s.size := by
  have := data_len s
  rw [h, List.length_append] at this
  have := List.length_pos_iff.2 hU
  omega
theorem byte_at {s : ByteArray} {P U : List UInt8} (h : s.data.toList = P ++ U) : byteAt s P.length = ((U.headD 0).toNat : Int) := by
  unfold byteAt
  rw [h, List.drop_left]
theorem Tks.blank {s : ByteArray} {P S : List UInt8} (h : s.data.toList = P ++ 32 :: S) : Tks s P [32] [] := by
  refine ⟨[], rfl, ?_⟩
  rw [tk_blank s P.length (at_len h (by simp)) (by rw [byte_at h]; exact (by decide : blan 32 = true))]
  rfl
theorem rest_at {s : ByteArray} {P U : List UInt8} (h : s.data.toList = P ++ U) : (rest s P.length).data.toList = U := by rw [rest_data, h, List.drop_left]
theorem Tks.word {s : ByteArray} {P U S : List UInt8} {k : Int} (h : s.data.toList = P ++ (U ++ S)) (hU : U ≠ []) (hb : blan (((U.headD 0).toNat : Nat) : Int) = false) (h35 : (((U.headD 0).toNat : Nat) : Int) ≠ 35)
    (hN : fN (rest s P.length) = U.length) (hK : fK (rest s P.length) = k) (hE : fE (rest s P.length) = 0) : Tks s P U [(k, U)] := by
  have hd : ((U ++ S).headD 0) = U.headD 0 := by cases U with
    | nil => exact absurd rfl hU
    | cons _ _ => rfl
  refine ⟨[wordAt s P.length], ?_, ?_⟩
  · show [tx (wordAt s P.length)] = _
    unfold tx wordAt
    congr 1
    rw [hK, hN, Lib.toList_data, Lib.extract_data, rest_at h]
    simp
  · rw [tk_word s P.length (at_len h (by simp [hU])) (by rw [byte_at h, hd]; exact hb) (by rw [byte_at h, hd]; exact h35) hE, hN]
    rfl
theorem hd_at {s : ByteArray} {P U : List UInt8} (h : s.data.toList = P ++ U) : hd (rest s P.length) = ((U.headD 0).toNat : Int) := by unfold hd; rw [rest_at h]
theorem Tks.sign {s : ByteArray} {P S : List UInt8} {c : UInt8} (h : s.data.toList = P ++ ([c] ++ S)) (hc : c = 40 ∨ c = 41 ∨ c = 63 ∨ c = 42 ∨ c = 43) : Tks s P [c] [(4, [c])] := by
  have h1 := hd_at h
  have h2 := rest_at h
  have hp : Lib.hasPrefix (rest s P.length).data.toList [45, 62] = false := by
    rw [h2]; rcases hc with rfl | rfl | rfl | rfl | rfl <;> rfl
  have h3 : hd (rest s P.length) = ((c.toNat : Nat) : Int) := h1
  have hf : lett ((c.toNat : Nat) : Int) = false ∧ digi ((c.toNat : Nat) : Int) = false ∧ isSign ((c.toNat : Nat) : Int) = true ∧ blan ((c.toNat : Nat) : Int) = false ∧ ((c.toNat : Nat) : Int) ≠ 35 := by
    rcases hc with rfl | rfl | rfl | rfl | rfl <;> decide
  obtain ⟨hl, hg, hs, hb, h35⟩ := hf
  rw [← h3] at hl hg hs
  refine Tks.word h (by simp) hb h35 ?_ ?_ ?_
  · unfold fN; rw [hl, hg, hp]; rfl
  · unfold fK; rw [hl, hg, hp, hs]; rfl
  · unfold fE; rw [hl, hg, hp, hs]; rfl
theorem Tks.arrow {s : ByteArray} {P S : List UInt8} (h : s.data.toList = P ++ ([45, 62] ++ S)) : Tks s P [45, 62] [(4, [45, 62])] := by
  have h1 := hd_at h
  have h2 := rest_at h
  have hp : Lib.hasPrefix (rest s P.length).data.toList [45, 62] = true := by rw [h2]; rfl
  have h3 : hd (rest s P.length) = 45 := h1
  have hl : lett (hd (rest s P.length)) = false := by rw [h3]; decide
  have hg : digi (hd (rest s P.length)) = false := by rw [h3]; decide
  refine Tks.word h (by simp) (by decide) (by decide) ?_ ?_ ?_
  · unfold fN; rw [hl, hg, hp]; rfl
  · unfold fK; rw [hl, hg, hp]; rfl
  · unfold fE; rw [hl, hg, hp]; rfl
/-- a name ends there -/
def Ends (S : List UInt8) : Prop := lord (((S.headD 32).toNat : Nat) : Int) = false
theorem Tks.key {s : ByteArray} {P S U : List UInt8} (h : s.data.toList = P ++ (U ++ S)) (hU : U = [105, 110, 116] ∨ U = [98, 111, 111, 108]) (hS : Ends S) : Tks s P U [(3, U)] := by
  have h1 := hd_at h
  have h2 := rest_at h
  have hl : lett (hd (rest s P.length)) = true := by
    rw [h1]
    rcases hU with rfl | rfl
    · exact (by decide : lett 105 = true)
    · exact (by decide : lett 98 = true)
  have hsp : spanN lord S = 0 := by
    cases S with
    | nil => rfl
    | cons c S => rw [spanN_cons]; unfold Ends at hS; simp only [List.headD_cons] at hS; rw [hS]; rfl
  have hn : spanN lord (U ++ S) = U.length := by
    rcases hU with rfl | rfl <;> simp only [List.cons_append, List.nil_append, spanN_cons] <;> rw [hsp] <;> rfl
  have hN : fN (rest s P.length) = U.length := by unfold fN; rw [hl, h2]; exact hn
  have hx : ((rest s P.length).extract 0 U.length).toList = U := by rw [Lib.toList_data, Lib.extract_data, h2]; simp
  refine Tks.word h (by rcases hU with rfl | rfl <;> simp) (by rcases hU with rfl | rfl <;> decide) (by rcases hU with rfl | rfl <;> decide) hN ?_ ?_
  · unfold fK
    rw [hl, hN]
    show nameKind _ _ = 3
    unfold nameKind isKey
    rw [hx]
    rcases hU with rfl | rfl <;> decide
  · unfold fE
    rw [hl, hN]
    show nameErr _ = 0
    rcases hU with rfl | rfl <;> decide

theorem need_eq {k : Int} (hk : k = 3 ∨ k = 4 ∨ k = 5) : Ty.need k true = (Rd.lft k : Nat) ∧ Ty.need k false = (Rd.rgt k : Nat) ∧ Ty.binds k = (Rd.binds k : Nat) := by
  rcases hk with rfl | rfl | rfl <;> decide

/-- a type's text gives its words -/
theorem scan_txt (s : ByteArray) : ∀ (K : Nat) (k : Int) (f : Fo) (q : Nat) (P S : List UInt8), Ty.nodes f < K → Ty.okT k f = true → s.data.toList = P ++ (Ty.txt k f (q : Int) ++ S) → Ends S → Tks s P (Ty.txt k f (q : Int)) (Rd.wds q k f)
  | 0, _, _, _, _, _, h, _, _, _ => absurd h (by omega)
  | K + 1, k, f, q, P, S, hK, hok, h, hS => by
    unfold Ty.okT at hok
    rw [Bool.and_eq_true] at hok
    obtain ⟨hk, hf⟩ := hok
    unfold Ty.okK at hk
    by_cases h3 : 0 ≤ k ∧ k ≤ 2
    · rw [if_pos h3] at hk
      have : f = .nil := by
        cases f with
        | nil => rfl
        | node _ _ _ _ _ => simp [Ty.len] at hk
      subst this
      have e : Ty.txt k .nil (q : Int) = Ty.word k := by unfold Ty.txt Ty.txtOne; rw [if_pos h3.2]
      rw [e] at h ⊢
      rcases (by omega : k = 0 ∨ k = 1 ∨ k = 2) with rfl | rfl | rfl
      · exact Tks.sign h (by simp)
      · exact Tks.key h (.inl rfl) hS
      · exact Tks.key h (.inr rfl) hS
    · rw [if_neg h3] at hk
      have h5 : 3 ≤ k ∧ k ≤ 5 := by
        by_cases h : 3 ≤ k ∧ k ≤ 5
        · exact h
        · rw [if_neg h] at hk; cases hk
      rw [if_pos h5] at hk
      have h345 : k = 3 ∨ k = 4 ∨ k = 5 := by omega
      match f, hk, hf, hK, h with
      | .nil, hk, _, _, _ => simp [Ty.len] at hk
      | .node _ _ _ _ .nil, hk, _, _, _ => simp [Ty.len] at hk
      | .node _ _ _ _ (.node _ _ _ _ (.node _ _ _ _ _)), hk, _, _, _ => simp [Ty.len] at hk
      | .node x y a aa (.node z u b bb .nil), _, hf, hK, h =>
      simp only [Ty.okF, Bool.and_eq_true] at hf
      simp only [Ty.nodes] at hK
      obtain ⟨n1, n2, n3⟩ := need_eq h345
      have ein := Ty.txt_two k x y z u a aa b bb
      rw [n1, n2] at ein
      -- the words without brackets
      have inner : ∀ (P S : List UInt8), s.data.toList = P ++ (Ty.txtIn (.node x y a aa (.node z u b bb .nil)) k true ++ S) → Ends S →
          Tks s P (Ty.txtIn (.node x y a aa (.node z u b bb .nil)) k true) (Rd.wds (Rd.lft k) a aa ++ [(4, if k = 3 then Rd.sArrow else if k = 4 then [42] else [43])] ++ Rd.wds (Rd.rgt k) b bb) := by
        intro P S h hS
        rw [ein] at h ⊢
        have g1 := scan_txt s K a aa (Rd.lft k) P (32 :: (Ty.word k ++ (32 :: (Ty.txt b bb (Rd.rgt k : Nat) ++ S)))) (by omega) (by unfold Ty.okT; simp [hf.1.1, hf.1.2]) (by rw [h]; simp) (show lord 32 = false by decide)
        have e2 : s.data.toList = (P ++ Ty.txt a aa (Rd.lft k : Nat)) ++ 32 :: (Ty.word k ++ (32 :: (Ty.txt b bb (Rd.rgt k : Nat) ++ S))) := by rw [h]; simp
        have g2 := Tks.blank e2
        have e3 : s.data.toList = (P ++ Ty.txt a aa (Rd.lft k : Nat) ++ [32]) ++ (Ty.word k ++ (32 :: (Ty.txt b bb (Rd.rgt k : Nat) ++ S))) := by rw [h]; simp
        have g3 : Tks s (P ++ Ty.txt a aa (Rd.lft k : Nat) ++ [32]) (Ty.word k) [(4, if k = 3 then Rd.sArrow else if k = 4 then [42] else [43])] := by
          rcases h345 with rfl | rfl | rfl
          · exact Tks.arrow e3
          · exact Tks.sign e3 (by simp)
          · exact Tks.sign e3 (by simp)
        have e4 : s.data.toList = (P ++ Ty.txt a aa (Rd.lft k : Nat) ++ [32] ++ Ty.word k) ++ 32 :: (Ty.txt b bb (Rd.rgt k : Nat) ++ S) := by rw [h]; simp
        have g4 := Tks.blank e4
        have g5 := scan_txt s K b bb (Rd.rgt k) (P ++ Ty.txt a aa (Rd.lft k : Nat) ++ [32] ++ Ty.word k ++ [32]) S (by omega) (by unfold Ty.okT; simp [hf.2.1.1, hf.2.1.2]) (by rw [h]; simp) hS
        have g := (((g1.app g2).app (by simpa using g3)).app (by simpa using g4)).app (by simpa using g5)
        simpa using g
      by_cases hbq : Rd.binds k < q
      · have et : Ty.txt k (.node x y a aa (.node z u b bb .nil)) (q : Int) = 40 :: (Ty.txtIn (.node x y a aa (.node z u b bb .nil)) k true ++ [41]) := by
          unfold Ty.txt Ty.txtOne
          rw [if_neg (by omega), if_pos (by rw [n3]; omega)]
        have ew : Rd.wds q k (.node x y a aa (.node z u b bb .nil)) = [(4, [40])] ++ (Rd.wds (Rd.lft k) a aa ++ [(4, if k = 3 then Rd.sArrow else if k = 4 then [42] else [43])] ++ Rd.wds (Rd.rgt k) b bb) ++ [(4, [41])] := by
          show (if Rd.binds k < q then _ else _) = _
          rw [if_pos hbq]
        rw [et] at h ⊢
        rw [ew]
        have g1 : Tks s P [40] [(4, [40])] := Tks.sign (S := Ty.txtIn (.node x y a aa (.node z u b bb .nil)) k true ++ [41] ++ S) (by rw [h]; simp) (by simp)
        have g2 := inner (P ++ [40]) (41 :: S) (by rw [h]; simp) (show lord 41 = false by decide)
        have g3 : Tks s (P ++ [40] ++ Ty.txtIn (.node x y a aa (.node z u b bb .nil)) k true) [41] [(4, [41])] := Tks.sign (S := S) (by rw [h]; simp) (by simp)
        have g := (g1.app g2).app (by simpa using g3)
        simpa using g
      · have et : Ty.txt k (.node x y a aa (.node z u b bb .nil)) (q : Int) = Ty.txtIn (.node x y a aa (.node z u b bb .nil)) k true := by
          unfold Ty.txt Ty.txtOne
          rw [if_neg (by omega), if_neg (by rw [n3]; omega)]
        have ew : Rd.wds q k (.node x y a aa (.node z u b bb .nil)) = Rd.wds (Rd.lft k) a aa ++ [(4, if k = 3 then Rd.sArrow else if k = 4 then [42] else [43])] ++ Rd.wds (Rd.rgt k) b bb := by
          show (if Rd.binds k < q then _ else _) = _
          rw [if_neg hbq]
        rw [et] at h ⊢
        rw [ew]
        exact inner P S h hS
end Sc
namespace Ty
end Ty
end Go.Proofs.YtocehfklacjgbaaGreatDoor
