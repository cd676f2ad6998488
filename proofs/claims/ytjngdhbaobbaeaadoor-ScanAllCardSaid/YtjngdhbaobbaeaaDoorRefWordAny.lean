/-
  The reference's word, in one contract.
-/
import Derived.Test.YtjngdhbaobbaeaaDoorRefWord
namespace Go.Proofs.YtjngdhbaobbaeaaDoor
open Go.RowKit

theorem Sc.ext_rest (s : ByteArray) (a n : Nat) : (Sc.rest s a).extract 0 n = s.extract a (a + n) := by
  rw [Lib.extract_eq, Lib.extract_eq, Sc.rest_data]
  simp

def Sc.okRes (k v : Int) (t : ByteArray) (a en : Nat) : Value := .tuple #[.agg #[.int .i8 k, .string t, .int .i64 v, .int .i64 a], .int .i64 en, .agg #[.int .i64 0, .int .i64 0, .string ⟨#[]⟩]]
def Sc.noRes (c : Int) (a : Nat) (t : ByteArray) : Value := .tuple #[.agg #[.int .i8 0, .string ⟨#[]⟩, .int .i64 0, .int .i64 0], .int .i64 0, .agg #[.int .i64 c, .int .i64 a, .string t]]
def Sc.wordRes (s : ByteArray) (a : Nat) : Value :=
  if Sc.fE (Sc.rest s a) = 0 then Sc.okRes (Sc.fK (Sc.rest s a)) (Sc.fV (Sc.rest s a)) ((Sc.rest s a).extract 0 (Sc.fN (Sc.rest s a))) a (a + Sc.fN (Sc.rest s a))
  else Sc.noRes (Sc.fE (Sc.rest s a)) a ((Sc.rest s a).extract 0 (Sc.fN (Sc.rest s a)))

theorem Sc.wordRes_ok {s : ByteArray} {a n : Nat} {k v : Int} (hn : Sc.fN (Sc.rest s a) = n) (he : Sc.fE (Sc.rest s a) = 0) (hk : Sc.fK (Sc.rest s a) = k) (hv : Sc.fV (Sc.rest s a) = v) :
    Sc.wordRes s a = .tuple #[.agg #[.int .i8 k, .string (s.extract a (a + n)), .int .i64 v, .int .i64 a], .int .i64 ((a + n : Nat) : Int), .agg #[.int .i64 0, .int .i64 0, .string ⟨#[]⟩]] := by
  unfold Sc.wordRes Sc.okRes
  rw [if_pos he, hk, hv, hn, Sc.ext_rest]
theorem Sc.wordRes_no {s : ByteArray} {a n : Nat} {c : Int} (hn : Sc.fN (Sc.rest s a) = n) (he : Sc.fE (Sc.rest s a) = c) (hc : c ≠ 0) :
    Sc.wordRes s a = .tuple #[.agg #[.int .i8 0, .string ⟨#[]⟩, .int .i64 0, .int .i64 0], .int .i64 0, .agg #[.int .i64 c, .int .i64 a, .string (s.extract a (a + n))]] := by
  unfold Sc.wordRes Sc.noRes
  rw [if_neg (by rw [he]; exact hc), he, hn, Sc.ext_rest]

theorem rword_any (s : ByteArray) (a : Nat) (hs : s.size ≤ 65536) (ha : a < s.size) (w : World) :
    Calls Tryd.prog 20 #[.string s, .int .i64 a] w fun e w' => e = .returned (Sc.wordRes s a) ∧ Below w.heap.size w w' := by
  have hr0 : 0 < (Sc.rest s a).size := by rw [Sc.rest_size]; omega
  have hn1 := Sc.fN_pos _ hr0
  have hn2 := Sc.fN_le _ hr0
  rw [Sc.rest_size] at hn2
  have hhd : Sc.hd (Sc.rest s a) = ((s[a]).toNat : Int) := by rw [Sc.hd_rest, Sc.byteAt_eq s a ha]
  have hL := ref_letter_any ((s[a]).toNat : Int)
  have hD := ref_digit_any ((s[a]).toNat : Int)
  cases c1 : Sc.lett ((s[a]).toNat : Int)
  · rw [c1] at hL
    have c1' : Sc.lett (Sc.hd (Sc.rest s a)) = false := by rw [hhd, c1]
    cases c2 : Sc.digi ((s[a]).toNat : Int)
    · rw [c2] at hD
      have c2' : Sc.digi (Sc.hd (Sc.rest s a)) = false := by rw [hhd, c2]
      have hS := ref_sign (s[a])
      have hpre : Lib.hasPrefix (Sc.rest s a).data.toList [45, 62] = (decide (((s[a]).toNat : Int) = 45) && decide (∃ h : a + 1 < s.size, ((s[a + 1]).toNat : Int) = 62)) := by
        rw [Sc.rest_data]
        have hl : a < s.data.toList.length := by rw [Sc.data_len]; exact ha
        rw [List.drop_eq_getElem_cons hl, Sc.get_data s a ha hl]
        by_cases h1 : a + 1 < s.size
        · have hl1 : a + 1 < s.data.toList.length := by rw [Sc.data_len]; exact h1
          rw [List.drop_eq_getElem_cons hl1, Sc.get_data s (a + 1) h1 hl1]
          rw [Bool.eq_iff_iff]
          simp [Lib.hasPrefix, List.isPrefixOf, h1]
          constructor
          · rintro ⟨p, q⟩; rw [← p, ← q]; exact ⟨rfl, rfl⟩
          · rintro ⟨p, q⟩; exact ⟨UInt8.toNat_inj.1 (by show 45 = _; omega), UInt8.toNat_inj.1 (by show 62 = _; omega)⟩
        · rw [List.drop_eq_nil_of_le (by rw [Sc.data_len]; omega)]
          simp [Lib.hasPrefix, List.isPrefixOf, h1]
      by_cases hp : Lib.hasPrefix (Sc.rest s a).data.toList [45, 62] = true
      · have hp2 := hp
        rw [hpre, Bool.and_eq_true, decide_eq_true_iff, decide_eq_true_iff] at hp2
        obtain ⟨p45, h1, p62⟩ := hp2
        have eN : Sc.fN (Sc.rest s a) = 2 := by unfold Sc.fN; rw [c1', c2', hp]; rfl
        have eE : Sc.fE (Sc.rest s a) = 0 := by unfold Sc.fE; rw [c1', c2', hp]; rfl
        have eK : Sc.fK (Sc.rest s a) = 4 := by unfold Sc.fK; rw [c1', c2', hp]; rfl
        have eV : Sc.fV (Sc.rest s a) = 0 := by unfold Sc.fV; rw [c1', c2']; rfl
        rw [Sc.wordRes_ok eN eE eK eV]
        have ext : s.extract a (a + 2) = ⟨#[45, 62]⟩ := by
          rw [← Sc.ext_rest, Lib.extract_eq]
          have hl : a < s.data.toList.length := by rw [Sc.data_len]; exact ha
          have hl1 : a + 1 < s.data.toList.length := by rw [Sc.data_len]; exact h1
          rw [Sc.rest_data, List.drop_eq_getElem_cons hl, List.drop_eq_getElem_cons hl1, Sc.get_data s a ha hl, Sc.get_data s (a + 1) h1 hl1]
          have e1 : s[a] = 45 := UInt8.toNat_inj.1 (by show _ = 45; omega)
          have e2 : s[a + 1] = 62 := UInt8.toNat_inj.1 (by show _ = 62; omega)
          rw [e1, e2]
          rfl
        rw [ext, show ((a + 2 : Nat) : Int) = (a : Int) + 2 by omega]
        exact rword_arrow s a hs ha hL hD (by rw [p45]; rfl) h1 (by rw [p62]; rfl) w
      · have hpf : Lib.hasPrefix (Sc.rest s a).data.toList [45, 62] = false := by simpa using hp
        have eN : Sc.fN (Sc.rest s a) = 1 := by unfold Sc.fN; rw [c1', c2', hpf]; rfl
        have hor : (((s[a]).toNat : Int) == 45) = false ∨ ((((s[a]).toNat : Int) == 45) = true ∧ ¬ a + 1 < s.size) ∨ ((((s[a]).toNat : Int) == 45) = true ∧ ∃ h1 : a + 1 < s.size, (((s[a + 1]).toNat : Int) == 62) = false) := by
          rw [hpre] at hpf
          by_cases h45 : ((s[a]).toNat : Int) = 45
          · right
            by_cases h1 : a + 1 < s.size
            · right
              refine ⟨by rw [h45]; rfl, h1, ?_⟩
              rw [beq_eq_false_iff_ne]
              intro h62
              simp [h45, h1, h62] at hpf
            · left; exact ⟨by rw [h45]; rfl, h1⟩
          · left; rw [beq_eq_false_iff_ne]; exact h45
        cases c4 : Sc.isSign ((s[a]).toNat : Int)
        · rw [c4] at hS
          have c4' : Sc.isSign (Sc.hd (Sc.rest s a)) = false := by rw [hhd, c4]
          have eE : Sc.fE (Sc.rest s a) = 10 := by unfold Sc.fE; rw [c1', c2', hpf, c4']; rfl
          rw [Sc.wordRes_no eN eE (by decide)]
          rcases hor with h | ⟨h, h1⟩ | ⟨h, h1, h62⟩
          · exact rword_nonea s a hs ha hL hD h hS w
          · exact rword_noneb s a hs ha hL hD h h1 hS w
          · exact rword_nonec s a hs ha hL hD h h1 h62 hS w
        · rw [c4] at hS
          have c4' : Sc.isSign (Sc.hd (Sc.rest s a)) = true := by rw [hhd, c4]
          have eE : Sc.fE (Sc.rest s a) = 0 := by unfold Sc.fE; rw [c1', c2', hpf, c4']; rfl
          have eK : Sc.fK (Sc.rest s a) = 4 := by unfold Sc.fK; rw [c1', c2', hpf, c4']; rfl
          have eV : Sc.fV (Sc.rest s a) = 0 := by unfold Sc.fV; rw [c1', c2']; rfl
          rw [Sc.wordRes_ok eN eE eK eV, show ((a + 1 : Nat) : Int) = (a : Int) + 1 by omega]
          rcases hor with h | ⟨h, h1⟩ | ⟨h, h1, h62⟩
          · exact rword_signa s a hs ha hL hD h hS w
          · exact rword_signb s a hs ha hL hD h h1 hS w
          · exact rword_signc s a hs ha hL hD h h1 h62 hS w
    · rw [c2] at hD
      have c2' : Sc.digi (Sc.hd (Sc.rest s a)) = true := by rw [hhd, c2]
      have eN : Sc.fN (Sc.rest s a) = Sc.spanN Sc.digi (s.data.toList.drop a) := by unfold Sc.fN; rw [c1', c2', Sc.rest_data]; rfl
      have hR := ref_run s a false hs (by omega)
      rw [show Sc.runQ false = Sc.digi from rfl, ← eN] at hR
      have eE0 : Sc.fE (Sc.rest s a) = Sc.numErr (Sc.rest s a) (Sc.fN (Sc.rest s a)) := by unfold Sc.fE; rw [c1', c2']; rfl
      have eK : Sc.fK (Sc.rest s a) = 2 := by unfold Sc.fK; rw [c1', c2']; rfl
      have eV0 : Sc.fV (Sc.rest s a) = Sc.numNum (Sc.rest s a) (Sc.fN (Sc.rest s a)) := by unfold Sc.fV; rw [c1', c2']; rfl
      have hdig : ∀ (k : Nat) (h : k < (Sc.rest s a).data.toList.length), k < Sc.fN (Sc.rest s a) → Sc.digi (((Sc.rest s a).data.toList[k]).toNat : Int) = true := by
        intro k h hk
        exact Sc.spanN_get Sc.digi _ k h (by rw [Sc.rest_data, ← eN]; exact hk)
      generalize hn : Sc.fN (Sc.rest s a) = n at *
      have hx : (s.extract a (a + n)).size = n := by simp; omega
      have hxd : (s.extract a (a + n)).data.toList = (Sc.rest s a).data.toList.take n := by rw [← Sc.ext_rest, Sc.take_data]
      have hval : Sc.numFrom 0 (s.extract a (a + n)).data.toList = Sc.numVal (Sc.rest s a) n := by rw [hxd]; rfl
      have hdd : ∀ k (h : k < (s.extract a (a + n)).size), 48 ≤ ((s.extract a (a + n))[k]).toNat ∧ ((s.extract a (a + n))[k]).toNat ≤ 57 := by
        intro k h
        have hl : k < (s.extract a (a + n)).data.toList.length := by rw [Sc.data_len]; exact h
        have hl2 : k < (Sc.rest s a).data.toList.length := by rw [Sc.data_len, Sc.rest_size]; omega
        have := hdig k hl2 (by omega)
        rw [← Sc.get_data _ k h hl]
        simp only [hxd, List.getElem_take]
        simp [Sc.digi] at this
        simp
        omega
      have hNum := fun (w : World) => ref_Number (s.extract a (a + n)) (by omega) hdd w _ hval
      have hen1 : a ≤ a + n := by omega
      have hen2 : a + n ≤ s.size := by omega
      by_cases hsm : Sc.numVal (Sc.rest s a) n < 9223372036854775808
      · have hN : ∀ w : World, Calls Tryd.prog 35 #[.string (s.extract a (a + n))] w fun e w' => e = .returned (.tuple #[.int .i64 (Sc.numVal (Sc.rest s a) n), .bool true]) ∧ w = w' := fun w => hNum w _ _ (fun _ => ⟨rfl, rfl⟩) (fun h => absurd hsm h)
        have hsm' : ¬ 9223372036854775808 ≤ Sc.numVal (Sc.rest s a) n := by omega
        have hbad : ∀ b, Sc.numBad (Sc.rest s a) n = b → Sc.fE (Sc.rest s a) = (if b then 10 else 0) ∧ Sc.fV (Sc.rest s a) = if b then 0 else (Sc.numVal (Sc.rest s a) n : Int) := by
          intro b hb
          have e1 : Sc.numErr (Sc.rest s a) n = (if b then 10 else 0) := by unfold Sc.numErr; rw [if_neg hsm', hb]
          refine ⟨by rw [eE0, e1], ?_⟩
          rw [eV0]; unfold Sc.numNum; rw [e1]
          cases b <;> simp
        have hhead : (Sc.rest s a).data.toList.head? = some (s[a]) := by
          have hl : a < s.data.toList.length := by rw [Sc.data_len]; exact ha
          rw [Sc.rest_data, List.drop_eq_getElem_cons hl, Sc.get_data s a ha hl]; rfl
        have hdrop : (Sc.rest s a).data.toList.drop n = s.data.toList.drop (a + n) := by rw [Sc.rest_data, List.drop_drop]
        have h48 : ∀ b, (((s[a]).toNat : Int) == 48) = b → decide ((Sc.rest s a).data.toList.head? = some 48) = b := by
          intro b hb
          rw [hhead, ← hb, Bool.eq_iff_iff]
          simp
          constructor
          · intro h; rw [h]; rfl
          · intro h; exact UInt8.toNat_inj.1 (by show _ = 48; omega)
        have hend : ¬ a + n < s.size → Sc.spanN Sc.lett (s.data.toList.drop (a + n)) = 0 := by
          intro h; rw [List.drop_eq_nil_of_le (by rw [Sc.data_len]; omega)]; rfl
        have hnext : ∀ (h : a + n < s.size) (b : Bool), Sc.lett ((s[a + n]).toNat : Int) = b → decide (0 < Sc.spanN Sc.lett (s.data.toList.drop (a + n))) = b := by
          intro h b hb
          have hl : a + n < s.data.toList.length := by rw [Sc.data_len]; exact h
          rw [List.drop_eq_getElem_cons hl, Sc.get_data s _ h hl, Sc.spanN_cons, hb]
          cases b <;> simp
        by_cases hz : (((s[a]).toNat : Int) == 48) = true ∧ 1 < n
        · obtain ⟨z1, z2⟩ := hz
          have hb : Sc.numBad (Sc.rest s a) n = true := by unfold Sc.numBad; rw [h48 _ z1]; simp [z2]
          obtain ⟨e1, _⟩ := hbad _ hb
          rw [Sc.wordRes_no hn e1 (by decide)]
          exact rword_zero s a hs ha (a + n) hen1 hen2 _ hL hD hR hN z1 (by omega) w
        · have hfst : (decide (1 < n) && decide ((Sc.rest s a).data.toList.head? = some 48)) = false := by
            cases z1 : (((s[a]).toNat : Int) == 48)
            · rw [h48 _ z1]; simp
            · have : ¬ 1 < n := fun h => hz ⟨z1, h⟩
              simp [this]
          by_cases he : a + n < s.size
          · have hL2 := ref_letter_any ((s[a + n]).toNat : Int)
            cases c5 : Sc.lett ((s[a + n]).toNat : Int)
            · rw [c5] at hL2
              have hb : Sc.numBad (Sc.rest s a) n = false := by unfold Sc.numBad; rw [hfst, hdrop, hnext he _ c5]; rfl
              obtain ⟨e1, e2⟩ := hbad _ hb
              rw [Sc.wordRes_ok hn e1 eK e2]
              cases z1 : (((s[a]).toNat : Int) == 48)
              · exact rword_num1 s a hs ha (a + n) hen1 hen2 _ he hL hD hR hN z1 (by omega) hL2 w
              · exact rword_num2 s a hs ha (a + n) hen1 hen2 _ he hL hD hR hN z1 (fun h => hz ⟨z1, by omega⟩) hL2 w
            · rw [c5] at hL2
              have hb : Sc.numBad (Sc.rest s a) n = true := by unfold Sc.numBad; rw [hdrop, hnext he _ c5]; simp
              obtain ⟨e1, _⟩ := hbad _ hb
              rw [Sc.wordRes_no hn e1 (by decide)]
              cases z1 : (((s[a]).toNat : Int) == 48)
              · exact rword_letter1 s a hs ha (a + n) hen1 hen2 _ he hL hD hR hN z1 (by omega) hL2 w
              · exact rword_letter2 s a hs ha (a + n) hen1 hen2 _ he hL hD hR hN z1 (fun h => hz ⟨z1, by omega⟩) hL2 w
          · have hb : Sc.numBad (Sc.rest s a) n = false := by unfold Sc.numBad; rw [hfst, hdrop, hend he]; rfl
            obtain ⟨e1, e2⟩ := hbad _ hb
            rw [Sc.wordRes_ok hn e1 eK e2]
            cases z1 : (((s[a]).toNat : Int) == 48)
            · exact rword_numend1 s a hs ha (a + n) hen1 hen2 _ he hL hD hR hN z1 (by omega) w
            · exact rword_numend2 s a hs ha (a + n) hen1 hen2 _ he hL hD hR hN z1 (fun h => hz ⟨z1, by omega⟩) w
      · have hN : ∀ w : World, Calls Tryd.prog 35 #[.string (s.extract a (a + n))] w fun e w' => e = .returned (.tuple #[.int .i64 0, .bool false]) ∧ w = w' := fun w => hNum w _ _ (fun h => absurd h hsm) (fun _ => ⟨rfl, rfl⟩)
        have e1 : Sc.fE (Sc.rest s a) = 3 := by rw [eE0]; unfold Sc.numErr; rw [if_pos (by omega)]
        rw [Sc.wordRes_no hn e1 (by decide)]
        exact rword_over s a hs ha (a + n) hen1 hen2 _ hL hD hR hN w
  · rw [c1] at hL
    have c1' : Sc.lett (Sc.hd (Sc.rest s a)) = true := by rw [hhd, c1]
    have eN : Sc.fN (Sc.rest s a) = Sc.spanN Sc.lord (s.data.toList.drop a) := by unfold Sc.fN; rw [if_pos c1', Sc.rest_data]
    have hR := ref_run s a true hs (by omega)
    rw [show Sc.runQ true = Sc.lord from rfl, ← eN] at hR
    have eE0 : Sc.fE (Sc.rest s a) = Sc.nameErr (Sc.fN (Sc.rest s a)) := by unfold Sc.fE; rw [if_pos c1']
    have eK0 : Sc.fK (Sc.rest s a) = Sc.nameKind ((Sc.rest s a).extract 0 (Sc.fN (Sc.rest s a))) (Sc.fN (Sc.rest s a)) := by unfold Sc.fK; rw [if_pos c1']
    have eV : Sc.fV (Sc.rest s a) = 0 := by unfold Sc.fV; rw [if_pos c1']
    rw [Sc.ext_rest] at eK0
    generalize hn : Sc.fN (Sc.rest s a) = n at *
    have hen1 : a ≤ a + n := by omega
    have hen2 : a + n ≤ s.size := by omega
    by_cases h64 : 64 < n
    · have e1 : Sc.fE (Sc.rest s a) = 3 := by rw [eE0]; unfold Sc.nameErr; rw [if_pos h64]
      rw [Sc.wordRes_no hn e1 (by decide)]
      exact rword_long s a hs ha (a + n) hen1 hen2 hL hR (by omega) w
    · have e1 : Sc.fE (Sc.rest s a) = 0 := by rw [eE0]; unfold Sc.nameErr; rw [if_neg h64]
      have hK := ref_Key_any (s.extract a (a + n))
      cases hk : Sc.isKey (s.extract a (a + n))
      · rw [hk] at hK
        have e2 : Sc.fK (Sc.rest s a) = 1 := by rw [eK0]; unfold Sc.nameKind; rw [if_neg h64, hk]; rfl
        rw [Sc.wordRes_ok hn e1 e2 eV]
        exact rword_name s a hs ha (a + n) hen1 hen2 hL hR hK (by omega) w
      · rw [hk] at hK
        have e2 : Sc.fK (Sc.rest s a) = 3 := by rw [eK0]; unfold Sc.nameKind; rw [if_neg h64, hk]; rfl
        rw [Sc.wordRes_ok hn e1 e2 eV]
        exact rword_key s a hs ha (a + n) hen1 hen2 hL hR hK (by omega) w
end Go.Proofs.YtjngdhbaobbaeaaDoor
