/-
  What counts of a term is the whole of it: plain facts.
-/
import Derived.Test.YtfkbdpehdabepaaGreatDoorFreeC
import Derived.Test.YtfkbdpehdabepaaGreatDoorCopyT
import Derived.Test.YtfkbdpehdabepaaGreatDoorTmEqual
import Derived.Test.YtfkbdpehdabepaaGreatDoorM5
namespace Go.Proofs.YtfkbdpehdabepaaGreatDoor
theorem Ty.same_me (k : Int) (kids : Fo) : Ty.sameT k kids k kids = (Ty.chk k kids == 0) := by
  unfold Ty.sameT Ty.eqT; rw [Ty.eqF_refl]; cases (Ty.chk k kids == 0) <;> simp
namespace Tm
theorem cnt_cnt (h : Hd) : cnt (cnt h) = cnt h := by
  unfold cnt
  simp only
  congr 1 <;> split <;> simp_all
theorem bF_bF : ∀ f : Tm, bF (bF f) = bF f
  | .nil => rfl
  | .node h kids r => by simp only [bF]; rw [cnt_cnt, bF_bF kids, bF_bF r]
theorem cnt_kind (h : Hd) : (cnt h).kind = h.kind := rfl
theorem tyN_cnt (h : Hd) : tyN (cnt h) = tyN h := by
  unfold tyN cnt
  simp only
  congr 1 <;> split <;> simp_all
theorem tyD_cnt (h : Hd) : tyD (cnt h) = tyD h := by
  unfold tyD cnt
  simp only
  congr 1 <;> split <;> simp_all
theorem nodes_bF : ∀ f : Tm, nodes (bF f) = nodes f
  | .nil => rfl
  | .node h kids r => by simp only [bF, nodes]; rw [tyN_cnt, nodes_bF kids, nodes_bF r]
theorem dep_bF : ∀ f : Tm, dep (bF f) = dep f
  | .nil => rfl
  | .node h kids r => by simp only [bF, dep]; rw [tyD_cnt, dep_bF kids, dep_bF r]
theorem headOk_cnt (h : Hd) (n : Nat) : headOk (cnt h) n = headOk h n := by
  have e15 : h.kind = 15 → hasName h.kind = true := fun e => by rw [e]; decide
  unfold headOk nameOk tysOk cnt
  simp only
  by_cases h15 : h.kind = 15
  · have := e15 h15
    simp only [h15, if_true] at this ⊢
    cases hasLabel 15 <;> cases hasType 15 <;> cases hasTo 15 <;> simp [this]
  · rw [if_neg h15, if_neg h15]
    cases hasName h.kind <;> cases hasArg h.kind <;> cases hasLabel h.kind <;> cases hasType h.kind <;> cases hasTo h.kind <;> simp
theorem okF_bF : ∀ f : Tm, okF (bF f) = okF f
  | .nil => rfl
  | .node h kids r => by simp only [bF, okF]; rw [headOk_cnt, len_bF, okF_bF kids, okF_bF r]
theorem chk_bare (h : Hd) (kids : Tm) : chk (cnt h) (bF kids) = chk h kids := by
  unfold chk nd dp okT
  rw [tyN_cnt, tyD_cnt, nodes_bF, dep_bF, headOk_cnt, len_bF, okF_bF]
theorem nod_bare (h : Hd) (kids : Tm) : nod (cnt h) (bF kids) = nod h kids := by unfold nod nd; rw [tyN_cnt, nodes_bF]
theorem dpt_bare (h : Hd) (kids : Tm) : dpt (cnt h) (bF kids) = dpt h kids := by unfold dpt nd dp; rw [tyN_cnt, tyD_cnt, nodes_bF, dep_bF]
theorem binds_cnt (h : Hd) (i : Nat) : binds (cnt h) i = binds h i := by
  unfold binds
  rw [cnt_kind]
  by_cases c1 : h.kind = 4 ∨ h.kind = 7 ∧ i = 1 ∨ h.kind = 14 ∧ i = 1
  · have : hasName h.kind = true := by rcases c1 with h | h | h <;> simp [hasName, h]
    rw [if_pos c1, if_pos c1]; simp [cnt, this]
  · rw [if_neg c1, if_neg c1]
    by_cases c2 : h.kind = 14 ∧ i = 2
    · have : hasArg h.kind = true := by simp [hasArg, c2.1]
      rw [if_pos c2, if_pos c2]; simp [cnt, this]
    · rw [if_neg c2, if_neg c2]
      by_cases c3 : h.kind = 5
      · have h1 : hasArg h.kind = true := by simp [hasArg, c3]
        have h2 : hasName h.kind = true := by simp [hasName, c3]
        rw [if_pos c3, if_pos c3]; simp [cnt, h1, h2]
      · rw [if_neg c3, if_neg c3]
theorem name_cnt {h : Hd} (h0 : h.kind = 0) : (cnt h).name = h.name := by simp [cnt, hasName, h0]
theorem frG_bF : ∀ (f : Tm) (h : Hd) (i : Nat) (bd l : List Nm), frG (bF f) (cnt h) i bd l = frG f h i bd l
  | .nil, _, _, _, _ => rfl
  | .node g kk r, h, i, bd, l => by
    simp only [bF, frG]
    rw [binds_cnt, frG_bF r h, cnt_kind]
    congr 1
    by_cases h0 : g.kind = 0
    · rw [if_pos h0, if_pos h0, name_cnt h0]
    · rw [if_neg h0, if_neg h0, frG_bF kk g]
theorem frS_bare (h : Hd) (kids : Tm) : frS (cnt h) (bF kids) = frS h kids := by
  unfold frS
  rw [chk_bare]
  congr 1
  unfold frT
  rw [cnt_kind, frG_bF]
  by_cases h0 : h.kind = 0
  · rw [if_pos h0, if_pos h0, name_cnt h0]
  · rw [if_neg h0, if_neg h0]
theorem eqH_self (h : Hd) (n : Nat) (ho : headOk h n = true) : eqH (cnt h) (cnt h) = true := by
  unfold headOk tysOk at ho
  simp only [Bool.and_eq_true, Bool.or_eq_true, Bool.not_eq_true', beq_iff_eq] at ho
  obtain ⟨-, h1, h2⟩ := ho
  have hz : Ty.sameT 0 .nil 0 .nil = true := by decide
  have e1 : Ty.sameT (cnt h).tk (cnt h).tkids (cnt h).tk (cnt h).tkids = true := by
    unfold cnt; simp only
    cases ht : hasType h.kind
    · simpa using hz
    · rw [ht] at h1
      simp only [if_true]
      rw [Ty.same_me]
      simpa using h1
  have e2 : Ty.sameT (cnt h).uk (cnt h).ukids (cnt h).uk (cnt h).ukids = true := by
    unfold cnt; simp only
    cases ht : hasTo h.kind
    · simpa using hz
    · rw [ht] at h2
      simp only [if_true]
      rw [Ty.same_me]
      simpa using h2
  unfold eqH
  rw [e1, e2]
  simp
theorem alF_bare : ∀ f : Tm, okF f = true → alF f (bF f) = true ∧ alF (bF f) f = true
  | .nil, _ => ⟨rfl, rfl⟩
  | .node h kids r, ho => by
    simp only [okF, Bool.and_eq_true] at ho
    obtain ⟨⟨h1, h2⟩, h3⟩ := ho
    have q1 := alF_bare kids h2
    have q2 := alF_bare r h3
    have q0 := eqH_self h _ h1
    simp only [bF, alF, cnt_cnt, q0, q1.1, q1.2, q2.1, q2.2, Bool.and_self]
    exact ⟨trivial, trivial⟩
theorem same_bare {h : Hd} {kids : Tm} (h0 : chk h kids = 0) : sameT h kids (cnt h) (bF kids) = true ∧ sameT (cnt h) (bF kids) h kids = true := by
  obtain ⟨hok, -, -⟩ := chk_ok h0
  unfold okT at hok
  rw [Bool.and_eq_true] at hok
  have q0 := eqH_self h _ hok.1
  have q1 := alF_bare kids hok.2
  unfold sameT alT
  rw [chk_bare, h0, cnt_cnt, q0, q1.1, q1.2]
  exact ⟨rfl, rfl⟩
end Tm
end Go.Proofs.YtfkbdpehdabepaaGreatDoor
