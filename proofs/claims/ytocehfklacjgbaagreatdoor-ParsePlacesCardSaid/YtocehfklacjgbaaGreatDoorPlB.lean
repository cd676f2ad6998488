/-
  Layer 4: of a text that is taken each term's word stands at its place.
-/
import Derived.Test.YtocehfklacjgbaaGreatDoorPlx
import Derived.Test.YtocehfklacjgbaaGreatDoorPl2
import Derived.Test.YtocehfklacjgbaaGreatDoorM19
namespace Go.Proofs.YtocehfklacjgbaaGreatDoor
theorem Tm.chk_le {h : Hd} {kids : Tm} (e : Tm.chk h kids = 0) : Tm.nodes kids + 1 ≤ 8192 := by
  unfold Tm.chk Tm.nd at e
  split at e
  · cases e
  · omega
namespace Plw
theorem hds_heads : ∀ t : Tm, hds t = Tt.heads t
  | .nil => rfl
  | .node h kids r => by simp only [hds, Tt.heads, hds_heads kids, hds_heads r]
theorem nu_all : ∀ t : Tm, Sh.nuF t = true → ∀ g ∈ hds t, Sh.nuH g = true
  | .nil, _, g, h => by cases h
  | .node h kids r, hn, g, hg => by
    simp only [Sh.nuF, Bool.and_eq_true] at hn
    simp only [hds, List.mem_cons, List.mem_append] at hg
    rcases hg with rfl | hg | hg
    · exact hn.1.1
    · exact nu_all kids hn.1.2 g hg
    · exact nu_all r hn.2 g hg
theorem hw_of {k kk : Int} {t : List UInt8} (h : Tt.hw k = some (kk, t)) : (2 ≤ k ∧ k ≤ 14 ∨ k = 16) ∧ t = hw k := by
  have hz : k = 2 ∨ k = 3 ∨ k = 4 ∨ k = 5 ∨ k = 6 ∨ k = 7 ∨ k = 8 ∨ k = 9 ∨ k = 10 ∨ k = 11 ∨ k = 12 ∨ k = 13 ∨ k = 14 ∨ k = 16 ∨ ¬ (2 ≤ k ∧ k ≤ 14 ∨ k = 16) := by omega
  rcases hz with rfl | rfl | rfl | rfl | rfl | rfl | rfl | rfl | rfl | rfl | rfl | rfl | rfl | rfl | hz
  all_goals first
    | (refine ⟨by decide, ?_⟩; simp only [Tt.hw] at h; simp at h; rw [← h.2]; rfl)
    | (exfalso; unfold Tt.hw at h; rw [if_neg (show ¬ k = 2 by omega), if_neg (show ¬ k = 3 by omega), if_neg (show ¬ k = 4 by omega), if_neg (show ¬ k = 5 by omega), if_neg (show ¬ k = 6 by omega), if_neg (show ¬ k = 7 by omega), if_neg (show ¬ k = 8 by omega), if_neg (show ¬ k = 9 by omega), if_neg (show ¬ k = 10 by omega), if_neg (show ¬ k = 11 by omega), if_neg (show ¬ k = 12 by omega), if_neg (show ¬ k = 13 by omega), if_neg (show ¬ k = 14 by omega), if_neg (show ¬ k = 16 by omega)] at h; cases h)
theorem at_of {s : ByteArray} {g : Hd} (h : ∃ p t, Tt.InText s g p t) (hn : Sh.nuH g = true) : At s g := by
  obtain ⟨p, t, h1, h2, h3, h4, h5⟩ := h
  unfold Sh.nuH at hn
  refine ⟨of_decide_eq_true hn, p, t, h1, h2, h3, h4, ?_⟩
  rcases h5 with h5 | h5 | h5 | ⟨k, h5⟩
  · exact .inl h5
  · exact .inr (.inl h5)
  · exact .inr (.inr (.inl h5))
  · exact .inr (.inr (.inr (hw_of h5)))
/-- of a text that is taken: each term's word stands at its place, no two places are one -/
theorem out_at {s : ByteArray} {h : Hd} {t : Tm} (hO : TxOut s (.ok h t)) : (∀ g ∈ h :: hds t, At s g) ∧ ((h :: hds t).map (·.pos)).Nodup := by
  obtain ⟨-, -, hn⟩ := Sh.out_fine hO
  unfold Sh.nuT at hn
  rw [Bool.and_eq_true] at hn
  cases hO with
  | read hz e hT hf =>
    cases hf with
    | good h0 hx hk =>
      obtain ⟨a, b⟩ := Tt.places_of e hT
      rw [hds_heads]
      refine ⟨fun g hg => at_of (a g hg) ?_, b⟩
      rcases List.mem_cons.1 hg with rfl | hg
      · exact hn.1
      · exact nu_all t hn.2 g (by rw [hds_heads]; exact hg)
/-- places, one by one, as numbers of a text's bytes -/
theorem spots {s : ByteArray} {gs : List Hd} (h : ∀ g ∈ gs, At s g) : ∀ x ∈ gs.map (fun g : Hd => g.pos), ∃ q : Nat, x = (q : Int) ∧ q < s.size := fun x hx => by
  obtain ⟨g, hg, rfl⟩ := List.mem_map.1 hx
  obtain ⟨-, p, t, e, hne, hle, -⟩ := h g hg
  have := List.length_pos_iff.2 hne
  exact ⟨p, e, by omega⟩
end Plw
end Go.Proofs.YtocehfklacjgbaaGreatDoor
