/-
  Layer 6: plain facts on agreeing, for the laws.
-/
import Derived.Test.YtailgpkgcockhaaDoorAg6
namespace Go.Proofs.YtailgpkgcockhaaDoor
namespace Ty
theorem chk_mk {k : Int} {f : Fo} (h1 : okT k f = true) (h2 : nodes f + 1 ≤ 8192) (h3 : dep f + 1 ≤ 200) : chk k f = 0 := by
  unfold chk
  rw [if_neg (by omega), if_neg (by omega)]
  exact if_pos h1
theorem Opens.chk {k kc : Int} {kids fc : Fo} (h : Opens k kids kc fc) (h0 : Ty.chk k kids = 0) : Ty.chk kc fc = 0 := by
  obtain ⟨-, h2, h3⟩ := chk_ok h0
  have := h.nd
  have := h.dp
  exact chk_mk h.ok (by omega) (by omega)
theorem agree_parts {k k' : Int} {kids kids' : Fo} : agreeT k kids k' kids' = true ↔ Ty.chk k kids = 0 ∧ Ty.chk k' kids' = 0 ∧ agT k kids k' kids' = true := by
  unfold agreeT
  rw [Bool.and_eq_true, Bool.and_eq_true, beq_iff_eq, beq_iff_eq, and_assoc]
theorem Opens.left {k kc k' : Int} {kids fc kids' : Fo} (h : Opens k kids kc fc) (ha : agreeT k kids k' kids' = true) : agreeT kc fc k' kids' = true := by
  obtain ⟨h1, h2, h3⟩ := agree_parts.1 ha
  exact agree_parts.2 ⟨h.chk h1, h2, h.more _ _ h3⟩
theorem Opens.right {k kc : Int} {kids fc : Fo} (h : Opens k kids kc fc) (h0 : Ty.chk k kids = 0) : agreeT k kids kc fc = true :=
  agree_parts.2 ⟨h0, h.chk h0, h.self⟩
theorem eq_symm_beq (a b : Int) : (a == b) = (b == a) := by rw [Bool.eq_iff_iff]; simp only [beq_iff_eq]; exact eq_comm
/-- a type and its parts put together again -/
theorem chk_two {k k1 k2 : Int} {f1 f2 : Fo} {a b c d : Nat} : Ty.chk k (two k1 f1 k2 f2) = Ty.chk k (.node a b k1 f1 (.node c d k2 f2 .nil)) := rfl
theorem eqF_two {k1 k2 : Int} {f1 f2 : Fo} {a b c d : Nat} : eqF (.node a b k1 f1 (.node c d k2 f2 .nil)) (two k1 f1 k2 f2) = true := by
  simp [two, eqF, eqF_refl]
theorem agF_two {k1 k2 : Int} {f1 f2 : Fo} {a b c d : Nat} : agF (.node a b k1 f1 (.node c d k2 f2 .nil)) (two k1 f1 k2 f2) = true := by
  simp [two, agF, agF_refl]
/-- where As is ok: the parts put together agree with the type; where it is known they are it -/
theorem as_whole {kd k : Int} {kids : Fo} (h : asOk kd k kids = true) : (3 ≤ kd ∧ kd ≤ 5) ∧ agreeT k kids kd (two (asL kd k kids).1 (asL kd k kids).2 (asR kd k kids).1 (asR kd k kids).2) = true ∧
    (k ≠ 0 → sameT k kids kd (two (asL kd k kids).1 (asL kd k kids).2 (asR kd k kids).1 (asR kd k kids).2) = true) := by
  have h' := h
  unfold asOk at h'
  simp only [Bool.and_eq_true, beq_iff_eq, decide_eq_true_eq, Bool.or_eq_true] at h'
  obtain ⟨⟨h1, h2⟩, h3⟩ := h'
  have hok := (chk_ok h1).1
  refine ⟨h2, ?_⟩
  rcases h3 with rfl | rfl
  · obtain ⟨a, b, k1, f1, c, d, k2, f2, rfl, -, -⟩ := two_of hok h2.1
    obtain ⟨-, e2, e3⟩ := as_yes h2.1 h2.2 h1
    rw [e2, e3]
    have hc : Ty.chk k (two k1 f1 k2 f2) = 0 := h1
    refine ⟨agree_parts.2 ⟨h1, hc, ?_⟩, fun _ => ?_⟩
    · rw [agT_eq _ _ (by omega)]; exact agF_two
    · unfold sameT eqT
      rw [h1, hc, eqF_two]
      simp
  · obtain rfl := none_of hok (by omega)
    obtain ⟨-, e2, e3⟩ := as_open h2.1 h2.2
    rw [e2, e3]
    refine ⟨agree_parts.2 ⟨rfl, ?_, rfl⟩, fun h => absurd rfl h⟩
    have hr : kd = 3 ∨ kd = 4 ∨ kd = 5 := by omega
    rcases hr with rfl | rfl | rfl <;> decide
/-- two types of that kind agree just if their parts do -/
theorem as_both {kd : Int} {kids kids' : Fo} (h : asOk kd kd kids = true) (h' : asOk kd kd kids' = true) :
    agreeT kd kids kd kids' = (agreeT (asL kd kd kids).1 (asL kd kd kids).2 (asL kd kd kids').1 (asL kd kd kids').2 && agreeT (asR kd kd kids).1 (asR kd kd kids).2 (asR kd kd kids').1 (asR kd kd kids').2) := by
  unfold asOk at h h'
  simp only [Bool.and_eq_true, beq_iff_eq, decide_eq_true_eq] at h h'
  obtain ⟨⟨h1, h2⟩, -⟩ := h
  obtain ⟨⟨h1', -⟩, -⟩ := h'
  obtain ⟨g1, g2, g3⟩ := chk_ok h1
  obtain ⟨g1', g2', g3'⟩ := chk_ok h1'
  obtain ⟨a, b, k1, f1, c, d, k2, f2, rfl, o1, o2⟩ := two_of g1 h2.1
  obtain ⟨a', b', k1', f1', c', d', k2', f2', rfl, o1', o2'⟩ := two_of g1' h2.1
  obtain ⟨-, e2, e3⟩ := as_yes h2.1 h2.2 h1
  obtain ⟨-, e2', e3'⟩ := as_yes h2.1 h2.2 h1'
  rw [e2, e3, e2', e3']
  simp only [nodes, dep] at g2 g3 g2' g3'
  have q1 : Ty.chk k1 f1 = 0 := chk_mk o1 (by omega) (by omega)
  have q2 : Ty.chk k2 f2 = 0 := chk_mk o2 (by omega) (by omega)
  have q1' : Ty.chk k1' f1' = 0 := chk_mk o1' (by omega) (by omega)
  have q2' : Ty.chk k2' f2' = 0 := chk_mk o2' (by omega) (by omega)
  unfold agreeT
  rw [h1, h1', q1, q2, q1', q2', agT_eq _ _ (by omega)]
  simp [agF, agT]
end Ty
end Go.Proofs.YtailgpkgcockhaaDoor
