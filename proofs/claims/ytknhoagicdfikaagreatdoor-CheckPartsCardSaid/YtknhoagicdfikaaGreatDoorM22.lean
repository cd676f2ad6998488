/-
  Terms that are less and more precise; slices.EqualFunc over them. Layer 9: what the rules tell of a term that is less precise is less precise. Layer 9: the rules tell of a term that is less precise a type that is less precise.
-/
import Derived.Test.YtknhoagicdfikaaGreatDoorM17
import Derived.Test.YtknhoagicdfikaaGreatDoorM16
import Derived.Test.YtknhoagicdfikaaGreatDoorM12
import Derived.Test.YtknhoagicdfikaaGreatDoorM15
namespace Go.Proofs.YtknhoagicdfikaaGreatDoor
open Go.RowKit

namespace Tm
/-- the same, as the document has it: what counts alone is looked at -/
def reH (h h' : Hd) : Bool := (h.kind == h'.kind) && ((!hasName h.kind || (h.name.toList == h'.name.toList)) && ((!hasArg h.kind || (h.arg.toList == h'.arg.toList)) && ((!hasNum h.kind || (h.num == h'.num)) &&
    ((!hasType h.kind || Ty.leT h.tk h.tkids h'.tk h'.tkids) && (!hasTo h.kind || Ty.leT h.uk h.ukids h'.uk h'.ukids)))))
theorem headOk_tys {h : Hd} {n : Nat} (ho : headOk h n = true) : tysOk h = true := by
  unfold headOk at ho
  rw [Bool.and_eq_true] at ho
  exact ho.2
end Tm

end Go.Proofs.YtknhoagicdfikaaGreatDoor
namespace Go.Proofs.YtknhoagicdfikaaGreatDoor
namespace Ty
theorem okK_len {k : Int} {n m : Nat} (h : okK k n = true) (h' : okK k m = true) : n = m := by
  unfold okK at h h'
  split at h
  · rename_i e; rw [if_pos e] at h'; simp at h h'; omega
  · rename_i e
    rw [if_neg e] at h'
    split at h
    · rename_i e2; rw [if_pos e2] at h'; simp at h h'; omega
    · cases h
theorem chk_of {k : Int} {kids : Fo} (h : okT k kids = true) (h1 : nodes kids + 1 ≤ 8192) (h2 : dep kids + 1 ≤ 200) : chk k kids = 0 := by
  unfold okT at h
  unfold chk
  rw [if_neg (by omega), if_neg (by omega), if_pos h]
end Ty
end Go.Proofs.YtknhoagicdfikaaGreatDoor
namespace Go.Proofs.YtknhoagicdfikaaGreatDoor
namespace Ck
def le2 (a b : T2) : Prop := chk a = 0 ∧ chk b = 0 ∧ Ty.leT a.1 a.2 b.1 b.2 = true
theorem le2.refl {a : T2} (h : chk a = 0) : le2 a a := ⟨h, h, by unfold Ty.leT; simp [Ty.leF_refl]⟩
theorem chk_kids {k : Int} {a b c d : Nat} {k1 k2 : Int} {f1 f2 : Fo} (h : Ty.chk k (.node a b k1 f1 (.node c d k2 f2 .nil)) = 0) : Ty.chk k1 f1 = 0 ∧ Ty.chk k2 f2 = 0 := by
  obtain ⟨x, y, z⟩ := Ty.chk_ok h
  unfold Ty.okT at x
  simp only [Ty.okF, Ty.nodes, Ty.dep, Bool.and_eq_true] at x y z
  exact ⟨Ty.chk_of (by unfold Ty.okT; rw [x.2.1.1, x.2.1.2]; rfl) (by omega) (by omega), Ty.chk_of (by unfold Ty.okT; rw [x.2.2.1.1, x.2.2.1.2]; rfl) (by omega) (by omega)⟩
/-- what is around is less precise -/
def eLe : Env → Env → Prop
  | [], [] => True
  | b' :: l', b :: l => (b'.1.toList = b.1.toList ∧ le2 b'.2 b.2) ∧ eLe l' l
  | _, _ => False
theorem eLe.snoc : ∀ {l' l : Env} {x' x : ByteArray} {a' a : T2}, eLe l' l → x'.toList = x.toList → le2 a' a → eLe (l' ++ [(x', a')]) (l ++ [(x, a)])
  | [], [], _, _, _, _, _, h1, h2 => ⟨⟨h1, h2⟩, trivial⟩
  | _ :: _, _ :: _, _, _, _, _, h, h1, h2 => ⟨h.1, eLe.snoc h.2 h1 h2⟩
  | [], _ :: _, _, _, _, _, h, _, _ => h.elim
  | _ :: _, [], _, _, _, _, h, _, _ => h.elim
/-- a term's own types -/
theorem tt_chk {h : Hd} {n : Nat} (ho : Tm.headOk h n = true) (hk : Tm.hasType h.kind = true) : chk (TT h) = 0 := by
  have := Tm.headOk_tys ho
  unfold Tm.tysOk at this
  rw [hk] at this
  simp only [Bool.not_true, Bool.false_or, Bool.and_eq_true, beq_iff_eq] at this
  exact this.1
theorem uu_chk {h : Hd} {n : Nat} (ho : Tm.headOk h n = true) (hk : Tm.hasTo h.kind = true) : chk (UU h) = 0 := by
  have := Tm.headOk_tys ho
  unfold Tm.tysOk at this
  rw [hk] at this
  simp only [Bool.not_true, Bool.false_or, Bool.and_eq_true, beq_iff_eq] at this
  exact this.2
structure HdLe (h' h : Hd) : Prop where
  kind : h'.kind = h.kind
  name : Tm.hasName h.kind = true → h'.name.toList = h.name.toList
  arg : Tm.hasArg h.kind = true → h'.arg.toList = h.arg.toList
  tt : Tm.hasType h.kind = true → le2 (TT h') (TT h)
  uu : Tm.hasTo h.kind = true → le2 (UU h') (UU h)
theorem HdLe.of {h' h : Hd} {n m : Nat} (e : Tm.reH h' h = true) (h1 : Tm.headOk h' n = true) (h2 : Tm.headOk h m = true) : HdLe h' h := by
  unfold Tm.reH at e
  simp only [Bool.and_eq_true, beq_iff_eq] at e
  obtain ⟨ek, en, ea, -, et, eu⟩ := e
  rw [ek] at en ea et eu
  refine ⟨ek, fun q => ?_, fun q => ?_, fun q => ?_, fun q => ?_⟩
  · rw [q] at en; simpa using en
  · rw [q] at ea; simpa using ea
  · rw [q] at et
    exact ⟨tt_chk h1 (by rw [ek]; exact q), tt_chk h2 q, by rw [Bool.not_true, Bool.false_or] at et; exact et⟩
  · rw [q] at eu
    exact ⟨uu_chk h1 (by rw [ek]; exact q), uu_chk h2 q, by rw [Bool.not_true, Bool.false_or] at eu; exact eu⟩
end Ck
end Go.Proofs.YtknhoagicdfikaaGreatDoor
