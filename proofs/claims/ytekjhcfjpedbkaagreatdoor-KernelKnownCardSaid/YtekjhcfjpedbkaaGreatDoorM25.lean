/-
  The document's rules: what one leaves; types in blocks of which Q holds. Boxes that a drawn region writes: what is kept (genw2.py). A drawn region's other facts stay, whatever an operation does (genw2.py).
-/
import Derived.Test.YtekjhcfjpedbkaaGreatDoorM20
import Derived.Test.YtekjhcfjpedbkaaGreatDoorM18
import Derived.Test.YtekjhcfjpedbkaaGreatDoorM14
namespace Go.Proofs.YtekjhcfjpedbkaaGreatDoor
open Go.RowKit
namespace Qr
open Ck
def tyO : R → T2
  | .ok a => a
  | .bad _ _ _ => (0, .nil)
def eO : R → Int
  | .ok _ => 0
  | .bad E _ _ => E
def pO : R → Int
  | .ok _ => 0
  | .bad _ p _ => p
def xO : R → ByteArray
  | .ok _ => ⟨#[]⟩
  | .bad _ _ x => x
/-- an error's number is not 0 -/
def Nz (r : R) : Prop := ∀ E p x, r = .bad E p x → E ≠ 0
/-- what a rule of the document's leaves -/
def Post (Q : Nat → Prop) (w : World) (r : R) (e : Ending) (w' : World) : Prop :=
  Nz r ∧ ∃ G m c, e = .returned (.tuple #[.agg #[.int .i8 (tyO r).1, .slice G m c], .agg #[.int .i64 (eO r), .int .i64 (pO r), .string (xO r)]]) ∧ Ly (Cut Q w.heap.size w.heap.size) w' (tyO r) G m c ∧ Below w.heap.size w w'
theorem Nz.ok (a : T2) : Nz (.ok a) := fun _ _ _ e => by cases e
/-- a contract of the document's, seen from an earlier world -/
theorem Post.from {Q : Nat → Prop} {w u w' : World} {r : R} {e : Ending} (h : Post Q u r e w') (hb : Below w.heap.size w u) (hq : ∀ b, b < u.heap.size → Q b → Cut Q w.heap.size w.heap.size b) : Post Q w r e w' := by
  obtain ⟨h0, G, m, c, h1, h2, h3⟩ := h
  exact ⟨h0, G, m, c, h1, h2.weak (fun b _ q => q.elim (fun q => hq b q.2 q.1) (fun q => .inr (Nat.le_trans hb.size q))), hb.trans (h3.mono hb.size)⟩
end Qr
theorem set_three_ne {u : World} {X Y : Nat} {o : Obj} (h : u.heap[Y]? = some o) (hne : X ≠ Y) (a b c : Value) : (((u.setCell ⟨X, 0, none⟩ a).setCell ⟨X, 1, none⟩ b).setCell ⟨X, 2, none⟩ c).heap[Y]? = some o := by
  simp [World.setCell, Array.getElem?_modify, h, hne]
theorem Ck.Ly.set3 {Q : Nat → Prop} {w : World} {a : Ck.T2} {G : Option Addr} {m c : Nat} (h : Ck.Ly Q w a G m c) {X : Nat} (hX : ∀ b, Q b → b ≠ X) (v0 v1 v2 : Value) : Ck.Ly Q (((w.setCell ⟨X, 0, none⟩ v0).setCell ⟨X, 1, none⟩ v1).setCell ⟨X, 2, none⟩ v2) a G m c := ((h.set hX _ _).set hX _ _).set hX _ _
end Go.Proofs.YtekjhcfjpedbkaaGreatDoor
namespace Go.Proofs.YtekjhcfjpedbkaaGreatDoor
open Go.RowKit
theorem eh2_old {w : World} {X : Nat} {o : Obj} (q : ∃ u0 u1, w.heap[X]? = some (.cells #[u0, u1] 25 (0, 0))) : ∃ u0 u1, (w.alloc o).heap[X]? = some (.cells #[u0, u1] 25 (0, 0)) := eh_old q
theorem eh2_below {w u : World} {X : Nat} (hb : Below w.heap.size w u) (q : ∃ u0 u1, w.heap[X]? = some (.cells #[u0, u1] 25 (0, 0))) : ∃ u0 u1, u.heap[X]? = some (.cells #[u0, u1] 25 (0, 0)) := eh_below hb q
theorem eh3_old {w : World} {X : Nat} {o : Obj} (q : ∃ u0 u1 u2, w.heap[X]? = some (.cells #[u0, u1, u2] 35 (0, 0))) : ∃ u0 u1 u2, (w.alloc o).heap[X]? = some (.cells #[u0, u1, u2] 35 (0, 0)) := q.elim fun _ q => q.elim fun _ q => q.elim fun _ q => ⟨_, _, _, heap_old q _⟩
theorem eh3_below {w u : World} {X : Nat} (hb : Below w.heap.size w u) (q : ∃ u0 u1 u2, w.heap[X]? = some (.cells #[u0, u1, u2] 35 (0, 0))) : ∃ u0 u1 u2, u.heap[X]? = some (.cells #[u0, u1, u2] 35 (0, 0)) := q.elim fun _ q => q.elim fun _ q => q.elim fun _ q => ⟨_, _, _, heap_below hb (heap_lt q) q⟩
end Go.Proofs.YtekjhcfjpedbkaaGreatDoor
namespace Go.Proofs.YtekjhcfjpedbkaaGreatDoor
open Go.RowKit
/-- another operation's facts stay -/
theorem K2 {l : Array Bool} {i j : Nat} {A B : Prop} (y : l[j]? = some true → A) (f : A → B := by ((repeat' with_reducible refine And.imp ?_ ?_) <;> first | with_reducible exact id | with_reducible exact fun q => pn q | with_reducible exact fun q => set_keep q | with_reducible exact fun q => Ck.Ly.later q hba | with_reducible exact fun q => Ck.Ly.later q hb | with_reducible exact fun q => Ck.EAt.below q hba | with_reducible exact fun q => Ck.EAt.below q hb | with_reducible exact fun q => heap_old q _ | with_reducible exact fun q => heap_below hb (heap_lt q) q | with_reducible exact eh2_old | with_reducible exact eh3_old | with_reducible exact eh2_below hb | with_reducible exact eh3_below hb | ((with_reducible refine fun q => Ck.Ly.set2 q ?_ _ _); exact fun b hq => hq.ne (by omega) (by omega)) | ((with_reducible refine fun q => Ck.Ly.set3 q ?_ _ _ _); exact fun b hq => hq.ne (by omega) (by omega)) | ((with_reducible refine fun q => set_two_ne q ?_ _ _); omega) | ((with_reducible refine fun q => set_three_ne q ?_ _ _ _); omega))) (h : i ≠ j := by decide) : (l.setIfInBounds i true)[j]? = some true → B := kF y f h
end Go.Proofs.YtekjhcfjpedbkaaGreatDoor
