/-
  What a term is written like: its words.
-/
import Derived.Test.YtocehfklacjgbaaGreatDoorM4
import Derived.Test.YtocehfklacjgbaaGreatDoorM1
import Derived.Lib.ItoaNum
namespace Go.Proofs.YtocehfklacjgbaaGreatDoor
namespace Sh
abbrev Bs := List UInt8
/-- an operator: how strong, how strong its parts -/
def opS (s : ByteArray) : Int × Int × Int := if s.toList = [42] ∨ s.toList = [47] then (3, 3, 4) else if s.toList = [43] ∨ s.toList = [45] then (2, 2, 3) else (1, 2, 2)
/-- how strong a term is -/
def st (h : Hd) : Int :=
  if h.kind = 4 ∨ h.kind = 5 ∨ h.kind = 7 ∨ h.kind = 8 ∨ h.kind = 14 then -1 else if h.kind = 16 then 0 else if h.kind = 15 then (opS h.name).1
  else if h.kind = 10 ∨ h.kind = 11 ∨ h.kind = 12 ∨ h.kind = 13 then 4 else if h.kind = 1 ∧ h.num < 0 then 4 else 5
/-- a term at a strength -/
def atW (k : Int) (x : Int × List Bs) : List Bs := if k ≤ x.1 then x.2 else [40] :: (x.2 ++ [[41]])
def tyW (k : Int) (f : Fo) : Bs := Ty.txt k f 1
def numW (n : Int) : List Bs := if n < 0 then [[45], Lib.decDigits n.natAbs] else [Lib.decDigits n.toNat]
def kid (ks : List (Int × List Bs)) (i : Nat) (k : Int) : List Bs := atW k (ks.getD i (0, []))
/-- a term's own words, by its kids' -/
def ownW (h : Hd) (ks : List (Int × List Bs)) : List Bs :=
  if h.kind = 0 then [h.name.data.toList] else if h.kind = 1 then numW h.num else if h.kind = 2 then [[116, 114, 117, 101]] else if h.kind = 3 then [[102, 97, 108, 115, 101]]
  else if h.kind = 4 then [[92], h.name.data.toList, [58], tyW h.tk h.tkids, [46]] ++ kid ks 0 (-1)
  else if h.kind = 5 then [[114, 101, 99], h.name.data.toList, [40], h.arg.data.toList, [58], tyW h.tk h.tkids, [41], [58], tyW h.uk h.ukids, [46]] ++ kid ks 0 (-1)
  else if h.kind = 6 then (kid ks 0 5 ++ [[40]]) ++ (kid ks 1 (-1) ++ [[41]])
  else if h.kind = 7 then [[108, 101, 116], h.name.data.toList, [58], tyW h.tk h.tkids, [61]] ++ ((kid ks 0 (-1) ++ [[105, 110]]) ++ kid ks 1 (-1))
  else if h.kind = 8 then [[105, 102]] ++ ((kid ks 0 (-1) ++ [[116, 104, 101, 110]]) ++ ((kid ks 1 (-1) ++ [[101, 108, 115, 101]]) ++ kid ks 2 (-1)))
  else if h.kind = 9 then [[91]] ++ ((kid ks 0 (-1) ++ [[44]]) ++ (kid ks 1 (-1) ++ [[93]]))
  else if h.kind = 10 then [[102, 115, 116]] ++ kid ks 0 4 else if h.kind = 11 then [[115, 110, 100]] ++ kid ks 0 4
  else if h.kind = 12 then [[105, 110, 108], [123], tyW h.tk h.tkids, [125]] ++ kid ks 0 4 else if h.kind = 13 then [[105, 110, 114], [123], tyW h.tk h.tkids, [125]] ++ kid ks 0 4
  else if h.kind = 14 then [[99, 97, 115, 101]] ++ ((kid ks 0 (-1) ++ [[111, 102], h.name.data.toList, [46]]) ++ ((kid ks 1 (-1) ++ [[124], h.arg.data.toList, [46]]) ++ kid ks 2 (-1)))
  else if h.kind = 15 then (kid ks 0 (opS h.name).2.1 ++ [h.name.data.toList]) ++ kid ks 1 (opS h.name).2.2
  else kid ks 0 0 ++ [[58], tyW h.tk h.tkids]
def kidsW : Tm → List (Int × List Bs)
  | .nil => []
  | .node h kids r => (st h, ownW h (kidsW kids)) :: kidsW r
def own (h : Hd) (kids : Tm) : List Bs := ownW h (kidsW kids)
def stand (k : Int) (h : Hd) (kids : Tm) : List Bs := atW k (st h, own h kids)
/-- what writing words behind what is written makes -/
def put1 (l w : Bs) : Bs := if l = [] then w else l ++ 32 :: w
def puts (l : Bs) (ws : List Bs) : Bs := ws.foldl put1 l
theorem puts_app (l : Bs) (a b : List Bs) : puts l (a ++ b) = puts (puts l a) b := List.foldl_append
theorem puts_nil (l : Bs) : puts l [] = l := rfl
theorem puts_cons (l w : Bs) (ws : List Bs) : puts l (w :: ws) = puts (put1 l w) ws := rfl
/-- how long: each word and a blank -/
def tl : List Bs → Nat
  | [] => 0
  | w :: r => w.length + 1 + tl r
theorem tl_app : ∀ a b : List Bs, tl (a ++ b) = tl a + tl b
  | [], b => by simp [tl]
  | w :: r, b => by simp only [List.cons_append, tl]; rw [tl_app r b]; omega
theorem put1_len (l w : Bs) : (put1 l w).length ≤ l.length + w.length + 1 := by
  unfold put1; split
  · omega
  · simp; omega
theorem puts_len : ∀ (ws : List Bs) (l : Bs), (puts l ws).length ≤ l.length + tl ws
  | [], l => by simp [puts_nil, tl]
  | w :: r, l => by
    rw [puts_cons]
    have h1 := puts_len r (put1 l w)
    have h2 := put1_len l w
    simp only [tl]; omega
/-- words that are joined by blanks -/
def join : List Bs → Bs
  | [] => []
  | [a] => a
  | a :: b :: r => a ++ 32 :: join (b :: r)
theorem join_app : ∀ (a b : List Bs), a ≠ [] → b ≠ [] → join (a ++ b) = join a ++ 32 :: join b
  | [], _, h, _ => absurd rfl h
  | [x], [], _, h => absurd rfl h
  | [x], y :: r, _, _ => rfl
  | x :: y :: r, b, _, hb => by
    have := join_app (y :: r) b (by simp) hb
    simp only [List.cons_append] at this ⊢
    simp only [join]
    rw [this]
    simp
theorem puts_join : ∀ (ws : List Bs) (l : Bs), ws ≠ [] → (∀ w ∈ ws, w ≠ []) → puts l ws = if l = [] then join ws else l ++ 32 :: join ws
  | [], _, h, _ => absurd rfl h
  | [w], l, _, _ => by simp only [puts_cons, puts_nil, join]; rfl
  | w :: v :: r, l, _, hw => by
    rw [puts_cons, puts_join (v :: r) (put1 l w) (by simp) (fun x hx => hw x (List.mem_cons_of_mem _ hx))]
    have hne : w ≠ [] := hw w List.mem_cons_self
    unfold put1
    by_cases hl : l = []
    · subst hl; simp [hne, join]
    · simp [hl, join]
theorem decDigits_ne (n : Nat) : Lib.decDigits n ≠ [] := by
  rw [Lib.decDigits]; split <;> simp
theorem decDigits_len (n : Nat) : ∀ k, n < 10 ^ k → (Lib.decDigits n).length ≤ max k 1 := by
  induction n using Nat.strongRecOn with
  | _ n ih =>
    intro k hk
    rw [Lib.decDigits]
    split
    · simp; omega
    · rename_i h
      cases k with
      | zero => simp at hk; omega
      | succ k =>
        have h2 : n / 10 < 10 ^ k := by rw [Nat.pow_succ] at hk; omega
        have := ih (n / 10) (by omega) k h2
        cases k with
        | zero => simp at h2; omega
        | succ k => simp only [List.length_append, List.length_cons, List.length_nil]; omega
theorem numW_tl {n : Int} (h0 : -9223372036854775808 ≤ n) (h1 : n ≤ 9223372036854775807) : tl (numW n) ≤ 23 := by
  have e1 : ∀ m : Nat, m ≤ 9223372036854775808 → (Lib.decDigits m).length ≤ 19 := fun m hm => by
    have := decDigits_len m 19 (by omega); omega
  unfold numW
  split
  · have := e1 n.natAbs (by omega); simp only [tl, List.length_cons, List.length_nil]; omega
  · have := e1 n.toNat (by omega); simp only [tl]; omega
end Sh
end Go.Proofs.YtocehfklacjgbaaGreatDoor
