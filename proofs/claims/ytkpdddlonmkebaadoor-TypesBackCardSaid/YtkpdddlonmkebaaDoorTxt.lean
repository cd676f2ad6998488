/-
  What a type is written like.
-/
import Derived.Test.YtkpdddlonmkebaaDoorFo
namespace Go.Proofs.YtkpdddlonmkebaaDoor
namespace Ty
def word (k : Int) : List UInt8 := if k = 0 then [63] else if k = 1 then [105, 110, 116] else if k = 2 then [98, 111, 111, 108] else if k = 3 then [45, 62] else if k = 4 then [42] else [43]
def binds (k : Int) : Int := if k = 3 then 1 else if k = 5 then 2 else if k = 4 then 3 else 4
def need (p : Int) (first : Bool) : Int := if p = 3 then (if first then 2 else 1) else (if first then binds p else binds p + 1)
def txtOne (k : Int) (inner : List UInt8) (least : Int) : List UInt8 := if k ≤ 2 then word k else if binds k < least then 40 :: (inner ++ [41]) else inner
def txtIn : Fo → Int → Bool → List UInt8
  | .nil, _, _ => []
  | .node _ _ k kids r, p, first => txtOne k (txtIn kids k true) (need p first) ++ (if first then 32 :: (word p ++ (32 :: txtIn r p false)) else [])
def txt (k : Int) (kids : Fo) (least : Int) : List UInt8 := txtOne k (txtIn kids k true) least
theorem word_len (k : Int) : (word k).length ≤ 4 := by
  unfold word; repeat' split
  all_goals simp
theorem txtOne_len (k : Int) (inner : List UInt8) (least : Int) : (txtOne k inner least).length ≤ inner.length + 4 := by
  unfold txtOne
  have := word_len k
  split
  · omega
  · split
    · simp
    · omega
theorem txtIn_len : ∀ (f : Fo) (p : Int) (first : Bool), (txtIn f p first).length ≤ 10 * nodes f
  | .nil, _, _ => by simp [txtIn]
  | .node _ _ k kids r, p, first => by
    have h1 := txtOne_len k (txtIn kids k true) (need p first)
    have h2 := txtIn_len kids k true
    have h3 := txtIn_len r p false
    have h4 := word_len p
    simp only [txtIn, nodes, List.length_append]
    split
    · simp only [List.length_cons, List.length_append]; omega
    · simp only [List.length_nil]; omega
theorem txt_len (k : Int) (kids : Fo) (least : Int) : (txt k kids least).length ≤ 10 * (nodes kids + 1) := by
  have h1 := txtOne_len k (txtIn kids k true) least
  have h2 := txtIn_len kids k true
  unfold txt; omega
theorem txt_two (k : Int) (a b a' b' : Nat) (k1 : Int) (kids1 : Fo) (k2 : Int) (kids2 : Fo) : txtIn (.node a b k1 kids1 (.node a' b' k2 kids2 .nil)) k true = txt k1 kids1 (need k true) ++ (32 :: (word k ++ (32 :: txt k2 kids2 (need k false)))) := by
  simp [txtIn, txt]
end Ty
end Go.Proofs.YtkpdddlonmkebaaDoor
