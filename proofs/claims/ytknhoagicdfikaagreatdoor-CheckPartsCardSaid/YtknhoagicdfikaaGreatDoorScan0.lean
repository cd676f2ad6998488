/-
  Plain definitions for layer 1 (scan): letters, digits, blanks as Bools on Int; no program in it.
-/
import Derived.Test.YtknhoagicdfikaaGreatDoorRows
namespace Go.Proofs.YtknhoagicdfikaaGreatDoor
namespace Sc
/-- a letter: A to Z, a to z, the underscore -/
def lett (r : Int) : Bool := decide ((65 ≤ r ∧ r ≤ 90) ∨ (97 ≤ r ∧ r ≤ 122) ∨ r = 95)
def digi (r : Int) : Bool := decide (48 ≤ r ∧ r ≤ 57)
def lord (r : Int) : Bool := lett r || digi r
def isKey (s : ByteArray) : Bool := decide (s.toList ∈ ([[108, 101, 116], [105, 110], [105, 102], [116, 104, 101, 110], [101, 108, 115, 101], [114, 101, 99], [99, 97, 115, 101], [111, 102], [102, 115, 116], [115, 110, 100], [105, 110, 108], [105, 110, 114], [116, 114, 117, 101], [102, 97, 108, 115, 101], [105, 110, 116], [98, 111, 111, 108]] : List (List UInt8)))
end Sc
end Go.Proofs.YtknhoagicdfikaaGreatDoor
