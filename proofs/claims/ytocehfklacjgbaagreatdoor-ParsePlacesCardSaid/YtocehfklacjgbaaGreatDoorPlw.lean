/-
  Layer 4: the walk of the law's places: each term's place is told, if its head word stands there.
-/
import Derived.Test.YtocehfklacjgbaaGreatDoorM4
import Derived.Test.YtocehfklacjgbaaGreatDoorShelf
import Derived.Deep.DeepCutAuto
import Derived.Deep.CutBlock
import Derived.Laws.AppendOwn
import Derived.Maps.Range
import Derived.Maps.AppendAt
namespace Go.Proofs.YtocehfklacjgbaaGreatDoor
open Go.RowKit
namespace Plw
/-- the word of a kind whose terms all have one -/
def hw (k : Int) : List UInt8 :=
  if k = 2 then [116, 114, 117, 101] else if k = 3 then [102, 97, 108, 115, 101] else if k = 4 then [92] else if k = 5 then [114, 101, 99] else if k = 6 then [40] else if k = 7 then [108, 101, 116] else if k = 8 then [105, 102]
  else if k = 9 then [91] else if k = 10 then [102, 115, 116] else if k = 11 then [115, 110, 100] else if k = 12 then [105, 110, 108] else if k = 13 then [105, 110, 114] else if k = 14 then [99, 97, 115, 101] else [58]
/-- a term's word -/
def HeadW (g : Hd) (t : List UInt8) : Prop :=
  ((g.kind = 0 ∨ g.kind = 15) ∧ t = g.name.toList) ∨ (g.kind = 1 ∧ 0 ≤ g.num ∧ t = Lib.decDigits g.num.toNat) ∨ (g.kind = 1 ∧ g.num ≤ 0 ∧ t = [45]) ∨ ((2 ≤ g.kind ∧ g.kind ≤ 14 ∨ g.kind = 16) ∧ t = hw g.kind)
/-- a term's word stands at its place -/
structure At (s : ByteArray) (g : Hd) : Prop where
  num : -9223372036854775808 ≤ g.num ∧ g.num ≤ 9223372036854775807
  word : ∃ (p : Nat) (t : List UInt8), g.pos = p ∧ t ≠ [] ∧ p + t.length ≤ s.size ∧ (s.extract p (p + t.length)).toList = t ∧ HeadW g t
def hds : Tm → List Hd
  | .nil => []
  | .node h kids r => h :: (hds kids ++ hds r)
theorem info_int : (Tryz.prog.info? 3).map (fun i => (i.zero, i.size, i.bytes)) = some (some (.int .i64 0), 1, 8) := by kernel_rfl

set_option maxHeartbeats 1000000 in
set_option maxRecDepth 100000 in
theorem fmt_any (n : Int) (h0 : -9223372036854775808 ≤ n) (h1 : n ≤ 9223372036854775807) (w : World) (ht : Lib.TabIs Tryz.prog w "internal/strconv.uint64pow10" .u64 Lib.pow10Tab) :
    Calls Tryz.prog 31 #[.int .i64 n, .int .i64 10] w fun e w' => e = .returned (.string ⟨(Lib.itoa n).toArray⟩) ∧ Below w.heap.size w w' := by
  have CF := Lib.hid (Tryz.internal_strconv_FormatInt_10 n (by omega) h1 w ht)
  clear ht
  go_enter Tryz.func31, Tryz.ntmps31
  go_wp2_with fail
  refine CF.out.mono ?_
  rintro e w2 ⟨rfl, k, os, rfl⟩
  go_wp2_with fail
  go_ret
  have hb : ∀ i, i < w.heap.size → (Sort.grow (w.drewN k) os).heap[i]? = w.heap[i]? := fun i hi => by
    show ((w.drewN k).heap ++ os)[i]? = _
    rw [Array.getElem?_append_left (by exact hi)]; rfl
  exact ⟨rfl, ⟨rfl, rfl, rfl, by simp [Sort.grow, World.drewN], fun i hi => hb i (by omega)⟩⟩

/-- what a row's growing leaves -/
def Grew (w w' : World) (v v' : Value) : Prop := w.grownBy w' v.ownBlock ∧ ∀ j, v'.ownBlock = some j → w.heap.size ≤ j ∨ v.ownBlock = some j
theorem Grew.trans {w u w' : World} {v v1 v2 : Value} (h : Grew w u v v1) (k : Grew u w' v1 v2) : Grew w w' v v2 := by
  refine ⟨h.1.andThen k.1 h.2, fun j hj => ?_⟩
  rcases k.2 j hj with q | q
  · exact .inl (Nat.le_trans h.1.size q)
  · exact h.2 j q
theorem Grew.below {w w' : World} (v : Value) (hb : Below w.heap.size w w') : Grew w w' v v := ⟨⟨hb.os, hb.tape, hb.output, hb.size, fun i hi _ => hb.block i hi⟩, fun _ h => .inr h⟩
abbrev ps (l : List Hd) : List Value := l.map fun g => .int .i64 g.pos
theorem hds_len : ∀ t : Tm, (hds t).length ≤ Tm.nodes t
  | .nil => Nat.le_refl _
  | .node h kids r => by
    have := hds_len kids
    have := hds_len r
    simp only [hds, Tm.nodes, List.length_cons, List.length_append]; omega
theorem len_nodes : ∀ f : Tm, Tm.len f ≤ Tm.nodes f
  | .nil => Nat.le_refl _
  | .node _ _ r => by have := len_nodes r; simp only [Tm.len, Tm.nodes]; omega
theorem byte_of {s : ByteArray} {p : Nat} {t : List UInt8} {c : UInt8} (h : (s.extract p (p + t.length)).toList = t) (ht : t = [c]) (hh : p < s.size) : ((s[p]'hh).toNat : Int) = c.toNat := by
  subst ht
  rw [Lib.toList_data] at h
  have e : (s.extract p (p + 1)).data.toList = [s[p]'hh] := by
    rw [ByteArray.data_extract, Array.toList_extract, List.extract_eq_take_drop]
    have hl : p < s.data.toList.length := by simpa using hh
    rw [List.drop_eq_getElem_cons hl]
    simp [ByteArray.getElem_eq_getElem_data]
  have e2 : [s[p]'hh] = [c] := by rw [← e]; exact h
  injection e2 with e2 _
  rw [e2]

structure Rel (w0 w1 wr : World) (s : ByteArray) (kids : Tm) (A : Option Addr) (n : Nat) (v v2 : Value) (L : List Value) (i : Nat) (rest : Tm) (xs : List Value) : Prop where
  lies : Tm.Lies w0 rest A i
  sum : i + Tm.len rest = n
  own : wr.ownsRow w0.heap.size 3 1 v2 xs.length xs
  all : xs ++ ps (hds rest) = L
  grew : Grew w1 wr v v2
  below : Below w0.heap.size w0 wr
  heads : ∀ g ∈ hds rest, At s g
  sub : Tm.nodes rest ≤ Tm.nodes kids
end Plw
end Go.Proofs.YtocehfklacjgbaaGreatDoor
