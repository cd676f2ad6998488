import Derived.Laws.StructEq
import Derived.Maps.AppendAt
import Derived.Deep.RegionLaw
import Derived.Deep.RegionHeld3
import Derived.Deep.DrawnRows
import Derived.ArgAppend
import Derived.Deep.DeepCutAuto
import Derived.Deep.QuietTactic
import Derived.BigQuiet
import Derived.WalkSmall
import Derived.Laws.EntriesVeiled
import Derived.WalkKit
import Derived.ChangeSame
import Derived.Deep.Trees
import Derived.Deep.Slices
import Derived.Below
import Derived.Lib.Hide
import Derived.StillTailTactics
import Derived.WalkSpells
import Derived.WalkLawsBesides
import Derived.RegionTactic
import Derived.BigRegion
import Derived.Defers
import Derived.Recover
import Derived.Deep.LoopGhost
import Derived.OwnWalk
import Derived.Laws.AppendOwn
import Derived.Deep.AppendLies
import Derived.Lib.ParseIntB
import Derived.Deep.OwnRows
import Derived.Orders
import Derived.Laws.Cover4
import Derived.Test.YtglgjaomneljbacGreatDoorRows
import Derived.IntWalk
import Derived.Shelf.Small.Utf8
import Derived.Shelf.Small.Strs
import Derived.Shelf.LaysM
import Derived.Shelf.Strconv.Clone
import Derived.Shelf.LaysC
import Derived.Shelf.Strconv.Lower
import Derived.Shelf.Strconv.ParseUint10
import Derived.Shelf.Strconv.ParseUint10Empty
import Derived.Shelf.Strconv.ParseUint10Any
import Derived.Shelf.Strconv.ParseInt10
import Derived.Shelf.Strconv.RangeError
import Derived.Shelf.Strconv.ParseUintEmpty
import Derived.Shelf.Strconv.ParseInt10At64
import Derived.Shelf.Strconv.ParseInt10All
import Derived.Shelf.Strconv.ParseIntPublic10
import Derived.Shelf.Strconv.ErrVarParseInt
import Derived.Shelf.Strings.Search1
import Derived.Shelf.Strings.Prefix
import Derived.Shelf.Strings.Runes
import Derived.Deep.RegionWith
import Derived.Lib.DecodeN
import Derived.Lib.Strings
import Derived.Laws.RangeAny
namespace Go.Proofs.YtglgjaomneljbacGreatDoor
open Go.RowKit
theorem zEE {P : Prop} (h : P := by
 obtain ⟨k0, k1, -, -, -⟩ := zH z1
 obtain ⟨k2, -, -⟩ := jE z2
 exact ⟨.tuple #[.agg #[.int .i8 0, .slice none 0 0], (.iface 48 (.pointer (some ⟨g, 0, none⟩)))], by simp [results, Tryz.results12, go_sem, k0, k1, k2], g, rfl, hff.out, hgw, HB9.out⟩) : P := h
theorem zCZ {P : Prop} (h : P := by
 rw [if_neg q, if_neg q]; exact ⟨rfl, KnR.fault _ _⟩) : P := h
end Go.Proofs.YtglgjaomneljbacGreatDoor
