import Derived.Laws.StructEq
import Derived.Maps.AppendAt
import Derived.Deep.RegionLaw
import Derived.Deep.RegionHeld3
import Derived.Deep.DrawnRows
import Derived.ArgAppend
import Derived.Deep.DeepCutAuto
import Derived.Deep.QuietTactic
import Derived.BigQuiet
import Derived.WalkSmall
import Derived.Laws.EntriesVeiled
import Derived.LaidEql
import Derived.Stop.Asserts
import Derived.RowKitTokens
import Derived.Test.YtekeoilmfbcefaaGreatDoorChecked
import Derived.WalkKit
import Derived.ChangeSame
import Derived.Deep.Trees
import Derived.Deep.Slices
import Derived.Below
import Derived.Lib.Hide
import Derived.StillTailTactics
import Derived.WalkSpells
import Derived.WalkLawsBesides
import Derived.RegionTactic
import Derived.BigRegion
import Derived.Defers
import Derived.Recover
import Derived.Deep.LoopGhost
import Derived.OwnWalk
import Derived.Laws.AppendOwn
import Derived.Deep.AppendLies
import Derived.Lib.ParseIntB
import Derived.Deep.OwnRows
import Derived.Orders
import Derived.Laws.Cover4
import Derived.Test.YtekeoilmfbcefaaGreatDoorRows
import Derived.IntWalk
import Derived.Shelf.Small.Utf8
import Derived.Shelf.Small.Strs
import Derived.Shelf.LaysM
import Derived.Shelf.Strconv.Clone
import Derived.Shelf.LaysC
import Derived.Shelf.Strconv.Lower
import Derived.Shelf.Strconv.ParseUint10
import Derived.Shelf.Strconv.ParseUint10Empty
import Derived.Shelf.Strconv.ParseUint10Any
import Derived.Shelf.Strconv.ParseInt10
import Derived.Shelf.Strconv.RangeError
import Derived.Shelf.Strconv.ParseUintEmpty
import Derived.Shelf.Strconv.ParseInt10At64
import Derived.Shelf.Strconv.ParseInt10All
import Derived.Shelf.Strconv.ParseIntPublic10
import Derived.Shelf.Strconv.ErrVarParseInt
import Derived.Shelf.Strings.Search1
import Derived.Shelf.Strings.Prefix
import Derived.Shelf.Strings.Runes
import Derived.Test.YtekeoilmfbcefaaGreatDoorProg
import Derived.Deep.RegionWith
import Derived.Lib.DecodeN
import Derived.Lib.Strings
import Derived.Laws.RangeAny
namespace Go.Proofs.YtekeoilmfbcefaaGreatDoor
open Go.RowKit
theorem zFI {P : Prop} (h : P := by
 obtain rfl := SI ho
 have v2 := hpv hp 2 (by simp)
 have ww2 := (y2 v2)
 exact V_ ho 3 ⟨pd hdf, ps hsz, KX hx, K2 y0, K2 y1, K2 y2, K2 y3, (fun _ => pS hsz), hB0, hH0, hH1, hbw⟩) : P := h
theorem zFG {P : Prop} (h : P := by
 obtain rfl := SI ho
 obtain ⟨e0, e1, -, -, -⟩ := zF hH0
 exact V_ ho 12 ⟨pd hdf, ps hsz, KX hx, (fun _ => pS hsz), K2 y1, K2 y2, K2 y3, K2 y4, hB0, hH0, hH1, hbw⟩) : P := h
theorem zFF {P : Prop} (h : P := by
 go_wp2_with fail
 refine CK.out.mono ?_
 rintro e w6 ⟨rfl, hb6⟩
 have HB6 := kt_ HB4 hb6
 clear hb6
 go_wp2_with fail
 go_ret
 exact ⟨rfl, HB6.out⟩) : P := h
theorem zEJ {P : Prop} (h : P := by
 obtain rfl := SI ho
 exact V_ ho 13 ⟨pd hdf, ps hsz, KX hx, K2 y0, (fun _ => pS hsz), K2 y2, K2 y3, K2 y4, hB0, hH0, hH1, hbw⟩) : P := h
end Go.Proofs.YtekeoilmfbcefaaGreatDoor
