/- The program's IsWithin over the translation. The model's IsWithin over the translation, and the walk of its law. -/
import Derived.Test.YtibkmhmeoelpdaaGreatCg
import Derived.Test.YtibkmhmeoelpdaaGreatCv
namespace Go.Proofs.YtibkmhmeoelpdaaGreat
open Go.RowKit Go.Shelf
open Geo (H3)
open Go.RowKit

attribute [local go_sem] Oper.semAt_some

def ahB (hs : List H3) (p : H3) : Bool := hs.all (fun h => decide (sideV h.a h.b h.c p.a p.b p.c ≤ 0))
/-- whether a region lies within another one -/
noncomputable def wiB (ps qs : List H3) : Bool := rokB ps && rokB qs && (decide (ps = []) || (decide (qs ≠ []) && (corR ps).all (ahB qs)))
end Go.Proofs.YtibkmhmeoelpdaaGreat
