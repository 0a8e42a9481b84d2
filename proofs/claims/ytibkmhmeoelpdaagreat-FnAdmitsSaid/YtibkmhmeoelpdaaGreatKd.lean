/- The model's RoomOk over the translation. -/
import Derived.Test.YtibkmhmeoelpdaaGreatKc
namespace Go.Proofs.YtibkmhmeoelpdaaGreat
open Go.RowKit
open Geo (H3)
theorem rm_eq (zs : List Int) (q bx cy lo hi : Int) (ps qs : List H3) : rmB zs q bx cy lo hi ps qs = (mapB zs q && !decide (detI zs = 0) && inB bx (-100) 100 && inB cy (-100) 100 && inB lo (-1000) 1000 && inB hi lo 1000 && rokB ps && rokB qs && !decide (ps = []) && !decide (qs = [])) := by
  unfold rmB rmM solB
  cases mapB zs q <;> cases inB bx (-100) 100 <;> cases inB cy (-100) 100 <;> cases inB lo (-1000) 1000 <;> cases inB hi lo 1000 <;> cases rokB ps <;> cases rokB qs <;> simp [Bool.and_assoc]
end Go.Proofs.YtibkmhmeoelpdaaGreat
