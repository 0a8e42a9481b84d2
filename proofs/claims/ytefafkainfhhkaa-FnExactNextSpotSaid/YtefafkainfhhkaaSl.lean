/- The walk of SameRegion's law over the translation. -/
import Derived.Test.YtefafkainfhhkaaVm
namespace Go.Proofs.Ytefafkainfhhkaa
open Go.RowKit
open Geo (H3)

theorem twoc3 {V X : World} {p q r : Addr} {a b c : Value} (h : V.cell? p = some a) (k : V.cell? q = some b) (l : V.cell? r = some c) (hb : Below V.heap.size V X) : X.cell? p = some a ∧ X.cell? q = some b ∧ X.cell? r = some c := ⟨cell_to h hb, cell_to k hb, cell_to l hb⟩
end Go.Proofs.Ytefafkainfhhkaa
