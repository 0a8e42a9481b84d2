/- The walk of the law of ShiftRegion. -/
import Derived.Test.YtefafkainfhhkaaSi
import Derived.Test.YtefafkainfhhkaaMe
namespace Go.Proofs.Ytefafkainfhhkaa
open Go.RowKit
open Geo (H3)

end Go.Proofs.Ytefafkainfhhkaa
