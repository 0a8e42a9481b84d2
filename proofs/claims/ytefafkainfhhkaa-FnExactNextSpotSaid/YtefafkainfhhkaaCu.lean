/- The walk of the law of CornersOf. -/
import Derived.Test.YtefafkainfhhkaaCm
namespace Go.Proofs.Ytefafkainfhhkaa
open Go.RowKit
open Geo (H3)

theorem corR_le {hs : List H3} {n : Nat} (hl : hs.length = n) : (corR hs).length ≤ n := by
  unfold corR; split
  · rw [corL_len]; omega
  · simp
end Go.Proofs.Ytefafkainfhhkaa
