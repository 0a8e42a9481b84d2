/- The contract of the program's SpotOf over the translation, away from the least int. -/
import Derived.Test.YtkodoedkdgldnabSof
namespace Go.Proofs.Ytkodoedkdgldnab
open Go.RowKit

theorem ansS_if {x y d X Y D : Int} {g : Int} (hg : g = (gS x y d : Int)) (h1 : 1 ≤ d) (hX : x.tdiv g = X) (hY : y.tdiv g = Y) (hD : d.tdiv g = D) :
    ansS x y d = .tuple #[.agg #[.int .i64 (kp (okS X Y D) X), .int .i64 (kp (okS X Y D) Y), .int .i64 (kp (okS X Y D) D)], .bool (okS X Y D)] := by
  subst hg; subst hX; subst hY; subst hD
  unfold ansS; rw [hasS_of h1]

end Go.Proofs.Ytkodoedkdgldnab
