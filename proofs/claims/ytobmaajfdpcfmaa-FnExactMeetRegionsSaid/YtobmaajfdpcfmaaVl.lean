/- The walk of IsVoid's law over the translation. -/
import Derived.Test.YtobmaajfdpcfmaaSr
import Derived.Test.YtobmaajfdpcfmaaOh
namespace Go.Proofs.Ytobmaajfdpcfmaa
open Go.RowKit
open Geo (H3)

/-- a region of the call's own is handed back -/
def RegW (w : World) (hs : List H3) (n : Nat) (e : Ending) (w' : World) : Prop := ∃ ao cp, e = .returned (.agg #[.slice ao n cp]) ∧ w'.ownsRow w.heap.size 34 3 (.slice ao n cp) n (flat hs) ∧ Below w.heap.size w w'
theorem own_hs {w : World} {B n cp : Nat} {e : TypeId} {ao : Option Addr} {hs : List H3} (h : w.ownsRow B e 3 (.slice ao n cp) n (flat hs)) : HsAt w ao hs := by
  obtain ⟨_, ao', cap', e, hat⟩ := own3_view h
  simp only [Value.slice.injEq, true_and] at e
  obtain ⟨rfl, rfl⟩ := e
  exact hat
theorem to_region2 (a : Option Addr) (n cap : Nat) (hs : List H3) (w : World) (hl : hs.length = n) (hn : n ≤ 1048576) (hA : HsAt w a hs) :
    Calls Try.prog 43 #[.agg #[.slice a n cap]] w (RegW w hs n) := by
  refine (to_region a n cap hs w hl hn hA).mono ?_
  rintro e w1 ⟨v, rfl, ho, bl⟩
  rw [hl] at ho
  obtain ⟨ao, cp, rfl⟩ := own_slice ho
  exact ⟨ao, cp, rfl, ho, bl⟩
theorem cell_to {V X : World} {p : Addr} {u : Value} (q : V.cell? p = some u) (hb : Below V.heap.size V X) : X.cell? p = some u := by rw [hb.cell (block_lt_of_cell q)]; exact q
theorem twoc {V X : World} {p q : Addr} {a b : Value} (h : V.cell? p = some a) (k : V.cell? q = some b) (hb : Below V.heap.size V X) : X.cell? p = some a ∧ X.cell? q = some b := ⟨cell_to h hb, cell_to k hb⟩
end Go.Proofs.Ytobmaajfdpcfmaa
