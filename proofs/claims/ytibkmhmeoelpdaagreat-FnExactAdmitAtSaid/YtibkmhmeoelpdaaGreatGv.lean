/- GrowAlong of the program over the translation. GrowAlong's half planes of the model over the translation. GrowAlong of the model over the translation. -/
import Derived.Test.YtibkmhmeoelpdaaGreatEg
import Derived.Test.YtibkmhmeoelpdaaGreatMz
import Derived.Test.YtibkmhmeoelpdaaGreatCg
import Derived.Test.YtibkmhmeoelpdaaGreatEz
namespace Go.Proofs.YtibkmhmeoelpdaaGreat
open Go.RowKit Go.Shelf
open Geo (H3)
theorem inB_of {x a b : Int} (h1 : a ≤ x) (h2 : x ≤ b) : inB x a b = true := by unfold inB; simp [h1, h2]
theorem of_inB {x a b : Int} (h : inB x a b = true) : a ≤ x ∧ x ≤ b := by unfold inB at h; simpa using h
set_option maxHeartbeats 800000 in
theorem impl_drv (bx cy : Int) (w : World) (b : Bool) (h : (inB bx (-100) 100 && inB cy (-100) 100) = b) :
    Calls Tryz.prog 116 #[.int .i64 bx, .int .i64 cy] w fun e w' => e = .returned (.bool b) ∧ w' = w := by
  subst h
  cases h1 : inB bx (-100) 100 with
  | false =>
    have HI := Lib.hid (fun W => in_impl_is bx (-100) 100 W false h1)
    clear h1
    go_enter Tryz.func116, Tryz.ntmps116
    go_wp2_with fail
    refine (HI.out _).mono ?_
    rintro e w1 ⟨rfl, rfl⟩
    go_wp2
    go_ret
    exact ⟨rfl, rfl⟩
  | true =>
    have HI := Lib.hid (fun W => in_impl_is bx (-100) 100 W true h1)
    have HJ := Lib.hid (fun W => in_impl_is cy (-100) 100 W _ rfl)
    clear h1
    go_enter Tryz.func116, Tryz.ntmps116
    go_wp2_with fail
    refine (HI.out _).mono ?_
    rintro e w1 ⟨rfl, rfl⟩
    go_wp2_with fail
    refine (HJ.out _).mono ?_
    rintro e w1 ⟨rfl, rfl⟩
    go_wp2
    go_ret
    exact ⟨rfl, rfl⟩
set_option maxHeartbeats 800000 in
theorem impl_rng (lo hi : Int) (w : World) (b : Bool) (h : (inB lo (-1000) 1000 && inB hi lo 1000) = b) :
    Calls Tryz.prog 61 #[.int .i64 lo, .int .i64 hi] w fun e w' => e = .returned (.bool b) ∧ w' = w := by
  by_cases h1 : -1000 ≤ lo
  · by_cases h2 : lo ≤ hi
    · by_cases h3 : hi ≤ 1000
      · have hb : b = true := by rw [← h, inB_of h1 (by omega), inB_of h2 h3]; rfl
        subst hb
        clear h
        have d1 : decide (-1000 ≤ lo) = true := decide_eq_true h1
        have d2 : decide (lo ≤ hi) = true := decide_eq_true h2
        have d3 : decide (hi ≤ 1000) = true := decide_eq_true h3
        go_enter Tryz.func61, Tryz.ntmps61
        go_wp2
        go_ret
        exact ⟨rfl, rfl⟩
      · have hb : b = false := by rw [← h]; unfold inB; simp [h3]
        subst hb
        clear h
        have d1 : decide (-1000 ≤ lo) = true := decide_eq_true h1
        have d2 : decide (lo ≤ hi) = true := decide_eq_true h2
        have d3 : decide (hi ≤ 1000) = false := decide_eq_false h3
        go_enter Tryz.func61, Tryz.ntmps61
        go_wp2
        go_ret
        exact ⟨rfl, rfl⟩
    · have hb : b = false := by rw [← h]; unfold inB; simp [h2]
      subst hb
      clear h
      have d1 : decide (-1000 ≤ lo) = true := decide_eq_true h1
      have d2 : decide (lo ≤ hi) = false := decide_eq_false h2
      go_enter Tryz.func61, Tryz.ntmps61
      go_wp2
      go_ret
      exact ⟨rfl, rfl⟩
  · have hb : b = false := by rw [← h]; unfold inB; simp [h1]
    subst hb
    clear h
    have d1 : decide (-1000 ≤ lo) = false := decide_eq_false h1
    go_enter Tryz.func61, Tryz.ntmps61
    go_wp2
    go_ret
    exact ⟨rfl, rfl⟩
open Go.RowKit Go.Shelf
open Geo (H3)

/-- what the model's list of grown half planes is -/
def GrnW (w : World) (L : List H3) (b : Bool) (e : Ending) (w' : World) : Prop :=
  (b = true ∧ ∃ ao cp, e = .returned (.tuple #[.slice ao L.length cp, .bool true]) ∧ w'.ownsRow w.heap.size 104 3 (.slice ao L.length cp) L.length (flat L) ∧ Below w.heap.size w w') ∨ (b = false ∧ e = .returned (.tuple #[.slice none 0 0, .bool false]) ∧ Below w.heap.size w w')
theorem GrnW.yes {w w' : World} {L : List H3} {b : Bool} {ao : Option Addr} {m cp : Nat} (hb : b = true) (hm : L.length = m) (ho : w'.ownsRow w.heap.size 104 3 (.slice ao m cp) m (flat L)) (hbl : Below w.heap.size w w') : GrnW w L b (.returned (.tuple #[.slice ao m cp, .bool true])) w' := by
  subst hm; exact .inl ⟨hb, ao, cp, rfl, ho, hbl⟩
end Go.Proofs.YtibkmhmeoelpdaaGreat
