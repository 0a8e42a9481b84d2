/- The walk of IsVoid's law over the translation. -/
import Derived.Test.YthpnbhebojgpbaaSr
import Derived.Test.YthpnbhebojgpbaaOh
namespace Go.Proofs.Ythpnbhebojgpbaa
open Go.RowKit
open Geo (H3)

/-- a region of the call's own is handed back -/
def RegW (w : World) (hs : List H3) (n : Nat) (e : Ending) (w' : World) : Prop := ∃ ao cp, e = .returned (.agg #[.slice ao n cp]) ∧ w'.ownsRow w.heap.size 34 3 (.slice ao n cp) n (flat hs) ∧ Below w.heap.size w w'
theorem own_hs {w : World} {B n cp : Nat} {e : TypeId} {ao : Option Addr} {hs : List H3} (h : w.ownsRow B e 3 (.slice ao n cp) n (flat hs)) : HsAt w ao hs := by
  obtain ⟨_, ao', cap', e, hat⟩ := own3_view h
  simp only [Value.slice.injEq, true_and] at e
  obtain ⟨rfl, rfl⟩ := e
  exact hat
theorem to_region2 (a : Option Addr) (n cap : Nat) (hs : List H3) (w : World) (hl : hs.length = n) (hn : n ≤ 1048576) (hA : HsAt w a hs) :
    Calls Try.prog 35 #[.agg #[.slice a n cap]] w (RegW w hs n) := by
  refine (to_region a n cap hs w hl hn hA).mono ?_
  rintro e w1 ⟨v, rfl, ho, bl⟩
  rw [hl] at ho
  obtain ⟨ao, cp, rfl⟩ := own_slice ho
  exact ⟨ao, cp, rfl, ho, bl⟩
theorem cell_to {V X : World} {p : Addr} {u : Value} (q : V.cell? p = some u) (hb : Below V.heap.size V X) : X.cell? p = some u := by rw [hb.cell (block_lt_of_cell q)]; exact q
theorem twoc {V X : World} {p q : Addr} {a b : Value} (h : V.cell? p = some a) (k : V.cell? q = some b) (hb : Below V.heap.size V X) : X.cell? p = some a ∧ X.cell? q = some b := ⟨cell_to h hb, cell_to k hb⟩
set_option maxHeartbeats 1600000 in
theorem law_void (a : Option Addr) (n cap : Nat) (hs : List H3) (w : World) (hl : hs.length = n) (hn : n ≤ maxLen) (_hi : ∀ h ∈ hs, In64 h) (hA : HsAt w a hs) :
    Calls Try.prog 7 #[.agg #[.slice a n cap]] w fun e w' => e = .returned (.bool true) ∧ Below w.heap.size w w' := by
  by_cases hle : (n : Int) ≤ 1048576
  · have HT := Lib.hid (fun V (h : Below w.heap.size w V) => to_region2 a n cap hs V hl (by omega) (hA.below h))
    have HE := Lib.hid (fun V a1 a2 c1 c2 (h1 : HsAt V a1 hs) (h2 : HsAt V a2 hs) => eq_region a1 a2 n c1 c2 hs V hl (by omega) h1 h2)
    have HZ := Lib.hid (fun V => sz_region a n cap V hn 1048576 (by omega) (by omega) (1048576 - n) (by rw [if_pos hle]))
    clear hn hA hl
    go_enter Try.func7, Try.ntmps7
    go_wp2_with fail
    refine (HZ.out _).mono ?_
    rintro e w1 ⟨rfl, bl1⟩
    have q1 := cell_to (show (w.alloc (.cells #[.slice a n cap] 50)).cell? ⟨w.heap.size, 0, none⟩ = some (.slice a n cap) by simp) bl1
    have b1 := below_to (below_one _ _) bl1
    clear bl1
    go_wp2_with fail
    refine (HT.out _ b1).mono ?_
    rintro e w2 ⟨ao2, cp2, rfl, ho2, bl2⟩
    have b2 := below_to b1 bl2
    have q2 := cell_to q1 bl2
    clear ho2 bl2 b1 q1
    go_wp2_with fail
    refine (spec_void _ _ _ _).mono ?_
    rintro e w3 ⟨rfl, bl3⟩
    have b3 := below_to b2 bl3
    have q3 := cell_to q2 bl3
    clear bl3 b2 q2
    go_wp2_with fail
    refine (HT.out _ b3).mono ?_
    rintro e w4 ⟨ao4, cp4, rfl, ho4, bl4⟩
    have b4 := below_to b3 bl4
    have q4 := cell_to q3 bl4
    have H4 := Lib.hid ho4
    clear ho4 bl4 b3 q3
    go_wp2_with fail
    refine (impl_void _ _ _ _).mono ?_
    rintro e w5 ⟨rfl, bl5⟩
    have b5 := below_to (below_bx2 b4 _) bl5
    have q5 := cell_to (cell_to q4 (below_one _ (.cells #[.slice ao4 n cp4] 26))) bl5
    have x5 := cell_to (show (w4.alloc (.cells #[.slice ao4 n cp4] 26)).cell? ⟨w4.heap.size, 0, none⟩ = some (.slice ao4 n cp4) by simp) bl5
    have H5 := Lib.hid (own_below (own_below H4.out (below_one _ (.cells #[.slice ao4 n cp4] 26))) bl5)
    clear bl5
    go_wp2
    go_region_held3 (fun w' => w'.cell? ⟨w4.heap.size, 0, none⟩ = some (.slice ao4 n cp4) ∧ w'.cell? ⟨w.heap.size, 0, none⟩ = some (.slice a n cap))
      ((refine twoc x5 q5 ?_; repeat (first | exact Below.refl _ _ | refine below_drw ?_ | refine below_to ?_ (by assumption))))
      (first | (go_at_call 35; (with_reducible refine (HT.out _ ?_).mono ?_); (focus (repeat (first | exact b5 | refine below_drw ?_ | refine below_to ?_ (by assumption)))); rintro e w6 ⟨ao6, cp6, rfl, ho6, bl6⟩) | (go_at_call 30; (with_reducible refine (HE.out _ _ _ _ _ ?_ ?_).mono ?_); (focus ((refine (own_hs H5.out).below ?_); repeat (first | exact Below.refl _ _ | refine below_drw ?_ | refine below_to ?_ (by assumption)))); (focus (exact own_hs ho6)); rintro e w7 ⟨rfl, bl7⟩))
    go_wp2
    go_ret
    exact ⟨rfl, below_to (below_to (below_drw b5) bl6) bl7⟩
  · have HZ := Lib.hid (fun V => sz_region a n cap V hn 1048576 (by omega) (by omega) (-1) (by rw [if_neg hle]))
    clear hn hA hl hle
    go_enter Try.func7, Try.ntmps7
    go_wp2_with fail
    refine (HZ.out _).mono ?_
    rintro e w1 ⟨rfl, bl1⟩
    go_wp2
    go_ret
    exact ⟨rfl, below_to (below_one _ _) bl1⟩
end Go.Proofs.Ythpnbhebojgpbaa
