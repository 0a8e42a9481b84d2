/- The walk of the law of FarthestCorner. -/
import Derived.Test.YtckfmgldgjnepaaFc
namespace Go.Proofs.Ytckfmgldgjnepaa
open Go.RowKit
open Geo (H3)

set_option maxRecDepth 100000 in
set_option maxHeartbeats 3200000 in
theorem law_fk (a : Option Addr) (n ca : Nat) (ps : List H3) (A : Int) (B : Int) (_wA : (Lit.int .i64 A).wf = true) (_wB : (Lit.int .i64 B).wf = true) (w : World) (hl : ps.length = n) (hn : n ≤ maxLen) (h64 : ∀ h ∈ ps, In64 h) (hA : HsAt w a ps) :
    Calls Try.prog 7 #[.agg #[.slice a n ca], .int .i64 A, .int .i64 B] w fun e w' => e = .returned (.bool true) ∧ Below w.heap.size w w' := by
  have b0 := below_one w (.cells #[.slice a n ca] 24)
  have q0 : (w.alloc (.cells #[.slice a n ca] 24)).cell? ⟨w.heap.size, 0, none⟩ = some (.slice a n ca) := by simp
  by_cases hle : (n : Int) ≤ 1048576
  · have HTA := Lib.hid (fun V (h : Below w.heap.size w V) => to_region2 a n ca ps V hl (by omega) (hA.below h))
    have HEA := Lib.hid (fun V a1 a2 c1 c2 (h1 : HsAt V a1 ps) (h2 : HsAt V a2 ps) => eq_region a1 a2 n c1 c2 ps V hl (by omega) h1 h2)
    have HZA := Lib.hid (fun V => sz_region a n ca V hn 1048576 (by omega) (by omega) (1048576 - n) (by rw [if_pos (by omega)]))
    have HS := Lib.hid (fun V a1 c1 (h0 : a1 = none → n = 0 ∧ c1 = 0) (h1 : HsAt V a1 ps) => spec_fk a1 n c1 ps A B V hl (by omega) h64 h0 h1)
    have HI := Lib.hid (fun V a1 c1 (h1 : HsAt V a1 ps) => impl_fk a1 n c1 ps A B V hl (by omega) h64 h1)
    generalize fkA A B ps = sK at *
    clear hn hA hl h64
    go_enter Try.func7, Try.ntmps7
    go_wp2_with fail
    generalize w.alloc (.cells #[.slice a n ca] 24) = V at *
    refine (HZA.out _).mono ?_
    rintro e w1 ⟨rfl, bl1⟩
    have b1 := below_to b0 bl1
    have p0 := cell_to q0 bl1
    clear bl1 b0 q0
    have hz1 : ¬ ((1048576 - (n : Int)) < 0) := by omega
    go_wp2_with fail
    refine (HTA.out _ b1).mono ?_
    rintro e wA ⟨aA, cA, rfl, hoA, blA⟩
    have HoA := Lib.hid hoA
    clear hoA
    have p0_1 := cell_to p0 blA
    have b_2 := below_to b1 blA
    clear p0 b1
    clear blA
    go_wp2_with fail
    refine (HS.out _ _ _ (own_nil HoA.out) (own_hs HoA.out)).mono ?_
    rintro e wC ⟨rfl, blC⟩
    have p0_3 := cell_to p0_1 blC
    have b_4 := below_to b_2 blC
    clear p0_1 b_2
    clear HoA blC
    go_wp2_with fail
    refine (HTA.out _ b_4).mono ?_
    rintro e w4 ⟨ax, cx, rfl, how4, blw4⟩
    have KX := Lib.hid (own_below how4 (below_one w4 (.cells #[.slice ax n cx] 30)))
    obtain ⟨x8, _⟩ := box_one (U := w4) rfl (.slice ax n cx) 30
    have bxw4 := below_to blw4 (below_one w4 (.cells #[.slice ax n cx] 30))
    have p0_5 := cell_to p0_3 bxw4
    have b_6 := below_to b_4 bxw4
    clear p0_3 b_4
    clear how4 blw4 bxw4
    go_wp2_with fail
    generalize w4.alloc (.cells #[.slice ax n cx] 30) = X at *
    generalize w4.heap.size = bx at *
    refine (HI.out _ _ _ (own_hs KX.out)).mono ?_
    rintro e w6 ⟨rfl, bl6⟩
    have p0_7 := cell_to p0_5 bl6
    have x8_8 := cell_to x8 bl6
    have KX_9 := Lib.hid (own_below KX.out bl6)
    have b_10 := below_to b_6 bl6
    clear p0_5 x8 KX b_6
    clear bl6
    go_wp2
    go_region_held3 (fun w' => w'.cell? ⟨bx, 0, none⟩ = some (.slice ax n cx) ∧ w'.cell? ⟨w.heap.size, 0, none⟩ = some (.slice a n ca))
      ((refine twoc x8_8 p0_7 ?_; repeat (first | exact Below.refl _ _ | refine below_drw ?_ | refine below_to ?_ (by assumption))))
      (first | (go_at_call 11; (with_reducible refine (HTA.out _ ?_).mono ?_); (focus (repeat (first | exact b_10 | refine below_drw ?_ | refine below_to ?_ (by assumption)))); rintro e w20 ⟨ao20, cp20, rfl, ho20, bl20⟩) | (go_at_call 14; (with_reducible refine (HEA.out _ _ _ _ _ ?_ ?_).mono ?_); (focus ((refine (own_hs KX_9.out).below ?_); repeat (first | exact Below.refl _ _ | refine below_drw ?_ | refine below_to ?_ (by assumption)))); (focus (exact own_hs ho20)); rintro e w21 ⟨rfl, bl21⟩))
    all_goals
      go_wp2
      go_ret
      refine ⟨rfl, ?_⟩
      repeat (first | exact b_10 | refine below_drw ?_ | refine below_to ?_ (by assumption))
  · have HZA := Lib.hid (fun V => sz_region a n ca V hn 1048576 (by omega) (by omega) (-1) (by rw [if_neg hle]))
    clear hn hA hl h64 hle
    go_enter Try.func7, Try.ntmps7
    go_wp2_with fail
    generalize w.alloc (.cells #[.slice a n ca] 24) = V at *
    refine (HZA.out _).mono ?_
    rintro e w1 ⟨rfl, bl1⟩
    have b1 := below_to b0 bl1
    go_wp2
    go_ret
    exact ⟨rfl, b1⟩
end Go.Proofs.Ytckfmgldgjnepaa
