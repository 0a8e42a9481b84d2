/- The law of MeetRegions, at lists of every length. -/
import Derived.Test.YtobmaajfdpcfmaaMf
namespace Go.Proofs.Ytobmaajfdpcfmaa
open Go.RowKit
open Geo (H3)

set_option maxRecDepth 100000 in
set_option maxHeartbeats 1600000 in
theorem law_met2 (a : Option Addr) (n ca : Nat) (ps : List H3) (b : Option Addr) (m cb : Nat) (qs : List H3) (w : World) (hl : ps.length = n) (hn : n ≤ maxLen) (h64 : ∀ h ∈ ps, In64 h) (hA : HsAt w a ps) (hk : qs.length = m) (hm : m ≤ maxLen) (k64 : ∀ h ∈ qs, In64 h) (hB : HsAt w b qs) :
    Calls Try.prog 8 #[.agg #[.slice a n ca], .agg #[.slice b m cb]] w fun e w' => e = .returned (.bool true) ∧ Below w.heap.size w w' := by
  by_cases hle : (n : Int) ≤ 1048576
  · by_cases hle2 : (m : Int) ≤ 1048576 - n
    · exact law_met a b n m ca cb ps qs w hl hn h64 hA hk hm k64 hB (by omega)
    · have HZA := Lib.hid (fun V => sz_region a n ca V hn 1048576 (by omega) (by omega) (1048576 - n) (by rw [if_pos hle]))
      have HZB := Lib.hid (fun V => sz_region b m cb V hm (1048576 - n) (by omega) (by omega) (-1) (by rw [if_neg hle2]))
      clear hn hm hA hB hl hk h64 k64 hle2
      go_enter Try.func8, Try.ntmps8
      go_wp2_with fail
      have b0 := below_bx2 (below_one w (.cells #[.slice a n ca] 60)) (.cells #[.slice b m cb] 60)
      have q1 : ((w.alloc (.cells #[.slice a n ca] 60)).alloc (.cells #[.slice b m cb] 60)).cell? ⟨w.heap.size + 1, 0, none⟩ = some (.slice b m cb) := by simp
      generalize (w.alloc (.cells #[.slice a n ca] 60)).alloc (.cells #[.slice b m cb] 60) = V at *
      refine (HZA.out _).mono ?_
      rintro e w1 ⟨rfl, bl1⟩
      have b1 := below_to b0 bl1
      have p1 := cell_to q1 bl1
      clear bl1 b0 q1
      have hz1 : ¬ ((1048576 - (n : Int)) < 0) := by omega
      go_wp2_with fail
      refine (HZB.out _).mono ?_
      rintro e w2 ⟨rfl, bl2⟩
      have b2 := below_to b1 bl2
      go_wp2
      go_ret
      exact ⟨rfl, b2⟩
  · have HZA := Lib.hid (fun V => sz_region a n ca V hn 1048576 (by omega) (by omega) (-1) (by rw [if_neg hle]))
    clear hn hm hA hB hl hk h64 k64 hle
    go_enter Try.func8, Try.ntmps8
    go_wp2_with fail
    have b0 := below_bx2 (below_one w (.cells #[.slice a n ca] 60)) (.cells #[.slice b m cb] 60)
    generalize (w.alloc (.cells #[.slice a n ca] 60)).alloc (.cells #[.slice b m cb] 60) = V at *
    refine (HZA.out _).mono ?_
    rintro e w1 ⟨rfl, bl1⟩
    have b1 := below_to b0 bl1
    go_wp2
    go_ret
    exact ⟨rfl, b1⟩
end Go.Proofs.Ytobmaajfdpcfmaa
