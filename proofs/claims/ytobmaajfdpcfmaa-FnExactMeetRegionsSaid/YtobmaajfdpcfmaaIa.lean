/- The contracts of the program's nextEdge, sideAt (at spots that are not reduced) and areHalvesOk over the translation. -/
import Derived.Test.YtobmaajfdpcfmaaFr
import Derived.Test.YtobmaajfdpcfmaaOh
import Derived.Deep.AppendLies
import Derived.Laws.CopyOwn
namespace Go.Proofs.Ytobmaajfdpcfmaa
open Go.RowKit
open Geo (H3)

theorem ret_agg {a b c x y z : Int} (h : (⟨a, b, c⟩ : H3) = ⟨x, y, z⟩) : Ending.returned (.agg #[.int .i64 a, .int .i64 b, .int .i64 c]) = .returned (.agg #[.int .i64 x, .int .i64 y, .int .i64 z]) := by
  simp only [H3.mk.injEq] at h; rw [h.1, h.2.1, h.2.2]
set_option maxHeartbeats 800000 in
theorem next_edge (a : Option Addr) (n cap i : Nat) (hs : List H3) (x : H3) (w : World) (hi : i < n) (hn : n ≤ 4194304) (hx : hs[(i + 1) % n]? = some x) (hA : HsAt w a hs) :
    Calls Try.prog 75 #[.slice a n cap, .int .i64 i] w fun e w' => e = .returned (.agg #[.int .i64 x.a, .int .i64 x.b, .int .i64 x.c]) ∧ Below w.heap.size w w' := by
  obtain ⟨g, o, rfl, hc⟩ := hA _ _ hx
  obtain ⟨t1, t2, t3⟩ := hc.to (below_one w (.cells #[.int .i64 0, .int .i64 0, .int .i64 0] 34))
  have l1 := block_lt_of_cell hc.1
  simp only at l1
  clear hc hA hx
  have hm : (((i : Int) + 1) % (n : Int)) = (((i + 1) % n : Nat) : Int) := by simp
  have hlt : (i + 1) % n < n := Nat.mod_lt _ (by omega)
  generalize (i + 1) % n = j at *
  go_enter Try.func75, Try.ntmps75
  go_wp2_with fail
  exact bodyPost_ret (v := .agg #[.int .i64 x.a, .int .i64 x.b, .int .i64 x.c]) (by simp [results, Try.results75, go_sem]) rfl ⟨rfl, below_one _ _⟩
/-- the products at a crossing that is not reduced -/
theorem side_wide {a b c x y d : Int} (h : okH a b c = true) (x1 : -10000000000000 ≤ x) (x2 : x ≤ 10000000000000) (y1 : -10000000000000 ≤ y) (y2 : y ≤ 10000000000000) (d1 : -5000000000 ≤ d) (d2 : d ≤ 5000000000) : (-500000000000000000 ≤ a * x ∧ a * x ≤ 500000000000000000) ∧ (-500000000000000000 ≤ b * y ∧ b * y ≤ 500000000000000000) ∧ (-500000000000000000 ≤ c * d ∧ c * d ≤ 500000000000000000) := by
  obtain ⟨a1, a2, b1, b2, _, c1, c2, _⟩ := (okH_iff _ _ _).1 h
  have m1 := mul_in a x 50000 10000000000000 a1 a2 x1 x2
  have m2 := mul_in b y 50000 10000000000000 b1 b2 y1 y2
  have m3 := mul_in c d 100000000 5000000000 c1 c2 d1 d2
  omega
set_option maxHeartbeats 1600000 in
theorem impl_side_w (a b c x y d : Int) (w : World) (h : okH a b c = true) (x1 : -10000000000000 ≤ x) (x2 : x ≤ 10000000000000) (y1 : -10000000000000 ≤ y) (y2 : y ≤ 10000000000000) (d1 : -5000000000 ≤ d) (d2 : d ≤ 5000000000) :
    Calls Try.prog 71 #[.agg #[.int .i64 a, .int .i64 b, .int .i64 c], .agg #[.int .i64 x, .int .i64 y, .int .i64 d]] w fun e w' => e = .returned (.int .i64 (sideV a b c x y d)) ∧ Below w.heap.size w w' := by
  have hw := below_bx2 (below_box w (.cells #[.int .i64 a, .int .i64 b, .int .i64 c] 34)) (.cells #[.int .i64 x, .int .i64 y, .int .i64 d] 31)
  obtain ⟨⟨p0, p1⟩, ⟨q0, q1⟩, r0, r1⟩ := side_wide h x1 x2 y1 y2 d1 d2
  clear h x1 x2 y1 y2 d1 d2
  have hk : a * x + b * y < c * d ∨ a * x + b * y = c * d ∨ c * d < a * x + b * y := by omega
  rcases hk with hk | hk | hk
  all_goals
    first | rw [sideV_lt hk] | rw [sideV_eq hk] | rw [sideV_gt hk]
    generalize e1 : a * x = P at *
    generalize e2 : b * y = Q at *
    generalize e3 : c * d = R at *
    go_enter Try.func71, Try.ntmps71
    go_wp2_with fail
    go_quiet (fail)
    go_wp2_with fail
    go_ret
    exact ⟨rfl, below_drew hw _⟩
/-- valid half planes -/
def okB (h : H3) : Bool := okH h.a h.b h.c
theorem all_no {hs : List H3} {k : Nat} {x : H3} (h : hs[k]? = some x) (n : okB x = false) : hs.all okB = false := by
  rw [List.all_eq_false]; exact ⟨x, List.mem_of_getElem? h, by simp [n]⟩
theorem take_all {hs : List H3} {k : Nat} {x : H3} (h : hs[k]? = some x) (y : okB x = true) (t : (hs.take k).all okB = true) : (hs.take (k + 1)).all okB = true := by
  rw [List.take_add_one, h, List.all_append, t]; simp [y]
set_option maxHeartbeats 1600000 in
theorem are_ok (a : Option Addr) (n cap : Nat) (hs : List H3) (w : World) (hl : hs.length = n) (hn : n ≤ 4194304) (h64 : ∀ h ∈ hs, In64 h) (hA : HsAt w a hs) :
    Calls Try.prog 65 #[.slice a n cap] w fun e w' => e = .returned (.bool (hs.all okB)) ∧ Below w.heap.size w w' := by
  have HL := Lib.hid hl
  have HA := Lib.hid hA
  have H6 := Lib.hid h64
  clear hl hA h64
  go_enter Try.func65, Try.ntmps65
  go_wp2
  go_loopw [7] (fun i wr => ∃ k : Nat, k ≤ n ∧ i = .int .i64 k ∧ (hs.take k).all okB = true ∧ Below w.heap.size w wr) (fun i _ => n - (intOf i).toNat)
  case atStart => exact ⟨0, Nat.zero_le _, rfl, by simp, Below.refl _ _⟩
  case round =>
    obtain ⟨k, hk, rfl, ht, hbel⟩ := hrel
    have HT := Lib.hid ht
    clear ht
    by_cases hlt : k < n
    · obtain ⟨⟨xa, xb, xc⟩, hx⟩ : ∃ x, hs[k]? = some x := ⟨_, List.getElem?_eq_getElem (by rw [HL.out]; exact hlt)⟩
      obtain ⟨g, o, rfl, hc⟩ := HA.out k _ hx
      obtain ⟨t1, t2, t3⟩ := hc.to hbel
      obtain ⟨⟨a1, a2⟩, ⟨b1, b2⟩, c1, c2⟩ := H6.out _ (List.mem_of_getElem? hx)
      simp only at t1 t2 t3 a1 a2 b1 b2 c1 c2
      have HX := Lib.hid hx
      have HO := Lib.hid (fun W => impl_hok xa xb xc W a1 a2 b1 b2 c1 c2)
      clear hx hc a1 a2 b1 b2 c1 c2
      cases hk : okH xa xb xc with
      | true =>
        rw [hk] at HO
        have HY := Lib.hid (take_all HX.out hk HT.out)
        clear hk
        go_wp2_with (go_at_call 69; (with_reducible refine (HO.out _).mono ?_); rintro e w1 ⟨rfl, bl1⟩)
        go_roundw
        case rel => exact ⟨k + 1, by omega, by go_num, HY.out, below_to (below_bx2 hbel _) bl1⟩
        case measure => simp [intOf]; omega
      | false =>
        rw [hk] at HO
        have HY := Lib.hid (all_no HX.out hk)
        clear hk
        go_wp2_with (go_at_call 69; (with_reducible refine (HO.out _).mono ?_); rintro e w1 ⟨rfl, bl1⟩)
        go_ret
        exact ⟨ret_bool HY.out.symm, below_to (below_bx2 hbel _) bl1⟩
    · have hkn : k = n := by omega
      subst hkn
      have HY := Lib.hid (show hs.all okB = true by have := HT.out; rwa [List.take_of_length_le (by rw [HL.out]; omega)] at this)
      go_wp2
      go_ret
      exact ⟨ret_bool HY.out.symm, hbel⟩
end Go.Proofs.Ytobmaajfdpcfmaa
