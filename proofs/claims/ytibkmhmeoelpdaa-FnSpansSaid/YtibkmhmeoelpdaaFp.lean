/- PickInput of the model, over the translation. -/
import Derived.Test.YtibkmhmeoelpdaaFa
import Derived.Test.YtibkmhmeoelpdaaYz
import Derived.Test.YtibkmhmeoelpdaaMf
namespace Go.Proofs.Ytibkmhmeoelpdaa
open Go.RowKit
open Geo (H3)

def clpI (n lo hi : Int) : Int := max lo (min n hi)
theorem spec_clp (n lo hi : Int) (w : World) : Calls Try.prog 38 #[.int .i64 n, .int .i64 lo, .int .i64 hi] w fun e w' => e = .returned (.int .i64 (clpI n lo hi)) ∧ w' = w := by
  go_enter Try.func38, Try.ntmps38
  go_wp2
  go_ret
  exact ⟨rfl, rfl⟩
theorem one_of {n : Int} (h : -1000000000000000000 ≤ n ∧ n ≤ 1000000000000000000) : ofN n 1 = n ∧ ofD n 1 = 1 ∧ okR n 1 = true := by
  have hg : Int.gcd n 1 = 1 := by simp
  have hR : hasR n 1 = true := by
    rw [hasR_iff]
    unfold topR botR
    rw [hg]
    simp
    omega
  obtain ⟨e1, e2⟩ := of_num (n := n) (d := 1) (by omega)
  rw [hg] at e1 e2
  simp at e1 e2
  refine ⟨by unfold ofN; rw [if_pos hR, e1], by unfold ofD; rw [if_pos hR]; exact_mod_cast e2, ?_⟩
  rw [okR_iff]
  exact ⟨by omega, by omega, h.1, h.2, hg⟩
theorem div_in18 {n d : Int} (hd : 1 ≤ d) (h : -1000000000000000000 ≤ n ∧ n ≤ 1000000000000000000) : -1000000000000000000 ≤ n / d ∧ n / d ≤ 1000000000000000000 := by
  constructor
  · rw [Int.le_ediv_iff_mul_le (by omega)]
    have := Int.mul_le_mul_of_nonneg_left hd (show (0 : Int) ≤ 1000000000000000000 by omega)
    omega
  · have : n / d < 1000000000000000001 := by
      rw [Int.ediv_lt_iff_lt_mul (by omega)]
      have := Int.mul_le_mul_of_nonneg_left hd (show (0 : Int) ≤ 1000000000000000001 by omega)
      omega
    omega
theorem flo_in {c d : Int} (h : okR c d = true) : -1000000000000000000 ≤ floR c d ∧ floR c d ≤ 1000000000000000000 := by
  have p := (okR_iff _ _).1 h
  unfold floR
  rw [if_pos h]
  exact div_in18 p.1 ⟨p.2.2.1, p.2.2.2.1⟩
theorem cei_in {c d : Int} (h : okR c d = true) : -1000000000000000000 ≤ ceiR c d ∧ ceiR c d ≤ 1000000000000000000 := by
  have p := (okR_iff _ _).1 h
  unfold ceiR
  rw [if_pos h]
  have := div_in18 (n := -c) p.1 (by omega)
  omega
/-- the input of a span that is nearest to a wish, whole where it can be -/
def pinP (a b c d wish : Int) : Int × Int :=
  if spnB a b c d = true then (if ispB a b c d (clpI wish (-1000) 1000) 1 = true then (clpI wish (-1000) 1000, 1) else if ceiR a b ≤ floR c d then (clpI (clpI wish (-1000) 1000) (ceiR a b) (floR c d), 1) else minP c d (maxP a b (clpI wish (-1000) 1000) 1).1 (maxP a b (clpI wish (-1000) 1000) 1).2) else (0, 0)
theorem pin_0 {a b c d wish : Int} (h : spnB a b c d = false) : pinP a b c d wish = (0, 0) := by unfold pinP; rw [if_neg (by rw [h]; simp)]
theorem pin_1 {a b c d wish : Int} (h : spnB a b c d = true) (k : ispB a b c d (clpI wish (-1000) 1000) 1 = true) : pinP a b c d wish = (clpI wish (-1000) 1000, 1) := by unfold pinP; rw [if_pos h, if_pos k]
theorem pin_2 {a b c d wish : Int} (h : spnB a b c d = true) (k : ispB a b c d (clpI wish (-1000) 1000) 1 = false) (l : ceiR a b ≤ floR c d) : pinP a b c d wish = (clpI (clpI wish (-1000) 1000) (ceiR a b) (floR c d), 1) := by unfold pinP; rw [if_pos h, if_neg (by rw [k]; simp), if_pos l]
theorem pin_3 {a b c d wish : Int} (h : spnB a b c d = true) (k : ispB a b c d (clpI wish (-1000) 1000) 1 = false) (l : ¬ ceiR a b ≤ floR c d) : pinP a b c d wish = minP c d (maxP a b (clpI wish (-1000) 1000) 1).1 (maxP a b (clpI wish (-1000) 1000) 1).2 := by unfold pinP; rw [if_pos h, if_neg (by rw [k]; simp), if_neg l]
theorem pin_m64 {a b n : Int} (ha : I64 a) (hb : I64 b) (hn : -1000 ≤ n ∧ n ≤ 1000) : I64 (maxP a b n 1).1 ∧ I64 (maxP a b n 1).2 := by
  have k : I64 n := ⟨by omega, by omega⟩
  have l : I64 (1 : Int) := ⟨by omega, by omega⟩
  unfold maxP
  split
  · split <;> exact ⟨by assumption, by assumption⟩
  · exact ⟨⟨by simp, by simp⟩, ⟨by simp, by simp⟩⟩
theorem pin_keep {V X : World} {B C : Nat} {a0 a1 a2 a3 b0 b1 : Value} {T U : TypeId} (h : Blk V B #[a0, a1, a2, a3] T) (k : Blk V C #[b0, b1] U) (hb : Below V.heap.size V X) :
    X.cell? ⟨B, 0, none⟩ = some a0 ∧ X.cell? ⟨B, 1, none⟩ = some a1 ∧ X.cell? ⟨B, 2, none⟩ = some a2 ∧ X.cell? ⟨B, 3, none⟩ = some a3 ∧ X.cell? ⟨C, 0, none⟩ = some b0 ∧ X.cell? ⟨C, 1, none⟩ = some b1 :=
  ⟨(h.to hb).cell0 rfl, (h.to hb).cell0 rfl, (h.to hb).cell0 rfl, (h.to hb).cell0 rfl, (k.to hb).cell0 rfl, (k.to hb).cell0 rfl⟩
theorem pin_put {V X : World} {B C E : Nat} {a0 a1 a2 a3 b0 b1 u v : Value} {T U : TypeId} (n1 : E ≠ B) (n2 : E ≠ C) (h : Blk V B #[a0, a1, a2, a3] T) (k : Blk V C #[b0, b1] U) (hb : Below V.heap.size V X) :
    ((X.setCell ⟨E, 0, none⟩ u).setCell ⟨E, 1, none⟩ v).cell? ⟨B, 0, none⟩ = some a0 ∧ ((X.setCell ⟨E, 0, none⟩ u).setCell ⟨E, 1, none⟩ v).cell? ⟨B, 1, none⟩ = some a1 ∧ ((X.setCell ⟨E, 0, none⟩ u).setCell ⟨E, 1, none⟩ v).cell? ⟨B, 2, none⟩ = some a2 ∧ ((X.setCell ⟨E, 0, none⟩ u).setCell ⟨E, 1, none⟩ v).cell? ⟨B, 3, none⟩ = some a3 ∧ ((X.setCell ⟨E, 0, none⟩ u).setCell ⟨E, 1, none⟩ v).cell? ⟨C, 0, none⟩ = some b0 ∧ ((X.setCell ⟨E, 0, none⟩ u).setCell ⟨E, 1, none⟩ v).cell? ⟨C, 1, none⟩ = some b1 := by
  have h1 := blk_far (blk_far (h.to hb) (p := ⟨E, 0, none⟩) u n1) (p := ⟨E, 1, none⟩) v n1
  have k1 := blk_far (blk_far (k.to hb) (p := ⟨E, 0, none⟩) u n2) (p := ⟨E, 1, none⟩) v n2
  exact ⟨h1.cell0 rfl, h1.cell0 rfl, h1.cell0 rfl, h1.cell0 rfl, k1.cell0 rfl, k1.cell0 rfl⟩
set_option maxHeartbeats 1600000 in
theorem spec_pin (a b c d wish : Int) (w : World) (ha : I64 a) (hb : I64 b) (hc : I64 c) (hd : I64 d) :
    Calls Try.prog 16 #[.agg #[.int .i64 a, .int .i64 b, .int .i64 c, .int .i64 d], .int .i64 wish] w fun e w' => e = .returned (.agg #[.int .i64 (pinP a b c d wish).1, .int .i64 (pinP a b c d wish).2]) ∧ Below w.heap.size w w' := by
  have bV := below_bx2 (below_one w (.cells #[.int .i64 a, .int .i64 b, .int .i64 c, .int .i64 d] 29)) (.cells #[.int .i64 0, .int .i64 0] 27)
  have K0 := (blk_new w #[.int .i64 a, .int .i64 b, .int .i64 c, .int .i64 d] 29 (b := w.heap.size) (by simp)).to (below_one _ (.cells #[.int .i64 0, .int .i64 0] 27))
  have K1 := blk_new (w.alloc (.cells #[.int .i64 a, .int .i64 b, .int .i64 c, .int .i64 d] 29)) #[.int .i64 0, .int .i64 0] 27 (b := w.heap.size + 1) (by simp)
  have H1 := Lib.hid (fun V => spec_spn a b c d V ha hb hc hd)
  have hn : -1000 ≤ clpI wish (-1000) 1000 ∧ clpI wish (-1000) 1000 ≤ 1000 := by unfold clpI; omega
  have HN0 := Lib.hid (fun h => pin_0 (a := a) (b := b) (c := c) (d := d) (wish := wish) h)
  have HN1 := Lib.hid (fun h k => pin_1 (a := a) (b := b) (c := c) (d := d) (wish := wish) h k)
  have HN2 := Lib.hid (fun h k l => pin_2 (a := a) (b := b) (c := c) (d := d) (wish := wish) h k l)
  have HN3 := Lib.hid (fun h k l => pin_3 (a := a) (b := b) (c := c) (d := d) (wish := wish) h k l)
  have HC := Lib.hid (fun V => spec_clp wish (-1000) 1000 V)
  generalize clpI wish (-1000) 1000 = n at *
  have HO := Lib.hid (fun V => spec_ofA n 1 V (by omega) (by omega) (by omega) (by omega))
  rw [(one_of (n := n) (by omega)).1, (one_of (n := n) (by omega)).2.1] at HO
  have H2 := Lib.hid (fun V => spec_isp a b c d n 1 V ha hb hc hd ⟨by omega, by omega⟩ ⟨by omega, by omega⟩)
  have H3 := Lib.hid (fun V => spec_ceilR a b V ha.1 ha.2 hb.1 hb.2)
  have H4 := Lib.hid (fun V => spec_floorR c d V hc.1 hc.2 hd.1 hd.2)
  have H5 := Lib.hid (fun V => spec_max a b n 1 V ha.1 ha.2 hb.1 hb.2 (by omega) (by omega) (by omega) (by omega))
  have m64 : I64 (maxP a b n 1).1 ∧ I64 (maxP a b n 1).2 := pin_m64 ha hb hn
  have H6 := Lib.hid (fun V => spec_min c d (maxP a b n 1).1 (maxP a b n 1).2 V hc.1 hc.2 hd.1 hd.2 m64.1.1 m64.1.2 m64.2.1 m64.2.2)
  clear ha hb hc hd m64
  have a0 := K0.cell0 (i := 0) (v := .int .i64 a) rfl
  have a1 := K0.cell0 (i := 1) (v := .int .i64 b) rfl
  have a2 := K0.cell0 (i := 2) (v := .int .i64 c) rfl
  have a3 := K0.cell0 (i := 3) (v := .int .i64 d) rfl
  go_enter Try.func16, Try.ntmps16
  go_wp2_with fail
  generalize ((w.alloc (.cells #[.int .i64 a, .int .i64 b, .int .i64 c, .int .i64 d] 29)).alloc (.cells #[.int .i64 0, .int .i64 0] 27)) = V at *
  refine (H1.out _).mono ?_
  rintro e w1 ⟨rfl, bl1⟩
  have b1 := below_to bV bl1
  have L0 := K0.to bl1
  have L1 := K1.to bl1
  clear a0 a1 a2 a3 K0 K1 bV bl1
  cases h1 : spnB a b c d with
  | false =>
    have HN := Lib.hid (HN0.out h1)
    have z0 := L1.cell0 (i := 0) (v := .int .i64 0) rfl
    have z1 := L1.cell0 (i := 1) (v := .int .i64 0) rfl
    have f0 := L1.free 0
    have f1 := L1.free 1
    go_wp2_with fail
    exact bodyPost_ret (v := .agg #[.int .i64 0, .int .i64 0]) (by simp [results, Try.results16, go_sem, z0, z1]) rfl ⟨by rw [HN.out], ((b1.setCell (p := ⟨w.heap.size + 1, 0, none⟩) (Nat.le_add_right _ _) (.int .i64 0)).setCell (p := ⟨w.heap.size + 1, 1, none⟩) (Nat.le_add_right _ _) (.int .i64 0))⟩
  | true =>
    go_wp2_with fail
    refine (HC.out _).mono ?_
    rintro e w2 ⟨rfl, rfl⟩
    go_wp2_with fail
    refine (HO.out _).mono ?_
    rintro e w3 ⟨rfl, bl3⟩
    have zz1 := (L1.to bl3).lt
    have bY := below_to bl3 (below_one w3 (.cells #[.int .i64 n, .int .i64 1] 27))
    have b2 := below_to b1 bY
    have M0 := L0.to bY
    have M1 := L1.to bY
    have N2 := blk_new w3 #[.int .i64 n, .int .i64 1] 27 rfl
    clear bl3 bY L0 L1 HC HO
    have a0 := M0.cell0 (i := 0) (v := .int .i64 a) rfl
    have a1 := M0.cell0 (i := 1) (v := .int .i64 b) rfl
    have a2 := M0.cell0 (i := 2) (v := .int .i64 c) rfl
    have a3 := M0.cell0 (i := 3) (v := .int .i64 d) rfl
    have u0 := N2.cell0 (i := 0) rfl
    have u1 := N2.cell0 (i := 1) rfl
    go_wp2_with fail
    generalize w3.alloc (.cells #[.int .i64 n, .int .i64 1] 27) = U at *
    obtain ⟨g, hg⟩ : ∃ b, w3.heap.size = b := ⟨_, rfl⟩
    rw [hg] at N2 u0 u1 zz1 ⊢
    clear u0 u1 a0 a1 a2 a3
    refine (H2.out _).mono ?_
    rintro e w4 ⟨rfl, bl4⟩
    have b3 := below_to b2 bl4
    have P0 := M0.to bl4
    have P1 := M1.to bl4
    have P2 := N2.to bl4
    clear b2 bl4 M0 M1 N2 H2
    cases h2 : ispB a b c d n 1 with
    | true =>
      have HN := Lib.hid (HN1.out h1 h2)
      have z0 := P1.cell0 (i := 0) (v := .int .i64 0) rfl
      have z1 := P1.cell0 (i := 1) (v := .int .i64 0) rfl
      have f0 := P1.free 0
      have f1 := P1.free 1
      have u0 := P2.cell0 (i := 0) rfl
      have u1 := P2.cell0 (i := 1) rfl
      go_wp2_with fail
      exact bodyPost_ret (v := .agg #[.int .i64 n, .int .i64 1]) (by simp [results, Try.results16, go_sem, z0, z1]) rfl ⟨by rw [HN.out], ((b3.setCell (p := ⟨w.heap.size + 1, 0, none⟩) (Nat.le_add_right _ _) (.int .i64 n)).setCell (p := ⟨w.heap.size + 1, 1, none⟩) (Nat.le_add_right _ _) (.int .i64 1))⟩
    | false =>
      have a0 := P0.cell0 (i := 0) (v := .int .i64 a) rfl
      have a1 := P0.cell0 (i := 1) (v := .int .i64 b) rfl
      have a2 := P0.cell0 (i := 2) (v := .int .i64 c) rfl
      have a3 := P0.cell0 (i := 3) (v := .int .i64 d) rfl
      go_wp2_with fail
      clear a0 a1 a2 a3
      refine (H3.out _).mono ?_
      rintro e w5 ⟨rfl, bl5⟩
      have b4 := below_to b3 bl5
      have Q0 := P0.to bl5
      have Q1 := P1.to bl5
      have Q2 := P2.to bl5
      clear b3 bl5 P0 P1 P2 H3
      have a0 := Q0.cell0 (i := 0) (v := .int .i64 a) rfl
      have a1 := Q0.cell0 (i := 1) (v := .int .i64 b) rfl
      have a2 := Q0.cell0 (i := 2) (v := .int .i64 c) rfl
      have a3 := Q0.cell0 (i := 3) (v := .int .i64 d) rfl
      go_wp2_with fail
      clear a0 a1 a2 a3
      refine (H4.out _).mono ?_
      rintro e w6 ⟨rfl, bl6⟩
      have b5 := below_to b4 bl6
      have R0 := Q0.to bl6
      have R1 := Q1.to bl6
      have R2 := Q2.to bl6
      clear b4 bl6 Q0 Q1 Q2 H4
      have ic := cei_in (spn_ok h1).1
      have jf := flo_in (spn_ok h1).2.1
      by_cases hl : ceiR a b ≤ floR c d
      · have HN := Lib.hid (HN2.out h1 h2 hl)
        have hv : -1000000000000000000 ≤ clpI n (ceiR a b) (floR c d) ∧ clpI n (ceiR a b) (floR c d) ≤ 1000000000000000000 := by unfold clpI; omega
        have HCL := Lib.hid (fun V => spec_clp n (ceiR a b) (floR c d) V)
        generalize clpI n (ceiR a b) (floR c d) = x at *
        generalize ceiR a b = lo at *
        generalize floR c d = hi at *
        have HOX := Lib.hid (fun V => spec_ofA x 1 V (by omega) (by omega) (by omega) (by omega))
        rw [(one_of (n := x) hv).1, (one_of (n := x) hv).2.1] at HOX
        go_wp2_with fail
        refine (HCL.out _).mono ?_
        rintro e w7 ⟨rfl, rfl⟩
        go_wp2_with fail
        refine (HOX.out _).mono ?_
        rintro e w8 ⟨rfl, bl8⟩
        have b6 := below_to b5 bl8
        have S1 := R1.to bl8
        have z0 := S1.cell0 (i := 0) (v := .int .i64 0) rfl
        have z1 := S1.cell0 (i := 1) (v := .int .i64 0) rfl
        have f0 := S1.free 0
        have f1 := S1.free 1
        go_wp2_with fail
        exact bodyPost_ret (v := .agg #[.int .i64 x, .int .i64 1]) (by simp [results, Try.results16, go_sem, z0, z1]) rfl ⟨by rw [HN.out], ((b6.setCell (p := ⟨w.heap.size + 1, 0, none⟩) (Nat.le_add_right _ _) (.int .i64 x)).setCell (p := ⟨w.heap.size + 1, 1, none⟩) (Nat.le_add_right _ _) (.int .i64 1))⟩
      · have HN := Lib.hid (HN3.out h1 h2 (by omega))
        have hln : ¬ ceiR a b ≤ floR c d := hl
        generalize ceiR a b = lo at *
        generalize floR c d = hi at *
        generalize (maxP a b n 1).1 = x1 at *
        generalize (maxP a b n 1).2 = x2 at *
        generalize minP c d x1 x2 = y at *
        obtain ⟨y1, y2⟩ := y
        simp only at H6 HN
        have hg1 : w.heap.size + 1 ≠ w.heap.size := by omega
        have hg2 : w.heap.size + 1 ≠ g := by omega
        have a0 := R0.cell0 (i := 0) (v := .int .i64 a) rfl
        have a1 := R0.cell0 (i := 1) (v := .int .i64 b) rfl
        have a2 := R0.cell0 (i := 2) (v := .int .i64 c) rfl
        have a3 := R0.cell0 (i := 3) (v := .int .i64 d) rfl
        have u0 := R2.cell0 (i := 0) rfl
        have u1 := R2.cell0 (i := 1) rfl
        go_wp2_with fail
        go_region_held3 (fun w' => w'.cell? ⟨w.heap.size, 0, none⟩ = some (.int .i64 a) ∧ w'.cell? ⟨w.heap.size, 1, none⟩ = some (.int .i64 b) ∧ w'.cell? ⟨w.heap.size, 2, none⟩ = some (.int .i64 c) ∧ w'.cell? ⟨w.heap.size, 3, none⟩ = some (.int .i64 d) ∧ w'.cell? ⟨g, 0, none⟩ = some (.int .i64 n) ∧ w'.cell? ⟨g, 1, none⟩ = some (.int .i64 1))
          (first | (refine pin_put hg1 hg2 R0 R2 ?_; repeat (first | exact Below.refl _ _ | refine below_bx2 ?_ _ | refine below_drw ?_ | refine below_to ?_ (by assumption))) | (refine pin_keep R0 R2 ?_; repeat (first | exact Below.refl _ _ | refine below_bx2 ?_ _ | refine below_drw ?_ | refine below_to ?_ (by assumption))))
          (first | (go_at_call 43; (with_reducible refine (H5.out _).mono ?_); rintro e wA ⟨rfl, blA⟩) | (go_at_call 42; (with_reducible refine (H6.out _).mono ?_); rintro e wB ⟨rfl, blB⟩; have E1 : Blk wB _ _ _ := R1.to (by repeat (first | exact Below.refl _ _ | refine below_bx2 ?_ _ | refine below_drw ?_ | refine below_to ?_ (by assumption))); have z0 := E1.cell0 (i := 0) (v := .int .i64 0) rfl; have z1 := E1.cell0 (i := 1) (v := .int .i64 0) rfl; have f0 := E1.free 0; have f1 := E1.free 1))
        all_goals
          have b7 : Below w.heap.size w wB := below_to b5 (by repeat (first | exact Below.refl _ _ | refine below_bx2 ?_ _ | refine below_drw ?_ | refine below_to ?_ (by assumption)))
          go_wp2_with fail
          exact bodyPost_ret (v := .agg #[.int .i64 y1, .int .i64 y2]) (by simp [results, Try.results16, go_sem, z0, z1]) rfl ⟨by rw [HN.out], ((b7.setCell (p := ⟨w.heap.size + 1, 0, none⟩) (Nat.le_add_right _ _) (.int .i64 y1)).setCell (p := ⟨w.heap.size + 1, 1, none⟩) (Nat.le_add_right _ _) (.int .i64 y2))⟩
end Go.Proofs.Ytibkmhmeoelpdaa
