/- The contracts of the model's crossings, of what lies inside and of what differs over the translation. -/
import Derived.Test.YtobmaajfdpcfmaaIf
namespace Go.Proofs.Ytobmaajfdpcfmaa
open Go.RowKit
open Geo (H3)

/-- the crossing of two borders as the model has it: not reduced, the denominator not negative -/
def crP (f g : H3) : H3 :=
  if f.a * g.b - g.a * f.b < 0 then ⟨-(f.c * g.b - g.c * f.b), -(f.a * g.c - g.a * f.c), -(f.a * g.b - g.a * f.b)⟩ else ⟨f.c * g.b - g.c * f.b, f.a * g.c - g.a * f.c, f.a * g.b - g.a * f.b⟩
theorem cr_in {a b c x y d : Int} (h : okH a b c = true) (k : okH x y d = true) : (-5000000000000 ≤ c * y ∧ c * y ≤ 5000000000000) ∧ (-5000000000000 ≤ d * b ∧ d * b ≤ 5000000000000) ∧ (-5000000000000 ≤ a * d ∧ a * d ≤ 5000000000000) ∧ (-5000000000000 ≤ x * c ∧ x * c ≤ 5000000000000) ∧ (-2500000000 ≤ a * y ∧ a * y ≤ 2500000000) ∧ (-2500000000 ≤ x * b ∧ x * b ≤ 2500000000) := by
  obtain ⟨a1, a2, b1, b2, _, c1, c2, _⟩ := (okH_iff _ _ _).1 h
  obtain ⟨x1, x2, y1, y2, _, d1, d2, _⟩ := (okH_iff _ _ _).1 k
  have m1 := mul_in c y 100000000 50000 c1 c2 y1 y2
  have m2 := mul_in d b 100000000 50000 d1 d2 b1 b2
  have m3 := mul_in a d 50000 100000000 a1 a2 d1 d2
  have m4 := mul_in x c 50000 100000000 x1 x2 c1 c2
  have m5 := mul_in a y 50000 50000 a1 a2 y1 y2
  have m6 := mul_in x b 50000 50000 x1 x2 b1 b2
  omega
set_option maxHeartbeats 1600000 in
theorem spec_cross (a b c x y d : Int) (w : World) (h : okH a b c = true) (k : okH x y d = true) :
    Calls Try.prog 143 #[.agg #[.int .i64 a, .int .i64 b, .int .i64 c], .agg #[.int .i64 x, .int .i64 y, .int .i64 d]] w fun e w' => e = .returned (.agg #[.int .i64 (crP ⟨a, b, c⟩ ⟨x, y, d⟩).a, .int .i64 (crP ⟨a, b, c⟩ ⟨x, y, d⟩).b, .int .i64 (crP ⟨a, b, c⟩ ⟨x, y, d⟩).c]) ∧ Below w.heap.size w w' := by
  obtain ⟨⟨s0, s1⟩, ⟨r0, r1⟩, ⟨u0, u1⟩, ⟨v0, v1⟩, ⟨m0, m1⟩, n0, n1⟩ := cr_in h k
  clear h k
  unfold crP
  simp only
  generalize e1 : a * y = p1 at *
  generalize e2 : x * b = p2 at *
  generalize e3 : c * y = p3 at *
  generalize e4 : d * b = p4 at *
  generalize e5 : a * d = p5 at *
  generalize e6 : x * c = p6 at *
  by_cases hd : p1 - p2 < 0
  · rw [if_pos hd]
    go_enter Try.func143, Try.ntmps143
    go_wp2
    exact bodyPost_ret (v := .agg #[.int .i64 (-(p3 - p4)), .int .i64 (-(p5 - p6)), .int .i64 (-(p1 - p2))]) (by simp [results, Try.results143, go_sem]) rfl ⟨rfl, below_bx2 (below_bx2 (below_bx2 (below_one _ _) _) _) _⟩
  · rw [if_neg hd]
    go_enter Try.func143, Try.ntmps143
    go_wp2
    exact bodyPost_ret (v := .agg #[.int .i64 (p3 - p4), .int .i64 (p5 - p6), .int .i64 (p1 - p2)]) (by simp [results, Try.results143, go_sem]) rfl ⟨rfl, below_bx2 (below_bx2 (below_bx2 (below_one _ _) _) _) _⟩
/-- a point of the frame that lies in all half planes -/
def holB (p h : H3) : Bool := decide (h.a * p.a + h.b * p.b ≤ h.c * p.c)
def frmB (p : H3) : Bool := decide (p.c ≠ 0) && decide (p.a ≤ 1000 * p.c) && decide (-1000 * p.c ≤ p.a) && decide (p.b ≤ 1000 * p.c) && decide (-1000 * p.c ≤ p.b)
def insB (L : List H3) (p : H3) : Bool := frmB p && L.all (holB p)
theorem ins_frm {L : List H3} {p : H3} (h : frmB p = false) : insB L p = false := by unfold insB; rw [h]; rfl
theorem ins_no {L : List H3} {p x : H3} {k : Nat} (h : L[k]? = some x) (n : holB p x = false) : insB L p = false := by
  unfold insB
  rw [Bool.and_eq_false_iff]
  exact Or.inr (by rw [List.all_eq_false]; exact ⟨x, List.mem_of_getElem? h, by simp [n]⟩)
theorem ins_take {L : List H3} {p x : H3} {k : Nat} (h : L[k]? = some x) (y : holB p x = true) (t : (L.take k).all (holB p) = true) : (L.take (k + 1)).all (holB p) = true := by
  rw [List.take_add_one, h, List.all_append, t]; simp [y]
theorem ins_all {L : List H3} {p : H3} {n : Nat} (hl : L.length = n) (hf : frmB p = true) (t : (L.take n).all (holB p) = true) : insB L p = true := by
  rw [List.take_of_length_le (by omega)] at t
  unfold insB; rw [hf, t]; rfl
/-- a point as a crossing gives it -/
def PtB (p : H3) : Prop := -10000000000000 ≤ p.a ∧ p.a ≤ 10000000000000 ∧ -10000000000000 ≤ p.b ∧ p.b ≤ 10000000000000 ∧ 0 ≤ p.c ∧ p.c ≤ 5000000000
theorem cr_pt {f g : H3} (hf : okB f = true) (hg : okB g = true) : PtB (crP f g) := by
  have := cr_in hf hg
  unfold crP PtB
  split <;> simp only <;> omega
set_option maxRecDepth 100000 in
set_option maxHeartbeats 4000000 in
theorem spec_inside (a : Option Addr) (n cap : Nat) (L : List H3) (x y d : Int) (w : World) (hl : L.length = n) (hn : n ≤ 1000) (hL : ∀ h ∈ L, okB h = true) (hp : PtB ⟨x, y, d⟩) (hA : HsAt w a L) :
    Calls Try.prog 144 #[.slice a n cap, .agg #[.int .i64 x, .int .i64 y, .int .i64 d]] w fun e w' => e = .returned (.bool (insB L ⟨x, y, d⟩)) ∧ Below w.heap.size w w' := by
  obtain ⟨x1, x2, y1, y2, d1, d2⟩ := hp
  simp only at x1 x2 y1 y2 d1 d2
  have HL := Lib.hid hl
  have HA := Lib.hid hA
  have HO := Lib.hid hL
  clear hl hA hL
  have bV := below_one w (.cells #[.int .i64 x, .int .i64 y, .int .i64 d] 144)
  have k0 : frmB ⟨x, y, d⟩ = (decide (d ≠ 0) && decide (x ≤ 1000 * d) && decide (-1000 * d ≤ x) && decide (y ≤ 1000 * d) && decide (-1000 * d ≤ y)) := rfl
  have no : frmB ⟨x, y, d⟩ = false → Calls Try.prog 144 #[.slice a n cap, .agg #[.int .i64 x, .int .i64 y, .int .i64 d]] w (fun e w' => e = .returned (.bool false) ∧ Below w.heap.size w w') → Calls Try.prog 144 #[.slice a n cap, .agg #[.int .i64 x, .int .i64 y, .int .i64 d]] w fun e w' => e = .returned (.bool (insB L ⟨x, y, d⟩)) ∧ Below w.heap.size w w' := by
    intro h k
    rw [ins_frm h]; exact k
  by_cases h0 : d = 0
  · refine no (by rw [k0]; simp [h0]) ?_
    subst h0
    clear no k0 x1 x2 y1 y2
    go_enter Try.func144, Try.ntmps144
    go_wp2
    go_ret
    exact ⟨rfl, bV⟩
  · have e0 : (d == 0) = false := eq_b h0
    by_cases h1 : 1000 * d < x
    · refine no (by rw [k0]; simp; omega) ?_
      clear no k0 h0
      go_enter Try.func144, Try.ntmps144
      go_wp2
      go_ret
      exact ⟨rfl, bV⟩
    · by_cases h2 : x < -1000 * d
      · refine no (by rw [k0]; simp; omega) ?_
        clear no k0 h0
        go_enter Try.func144, Try.ntmps144
        go_wp2
        go_ret
        exact ⟨rfl, bV⟩
      · by_cases h3 : 1000 * d < y
        · refine no (by rw [k0]; simp; omega) ?_
          clear no k0 h0
          go_enter Try.func144, Try.ntmps144
          go_wp2
          go_ret
          exact ⟨rfl, bV⟩
        · by_cases h4 : y < -1000 * d
          · refine no (by rw [k0]; simp; omega) ?_
            clear no k0 h0
            go_enter Try.func144, Try.ntmps144
            go_wp2
            go_ret
            exact ⟨rfl, bV⟩
          · have HF := Lib.hid (show frmB ⟨x, y, d⟩ = true by rw [k0]; simp; omega)
            clear no k0 h0
            go_enter Try.func144, Try.ntmps144
            go_wp2
            have q3 := tri_new w (.int .i64 x) (.int .i64 y) (.int .i64 d) 144
            clear h1 h2 h3 h4 e0
            generalize w.alloc (.cells #[.int .i64 x, .int .i64 y, .int .i64 d] 144) = V at *
            go_loopw [51] (fun i wr => ∃ k : Nat, k ≤ n ∧ i = .int .i64 k ∧ (L.take k).all (holB ⟨x, y, d⟩) = true ∧ Below V.heap.size V wr) (fun i _ => n - (intOf i).toNat)
            case atStart => exact ⟨0, Nat.zero_le _, rfl, by simp, Below.refl _ _⟩
            case round =>
              obtain ⟨k, hk, rfl, ht, hbel⟩ := hrel
              have HT := Lib.hid ht
              have hbw := below_to bV hbel
              clear ht
              by_cases hlt : k < n
              · obtain ⟨⟨ha, hb, hc⟩, hx⟩ : ∃ x, L[k]? = some x := ⟨_, List.getElem?_eq_getElem (by rw [HL.out]; exact hlt)⟩
                have hox : okH ha hb hc = true := HO.out _ (List.mem_of_getElem? hx)
                obtain ⟨g, o, rfl, hcx⟩ := HA.out k _ hx
                obtain ⟨t1, t2, t3⟩ := hcx.to hbw
                have l1 := block_lt_of_cell t1
                obtain ⟨s1, s2, s3⟩ := q3.to hbel
                have l2 := block_lt_of_cell s1
                simp only at t1 t2 t3 l1 l2
                obtain ⟨⟨p0, p1⟩, ⟨q0, q1⟩, r0, r1⟩ := side_wide hox x1 x2 y1 y2 (by omega) d2
                have HX := Lib.hid hx
                have HB := Lib.hid (show holB ⟨x, y, d⟩ ⟨ha, hb, hc⟩ = decide (ha * x + hb * y ≤ hc * d) from rfl)
                clear hx hcx hox
                generalize e1 : ha * x = P at *
                generalize e2 : hb * y = Q at *
                generalize e3 : hc * d = R at *
                by_cases hh : R < P + Q
                · have HN := Lib.hid (ins_no HX.out (by rw [HB.out]; simp; omega))
                  go_wp2
                  go_ret
                  exact ⟨ret_bool HN.out.symm, below_bx2 hbw _⟩
                · have HN := Lib.hid (ins_take HX.out (by rw [HB.out]; simp; omega) HT.out)
                  go_wp2
                  go_roundw
                  case rel => exact ⟨k + 1, by omega, by go_num, HN.out, hbel.trans ((below_one _ _).mono hbel.size)⟩
                  case measure => simp [intOf]; omega
              · have hkn : k = n := by omega
                subst hkn
                have HN := Lib.hid (ins_all HL.out HF.out HT.out)
                go_wp2
                go_ret
                exact ⟨ret_bool HN.out.symm, hbw⟩
/-- the spot of a point -/
def spP (p : H3) : H3 := ⟨kp (hasS p.a p.b p.c) (p.a.tdiv (gS p.a p.b p.c)), kp (hasS p.a p.b p.c) (p.b.tdiv (gS p.a p.b p.c)), kp (hasS p.a p.b p.c) (p.c.tdiv (gS p.a p.b p.c))⟩
def difB (p q : H3) : Bool := decide (spP p ≠ spP q)
set_option maxHeartbeats 1600000 in
theorem spec_differ (x y d u v t : Int) (w : World) (hp : PtB ⟨x, y, d⟩) (hq : PtB ⟨u, v, t⟩) :
    Calls Try.prog 145 #[.agg #[.int .i64 x, .int .i64 y, .int .i64 d], .agg #[.int .i64 u, .int .i64 v, .int .i64 t]] w fun e w' => e = .returned (.bool (difB ⟨x, y, d⟩ ⟨u, v, t⟩)) ∧ Below w.heap.size w w' := by
  obtain ⟨x1, x2, y1, y2, d1, d2⟩ := hp
  obtain ⟨u1, u2, v1, v2, t1, t2⟩ := hq
  simp only at x1 x2 y1 y2 d1 d2 u1 u2 v1 v2 t1 t2
  have HS := Lib.hid (fun W => spec_sof x y d W (by omega) (by omega) (by omega) (by omega) (by omega) (by omega))
  have HT := Lib.hid (fun W => spec_sof u v t W (by omega) (by omega) (by omega) (by omega) (by omega) (by omega))
  obtain ⟨X, Y, Z, eP, eA⟩ : ∃ X Y Z : Int, spP ⟨x, y, d⟩ = ⟨X, Y, Z⟩ ∧ ∃ B, ansS x y d = .tuple #[.agg #[.int .i64 X, .int .i64 Y, .int .i64 Z], .bool B] := ⟨_, _, _, rfl, _, rfl⟩
  obtain ⟨U, T, R, eQ, eB⟩ : ∃ X Y Z : Int, spP ⟨u, v, t⟩ = ⟨X, Y, Z⟩ ∧ ∃ B, ansS u v t = .tuple #[.agg #[.int .i64 X, .int .i64 Y, .int .i64 Z], .bool B] := ⟨_, _, _, rfl, _, rfl⟩
  obtain ⟨B1, eA⟩ := eA
  obtain ⟨B2, eB⟩ := eB
  rw [eA] at HS
  rw [eB] at HT
  unfold difB
  rw [eP, eQ]
  clear eP eQ eA eB x1 x2 y1 y2 d1 d2 u1 u2 v1 v2 t1 t2
  by_cases he : (⟨X, Y, Z⟩ : H3) = ⟨U, T, R⟩
  · have hr : decide ((⟨X, Y, Z⟩ : H3) ≠ ⟨U, T, R⟩) = false := decide_eq_false (fun h => h he)
    rw [hr]
    obtain ⟨rfl, rfl, rfl⟩ : X = U ∧ Y = T ∧ Z = R := by simpa using he
    clear he hr
    go_enter Try.func145, Try.ntmps145
    go_wp2_with fail
    refine (HS.out _).mono ?_
    rintro e w1 ⟨rfl, bl1⟩
    have b1 := below_to (below_bx2 (below_one w (.cells #[.int .i64 x, .int .i64 y, .int .i64 d] 144)) (.cells #[.int .i64 u, .int .i64 v, .int .i64 t] 144)) bl1
    have q1 := (tri_new (w.alloc (.cells #[.int .i64 x, .int .i64 y, .int .i64 d] 144)) (.int .i64 u) (.int .i64 v) (.int .i64 t) 144).to bl1
    rw [show (w.alloc (.cells #[.int .i64 x, .int .i64 y, .int .i64 d] 144)).heap.size = w.heap.size + 1 by simp] at q1
    have l1 := block_lt_of_cell q1.1
    simp only at l1
    obtain ⟨c1, c2, c3⟩ := q1
    clear bl1
    go_wp2_with fail
    refine (HT.out _).mono ?_
    rintro e w2 ⟨rfl, bl2⟩
    have b2 := below_to (below_bx2 b1 (.cells #[.int .i64 X, .int .i64 Y, .int .i64 Z] 31)) bl2
    have r2 := (tri_new w1 (.int .i64 X) (.int .i64 Y) (.int .i64 Z) 31).to bl2
    have l2 := block_lt_of_cell r2.1
    simp only at l2
    obtain ⟨d1, d2, d3⟩ := r2
    clear c1 c2 c3 b1 bl2
    go_wp2
    go_ret
    exact ⟨rfl, below_bx2 b2 _⟩
  · have hr : decide ((⟨X, Y, Z⟩ : H3) ≠ ⟨U, T, R⟩) = true := decide_eq_true he
    rw [hr]
    rcases ne_parts he with h1 | ⟨rfl, h1⟩ | ⟨rfl, rfl, h1⟩
    all_goals
      have hb := eq_b h1
      clear he h1 hr
      go_enter Try.func145, Try.ntmps145
      go_wp2_with fail
      refine (HS.out _).mono ?_
      rintro e w1 ⟨rfl, bl1⟩
      have b1 := below_to (below_bx2 (below_one w (.cells #[.int .i64 x, .int .i64 y, .int .i64 d] 144)) (.cells #[.int .i64 u, .int .i64 v, .int .i64 t] 144)) bl1
      have q1 := (tri_new (w.alloc (.cells #[.int .i64 x, .int .i64 y, .int .i64 d] 144)) (.int .i64 u) (.int .i64 v) (.int .i64 t) 144).to bl1
      rw [show (w.alloc (.cells #[.int .i64 x, .int .i64 y, .int .i64 d] 144)).heap.size = w.heap.size + 1 by simp] at q1
      have l1 := block_lt_of_cell q1.1
      simp only at l1
      obtain ⟨c1, c2, c3⟩ := q1
      clear bl1
      go_wp2_with fail
      refine (HT.out _).mono ?_
      rintro e w2 ⟨rfl, bl2⟩
      have b2 := below_to (below_bx2 b1 (.cells #[.int .i64 X, .int .i64 Y, .int .i64 Z] 31)) bl2
      have r2 := (tri_new w1 (.int .i64 X) (.int .i64 Y) (.int .i64 Z) 31).to bl2
      have l2 := block_lt_of_cell r2.1
      simp only at l2
      obtain ⟨d1, d2, d3⟩ := r2
      clear c1 c2 c3 b1 bl2
      go_wp2
      go_ret
      exact ⟨rfl, below_bx2 b2 _⟩
end Go.Proofs.Ytobmaajfdpcfmaa
