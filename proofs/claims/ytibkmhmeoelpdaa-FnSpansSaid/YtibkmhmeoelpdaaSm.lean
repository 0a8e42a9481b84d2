/- The contracts of the model's crossings, of what lies inside and of what differs over the translation. The contract of the model's l05IsEdge over the translation: two crossings of a border with the others lie inside and differ. The contract of the model's l05Sorted over the translation: half planes in ascending order of their angles, the tightest of each direction. The contract of the model's l05Sorted over the translation. -/
import Derived.Test.YtibkmhmeoelpdaaIq
namespace Go.Proofs.Ytibkmhmeoelpdaa
open Go.RowKit
open Geo (H3)

/-- the crossing of two borders as the model has it: not reduced, the denominator not negative -/
def crP (f g : H3) : H3 :=
  if f.a * g.b - g.a * f.b < 0 then ⟨-(f.c * g.b - g.c * f.b), -(f.a * g.c - g.a * f.c), -(f.a * g.b - g.a * f.b)⟩ else ⟨f.c * g.b - g.c * f.b, f.a * g.c - g.a * f.c, f.a * g.b - g.a * f.b⟩
theorem cr_in {a b c x y d : Int} (h : okH a b c = true) (k : okH x y d = true) : (-5000000000000 ≤ c * y ∧ c * y ≤ 5000000000000) ∧ (-5000000000000 ≤ d * b ∧ d * b ≤ 5000000000000) ∧ (-5000000000000 ≤ a * d ∧ a * d ≤ 5000000000000) ∧ (-5000000000000 ≤ x * c ∧ x * c ≤ 5000000000000) ∧ (-2500000000 ≤ a * y ∧ a * y ≤ 2500000000) ∧ (-2500000000 ≤ x * b ∧ x * b ≤ 2500000000) := by
  obtain ⟨a1, a2, b1, b2, _, c1, c2, _⟩ := (okH_iff _ _ _).1 h
  obtain ⟨x1, x2, y1, y2, _, d1, d2, _⟩ := (okH_iff _ _ _).1 k
  have m1 := mul_in c y 100000000 50000 c1 c2 y1 y2
  have m2 := mul_in d b 100000000 50000 d1 d2 b1 b2
  have m3 := mul_in a d 50000 100000000 a1 a2 d1 d2
  have m4 := mul_in x c 50000 100000000 x1 x2 c1 c2
  have m5 := mul_in a y 50000 50000 a1 a2 y1 y2
  have m6 := mul_in x b 50000 50000 x1 x2 b1 b2
  omega
set_option maxHeartbeats 1600000 in
theorem spec_cross (a b c x y d : Int) (w : World) (h : okH a b c = true) (k : okH x y d = true) :
    Calls Try.prog 112 #[.agg #[.int .i64 a, .int .i64 b, .int .i64 c], .agg #[.int .i64 x, .int .i64 y, .int .i64 d]] w fun e w' => e = .returned (.agg #[.int .i64 (crP ⟨a, b, c⟩ ⟨x, y, d⟩).a, .int .i64 (crP ⟨a, b, c⟩ ⟨x, y, d⟩).b, .int .i64 (crP ⟨a, b, c⟩ ⟨x, y, d⟩).c]) ∧ Below w.heap.size w w' := by
  obtain ⟨⟨s0, s1⟩, ⟨r0, r1⟩, ⟨u0, u1⟩, ⟨v0, v1⟩, ⟨m0, m1⟩, n0, n1⟩ := cr_in h k
  clear h k
  unfold crP
  simp only
  generalize e1 : a * y = p1 at *
  generalize e2 : x * b = p2 at *
  generalize e3 : c * y = p3 at *
  generalize e4 : d * b = p4 at *
  generalize e5 : a * d = p5 at *
  generalize e6 : x * c = p6 at *
  by_cases hd : p1 - p2 < 0
  · rw [if_pos hd]
    go_enter Try.func112, Try.ntmps112
    go_wp2
    exact bodyPost_ret (v := .agg #[.int .i64 (-(p3 - p4)), .int .i64 (-(p5 - p6)), .int .i64 (-(p1 - p2))]) (by simp [results, Try.results112, go_sem]) rfl ⟨rfl, below_bx2 (below_bx2 (below_bx2 (below_one _ _) _) _) _⟩
  · rw [if_neg hd]
    go_enter Try.func112, Try.ntmps112
    go_wp2
    exact bodyPost_ret (v := .agg #[.int .i64 (p3 - p4), .int .i64 (p5 - p6), .int .i64 (p1 - p2)]) (by simp [results, Try.results112, go_sem]) rfl ⟨rfl, below_bx2 (below_bx2 (below_bx2 (below_one _ _) _) _) _⟩
/-- a point of the frame that lies in all half planes -/
def holB (p h : H3) : Bool := decide (h.a * p.a + h.b * p.b ≤ h.c * p.c)
def frmB (p : H3) : Bool := decide (p.c ≠ 0) && decide (p.a ≤ 1000 * p.c) && decide (-1000 * p.c ≤ p.a) && decide (p.b ≤ 1000 * p.c) && decide (-1000 * p.c ≤ p.b)
def insB (L : List H3) (p : H3) : Bool := frmB p && L.all (holB p)
theorem ins_frm {L : List H3} {p : H3} (h : frmB p = false) : insB L p = false := by unfold insB; rw [h]; rfl
theorem ins_no {L : List H3} {p x : H3} {k : Nat} (h : L[k]? = some x) (n : holB p x = false) : insB L p = false := by
  unfold insB
  rw [Bool.and_eq_false_iff]
  exact Or.inr (by rw [List.all_eq_false]; exact ⟨x, List.mem_of_getElem? h, by simp [n]⟩)
theorem ins_take {L : List H3} {p x : H3} {k : Nat} (h : L[k]? = some x) (y : holB p x = true) (t : (L.take k).all (holB p) = true) : (L.take (k + 1)).all (holB p) = true := by
  rw [List.take_add_one, h, List.all_append, t]; simp [y]
theorem ins_all {L : List H3} {p : H3} {n : Nat} (hl : L.length = n) (hf : frmB p = true) (t : (L.take n).all (holB p) = true) : insB L p = true := by
  rw [List.take_of_length_le (by omega)] at t
  unfold insB; rw [hf, t]; rfl
/-- a point as a crossing gives it -/
def PtB (p : H3) : Prop := -10000000000000 ≤ p.a ∧ p.a ≤ 10000000000000 ∧ -10000000000000 ≤ p.b ∧ p.b ≤ 10000000000000 ∧ 0 ≤ p.c ∧ p.c ≤ 5000000000
theorem cr_pt {f g : H3} (hf : okB f = true) (hg : okB g = true) : PtB (crP f g) := by
  have := cr_in hf hg
  unfold crP PtB
  split <;> simp only <;> omega
set_option maxRecDepth 100000 in
set_option maxHeartbeats 4000000 in
theorem spec_inside (a : Option Addr) (n cap : Nat) (L : List H3) (x y d : Int) (w : World) (hl : L.length = n) (hn : n ≤ 1000) (hL : ∀ h ∈ L, okB h = true) (hp : PtB ⟨x, y, d⟩) (hA : HsAt w a L) :
    Calls Try.prog 113 #[.slice a n cap, .agg #[.int .i64 x, .int .i64 y, .int .i64 d]] w fun e w' => e = .returned (.bool (insB L ⟨x, y, d⟩)) ∧ Below w.heap.size w w' := by
  obtain ⟨x1, x2, y1, y2, d1, d2⟩ := hp
  simp only at x1 x2 y1 y2 d1 d2
  have HL := Lib.hid hl
  have HA := Lib.hid hA
  have HO := Lib.hid hL
  clear hl hA hL
  have bV := below_one w (.cells #[.int .i64 x, .int .i64 y, .int .i64 d] 131)
  have k0 : frmB ⟨x, y, d⟩ = (decide (d ≠ 0) && decide (x ≤ 1000 * d) && decide (-1000 * d ≤ x) && decide (y ≤ 1000 * d) && decide (-1000 * d ≤ y)) := rfl
  have no : frmB ⟨x, y, d⟩ = false → Calls Try.prog 113 #[.slice a n cap, .agg #[.int .i64 x, .int .i64 y, .int .i64 d]] w (fun e w' => e = .returned (.bool false) ∧ Below w.heap.size w w') → Calls Try.prog 113 #[.slice a n cap, .agg #[.int .i64 x, .int .i64 y, .int .i64 d]] w fun e w' => e = .returned (.bool (insB L ⟨x, y, d⟩)) ∧ Below w.heap.size w w' := by
    intro h k
    rw [ins_frm h]; exact k
  by_cases h0 : d = 0
  · refine no (by rw [k0]; simp [h0]) ?_
    subst h0
    clear no k0 x1 x2 y1 y2
    go_enter Try.func113, Try.ntmps113
    go_wp2
    go_ret
    exact ⟨rfl, bV⟩
  · have e0 : (d == 0) = false := eq_b h0
    by_cases h1 : 1000 * d < x
    · refine no (by rw [k0]; simp; omega) ?_
      clear no k0 h0
      go_enter Try.func113, Try.ntmps113
      go_wp2
      go_ret
      exact ⟨rfl, bV⟩
    · by_cases h2 : x < -1000 * d
      · refine no (by rw [k0]; simp; omega) ?_
        clear no k0 h0
        go_enter Try.func113, Try.ntmps113
        go_wp2
        go_ret
        exact ⟨rfl, bV⟩
      · by_cases h3 : 1000 * d < y
        · refine no (by rw [k0]; simp; omega) ?_
          clear no k0 h0
          go_enter Try.func113, Try.ntmps113
          go_wp2
          go_ret
          exact ⟨rfl, bV⟩
        · by_cases h4 : y < -1000 * d
          · refine no (by rw [k0]; simp; omega) ?_
            clear no k0 h0
            go_enter Try.func113, Try.ntmps113
            go_wp2
            go_ret
            exact ⟨rfl, bV⟩
          · have HF := Lib.hid (show frmB ⟨x, y, d⟩ = true by rw [k0]; simp; omega)
            clear no k0 h0
            go_enter Try.func113, Try.ntmps113
            go_wp2
            have q3 := tri_new w (.int .i64 x) (.int .i64 y) (.int .i64 d) 131
            clear h1 h2 h3 h4 e0
            generalize w.alloc (.cells #[.int .i64 x, .int .i64 y, .int .i64 d] 131) = V at *
            go_loopw [51] (fun i wr => ∃ k : Nat, k ≤ n ∧ i = .int .i64 k ∧ (L.take k).all (holB ⟨x, y, d⟩) = true ∧ Below V.heap.size V wr) (fun i _ => n - (intOf i).toNat)
            case atStart => exact ⟨0, Nat.zero_le _, rfl, by simp, Below.refl _ _⟩
            case round =>
              obtain ⟨k, hk, rfl, ht, hbel⟩ := hrel
              have HT := Lib.hid ht
              have hbw := below_to bV hbel
              clear ht
              by_cases hlt : k < n
              · obtain ⟨⟨ha, hb, hc⟩, hx⟩ : ∃ x, L[k]? = some x := ⟨_, List.getElem?_eq_getElem (by rw [HL.out]; exact hlt)⟩
                have hox : okH ha hb hc = true := HO.out _ (List.mem_of_getElem? hx)
                obtain ⟨g, o, rfl, hcx⟩ := HA.out k _ hx
                obtain ⟨t1, t2, t3⟩ := hcx.to hbw
                have l1 := block_lt_of_cell t1
                obtain ⟨s1, s2, s3⟩ := q3.to hbel
                have l2 := block_lt_of_cell s1
                simp only at t1 t2 t3 l1 l2
                obtain ⟨⟨p0, p1⟩, ⟨q0, q1⟩, r0, r1⟩ := side_wide hox x1 x2 y1 y2 (by omega) d2
                have HX := Lib.hid hx
                have HB := Lib.hid (show holB ⟨x, y, d⟩ ⟨ha, hb, hc⟩ = decide (ha * x + hb * y ≤ hc * d) from rfl)
                clear hx hcx hox
                generalize e1 : ha * x = P at *
                generalize e2 : hb * y = Q at *
                generalize e3 : hc * d = R at *
                by_cases hh : R < P + Q
                · have HN := Lib.hid (ins_no HX.out (by rw [HB.out]; simp; omega))
                  go_wp2
                  go_ret
                  exact ⟨ret_bool HN.out.symm, below_bx2 hbw _⟩
                · have HN := Lib.hid (ins_take HX.out (by rw [HB.out]; simp; omega) HT.out)
                  go_wp2
                  go_roundw
                  case rel => exact ⟨k + 1, by omega, by go_num, HN.out, hbel.trans ((below_one _ _).mono hbel.size)⟩
                  case measure => simp [intOf]; omega
              · have hkn : k = n := by omega
                subst hkn
                have HN := Lib.hid (ins_all HL.out HF.out HT.out)
                go_wp2
                go_ret
                exact ⟨ret_bool HN.out.symm, hbw⟩
/-- the spot of a point -/
def spP (p : H3) : H3 := ⟨kp (hasS p.a p.b p.c) (p.a.tdiv (gS p.a p.b p.c)), kp (hasS p.a p.b p.c) (p.b.tdiv (gS p.a p.b p.c)), kp (hasS p.a p.b p.c) (p.c.tdiv (gS p.a p.b p.c))⟩
def difB (p q : H3) : Bool := decide (spP p ≠ spP q)
set_option maxHeartbeats 1600000 in
theorem spec_differ (x y d u v t : Int) (w : World) (hp : PtB ⟨x, y, d⟩) (hq : PtB ⟨u, v, t⟩) :
    Calls Try.prog 114 #[.agg #[.int .i64 x, .int .i64 y, .int .i64 d], .agg #[.int .i64 u, .int .i64 v, .int .i64 t]] w fun e w' => e = .returned (.bool (difB ⟨x, y, d⟩ ⟨u, v, t⟩)) ∧ Below w.heap.size w w' := by
  obtain ⟨x1, x2, y1, y2, d1, d2⟩ := hp
  obtain ⟨u1, u2, v1, v2, t1, t2⟩ := hq
  simp only at x1 x2 y1 y2 d1 d2 u1 u2 v1 v2 t1 t2
  have HS := Lib.hid (fun W => spec_sof x y d W (by omega) (by omega) (by omega) (by omega) (by omega) (by omega))
  have HT := Lib.hid (fun W => spec_sof u v t W (by omega) (by omega) (by omega) (by omega) (by omega) (by omega))
  obtain ⟨X, Y, Z, eP, eA⟩ : ∃ X Y Z : Int, spP ⟨x, y, d⟩ = ⟨X, Y, Z⟩ ∧ ∃ B, ansS x y d = .tuple #[.agg #[.int .i64 X, .int .i64 Y, .int .i64 Z], .bool B] := ⟨_, _, _, rfl, _, rfl⟩
  obtain ⟨U, T, R, eQ, eB⟩ : ∃ X Y Z : Int, spP ⟨u, v, t⟩ = ⟨X, Y, Z⟩ ∧ ∃ B, ansS u v t = .tuple #[.agg #[.int .i64 X, .int .i64 Y, .int .i64 Z], .bool B] := ⟨_, _, _, rfl, _, rfl⟩
  obtain ⟨B1, eA⟩ := eA
  obtain ⟨B2, eB⟩ := eB
  rw [eA] at HS
  rw [eB] at HT
  unfold difB
  rw [eP, eQ]
  clear eP eQ eA eB x1 x2 y1 y2 d1 d2 u1 u2 v1 v2 t1 t2
  by_cases he : (⟨X, Y, Z⟩ : H3) = ⟨U, T, R⟩
  · have hr : decide ((⟨X, Y, Z⟩ : H3) ≠ ⟨U, T, R⟩) = false := decide_eq_false (fun h => h he)
    rw [hr]
    obtain ⟨rfl, rfl, rfl⟩ : X = U ∧ Y = T ∧ Z = R := by simpa using he
    clear he hr
    go_enter Try.func114, Try.ntmps114
    go_wp2_with fail
    refine (HS.out _).mono ?_
    rintro e w1 ⟨rfl, bl1⟩
    have b1 := below_to (below_bx2 (below_one w (.cells #[.int .i64 x, .int .i64 y, .int .i64 d] 131)) (.cells #[.int .i64 u, .int .i64 v, .int .i64 t] 131)) bl1
    have q1 := (tri_new (w.alloc (.cells #[.int .i64 x, .int .i64 y, .int .i64 d] 131)) (.int .i64 u) (.int .i64 v) (.int .i64 t) 131).to bl1
    rw [show (w.alloc (.cells #[.int .i64 x, .int .i64 y, .int .i64 d] 131)).heap.size = w.heap.size + 1 by simp] at q1
    have l1 := block_lt_of_cell q1.1
    simp only at l1
    obtain ⟨c1, c2, c3⟩ := q1
    clear bl1
    go_wp2_with fail
    refine (HT.out _).mono ?_
    rintro e w2 ⟨rfl, bl2⟩
    have b2 := below_to (below_bx2 b1 (.cells #[.int .i64 X, .int .i64 Y, .int .i64 Z] 139)) bl2
    have r2 := (tri_new w1 (.int .i64 X) (.int .i64 Y) (.int .i64 Z) 139).to bl2
    have l2 := block_lt_of_cell r2.1
    simp only at l2
    obtain ⟨d1, d2, d3⟩ := r2
    clear c1 c2 c3 b1 bl2
    go_wp2
    go_ret
    exact ⟨rfl, below_bx2 b2 _⟩
  · have hr : decide ((⟨X, Y, Z⟩ : H3) ≠ ⟨U, T, R⟩) = true := decide_eq_true he
    rw [hr]
    rcases ne_parts he with h1 | ⟨rfl, h1⟩ | ⟨rfl, rfl, h1⟩
    all_goals
      have hb := eq_b h1
      clear he h1 hr
      go_enter Try.func114, Try.ntmps114
      go_wp2_with fail
      refine (HS.out _).mono ?_
      rintro e w1 ⟨rfl, bl1⟩
      have b1 := below_to (below_bx2 (below_one w (.cells #[.int .i64 x, .int .i64 y, .int .i64 d] 131)) (.cells #[.int .i64 u, .int .i64 v, .int .i64 t] 131)) bl1
      have q1 := (tri_new (w.alloc (.cells #[.int .i64 x, .int .i64 y, .int .i64 d] 131)) (.int .i64 u) (.int .i64 v) (.int .i64 t) 131).to bl1
      rw [show (w.alloc (.cells #[.int .i64 x, .int .i64 y, .int .i64 d] 131)).heap.size = w.heap.size + 1 by simp] at q1
      have l1 := block_lt_of_cell q1.1
      simp only at l1
      obtain ⟨c1, c2, c3⟩ := q1
      clear bl1
      go_wp2_with fail
      refine (HT.out _).mono ?_
      rintro e w2 ⟨rfl, bl2⟩
      have b2 := below_to (below_bx2 b1 (.cells #[.int .i64 X, .int .i64 Y, .int .i64 Z] 139)) bl2
      have r2 := (tri_new w1 (.int .i64 X) (.int .i64 Y) (.int .i64 Z) 139).to bl2
      have l2 := block_lt_of_cell r2.1
      simp only at l2
      obtain ⟨d1, d2, d3⟩ := r2
      clear c1 c2 c3 b1 bl2
      go_wp2
      go_ret
      exact ⟨rfl, below_bx2 b2 _⟩

def atI (L : List H3) (i : Nat) : H3 := (L[i]?).getD zeroH
theorem atI_of {L : List H3} {i : Nat} {x : H3} (h : L[i]? = some x) : atI L i = x := by unfold atI; rw [h]; rfl
/-- the crossing of border k with border i, and whether it is another one's and lies inside -/
def ptI (L : List H3) (k i : Nat) : H3 := crP (atI L k) (atI L i)
def gdI (L : List H3) (k i : Nat) : Bool := decide (i ≠ k) && insB L (ptI L k i)
def edgB (L : List H3) (k : Nat) : Bool := (List.range L.length).any fun i => gdI L k i && (List.range L.length).any fun j => gdI L k j && difB (ptI L k i) (ptI L k j)
/-- what the loop knows: no crossing inside so far, or the first one and that no other so far differs from it -/
def Fst (L : List H3) (k i : Nat) (p : H3) : Prop := (p = zeroH ∧ ∀ j, j < i → gdI L k j = false) ∨ (∃ i0, i0 < i ∧ gdI L k i0 = true ∧ p = ptI L k i0 ∧ ∀ j, j < i → gdI L k j = true → difB p (ptI L k j) = false)
theorem gd_frm {L : List H3} {k i : Nat} (h : gdI L k i = true) : (ptI L k i).c ≠ 0 := by
  unfold gdI insB frmB at h
  simp only [Bool.and_eq_true, decide_eq_true_eq] at h
  exact h.2.1.1.1.1.1
theorem Fst.start (L : List H3) (k : Nat) : Fst L k 0 zeroH := Or.inl ⟨rfl, fun j h => by omega⟩
theorem Fst.skip {L : List H3} {k i : Nat} {p : H3} (h : Fst L k i p) (n : gdI L k i = false) : Fst L k (i + 1) p := by
  rcases h with ⟨e, h⟩ | ⟨i0, h0, g0, e, h⟩
  · refine Or.inl ⟨e, fun j hj => ?_⟩
    rcases Nat.lt_or_ge j i with k1 | k1
    · exact h j k1
    · rw [show j = i by omega]; exact n
  · refine Or.inr ⟨i0, by omega, g0, e, fun j hj gj => ?_⟩
    rcases Nat.lt_or_ge j i with k1 | k1
    · exact h j k1 gj
    · rw [show j = i by omega, n] at gj; cases gj
theorem Fst.first {L : List H3} {k i : Nat} {p : H3} (h : Fst L k i p) (z : p.c = 0) (y : gdI L k i = true) : Fst L k (i + 1) (ptI L k i) := by
  rcases h with ⟨e, h⟩ | ⟨i0, h0, g0, e, h⟩
  · refine Or.inr ⟨i, by omega, y, rfl, fun j hj gj => ?_⟩
    rcases Nat.lt_or_ge j i with k1 | k1
    · rw [h j k1] at gj; cases gj
    · rw [show j = i by omega]; unfold difB; simp
  · exact absurd z (by rw [e]; exact gd_frm g0)
theorem Fst.next {L : List H3} {k i : Nat} {p : H3} (h : Fst L k i p) (z : p.c ≠ 0) (d : difB p (ptI L k i) = false) : Fst L k (i + 1) p := by
  rcases h with ⟨e, h⟩ | ⟨i0, h0, g0, e, h⟩
  · exact absurd (by rw [e]; rfl) z
  · refine Or.inr ⟨i0, by omega, g0, e, fun j hj gj => ?_⟩
    rcases Nat.lt_or_ge j i with k1 | k1
    · exact h j k1 gj
    · rw [show j = i by omega]; exact d
theorem Fst.found {L : List H3} {k i n : Nat} {p : H3} (hl : L.length = n) (hi : i < n) (h : Fst L k i p) (z : p.c ≠ 0) (y : gdI L k i = true) (d : difB p (ptI L k i) = true) : edgB L k = true := by
  rcases h with ⟨e, h⟩ | ⟨i0, h0, g0, e, h⟩
  · exact absurd (by rw [e]; rfl) z
  · subst e
    unfold edgB
    rw [List.any_eq_true]
    refine ⟨i0, List.mem_range.2 (by omega), ?_⟩
    rw [Bool.and_eq_true, List.any_eq_true]
    exact ⟨g0, i, List.mem_range.2 (by omega), by rw [y, d]; rfl⟩
theorem Fst.none {L : List H3} {k n : Nat} {p : H3} (hl : L.length = n) (h : Fst L k n p) : edgB L k = false := by
  unfold edgB
  rw [List.any_eq_false]
  intro i hi hh
  rw [Bool.and_eq_true, List.any_eq_true] at hh
  obtain ⟨gi, j, hj, hh⟩ := hh
  rw [Bool.and_eq_true] at hh
  rw [List.mem_range, hl] at hi hj
  rcases h with ⟨e, h⟩ | ⟨i0, h0, g0, e, h⟩
  · rw [h i hi] at gi; cases gi
  · have d1 := h i hi gi
    have d2 := h j hj hh.1
    have d3 := hh.2
    unfold difB at d1 d2 d3
    simp only [decide_eq_false_iff_not, decide_eq_true_eq, ne_eq, Classical.not_not] at d1 d2 d3
    exact d3 (d1.symm.trans d2)
theorem has3_put {W : World} {g : Nat} {a b c : Value} (h : Has3 W g a b c) (x y z : Value) : Has3 (((W.setCell ⟨g, 0, none⟩ x).setCell ⟨g, 1, none⟩ y).setCell ⟨g, 2, none⟩ z) g x y z := by
  obtain ⟨h1, h2, h3, f1, f2, f3⟩ := h
  have n01 : (⟨g, 0, none⟩ : Addr) ≠ ⟨g, 1, none⟩ := by simp
  have n02 : (⟨g, 0, none⟩ : Addr) ≠ ⟨g, 2, none⟩ := by simp
  have n12 : (⟨g, 1, none⟩ : Addr) ≠ ⟨g, 2, none⟩ := by simp
  have k2 : (W.setCell ⟨g, 0, none⟩ x).cell? ⟨g, 1, none⟩ = some b := by rw [World.cell?_setCell_other _ _ _ _ n01]; exact h2
  have k3 : ((W.setCell ⟨g, 0, none⟩ x).setCell ⟨g, 1, none⟩ y).cell? ⟨g, 2, none⟩ = some c := by rw [World.cell?_setCell_other _ _ _ _ n12, World.cell?_setCell_other _ _ _ _ n02]; exact h3
  refine ⟨?_, ?_, ?_, ?_, ?_, ?_⟩
  · rw [World.cell?_setCell_other _ _ _ _ n02.symm, World.cell?_setCell_other _ _ _ _ n01.symm]; exact World.cell?_setCell_same _ _ _ h1
  · rw [World.cell?_setCell_other _ _ _ _ n12.symm]; exact World.cell?_setCell_same _ _ _ k2
  · exact World.cell?_setCell_same _ _ _ k3
  all_goals simp only [World.frozen?_setCell]; assumption
set_option maxRecDepth 100000 in
set_option maxHeartbeats 4000000 in
theorem spec_edge (a : Option Addr) (n cap k : Nat) (L : List H3) (w : World) (hl : L.length = n) (hn : n ≤ 1000) (hk : k < n) (hL : ∀ h ∈ L, okB h = true) (hA : HsAt w a L) :
    Calls Try.prog 104 #[.slice a n cap, .int .i64 k] w fun e w' => e = .returned (.bool (edgB L k)) ∧ Below w.heap.size w w' := by
  obtain ⟨⟨ka, kb, kc⟩, hx⟩ : ∃ x, L[k]? = some x := ⟨_, List.getElem?_eq_getElem (by rw [hl]; exact hk)⟩
  have hok : okH ka kb kc = true := hL _ (List.mem_of_getElem? hx)
  have HK := Lib.hid (atI_of hx)
  obtain ⟨gk, ok, rfl, hck⟩ := hA k _ hx
  simp only at hck
  have HL := Lib.hid hl
  have HA := Lib.hid hA
  have HO := Lib.hid hL
  have HOK := Lib.hid hok
  clear hl hA hL hx hok
  go_enter Try.func104, Try.ntmps104
  go_wp2
  have bV := below_one w (.cells #[.int .i64 0, .int .i64 0, .int .i64 0] 131)
  have h5 := has3_new w (.int .i64 0) (.int .i64 0) (.int .i64 0) 131
  generalize w.alloc (.cells #[.int .i64 0, .int .i64 0, .int .i64 0] 131) = V at *
  go_loopw [12] (fun i wr => ∃ (m : Nat) (p : H3), m ≤ n ∧ i = .int .i64 m ∧ Fst L k m p ∧ PtB p ∧ Has3 wr w.heap.size (.int .i64 p.a) (.int .i64 p.b) (.int .i64 p.c) ∧ Below w.heap.size w wr) (fun i _ => n - (intOf i).toNat)
  case atStart => exact ⟨0, zeroH, Nat.zero_le _, rfl, Fst.start L k, by unfold PtB zeroH; simp, h5, bV⟩
  case round =>
    obtain ⟨m, ⟨pa, pb, pc⟩, hm, rfl, hf, hpt, h3, hbel⟩ := hrel
    have HF := Lib.hid hf
    have HP := Lib.hid hpt
    have H3 := Lib.hid h3
    simp only at h3
    obtain ⟨p1, p2, p3, f1, f2, f3⟩ := h3
    have lz := block_lt_of_cell p1
    simp only at lz
    clear hf hpt
    by_cases hlt : m < n
    · obtain ⟨⟨xa, xb, xc⟩, hx⟩ : ∃ x, L[m]? = some x := ⟨_, List.getElem?_eq_getElem (by rw [HL.out]; exact hlt)⟩
      have hox : okH xa xb xc = true := HO.out _ (List.mem_of_getElem? hx)
      have HXM := Lib.hid (atI_of hx)
      obtain ⟨g', o', e, hcx⟩ := HA.out m _ hx
      simp only [Option.some.injEq, Addr.mk.injEq, and_true] at e
      obtain ⟨rfl, rfl⟩ := e
      obtain ⟨t1, t2, t3⟩ := hcx.to hbel
      have l1 := block_lt_of_cell t1
      simp only at t1 t2 t3 l1
      by_cases hmk : m = k
      · have HS := Lib.hid (Fst.skip HF.out (show gdI L k m = false by unfold gdI; simp [hmk]))
        clear hx hcx hox
        subst hmk
        go_wp2
        go_roundw
        case rel => exact ⟨m + 1, ⟨pa, pb, pc⟩, by omega, by go_num, HS.out, HP.out, has3_to (below_one _ _) H3.out, below_bx2 hbel _⟩
        case measure => simp [intOf]; omega
      · have hb : ((m : Int) == (k : Int)) = false := eq_b (by omega)
        have HC := Lib.hid (fun W => spec_cross ka kb kc xa xb xc W HOK.out hox)
        have hpm : ptI L k m = crP ⟨ka, kb, kc⟩ ⟨xa, xb, xc⟩ := by unfold ptI; rw [HK.out, HXM.out]
        have hpb : PtB (crP ⟨ka, kb, kc⟩ ⟨xa, xb, xc⟩) := cr_pt (f := ⟨ka, kb, kc⟩) (g := ⟨xa, xb, xc⟩) HOK.out hox
        have hgd : gdI L k m = insB L (ptI L k m) := by unfold gdI; simp [hmk]
        rw [hpm] at hgd
        generalize crP ⟨ka, kb, kc⟩ ⟨xa, xb, xc⟩ = q at *
        obtain ⟨qa, qb, qc⟩ := q
        simp only at HC
        have HPM := Lib.hid hpm
        have HPB := Lib.hid hpb
        have HGD := Lib.hid hgd
        have HI := Lib.hid (fun W (h : Below w.heap.size w W) => spec_inside (some ⟨gk, ok, none⟩) n cap L qa qb qc W HL.out hn HO.out hpb (HA.out.below h))
        clear hx hcx hox hpm hpb hgd hmk
        go_wp2_with fail
        have r7 := tri_new wr (.int .i64 xa) (.int .i64 xb) (.int .i64 xc) 60
        have bX := below_bx2 hbel (.cells #[.int .i64 xa, .int .i64 xb, .int .i64 xc] 60)
        have rk := hck.to bX
        have H5 := Lib.hid (has3_to (below_one wr (.cells #[.int .i64 xa, .int .i64 xb, .int .i64 xc] 60)) H3.out)
        clear t1 t2 t3 p1 p2 p3 f1 f2 f3 l1 H3
        generalize wr.alloc (.cells #[.int .i64 xa, .int .i64 xb, .int .i64 xc] 60) = X at *
        generalize wr.heap.size = b7 at *
        go_cut [8] from 20 to 25 (fun s8 wx => LiesT 131 X qa qb qc s8 wx)
        case first =>
          obtain ⟨c1, c2, c3, c4, c5, c6⟩ := Tri.six (Below.refl _ _) rk r7
          go_region_held3 (fun w' => w'.cell? ⟨gk, ok + k * 3, none⟩ = some (.int .i64 ka) ∧ w'.cell? ⟨gk, ok + k * 3 + 1, none⟩ = some (.int .i64 kb) ∧ w'.cell? ⟨gk, ok + k * 3 + 2, none⟩ = some (.int .i64 kc) ∧ w'.cell? ⟨b7, 0, none⟩ = some (.int .i64 xa) ∧ w'.cell? ⟨b7, 1, none⟩ = some (.int .i64 xb) ∧ w'.cell? ⟨b7, 2, none⟩ = some (.int .i64 xc))
            ((refine Tri.six ?_ rk r7; repeat (first | exact Below.refl _ _ | refine Below.setCell ?_ (by first | (simp; done) | (simp; omega)) _ | refine below_bx2 ?_ _ | refine below_drw ?_ | refine below_to ?_ (by assumption))))
            ((go_at_call 112; (with_reducible refine (HC.out _).mono ?_); rintro e w3 ⟨rfl, bl3⟩; obtain ⟨hc3, hf3⟩ := bcl3 bl3; have hs3 := bl3.size; (try simp at hs3)))
          all_goals
            go_wp2_with fail
            go_meet
            refine ⟨_, rfl, ?_, ?_, ?_⟩
            · first | exact Nat.le_refl _ | omega | (simp; omega)
            · first
                | exact heap_alloc_new _ _
                | (refine heap_set3 (x := .int .i64 0) (y := .int .i64 0) (z := .int .i64 0) _ _ _ ?_
                   apply at_new3 (Z := .cells #[.int .i64 0, .int .i64 0, .int .i64 0] 131)
                   · repeat (first | exact Below.refl _ _ | refine below_bx2 ?_ _ | refine below_drw ?_ | refine below_to ?_ (by assumption))
                   · first | rfl | (simp; done))
            · repeat (first | exact Below.refl _ _ | refine Below.setCell ?_ (by first | (simp; done) | (simp; omega)) _ | refine below_bx2 ?_ _ | refine below_drw ?_ | refine below_to ?_ (by assumption))
        case rest =>
          obtain ⟨g8, rfl, hg8, hh8, hb8⟩ := hcut
          have bw := below_to bX hb8
          have h6 := has3_to hb8 H5.out
          have q8 : Tri wc g8 0 (.int .i64 qa) (.int .i64 qb) (.int .i64 qc) := ⟨cell_of_row _ _ _ _ _ _ hh8, cell_of_row _ _ _ _ _ _ hh8, cell_of_row _ _ _ _ _ _ hh8⟩
          have lw : w.heap.size < X.heap.size := block_lt_of_cell H5.out.1
          have hne8 : g8 ≠ w.heap.size := by omega
          have hne9 : w.heap.size ≠ g8 := by omega
          obtain ⟨s1, s2, s3⟩ := id q8
          clear hh8 hb8 bX rk r7 H5 hck
          go_wp2_with fail
          refine (HI.out _ bw).mono ?_
          rintro e w4 ⟨rfl, bl4⟩
          have b4 := below_to bw bl4
          have h4 := has3_to bl4 h6
          have q4 := q8.to bl4
          obtain ⟨p1, p2, p3, f1, f2, f3⟩ := id h4
          have H4 := Lib.hid h4
          obtain ⟨s4, s5, s6⟩ := q4
          clear bl4 bw h6 q8 s1 s2 s3 h4
          cases hin : insB L ⟨qa, qb, qc⟩ with
          | false =>
            have HS := Lib.hid (Fst.skip HF.out (show gdI L k m = false by rw [HGD.out, hin]))
            clear hin
            go_wp2
            go_roundw
            case rel => exact ⟨m + 1, ⟨pa, pb, pc⟩, by omega, by go_num, HS.out, HP.out, H4.out, b4⟩
            case measure => simp [intOf]; omega
          | true =>
            have HY := Lib.hid (show gdI L k m = true by rw [HGD.out, hin])
            clear hin
            by_cases hz : pc = 0
            · have HS := Lib.hid (Fst.first HF.out hz HY.out)
              rw [HPM.out] at HS
              subst hz
              go_wp2
              go_roundw
              case rel => exact ⟨m + 1, ⟨qa, qb, qc⟩, by omega, by go_num, HS.out, HPB.out, has3_put H4.out _ _ _, below_set3 _ _ _ b4 (Nat.le_refl _)⟩
              case measure => simp [intOf]; omega
            · have hzb : (pc == 0) = false := eq_b hz
              have HD := Lib.hid (fun W => spec_differ pa pb pc qa qb qc W HP.out HPB.out)
              cases hdf : difB ⟨pa, pb, pc⟩ ⟨qa, qb, qc⟩ with
              | true =>
                rw [hdf] at HD
                have HS := Lib.hid (Fst.found HL.out hlt HF.out hz HY.out (by rw [HPM.out]; exact hdf))
                clear hdf hz
                go_wp2_with (go_at_call 114; (with_reducible refine (HD.out _).mono ?_); rintro e w5 ⟨rfl, bl5⟩)
                go_ret
                exact ⟨ret_bool HS.out.symm, below_to b4 bl5⟩
              | false =>
                rw [hdf] at HD
                have HS := Lib.hid (Fst.next HF.out hz (by rw [HPM.out]; exact hdf))
                clear hdf hz
                go_wp2_with (go_at_call 114; (with_reducible refine (HD.out _).mono ?_); rintro e w5 ⟨rfl, bl5⟩)
                go_roundw
                case rel => exact ⟨m + 1, ⟨pa, pb, pc⟩, by omega, by go_num, HS.out, HP.out, has3_to bl5 H4.out, below_to b4 bl5⟩
                case measure => simp [intOf]; omega
    · have hkn : m = n := by omega
      subst hkn
      have HN := Lib.hid (Fst.none HL.out HF.out)
      go_wp2
      go_ret
      exact ⟨ret_bool HN.out.symm, hbel⟩

/-- how many half planes of a sorted list come before h -/
def posS (L : List H3) (h : H3) : Nat := (L.takeWhile (fun x => Geo.bef x h)).length
theorem pos_cons_t {x h : H3} {L : List H3} (b : Geo.bef x h = true) : posS (x :: L) h = posS L h + 1 := by unfold posS; rw [List.takeWhile_cons, if_pos b]; rfl
theorem pos_cons_f {x h : H3} {L : List H3} (b : Geo.bef x h = false) : posS (x :: L) h = 0 := by unfold posS; rw [List.takeWhile_cons, if_neg (by rw [b]; simp)]; rfl
theorem pos_le (L : List H3) (h : H3) : posS L h ≤ L.length := (List.takeWhile_sublist _).length_le
theorem pos_lt {L : List H3} {h x : H3} {i : Nat} (hi : i < posS L h) (hx : L[i]? = some x) : Geo.bef x h = true := by
  induction L generalizing i with
  | nil => simp at hx
  | cons y L ih =>
    cases b : Geo.bef y h with
    | false => rw [pos_cons_f b] at hi; omega
    | true =>
      rw [pos_cons_t b] at hi
      cases i with
      | zero => simp at hx; subst hx; exact b
      | succ i => exact ih (i := i) (by omega) (by simpa using hx)
theorem pos_at {L : List H3} {h x : H3} (hx : L[posS L h]? = some x) : Geo.bef x h = false := by
  induction L with
  | nil => simp [posS] at hx
  | cons y L ih =>
    cases b : Geo.bef y h with
    | false => rw [pos_cons_f b] at hx; simp at hx; subst hx; exact b
    | true => rw [pos_cons_t b] at hx; exact ih (by simpa using hx)
theorem ins_set {L : List H3} {h x : H3} (hx : L[posS L h]? = some x) (s : Geo.sd x h = true) : Geo.insS L h = L.set (posS L h) (Geo.tig x h) := by
  induction L with
  | nil => simp [posS] at hx
  | cons y L ih =>
    unfold Geo.insS
    cases b : Geo.bef y h with
    | false => rw [pos_cons_f b] at hx ⊢; simp at hx; subst hx; simp [s]
    | true => rw [pos_cons_t b] at hx ⊢; simp only [if_true, List.set_cons_succ]; rw [ih (by simpa using hx)]
theorem ins_ins {L : List H3} {h : H3} (n : ∀ x, L[posS L h]? = some x → Geo.sd x h = false) : Geo.insS L h = L.take (posS L h) ++ h :: L.drop (posS L h) := by
  induction L with
  | nil => simp [Geo.insS, posS]
  | cons y L ih =>
    unfold Geo.insS
    cases b : Geo.bef y h with
    | false => rw [pos_cons_f b] at n ⊢; simp [n y (by simp)]
    | true => rw [pos_cons_t b] at n ⊢; simp only [if_true, List.take_succ_cons, List.drop_succ_cons, List.cons_append]; rw [ih (fun x hx => n x (by simpa using hx))]
/-- the tail moved up as far as place j -/
def upT (L : List H3) (j : Nat) : List H3 := (L ++ [zeroH]).take (j + 1) ++ L.drop j
theorem upT_start (L : List H3) (n : Nat) (h : L.length = n) : upT L n = L ++ [zeroH] := by
  unfold upT; rw [List.take_of_length_le (by simp; omega), List.drop_of_length_le (by omega), List.append_nil]
theorem upT_at {L : List H3} {j : Nat} (h : j < L.length) : (upT L (j + 1))[j]? = some L[j] ∧ (upT L (j + 1)).set (j + 1) L[j] = upT L j := by
  unfold upT
  have e1 : (L ++ [zeroH]).take (j + 1) = L.take (j + 1) := List.take_append_of_le_length (by omega)
  have e2 : (L ++ [zeroH]).take (j + 1 + 1) = L.take (j + 1) ++ [((L ++ [zeroH])[j + 1]'(by simp; omega))] := by
    rw [List.take_add_one, e1, List.getElem?_eq_getElem (by simp; omega)]; rfl
  have hl : (L.take (j + 1)).length = j + 1 := by rw [List.length_take]; omega
  constructor
  · rw [e2, List.append_assoc, List.getElem?_append_left (by omega), List.getElem?_take, if_pos (by omega), List.getElem?_eq_getElem h]
  · rw [e2, e1, List.append_assoc, List.set_append_right _ _ (by omega), hl, Nat.sub_self, List.drop_eq_getElem_cons h]
    rfl
theorem upT_end {L : List H3} {p : Nat} (x : H3) (h : p ≤ L.length) : (upT L p).set p x = L.take p ++ x :: L.drop p := by
  unfold upT
  have e2 : (L ++ [zeroH]).take (p + 1) = L.take p ++ [((L ++ [zeroH])[p]'(by simp; omega))] := by
    rw [List.take_add_one, List.take_append_of_le_length h, List.getElem?_eq_getElem (by simp; omega)]; rfl
  have hl : (L.take p).length = p := by rw [List.length_take]; omega
  rw [e2, List.append_assoc, List.set_append_right _ _ (by omega), hl, Nat.sub_self]; rfl
theorem upT_len {L : List H3} {j : Nat} (h : j ≤ L.length) : (upT L j).length = L.length + 1 := by
  unfold upT; simp; omega
theorem sbef_call {a b c x y d : Int} {r : Bool} (h : okH a b c = true) (k : okH x y d = true) (e : befV a b x y = r) (W : World) :
    Calls Try.prog 109 #[.agg #[.int .i64 a, .int .i64 b, .int .i64 c], .agg #[.int .i64 x, .int .i64 y, .int .i64 d]] W fun e w' => e = .returned (.bool r) ∧ Below W.heap.size W w' := by
  obtain ⟨⟨a1, a2⟩, ⟨b1, b2⟩, c1, c2⟩ := half_in h
  obtain ⟨⟨x1, x2⟩, ⟨y1, y2⟩, d1, d2⟩ := half_in k
  have := spec_bef a b c x y d W a1 a2 b1 b2 c1 c2 x1 x2 y1 y2 d1 d2
  rw [show befH a b c x y d = r by unfold befH; rw [h, k, e]; rfl] at this
  exact this
theorem ssd_call {a b c x y d : Int} {r : Bool} (h : okH a b c = true) (k : okH x y d = true) (e : sdV a b x y = r) (W : World) :
    Calls Try.prog 110 #[.agg #[.int .i64 a, .int .i64 b, .int .i64 c], .agg #[.int .i64 x, .int .i64 y, .int .i64 d]] W fun e w' => e = .returned (.bool r) ∧ Below W.heap.size W w' := by
  obtain ⟨⟨a1, a2⟩, ⟨b1, b2⟩, c1, c2⟩ := half_in h
  obtain ⟨⟨x1, x2⟩, ⟨y1, y2⟩, d1, d2⟩ := half_in k
  have := spec_sd a b c x y d W a1 a2 b1 b2 c1 c2 x1 x2 y1 y2 d1 d2
  rw [show sdH a b c x y d = r by unfold sdH; rw [h, k, e]; rfl] at this
  exact this
theorem stig_call {a b c x y d : Int} (h : okH a b c = true) (k : okH x y d = true) (e : sdV a b x y = true) (W : World) :
    Calls Try.prog 111 #[.agg #[.int .i64 a, .int .i64 b, .int .i64 c], .agg #[.int .i64 x, .int .i64 y, .int .i64 d]] W fun e w' => e = .returned (.agg #[.int .i64 (Geo.tig ⟨a, b, c⟩ ⟨x, y, d⟩).a, .int .i64 (Geo.tig ⟨a, b, c⟩ ⟨x, y, d⟩).b, .int .i64 (Geo.tig ⟨a, b, c⟩ ⟨x, y, d⟩).c]) ∧ Below W.heap.size W w' := by
  obtain ⟨⟨a1, a2⟩, ⟨b1, b2⟩, c1, c2⟩ := half_in h
  obtain ⟨⟨x1, x2⟩, ⟨y1, y2⟩, d1, d2⟩ := half_in k
  have := spec_tig a b c x y d W a1 a2 b1 b2 c1 c2 x1 x2 y1 y2 d1 d2
  have hs : sdH a b c x y d = true := by unfold sdH; rw [h, k, e]; rfl
  have ht : tigH a b c x y d = .agg #[.int .i64 (Geo.tig ⟨a, b, c⟩ ⟨x, y, d⟩).a, .int .i64 (Geo.tig ⟨a, b, c⟩ ⟨x, y, d⟩).b, .int .i64 (Geo.tig ⟨a, b, c⟩ ⟨x, y, d⟩).c] := by
    unfold tigH Geo.tig Geo.len lenH
    rw [if_pos hs]
    simp only
    split <;> rfl
  rw [ht] at this
  exact this
theorem sd_V (f g : H3) : Geo.sd f g = sdV f.a f.b g.a g.b := rfl

theorem srt_ok {hs : List H3} (h : hs.all okB = true) : ∀ x ∈ Geo.srt hs, okB x = true := by
  have s := Geo.srt_srt hs fun x hx => okB_nz (List.all_eq_true.1 h x hx)
  exact fun x hx => List.all_eq_true.1 h x (s.2.1 x hx)
theorem srt_next {hs : List H3} {k : Nat} {x : H3} (h : hs[k]? = some x) : Geo.srt (hs.take (k + 1)) = Geo.insS (Geo.srt (hs.take k)) x := by
  unfold Geo.srt; rw [List.take_add_one, h, List.foldl_append]; rfl
theorem insS_len (L : List H3) (h : H3) : (Geo.insS L h).length ≤ L.length + 1 := by
  induction L with
  | nil => simp [Geo.insS]
  | cons x L ih => unfold Geo.insS; split
                   · simp only [List.length_cons]; omega
                   · split <;> simp
theorem srt_len (hs : List H3) : (Geo.srt hs).length ≤ hs.length := by
  have key : ∀ (l E : List H3), (l.foldl Geo.insS E).length ≤ E.length + l.length := by
    intro l
    induction l with
    | nil => intro E; simp
    | cons h l ih => intro E; have := ih (Geo.insS E h); have := insS_len E h; simp only [List.foldl_cons, List.length_cons]; omega
  have := key hs []; simpa [Geo.srt] using this
theorem own3_empty (w : World) (B : Nat) (hB : B ≤ w.heap.size) : (w.alloc (.cells #[] 60)).ownsRow B 60 3 (.slice (some ⟨w.heap.size, 0, none⟩) 0 0) 0 (flat []) :=
  own3_new w B 60 [] 0 #[] rfl rfl (Nat.zero_le _) hB
set_option maxRecDepth 100000 in
set_option maxHeartbeats 8000000 in
theorem spec_sorted (a : Option Addr) (n cap : Nat) (hs : List H3) (w : World) (hl : hs.length = n) (hn : n ≤ 900) (hok : hs.all okB = true) (hA : HsAt w a hs) :
    Calls Try.prog 102 #[.slice a n cap] w (CutW w w.heap.size (Geo.srt hs)) := by
  obtain ⟨i0, hi, hz0, hz1, hz2⟩ := info_parts Try.info34
  have HL := Lib.hid hl
  have HA := Lib.hid hA
  have HOK := Lib.hid hok
  clear hl hA hok
  go_enter Try.func102, Try.ntmps102
  go_wp2
  have bV := below_one w (.cells #[] 60)
  have HV := Lib.hid (own3_empty w w.heap.size (Nat.le_refl _))
  generalize w.alloc (.cells #[] 60) = V at *
  go_loopw [3, 11] (fun v i wr => ∃ (k m g cp : Nat), k ≤ n ∧ i = .int .i64 k ∧ v = .slice (some ⟨g, 0, none⟩) m cp ∧ wr.ownsRow w.heap.size 60 3 (.slice (some ⟨g, 0, none⟩) m cp) m (flat (Geo.srt (hs.take k))) ∧ Below w.heap.size w wr) (fun _ i _ => n - (intOf i).toNat)
  case atStart => exact ⟨0, 0, w.heap.size, 0, Nat.zero_le _, rfl, rfl, HV.out, bV⟩
  case round =>
    obtain ⟨k, m, g, cp, hk, rfl, rfl, hov, hbel⟩ := hrel
    have H0 := Lib.hid hov
    have hm := (own3_view hov).1
    have hm2 := srt_len (hs.take k)
    rw [hm, List.length_take] at hm2
    have hgl := (own_free hov 0).2
    clear hov
    by_cases hlt : k < n
    · obtain ⟨⟨xa, xb, xc⟩, hx⟩ : ∃ x, hs[k]? = some x := ⟨_, List.getElem?_eq_getElem (by rw [HL.out]; exact hlt)⟩
      have hox : okH xa xb xc = true := List.all_eq_true.1 HOK.out _ (List.mem_of_getElem? hx)
      have HX := Lib.hid (srt_next hx)
      have hLok := srt_ok (take_ok HOK.out k)
      obtain ⟨g', o', rfl, hcx⟩ := HA.out k _ hx
      obtain ⟨t1, t2, t3⟩ := hcx.to hbel
      have l1 := block_lt_of_cell t1
      simp only at t1 t2 t3 l1
      generalize hLe : Geo.srt (hs.take k) = L at *
      have HM := Lib.hid hm
      have HLO := Lib.hid hLok
      have HOX := Lib.hid hox
      have hpl := pos_le L ⟨xa, xb, xc⟩
      rw [hm] at hpl
      obtain ⟨p, hp⟩ : ∃ p, posS L ⟨xa, xb, xc⟩ = p := ⟨_, rfl⟩
      rw [hp] at hpl
      have HPS := Lib.hid hp
      clear hx hcx hm hLok hox hLe hp
      go_wp2
      have r5 := tri_new wr (.int .i64 xa) (.int .i64 xb) (.int .i64 xc) 60
      have bX := below_bx2 hbel (.cells #[.int .i64 xa, .int .i64 xb, .int .i64 xc] 60)
      have H1 := Lib.hid (own_below H0.out (below_one wr (.cells #[.int .i64 xa, .int .i64 xb, .int .i64 xc] 60)))
      clear t1 t2 t3 H0
      generalize wr.alloc (.cells #[.int .i64 xa, .int .i64 xb, .int .i64 xc] 60) = X at *
      obtain ⟨b5, hb5⟩ : ∃ b, wr.heap.size = b := ⟨_, rfl⟩
      rw [hb5] at r5 hgl ⊢
      clear hb5
      go_loopw [6] (fun t wy => ∃ q : Nat, q ≤ p ∧ t = .int .i64 q ∧ Below X.heap.size X wy) (fun t _ => p - (intOf t).toNat)
      case atStart => exact ⟨0, Nat.zero_le _, rfl, Below.refl _ _⟩
      case round =>
        obtain ⟨q, hq, rfl, hby⟩ := hrel
        have H2 := Lib.hid (own_below H1.out hby)
        have r6 := r5.to hby
        have bw := below_to bX hby
        by_cases hqp : q < p
        · have hqm : q < m := by omega
          have hqi : (q : Int) < (m : Int) := by omega
          obtain ⟨⟨ya, yb, yc⟩, hy, c1, c2, c3, f1, f2, f3, _, _⟩ := own3_at H2.out hqm
          have hbf : befV ya yb xa xb = true := by
            have := pos_lt (h := ⟨xa, xb, xc⟩) (by rw [HPS.out]; exact hqp) hy
            rwa [bef_V] at this
          have HB := Lib.hid (fun W => sbef_call (HLO.out _ (List.mem_of_getElem? hy)) HOX.out hbf W)
          have ry : Tri wr g (q * 3) (.int .i64 ya) (.int .i64 yb) (.int .i64 yc) := ⟨c1, c2, c3⟩
          obtain ⟨d1, d2, d3⟩ := id r6
          simp only at c1 c2 c3 HB
          clear hy hbf f1 f2 f3
          go_wp2_with fail
          go_region_held3 (fun w' => w'.cell? ⟨g, q * 3, none⟩ = some (.int .i64 ya) ∧ w'.cell? ⟨g, q * 3 + 1, none⟩ = some (.int .i64 yb) ∧ w'.cell? ⟨g, q * 3 + 2, none⟩ = some (.int .i64 yc) ∧ w'.cell? ⟨b5, 0, none⟩ = some (.int .i64 xa) ∧ w'.cell? ⟨b5, 1, none⟩ = some (.int .i64 xb) ∧ w'.cell? ⟨b5, 2, none⟩ = some (.int .i64 xc))
            ((refine Tri.six ?_ ry r6; repeat (first | exact Below.refl _ _ | refine below_drw ?_ | refine below_to ?_ (by assumption))))
            ((go_at_call 109; (with_reducible refine (HB.out _).mono ?_); rintro e w3 ⟨rfl, bl3⟩))
          all_goals
            go_wp2
            go_roundw
            case rel => exact ⟨q + 1, by omega, by go_num, below_to (below_to (below_drw hby) bl3) (Below.refl _ _)⟩
            case measure => simp [intOf]; omega
        · have hqe : q = p := by omega
          subst hqe
          by_cases hqm : q < m
          · have hqi : (q : Int) < (m : Int) := by omega
            obtain ⟨⟨ya, yb, yc⟩, hy, c1, c2, c3, f1, f2, f3, _, _⟩ := own3_at H2.out hqm
            have hbf : befV ya yb xa xb = false := by
              have := pos_at (L := L) (h := ⟨xa, xb, xc⟩) (x := ⟨ya, yb, yc⟩) (by rw [HPS.out]; exact hy)
              rwa [bef_V] at this
            have hyo : okH ya yb yc = true := HLO.out _ (List.mem_of_getElem? hy)
            have HB := Lib.hid (fun W => sbef_call hyo HOX.out hbf W)
            have HYO := Lib.hid hyo
            have HY := Lib.hid hy
            have ry : Tri wr g (q * 3) (.int .i64 ya) (.int .i64 yb) (.int .i64 yc) := ⟨c1, c2, c3⟩
            obtain ⟨d1, d2, d3⟩ := id r6
            simp only at c1 c2 c3
            clear hy hbf f1 f2 f3 hyo
            go_wp2_with fail
            go_region_held3 (fun w' => w'.cell? ⟨g, q * 3, none⟩ = some (.int .i64 ya) ∧ w'.cell? ⟨g, q * 3 + 1, none⟩ = some (.int .i64 yb) ∧ w'.cell? ⟨g, q * 3 + 2, none⟩ = some (.int .i64 yc) ∧ w'.cell? ⟨b5, 0, none⟩ = some (.int .i64 xa) ∧ w'.cell? ⟨b5, 1, none⟩ = some (.int .i64 xb) ∧ w'.cell? ⟨b5, 2, none⟩ = some (.int .i64 xc))
              ((refine Tri.six ?_ ry r6; repeat (first | exact Below.refl _ _ | refine below_drw ?_ | refine below_to ?_ (by assumption))))
              ((go_at_call 109; (with_reducible refine (HB.out _).mono ?_); rintro e w3 ⟨rfl, bl3⟩))
            have bl4 := below_to (below_drw (Below.refl _ _)) bl3
            have ry' := ry.to bl4
            have r7 := r6.to bl4
            have H3 := Lib.hid (own_below H2.out bl4)
            have bw4 := below_to bw bl4
            clear bl3 bl4 ry r6 H2 c1 c2 c3 d1 d2 d3 bw HB
            obtain ⟨c1, c2, c3⟩ := id ry'
            obtain ⟨d1, d2, d3⟩ := id r7
            go_wp2_with fail
            cases hsd : sdV ya yb xa xb with
            | true =>
              have HS := Lib.hid (fun W => ssd_call HYO.out HOX.out hsd W)
              have HT := Lib.hid (fun W => stig_call HYO.out HOX.out hsd W)
              have HE := Lib.hid (ins_set (L := L) (h := ⟨xa, xb, xc⟩) (x := ⟨ya, yb, yc⟩) (by rw [HPS.out]; exact HY.out) (by rw [sd_V]; exact hsd))
              rw [HPS.out] at HE
              clear hsd
              go_region_held3 (fun w' => w'.cell? ⟨g, q * 3, none⟩ = some (.int .i64 ya) ∧ w'.cell? ⟨g, q * 3 + 1, none⟩ = some (.int .i64 yb) ∧ w'.cell? ⟨g, q * 3 + 2, none⟩ = some (.int .i64 yc) ∧ w'.cell? ⟨b5, 0, none⟩ = some (.int .i64 xa) ∧ w'.cell? ⟨b5, 1, none⟩ = some (.int .i64 xb) ∧ w'.cell? ⟨b5, 2, none⟩ = some (.int .i64 xc))
                ((refine Tri.six ?_ ry' r7; repeat (first | exact Below.refl _ _ | refine below_drw ?_ | refine below_to ?_ (by assumption))))
                ((go_at_call 110; (with_reducible refine (HS.out _).mono ?_); rintro e w5 ⟨rfl, bl5⟩))
              have bl6 := below_to (below_drw (Below.refl _ _)) bl5
              have ry6 := ry'.to bl6
              have r8 := r7.to bl6
              have H5 := Lib.hid (own_below H3.out bl6)
              have bw5 := below_to bw4 bl6
              obtain ⟨c1, c2, c3⟩ := id ry6
              obtain ⟨d1, d2, d3⟩ := id r8
              generalize Geo.tig ⟨ya, yb, yc⟩ ⟨xa, xb, xc⟩ = tg at *
              clear HS bl5 bl6 ry' r7 H3 bw4
              go_wp2_with fail
              go_region_law (first | (go_simp; go_at_call 111; (with_reducible refine (HT.out _).mono ?_); rintro e w6 ⟨rfl, bl6⟩; have H6 := Lib.hid (own_below H5.out (below_to (below_drw (Below.refl _ _)) bl6)); obtain ⟨v6, _, e1, e2, e3, f1, f2, f3, hgB, hgl6⟩ := own3_at H6.out hqm))
              all_goals
                have HQ := Lib.hid (own3_put H6.out q tg)
                have bw6 := below_to (below_drw bw5) bl6
                clear e1 e2 e3 f1 f2 f3 H6 H5 bw5 bl6 c1 c2 c3 d1 d2 d3 ry6 r8
                go_wp2
                go_roundw
                case rel => exact ⟨k + 1, m, g, cp, by omega, by go_num, rfl, by rw [HX.out, HE.out]; exact HQ.out, below_row (below_row (below_row bw6 hgB _) hgB _) hgB _⟩
                case measure => simp [intOf]; omega
            | false =>
              have HS := Lib.hid (fun W => ssd_call HYO.out HOX.out hsd W)
              have HEI := Lib.hid (ins_ins (L := L) (h := ⟨xa, xb, xc⟩) (by rw [HPS.out, HY.out]; intro x hx; rw [← Option.some.inj hx, sd_V]; exact hsd))
              rw [HPS.out] at HEI
              clear hsd
              go_region_held3 (fun w' => w'.cell? ⟨g, q * 3, none⟩ = some (.int .i64 ya) ∧ w'.cell? ⟨g, q * 3 + 1, none⟩ = some (.int .i64 yb) ∧ w'.cell? ⟨g, q * 3 + 2, none⟩ = some (.int .i64 yc) ∧ w'.cell? ⟨b5, 0, none⟩ = some (.int .i64 xa) ∧ w'.cell? ⟨b5, 1, none⟩ = some (.int .i64 xb) ∧ w'.cell? ⟨b5, 2, none⟩ = some (.int .i64 xc))
                ((refine Tri.six ?_ ry' r7; repeat (first | exact Below.refl _ _ | refine below_drw ?_ | refine below_to ?_ (by assumption))))
                ((go_at_call 110; (with_reducible refine (HS.out _).mono ?_); rintro e W ⟨rfl, bl5⟩))
              have bl6 := below_to (below_drw (Below.refl _ _)) bl5
              have rW := r7.to bl6
              have HW := Lib.hid (own_below H3.out bl6)
              have bwW := below_to bw4 bl6
              clear HS bl5 bl6 ry' r7 H3 bw4 c1 c2 c3 d1 d2 d3 HYO HY
              have lb5 := block_lt_of_cell rW.1
              simp only at lb5
              have RW := Lib.hid rW
              obtain ⟨d1, d2, d3⟩ := rW
              have n5 : some b5 ≠ (Value.slice (some ⟨g, 0, none⟩) m cp).ownBlock := by simp [Value.ownBlock]; omega
              go_wp2_with (at_builtin; refine wpList_append_lies _ rfl _ _ 54 rfl w.heap.size 60 i0 (.agg #[.int .i64 0, .int .i64 0, .int .i64 0]) 3 24 Try.underlying54 hi hz0 hz1 hz2 rfl (by decide) (.slice (some ⟨g, 0, none⟩) m cp) m _ rfl (own_below HW.out (below_one _ _)) ⟨W.heap.size, 0, none⟩ 1 1 [.int .i64 0, .int .i64 0, .int .i64 0] rfl rfl (World.news_of_block (cs := #[.int .i64 0, .int .i64 0, .int .i64 0]) (t := 60) (fr := (0, 0)) (heap_alloc_new W _)) (by simp [Value.oneCell']) (by omega) (by unfold maxLen; omega) (by omega) (by have := bwW.size; simp; omega) _ rfl ?_; intro gg cap' w7 hown7 hgrow hat hlt7; have r8 := (RW.out.to (below_one _ _)).far hgrow n5; have b7 : Below w.heap.size w w7 := (Below.grown (below_bx2 bwW _) hgrow (by have := bwW.size; simp; omega) (fun p hp => own_base_le HW.out hp)); have H7 := Lib.hid hown7; have hgn : gg ≠ b5 := (by rcases hat with h | h <;> simp [Value.ownBlock] at h <;> omega); have R8 := Lib.hid r8; clear hown7 hgrow hat r8 d1 d2 d3)
              have H8 := Lib.hid (show w7.ownsRow w.heap.size 60 3 (.slice (some ⟨gg, 0, none⟩) (m + 1) cap') (m + 1) (flat (upT L m)) by
                rw [upT_start L m HM.out, flat_app]; exact H7.out)
              clear H7 HW RW n5
              go_loopw [7] (fun t wz => ∃ j : Nat, q ≤ j ∧ j ≤ m ∧ t = .int .i64 j ∧ wz.ownsRow w.heap.size 60 3 (.slice (some ⟨gg, 0, none⟩) (m + 1) cap') (m + 1) (flat (upT L j)) ∧ Tri wz b5 0 (.int .i64 xa) (.int .i64 xb) (.int .i64 xc) ∧ Below w.heap.size w wz) (fun t _ => (intOf t).toNat)
              case atStart => exact ⟨m, hpl, Nat.le_refl _, by go_num, H8.out, R8.out, b7⟩
              case round =>
                obtain ⟨j, hj1, hj2, rfl, hoz, rz, hbz⟩ := hrel
                have HZ := Lib.hid hoz
                have hgB := (own_free hoz 0).2.1
                clear hoz
                by_cases hqj : q < j
                · obtain ⟨i, rfl⟩ : ∃ i, j = i + 1 := ⟨j - 1, by omega⟩
                  have hil : i < L.length := by rw [HM.out]; omega
                  obtain ⟨v1, hv1, c1, c2, c3, _, _, _, _, _⟩ := own3_at HZ.out (show i < m + 1 by omega)
                  obtain ⟨v2, _, e1, e2, e3, f1, f2, f3, _, hgl2⟩ := own3_at HZ.out (show i + 1 < m + 1 by omega)
                  rw [(upT_at hil).1] at hv1
                  obtain rfl := Option.some.inj hv1
                  have HU := Lib.hid (upT_at hil).2
                  have HQ := Lib.hid (own3_put HZ.out (i + 1) L[i])
                  have s1 : ((i : Int) + 1 - 1) = (i : Int) := by omega
                  have s2 : ((i + 1 : Nat) : Int) - 1 = (i : Int) := by omega
                  generalize L[i] = u at *
                  clear hv1
                  go_wp2
                  go_roundw
                  case rel => exact ⟨i, by omega, by omega, by go_num, by rw [← HU.out]; exact HQ.out, tri_far (tri_far (tri_far rz hgn _) hgn _) hgn _, below_row (below_row (below_row hbz hgB _) hgB _) hgB _⟩
                  case measure => simp [intOf]
                · obtain rfl : j = q := by omega
                  obtain ⟨v2, _, e1, e2, e3, f1, f2, f3, _, hgl2⟩ := own3_at HZ.out (show j < m + 1 by omega)
                  have HU := Lib.hid (upT_end (p := j) (⟨xa, xb, xc⟩ : Geo.H3) (show j ≤ L.length by rw [HM.out]; exact hpl))
                  have HQ := Lib.hid (own3_put HZ.out j ⟨xa, xb, xc⟩)
                  obtain ⟨d1, d2, d3⟩ := id rz
                  go_wp2
                  go_roundw
                  case rel => exact ⟨k + 1, m + 1, gg, cap', by omega, by go_num, rfl, by rw [HX.out, HEI.out, ← HU.out]; exact HQ.out, below_row (below_row (below_row hbz hgB _) hgB _) hgB _⟩
                  case measure => simp [intOf]; omega
          · obtain rfl : q = m := by omega
            have HEI := Lib.hid (ins_ins (L := L) (h := ⟨xa, xb, xc⟩) (by rw [HPS.out, List.getElem?_eq_none (by rw [HM.out]; omega)]; intro x hx; cases hx))
            rw [HPS.out] at HEI
            have hgf : decide (q < q) = false := by simp
            go_wp2_with fail
            go_quiet (fail)
            have r7 : Tri (wr.drewN nq) b5 0 (.int .i64 xa) (.int .i64 xb) (.int .i64 xc) := r6
            have H3 := Lib.hid (own_drewN H2.out nq)
            have bw4 : Below w.heap.size w (wr.drewN nq) := below_drew bw _
            generalize wr.drewN nq = W1 at *
            clear r6 H2 bw hby
            go_wp2_with fail
            go_quiet (fail)
            have rW : Tri (W1.drewN nq) b5 0 (.int .i64 xa) (.int .i64 xb) (.int .i64 xc) := r7
            have HW := Lib.hid (own_drewN H3.out nq)
            have bwW : Below w.heap.size w (W1.drewN nq) := below_drew bw4 _
            generalize W1.drewN nq = W at *
            clear r7 H3 bw4 hgf
            have lb5 := block_lt_of_cell rW.1
            simp only at lb5
            have RW := Lib.hid rW
            obtain ⟨d1, d2, d3⟩ := rW
            have n5 : some b5 ≠ (Value.slice (some ⟨g, 0, none⟩) q cp).ownBlock := by simp [Value.ownBlock]; omega
            go_wp2_with (at_builtin; refine wpList_append_lies _ rfl _ _ 54 rfl w.heap.size 60 i0 (.agg #[.int .i64 0, .int .i64 0, .int .i64 0]) 3 24 Try.underlying54 hi hz0 hz1 hz2 rfl (by decide) (.slice (some ⟨g, 0, none⟩) q cp) q _ rfl (own_below HW.out (below_one _ _)) ⟨W.heap.size, 0, none⟩ 1 1 [.int .i64 0, .int .i64 0, .int .i64 0] rfl rfl (World.news_of_block (cs := #[.int .i64 0, .int .i64 0, .int .i64 0]) (t := 60) (fr := (0, 0)) (heap_alloc_new W _)) (by simp [Value.oneCell']) (by omega) (by unfold maxLen; omega) (by omega) (by have := bwW.size; simp; omega) _ rfl ?_; intro gg cap' w7 hown7 hgrow hat hlt7; have r8 := (RW.out.to (below_one _ _)).far hgrow n5; have b7 : Below w.heap.size w w7 := (Below.grown (below_bx2 bwW _) hgrow (by have := bwW.size; simp; omega) (fun p hp => own_base_le HW.out hp)); have H7 := Lib.hid hown7; have hgn : gg ≠ b5 := (by rcases hat with h | h <;> simp [Value.ownBlock] at h <;> omega); have R8 := Lib.hid r8; clear hown7 hgrow hat r8 d1 d2 d3)
            have H8 := Lib.hid (show w7.ownsRow w.heap.size 60 3 (.slice (some ⟨gg, 0, none⟩) (q + 1) cap') (q + 1) (flat (upT L q)) by
              rw [upT_start L q HM.out, flat_app]; exact H7.out)
            clear H7 HW RW n5
            go_loopw [7] (fun t wz => ∃ j : Nat, q ≤ j ∧ j ≤ q ∧ t = .int .i64 j ∧ wz.ownsRow w.heap.size 60 3 (.slice (some ⟨gg, 0, none⟩) (q + 1) cap') (q + 1) (flat (upT L j)) ∧ Tri wz b5 0 (.int .i64 xa) (.int .i64 xb) (.int .i64 xc) ∧ Below w.heap.size w wz) (fun t _ => (intOf t).toNat)
            case atStart => exact ⟨q, hpl, Nat.le_refl _, by go_num, H8.out, R8.out, b7⟩
            case round =>
              obtain ⟨j, hj1, hj2, rfl, hoz, rz, hbz⟩ := hrel
              have HZ := Lib.hid hoz
              have hgB := (own_free hoz 0).2.1
              clear hoz
              by_cases hqj : q < j
              · exact absurd hqj (by omega)
              · obtain rfl : j = q := by omega
                obtain ⟨v2, _, e1, e2, e3, f1, f2, f3, _, hgl2⟩ := own3_at HZ.out (show j < j + 1 by omega)
                have HU := Lib.hid (upT_end (p := j) (⟨xa, xb, xc⟩ : Geo.H3) (show j ≤ L.length by rw [HM.out]; exact hpl))
                have HQ := Lib.hid (own3_put HZ.out j ⟨xa, xb, xc⟩)
                obtain ⟨d1, d2, d3⟩ := id rz
                go_wp2
                go_roundw
                case rel => exact ⟨k + 1, j + 1, gg, cap', by omega, by go_num, rfl, by rw [HX.out, HEI.out, ← HU.out]; exact HQ.out, below_row (below_row (below_row hbz hgB _) hgB _) hgB _⟩
                case measure => simp [intOf]; omega
    · have hkn : k = n := by omega
      subst hkn
      clear hm
      go_wp2
      go_ret
      have := H0.out
      rw [List.take_of_length_le (by rw [HL.out]; omega)] at this
      exact CutW.same this hbel
end Go.Proofs.Ytibkmhmeoelpdaa
