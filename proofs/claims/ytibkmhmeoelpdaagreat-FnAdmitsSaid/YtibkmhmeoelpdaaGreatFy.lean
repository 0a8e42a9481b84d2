/- A state lies in PreRegion exactly if some input leads it, after the map, into the robust part (no calls). How far a region reaches beyond the edges of another (no calls). LossOf of the program, over the translation. LossOf of the program, over the translation: the loop over the edges. The inputs that a region's half planes admit at a state: bounds as fractions, one half plane after the other (no calls). -/
import Derived.Test.YtibkmhmeoelpdaaGreatBg
import Derived.Test.YtibkmhmeoelpdaaGreatDt
import Derived.Test.YtibkmhmeoelpdaaGreatMo
import Derived.Test.YtibkmhmeoelpdaaGreatYz
import Derived.Test.YtibkmhmeoelpdaaGreatFg
import Derived.Test.YtibkmhmeoelpdaaGreatHq
namespace Go.Proofs.YtibkmhmeoelpdaaGreat
open Go.RowKit
open Geo (H3)

/-- the points of a region that half planes make -/
theorem reg_pt {hs : List H3} (ok : hs.all okB = true) (n : regL hs ≠ []) {X Y W : Int} (w : 0 < W) (fr : ∀ g ∈ Geo.frame, Geo.val g X Y W ≤ 0) : (∀ g ∈ regL hs, Geo.val g X Y W ≤ 0) ↔ ∀ g ∈ hs, Geo.val g X Y W ≤ 0 := by
  constructor
  · intro k g hg
    exact reg_imp ok n w k g (List.mem_append_right _ hg)
  · intro k g hg
    rcases List.mem_append.1 (reg_sub ok g hg) with m | m
    · exact fr g m
    · exact k g m
theorem pbk_pt {ps : List H3} {zs : List Int} {q : Int} (b : pbkB ps zs q = true) (n : pbkL ps zs q ≠ []) {X Y W : Int} (w : 0 < W) (fr : ∀ g ∈ Geo.frame, Geo.val g X Y W ≤ 0) :
    0 < q ∧ ps ≠ [] ∧ ((∀ g ∈ pbkL ps zs q, Geo.val g X Y W ≤ 0) ↔ ∀ e ∈ ps, Geo.val e (zg zs 0 * X + zg zs 1 * Y) (zg zs 2 * X + zg zs 3 * Y) (q * W) ≤ 0) := by
  unfold pbkB at b
  rw [Bool.and_eq_true] at b
  obtain ⟨c, m⟩ := b
  have q1 : 0 < q := by
    have cp := c
    unfold pbkC mapB at cp
    simp only [Bool.and_eq_true] at cp
    have := cp.1.1.1.2
    unfold inB at this
    simp at this
    omega
  rw [(pbk_yes c).1] at n ⊢
  have np : ps ≠ [] := by
    intro e
    exact n (mv_nil e).1
  obtain ⟨a, eL, ok, _⟩ := mv_facts np m
  rw [List.nil_append] at eL ok
  rw [eL] at n ⊢
  refine ⟨q1, np, ?_⟩
  rw [reg_pt ok n w fr, List.forall_mem_map]
  refine forall_congr' fun e => forall_congr' fun he => ?_
  obtain ⟨g, hg, hv⟩ := red_parts (List.all_eq_true.1 a e he)
  rw [← scale_le hg, show Geo.val (pbM zs q e) X Y W * g = _ from (hv X Y W).symm]
  have : (e.a * zg zs 0 + e.b * zg zs 2) * X + (e.a * zg zs 1 + e.b * zg zs 3) * Y - e.c * q * W = Geo.val e (zg zs 0 * X + zg zs 1 * Y) (zg zs 2 * X + zg zs 3 * Y) (q * W) := by unfold Geo.val; grind
  rw [this]
/-- a point lies in a grown region exactly if some input leads it into the region -/
theorem gw_pt {ps : List H3} {bx cy lo hi : Int} (b : gwB ps bx cy lo hi = true) (n : gwL ps bx cy lo hi ≠ []) {X Y W : Int} (w : 0 < W) (fr : ∀ g ∈ Geo.frame, Geo.val g X Y W ≤ 0) :
    (∀ g ∈ gwL ps bx cy lo hi, Geo.val g X Y W ≤ 0) ↔ ∃ k m : Int, 0 < k ∧ lo * (k * W) ≤ m ∧ m ≤ hi * (k * W) ∧ ∀ e ∈ ps, Geo.val e (X * k + m * bx) (Y * k + m * cy) (W * k) ≤ 0 := by
  have c : gwC ps bx cy lo hi = true := by
    cases h : gwC ps bx cy lo hi with
    | true => rfl
    | false => rw [(gw_no h).2] at b; cases b
  have c' := c
  unfold gwC inB at c'
  simp only [Bool.and_eq_true, decide_eq_true_eq] at c'
  obtain ⟨⟨⟨⟨⟨x1, x2⟩, _⟩, y1⟩, _⟩, r⟩ := c'
  have np : ps ≠ [] := by
    intro e
    rw [(gw_same c (.inl e)).1] at n
    exact n e
  by_cases z : bx = 0 ∧ cy = 0
  · rw [(gw_same c (.inr z)).1]
    obtain ⟨rfl, rfl⟩ := z
    constructor
    · intro k
      refine ⟨1, lo * W, by omega, by rw [Int.one_mul]; exact Int.le_refl _, ?_, fun e he => ?_⟩
      · rw [Int.one_mul]
        exact Int.mul_le_mul_of_nonneg_right (by omega) (by omega)
      · have := k e he
        simpa using this
    · rintro ⟨k, m, hk, _, _, h⟩ g hg
      have := h g hg
      refine posz_le hk ?_
      unfold Geo.val at *
      have e : k * (g.a * X + g.b * Y - g.c * W) = g.a * (X * k + m * 0) + g.b * (Y * k + m * 0) - g.c * (W * k) := by grind
      rw [e]
      exact this
  have t : gwT ps bx cy = true := by
    cases h : gwT ps bx cy with
    | true => rfl
    | false => rw [(gw_tno np z h).2] at b; cases b
  obtain ⟨l, e⟩ := gw_yes c np z t
  rw [e] at b
  obtain ⟨a, mL, ok, _⟩ := mv_facts np b
  rw [l, mL] at n ⊢
  have hx : In100 bx := by unfold In100; omega
  have hy : In100 cy := by unfold In100; omega
  have i5 := gw_in5 hx hy
  unfold gwD at i5
  simp only [List.mem_cons, List.not_mem_nil, or_false] at i5
  obtain ⟨a1, b1⟩ := i5 _ (.inl rfl)
  obtain ⟨a2, b2⟩ := i5 _ (.inr rfl)
  simp only at a1 b1 a2 b2
  have o := ort bx cy
  rw [reg_pt ok n w fr]
  constructor
  · intro k
    exact grow_pt r np z hx hy (by omega) t a w k
  · rintro ⟨kk, m, hk, m1, m2, hs⟩ g hg
    rcases List.mem_append.1 hg with hg | hg
    · have tq := t
      unfold gwT at tq
      rw [Bool.and_eq_true] at tq
      unfold gwU at hg
      simp only [List.mem_cons, List.not_mem_nil, or_false] at hg
      rcases hg with rfl | rfl
      · refine (tc_edge r np ⟨by omega, by omega⟩ ⟨by omega, by omega⟩ tq.1).2 X Y W kk _ _ hk w ?_ hs
        have : -gwa bx cy * (m * bx) + gwb bx cy * (m * cy) = m * (-gwa bx cy * bx + gwb bx cy * cy) := by grind
        rw [this, o, Int.mul_zero]
      · refine (tc_edge r np ⟨by omega, by omega⟩ ⟨by omega, by omega⟩ tq.2).2 X Y W kk _ _ hk w ?_ hs
        have : gwa bx cy * (m * bx) + -gwb bx cy * (m * cy) = -m * (-gwa bx cy * bx + gwb bx cy * cy) := by grind
        rw [this, o, Int.mul_zero]
    · obtain ⟨e, he, rfl⟩ := List.mem_map.1 hg
      exact grow_at (List.all_eq_true.1 a e he) w hk m1 m2 (hs e he)
/-- a state lies in PreRegion exactly if some input leads it, behind the map, into the robust part -/
theorem pre_pt {zs : List Int} {q bx cy lo hi : Int} {ps qs rs : List H3} (b : prB zs q bx cy lo hi ps qs rs = true) (n : prL zs q bx cy lo hi ps qs rs ≠ []) {X Y W : Int} (w : 0 < W) (fr : ∀ g ∈ Geo.frame, Geo.val g X Y W ≤ 0)
    (fm : ∀ g ∈ Geo.frame, Geo.val g (zg zs 0 * X + zg zs 1 * Y) (zg zs 2 * X + zg zs 3 * Y) (q * W) ≤ 0) :
    0 < q ∧ ((∀ g ∈ prL zs q bx cy lo hi ps qs rs, Geo.val g X Y W ≤ 0) ↔ ∃ k m : Int, 0 < k ∧ lo * (k * (q * W)) ≤ m ∧ m ≤ hi * (k * (q * W)) ∧ ∀ e ∈ eroL rs ps, Geo.val e ((zg zs 0 * X + zg zs 1 * Y) * k + m * bx) ((zg zs 2 * X + zg zs 3 * Y) * k + m * cy) (q * W * k) ≤ 0) := by
  obtain ⟨_, _, g, p, eL⟩ := pr_parts b
  rw [eL] at n ⊢
  obtain ⟨q1, nG, h⟩ := pbk_pt p n w fr
  refine ⟨q1, ?_⟩
  rw [h]
  unfold prG at nG ⊢
  exact gw_pt g nG (Int.mul_pos q1 w) fm
/-- a state of PreRegion: every disturbance is met by the input that leads it into the robust part -/
theorem ero_pt {ps ws : List H3} (b : eroB ps ws = true) {X Y W x y c : Int} (n : eroL ps ws ≠ []) (w : 0 < W) (hc : 1 ≤ c) (hw : ∀ g ∈ ws, Geo.val g x y c ≤ 0) (h : ∀ g ∈ eroL ps ws, Geo.val g X Y W ≤ 0) : ∀ e ∈ ps, Geo.val e (X * c + x * W) (Y * c + y * W) (W * c) ≤ 0 := by
  unfold eroB at b
  simp only [Bool.and_eq_true, decide_eq_true_eq] at b
  obtain ⟨⟨⟨rp, rw'⟩, nw⟩, mp⟩ := b
  rw [(ero_yes rp rw' nw).1] at n h
  have np : ps ≠ [] := fun e => n (mv_nil e).1
  obtain ⟨ap, ep, okp, _⟩ := mv_facts np mp
  rw [ep] at n h
  intro e he
  exact (er_edge rw' nw (rok_all rp e he) (List.all_eq_true.1 ap e he)).2 X Y W x y c w hc hw (reg_imp okp n w h _ (List.mem_append_right _ (List.mem_append_right _ (List.mem_map.2 ⟨e, he, rfl⟩))))
open Go.RowKit
open Geo (H3)
theorem lxo_ok {n d : Int} (h1 : -1000000000000000000 ≤ n ∧ n ≤ 1000000000000000000) (h2 : 1 ≤ d ∧ d ≤ 1000000000000000) : hasR n d = true ∧ okR (ofN n d) (ofD n d) = true ∧ ofN n d * d = n * ofD n d := by
  have hg : 0 < Int.gcd n d := Nat.gcd_pos_of_pos_right _ (by omega)
  have hh : hasR n d = true := by
    rw [hasR_iff]
    refine ⟨by omega, ?_, ?_⟩
    · exact Nat.le_trans (Nat.div_le_self _ _) (by omega)
    · exact Nat.le_trans (Nat.div_le_self _ _) (by omega)
  obtain ⟨o1, o2⟩ := of_num (n := n) (d := d) h2.1
  have oh := of_has (n := n) (d := d) h2.1
  have e1 : ofN n d = n.tdiv (Int.gcd n d) := by unfold ofN; rw [if_pos hh, o1]
  have e2 : ofD n d = d.tdiv (Int.gcd n d) := by unfold ofD; rw [if_pos hh, o2]
  refine ⟨hh, by rw [e1, e2, oh, hh], ?_⟩
  rw [e1, e2]
  have q1 : n.tdiv (Int.gcd n d) * (Int.gcd n d : Int) = n := Int.tdiv_mul_cancel (Int.gcd_dvd_left ..)
  have q2 : d.tdiv (Int.gcd n d) * (Int.gcd n d : Int) = d := Int.tdiv_mul_cancel (Int.gcd_dvd_right ..)
  generalize n.tdiv (Int.gcd n d) = x at *
  generalize d.tdiv (Int.gcd n d) = y at *
  generalize (Int.gcd n d : Int) = g at *
  rw [← q1, ← q2]
  grind
section
variable {zs : List Int} {q bx cy lo hi : Int} {ps qs : List H3}
end
open Go.RowKit
open Geo (H3)

theorem minP_le {a b c d k m : Int} (h : okR a b = true) (g : okR c d = true) (hk : 0 < k) : okR (minP a b c d).1 (minP a b c d).2 = true ∧ (m * (minP a b c d).2 ≤ (minP a b c d).1 * k ↔ m * b ≤ a * k ∧ m * d ≤ c * k) := by
  have p1 := ((okR_iff _ _).1 h).1
  have p2 := ((okR_iff _ _).1 g).1
  have key : ∀ a b c d : Int, 1 ≤ b → 1 ≤ d → a * d ≤ c * b → m * b ≤ a * k → m * d ≤ c * k := by
    intro a b c d hb hd q r
    refine Int.le_of_sub_nonpos ?_
    refine posz_le (k := b) (by omega) ?_
    have r1 := Int.mul_le_mul_of_nonneg_right r (show 0 ≤ d by omega)
    have r2 := Int.mul_le_mul_of_nonneg_right q (Int.le_of_lt hk)
    have e : b * (m * d - c * k) = (m * b * d - a * k * d) + (a * d * k - c * b * k) := by grind
    rw [e]
    omega
  unfold minP
  rw [if_pos ⟨h, g⟩]
  unfold cmpR
  by_cases q : a * d < c * b
  · rw [if_pos q, if_pos (by omega)]
    exact ⟨h, fun r => ⟨r, key a b c d p1 p2 (Int.le_of_lt q) r⟩, fun r => r.1⟩
  · rw [if_neg q]
    by_cases q2 : c * b < a * d
    · rw [if_pos q2, if_neg (by omega)]
      exact ⟨g, fun r => ⟨key c d a b p2 p1 (Int.le_of_lt q2) r, r⟩, fun r => r.2⟩
    · rw [if_neg q2, if_pos (by omega)]
      exact ⟨h, fun r => ⟨r, key a b c d p1 p2 (by omega) r⟩, fun r => r.1⟩
theorem maxP_ge {a b c d k m : Int} (h : okR a b = true) (g : okR c d = true) (hk : 0 < k) : okR (maxP a b c d).1 (maxP a b c d).2 = true ∧ ((maxP a b c d).1 * k ≤ m * (maxP a b c d).2 ↔ a * k ≤ m * b ∧ c * k ≤ m * d) := by
  have p1 := ((okR_iff _ _).1 h).1
  have p2 := ((okR_iff _ _).1 g).1
  have key : ∀ a b c d : Int, 1 ≤ b → 1 ≤ d → c * b ≤ a * d → a * k ≤ m * b → c * k ≤ m * d := by
    intro a b c d hb hd q r
    refine Int.le_of_sub_nonpos ?_
    refine posz_le (k := b) (by omega) ?_
    have r1 := Int.mul_le_mul_of_nonneg_right r (show 0 ≤ d by omega)
    have r2 := Int.mul_le_mul_of_nonneg_right q (Int.le_of_lt hk)
    have e : b * (c * k - m * d) = (a * k * d - m * b * d) + (c * b * k - a * d * k) := by grind
    rw [e]
    omega
  unfold maxP
  rw [if_pos ⟨h, g⟩]
  unfold cmpR
  by_cases q : a * d < c * b
  · rw [if_pos q, if_neg (by omega)]
    exact ⟨g, fun r => ⟨key c d a b p2 p1 (Int.le_of_lt q) r, r⟩, fun r => r.2⟩
  · rw [if_neg q]
    have e : (0 : Int) ≤ (if c * b < a * d then 1 else 0) := by split <;> omega
    rw [if_pos e]
    exact ⟨h, fun r => ⟨r, key a b c d p1 p2 (by omega) r⟩, fun r => r.1⟩
/-- the least and the greatest input so far, and whether no half plane has refused -/
structure Adm where
  lN : Int
  lD : Int
  hN : Int
  hD : Int
  ok : Bool
def Adm.In (s : Adm) (k m : Int) : Prop := s.ok = true ∧ s.lN * k ≤ m * s.lD ∧ m * s.hD ≤ s.hN * k
def Adm.Ok (s : Adm) : Prop := okR s.lN s.lD = true ∧ okR s.hN s.hD = true
/-- one half plane: X, Y, d the mapped state on one denominator -/
def admS (bx cy X Y d : Int) (s : Adm) (h : H3) : Adm :=
  if 0 < slp bx cy h then { s with hN := (minP s.hN s.hD (ofN (h.c * d - h.a * X - h.b * Y) (d * slp bx cy h)) (ofD (h.c * d - h.a * X - h.b * Y) (d * slp bx cy h))).1, hD := (minP s.hN s.hD (ofN (h.c * d - h.a * X - h.b * Y) (d * slp bx cy h)) (ofD (h.c * d - h.a * X - h.b * Y) (d * slp bx cy h))).2 }
  else if slp bx cy h < 0 then { s with lN := (maxP s.lN s.lD (ofN (-(h.c * d - h.a * X - h.b * Y)) (-d * slp bx cy h)) (ofD (-(h.c * d - h.a * X - h.b * Y)) (-d * slp bx cy h))).1, lD := (maxP s.lN s.lD (ofN (-(h.c * d - h.a * X - h.b * Y)) (-d * slp bx cy h)) (ofD (-(h.c * d - h.a * X - h.b * Y)) (-d * slp bx cy h))).2 }
  else { s with ok := s.ok && decide (0 ≤ h.c * d - h.a * X - h.b * Y) }
theorem adm_step {bx cy X Y d : Int} {s : Adm} {h : H3} (so : s.Ok) (hd : 1 ≤ d ∧ d ≤ 2000000) (ht : -1000000000000000000 ≤ h.c * d - h.a * X - h.b * Y ∧ h.c * d - h.a * X - h.b * Y ≤ 1000000000000000000) (hn : -10000000 ≤ slp bx cy h ∧ slp bx cy h ≤ 10000000) :
    (admS bx cy X Y d s h).Ok ∧ ∀ k m : Int, 0 < k → ((admS bx cy X Y d s h).In k m ↔ s.In k m ∧ slp bx cy h * m * d ≤ (h.c * d - h.a * X - h.b * Y) * k) := by
  unfold admS
  generalize h.c * d - h.a * X - h.b * Y = t at *
  generalize slp bx cy h = n at *
  by_cases q : 0 < n
  · rw [if_pos q]
    have m1 := mul_in d n 2000000 10000000 (by omega) hd.2 (by omega) hn.2
    have m2 : 1 * 1 ≤ d * n := Int.mul_le_mul hd.1 (by omega) (by omega) (by omega)
    obtain ⟨_, o2, o3⟩ := lxo_ok (n := t) (d := d * n) ht (by omega)
    have pf := ((okR_iff _ _).1 o2).1
    refine ⟨⟨so.1, (minP_le (k := 1) (m := 0) so.2 o2 (by omega)).1⟩, fun k m hk => ?_⟩
    have mi := (minP_le (m := m) so.2 o2 hk).2
    unfold Adm.In
    simp only
    rw [mi]
    have cross : m * ofD t (d * n) ≤ ofN t (d * n) * k ↔ n * m * d ≤ t * k := by
      generalize ofD t (d * n) = D at *
      generalize ofN t (d * n) = N at *
      generalize hp : d * n = p at *
      have e1 : n * m * d = m * p := by rw [← hp]; grind
      rw [e1]
      constructor
      · intro r
        refine Int.le_of_sub_nonpos (posz_le (k := D) (by omega) ?_)
        have r1 := Int.mul_le_mul_of_nonneg_right r (show 0 ≤ p by omega)
        have e : D * (m * p - t * k) = m * D * p - N * k * p := by
          have : N * k * p = t * D * k := by rw [← o3]; grind
          rw [this]; grind
        rw [e]; omega
      · intro r
        refine Int.le_of_sub_nonpos (posz_le (k := p) (by omega) ?_)
        have r1 := Int.mul_le_mul_of_nonneg_right r (show 0 ≤ D by omega)
        have e : p * (m * D - N * k) = m * p * D - t * k * D := by
          have : N * p * k = t * D * k := by rw [o3]
          have e2 : p * (m * D - N * k) = m * p * D - N * p * k := by grind
          rw [e2, this]; grind
        rw [e]; omega
    rw [cross]
    constructor
    · rintro ⟨a, b, c, e⟩; exact ⟨⟨a, b, c⟩, e⟩
    · rintro ⟨⟨a, b, c⟩, e⟩; exact ⟨a, b, c, e⟩
  · rw [if_neg q]
    by_cases q2 : n < 0
    · rw [if_pos q2]
      have e0 : -d * n = d * -n := by grind
      rw [e0]
      have m1 := mul_in d (-n) 2000000 10000000 (by omega) hd.2 (by omega) (by omega)
      have m2 : 1 * 1 ≤ d * -n := Int.mul_le_mul hd.1 (by omega) (by omega) (by omega)
      obtain ⟨_, o2, o3⟩ := lxo_ok (n := -t) (d := d * -n) (by omega) (by omega)
      have pf := ((okR_iff _ _).1 o2).1
      refine ⟨⟨(maxP_ge (k := 1) (m := 0) so.1 o2 (by omega)).1, so.2⟩, fun k m hk => ?_⟩
      have mi := (maxP_ge (m := m) so.1 o2 hk).2
      unfold Adm.In
      simp only
      rw [mi]
      have cross : ofN (-t) (d * -n) * k ≤ m * ofD (-t) (d * -n) ↔ n * m * d ≤ t * k := by
        generalize ofD (-t) (d * -n) = D at *
        generalize ofN (-t) (d * -n) = N at *
        generalize hp : d * -n = p at *
        have e1 : n * m * d = -(m * p) := by rw [← hp]; grind
        rw [e1]
        constructor
        · intro r
          refine Int.le_of_sub_nonpos (posz_le (k := D) (by omega) ?_)
          have r1 := Int.mul_le_mul_of_nonneg_right r (show 0 ≤ p by omega)
          have e : D * (-(m * p) - t * k) = N * k * p - m * D * p := by
            have : N * k * p = -t * D * k := by rw [← o3]; grind
            rw [this]; grind
          rw [e]; omega
        · intro r
          refine Int.le_of_sub_nonpos (posz_le (k := p) (by omega) ?_)
          have r1 := Int.mul_le_mul_of_nonneg_right r (show 0 ≤ D by omega)
          have e : p * (N * k - m * D) = -(m * p) * D - t * k * D := by
            have : N * p * k = -t * D * k := by rw [o3]
            have e2 : p * (N * k - m * D) = N * p * k - m * p * D := by grind
            rw [e2, this]; grind
          rw [e]; omega
      rw [cross]
      constructor
      · rintro ⟨a, ⟨b, e⟩, c⟩; exact ⟨⟨a, b, c⟩, e⟩
      · rintro ⟨⟨a, b, c⟩, e⟩; exact ⟨a, ⟨b, e⟩, c⟩
    · rw [if_neg q2]
      obtain rfl : n = 0 := by omega
      refine ⟨so, fun k m hk => ?_⟩
      unfold Adm.In
      simp only [Bool.and_eq_true, decide_eq_true_eq, Int.zero_mul]
      have z : 0 ≤ t ↔ 0 ≤ t * k := by
        constructor
        · intro r; exact Int.mul_nonneg r (Int.le_of_lt hk)
        · intro r
          rcases Int.lt_or_le t 0 with x | x
          · have := Int.mul_neg_of_neg_of_pos x hk
            omega
          · exact x
      rw [← z]
      constructor
      · rintro ⟨⟨a, e⟩, b⟩; exact ⟨⟨a, b⟩, e⟩
      · rintro ⟨⟨a, b⟩, e⟩; exact ⟨⟨a, e⟩, b⟩
/-- all half planes, from the room's range on -/
def admL (bx cy lo hi X Y d : Int) (es : List H3) : Adm := es.foldl (admS bx cy X Y d) ⟨lo, 1, hi, 1, true⟩
theorem adm_fold {bx cy X Y d : Int} (hd : 1 ≤ d ∧ d ≤ 2000000) (es : List H3) (hb : ∀ h ∈ es, (-1000000000000000000 ≤ h.c * d - h.a * X - h.b * Y ∧ h.c * d - h.a * X - h.b * Y ≤ 1000000000000000000) ∧ (-10000000 ≤ slp bx cy h ∧ slp bx cy h ≤ 10000000)) :
    ∀ s : Adm, s.Ok → (es.foldl (admS bx cy X Y d) s).Ok ∧ ∀ k m : Int, 0 < k → ((es.foldl (admS bx cy X Y d) s).In k m ↔ s.In k m ∧ ∀ h ∈ es, slp bx cy h * m * d ≤ (h.c * d - h.a * X - h.b * Y) * k) := by
  induction es with
  | nil => intro s so; exact ⟨so, fun k m _ => by simp⟩
  | cons h t ih =>
    intro s so
    rw [List.foldl_cons]
    obtain ⟨b1, b2⟩ := hb h (by simp)
    obtain ⟨o1, i1⟩ := adm_step so hd b1 b2
    obtain ⟨o2, i2⟩ := ih (fun x hx => hb x (List.mem_cons_of_mem _ hx)) _ o1
    refine ⟨o2, fun k m hk => ?_⟩
    rw [i2 k m hk, i1 k m hk, List.forall_mem_cons, and_assoc]
/-- there is such an input exactly if the bounds leave one -/
theorem adm_some {s : Adm} (so : s.Ok) : (∃ k m : Int, 0 < k ∧ s.In k m) ↔ s.ok = true ∧ s.lN * s.hD ≤ s.hN * s.lD := by
  have p1 := ((okR_iff _ _).1 so.1).1
  have p2 := ((okR_iff _ _).1 so.2).1
  constructor
  · rintro ⟨k, m, hk, a, b, c⟩
    refine ⟨a, Int.le_of_sub_nonpos (posz_le hk ?_)⟩
    have r1 := Int.mul_le_mul_of_nonneg_right b (show 0 ≤ s.hD by omega)
    have r2 := Int.mul_le_mul_of_nonneg_right c (show 0 ≤ s.lD by omega)
    have e : k * (s.lN * s.hD - s.hN * s.lD) = (s.lN * k * s.hD - m * s.lD * s.hD) + (m * s.hD * s.lD - s.hN * k * s.lD) := by grind
    rw [e]; omega
  · rintro ⟨a, b⟩
    exact ⟨s.lD, s.lN, by omega, a, Int.le_refl _, b⟩
/-- an input is admitted exactly if it leads the mapped state into the region -/
theorem adm_val {bx cy X Y d : Int} {h : H3} {k m : Int} : slp bx cy h * m * d ≤ (h.c * d - h.a * X - h.b * Y) * k ↔ Geo.val h (X * k + m * d * bx) (Y * k + m * d * cy) (d * k) ≤ 0 := by
  unfold Geo.val slp
  have e : h.a * (X * k + m * d * bx) + h.b * (Y * k + m * d * cy) - h.c * (d * k) = (h.a * bx + h.b * cy) * m * d - (h.c * d - h.a * X - h.b * Y) * k := by grind
  rw [e]
  omega
/-- some input is left exactly if some input of the range leads the mapped state into the region -/
theorem adm_pt {bx cy lo hi X Y d : Int} {es : List H3} (hd : 1 ≤ d ∧ d ≤ 2000000) (hlo : -1000 ≤ lo ∧ lo ≤ 1000) (hhi : -1000 ≤ hi ∧ hi ≤ 1000)
    (hb : ∀ h ∈ es, (-1000000000000000000 ≤ h.c * d - h.a * X - h.b * Y ∧ h.c * d - h.a * X - h.b * Y ≤ 1000000000000000000) ∧ (-10000000 ≤ slp bx cy h ∧ slp bx cy h ≤ 10000000)) :
    (admL bx cy lo hi X Y d es).Ok ∧ (((admL bx cy lo hi X Y d es).ok = true ∧ (admL bx cy lo hi X Y d es).lN * (admL bx cy lo hi X Y d es).hD ≤ (admL bx cy lo hi X Y d es).hN * (admL bx cy lo hi X Y d es).lD) ↔
      ∃ k m : Int, 0 < k ∧ lo * (k * d) ≤ m ∧ m ≤ hi * (k * d) ∧ ∀ e ∈ es, Geo.val e (X * k + m * bx) (Y * k + m * cy) (d * k) ≤ 0) := by
  have o0 : Adm.Ok ⟨lo, 1, hi, 1, true⟩ := ⟨(okR_iff lo 1).2 ⟨by omega, by omega, by omega, by omega, by simp⟩, (okR_iff hi 1).2 ⟨by omega, by omega, by omega, by omega, by simp⟩⟩
  obtain ⟨o1, i1⟩ := adm_fold (bx := bx) (cy := cy) (X := X) (Y := Y) hd es hb _ o0
  have o2 : (admL bx cy lo hi X Y d es).Ok := o1
  refine ⟨o2, ?_⟩
  rw [← adm_some o2]
  have i2 : ∀ k m : Int, 0 < k → ((admL bx cy lo hi X Y d es).In k m ↔ (lo * k ≤ m ∧ m ≤ hi * k) ∧ ∀ h ∈ es, slp bx cy h * m * d ≤ (h.c * d - h.a * X - h.b * Y) * k) := by
    intro k m hk
    have := i1 k m hk
    unfold admL
    rw [this]
    unfold Adm.In
    simp
  constructor
  · rintro ⟨k, m, hk, h⟩
    obtain ⟨⟨a, b⟩, c⟩ := (i2 k m hk).1 h
    refine ⟨k, m * d, hk, ?_, ?_, fun e he => adm_val.1 (c e he)⟩
    · have := Int.mul_le_mul_of_nonneg_right a (show 0 ≤ d by omega)
      rw [Int.mul_assoc] at this
      exact this
    · have := Int.mul_le_mul_of_nonneg_right b (show 0 ≤ d by omega)
      rw [Int.mul_assoc] at this
      exact this
  · rintro ⟨k, m, hk, a, b, c⟩
    have hkd : 0 < k * d := Int.mul_pos hk (by omega)
    refine ⟨k * d, m, hkd, (i2 _ _ hkd).2 ⟨⟨a, b⟩, fun e he => ?_⟩⟩
    refine adm_val.2 ?_
    have e2 : Geo.val e (X * (k * d) + m * d * bx) (Y * (k * d) + m * d * cy) (d * (k * d)) = d * Geo.val e (X * k + m * bx) (Y * k + m * cy) (d * k) := by unfold Geo.val; grind
    rw [e2]
    exact Int.mul_nonpos_of_nonneg_of_nonpos (by omega) (c e he)
/-- what the numbers of a half plane are at a mapped state -/
theorem adm_in {bx cy X Y d : Int} {h : H3} (k : okB h = true) (hx : -100 ≤ bx ∧ bx ≤ 100) (hy : -100 ≤ cy ∧ cy ≤ 100) (hd : 1 ≤ d ∧ d ≤ 2000000) (hX : -4000000000 ≤ X ∧ X ≤ 4000000000) (hY : -4000000000 ≤ Y ∧ Y ≤ 4000000000) :
    (-1000000000000000000 ≤ h.c * d - h.a * X - h.b * Y ∧ h.c * d - h.a * X - h.b * Y ≤ 1000000000000000000) ∧ (-10000000 ≤ slp bx cy h ∧ slp bx cy h ≤ 10000000) := by
  obtain ⟨iA, iB, ic, _⟩ := ok_in k
  have m1 := mul_in h.c d 100000000 2000000 ic.1 ic.2 (by omega) hd.2
  have m2 := mul_in h.a X 50000 4000000000 iA.1 iA.2 hX.1 hX.2
  have m3 := mul_in h.b Y 50000 4000000000 iB.1 iB.2 hY.1 hY.2
  have m4 := mul_in h.a bx 50000 100 iA.1 iA.2 hx.1 hx.2
  have m5 := mul_in h.b cy 50000 100 iB.1 iB.2 hy.1 hy.2
  unfold slp
  omega
/-- a state has an admitted input exactly if it lies in PreRegion -/
theorem pre_adm {zs : List Int} {q bx cy lo hi : Int} {ps qs rs : List H3} (b : prB zs q bx cy lo hi ps qs rs = true) (n : prL zs q bx cy lo hi ps qs rs ≠ []) {X Y W : Int} (o : okS X Y W = true)
    (fm : ∀ g ∈ Geo.frame, Geo.val g (zg zs 0 * X + zg zs 1 * Y) (zg zs 2 * X + zg zs 3 * Y) (q * W) ≤ 0)
    (hd : 1 ≤ q * W ∧ q * W ≤ 2000000) (hlo : -1000 ≤ lo ∧ lo ≤ 1000) (hhi : -1000 ≤ hi ∧ hi ≤ 1000) (hx : -100 ≤ bx ∧ bx ≤ 100) (hy : -100 ≤ cy ∧ cy ≤ 100)
    (hX : -4000000000 ≤ zg zs 0 * X + zg zs 1 * Y ∧ zg zs 0 * X + zg zs 1 * Y ≤ 4000000000) (hY : -4000000000 ≤ zg zs 2 * X + zg zs 3 * Y ∧ zg zs 2 * X + zg zs 3 * Y ≤ 4000000000) :
    hasB (prL zs q bx cy lo hi ps qs rs) X Y W = true ↔ (admL bx cy lo hi (zg zs 0 * X + zg zs 1 * Y) (zg zs 2 * X + zg zs 3 * Y) (q * W) (eroL rs ps)).ok = true ∧ (admL bx cy lo hi (zg zs 0 * X + zg zs 1 * Y) (zg zs 2 * X + zg zs 3 * Y) (q * W) (eroL rs ps)).lN * (admL bx cy lo hi (zg zs 0 * X + zg zs 1 * Y) (zg zs 2 * X + zg zs 3 * Y) (q * W) (eroL rs ps)).hD ≤ (admL bx cy lo hi (zg zs 0 * X + zg zs 1 * Y) (zg zs 2 * X + zg zs 3 * Y) (q * W) (eroL rs ps)).hN * (admL bx cy lo hi (zg zs 0 * X + zg zs 1 * Y) (zg zs 2 * X + zg zs 3 * Y) (q * W) (eroL rs ps)).lD := by
  have oo := (okS_iff _ _ _).1 o
  have w : 0 < W := by omega
  have fr : ∀ g ∈ Geo.frame, Geo.val g X Y W ≤ 0 := by
    intro g hg
    unfold Geo.frame at hg
    simp only [List.mem_cons, List.not_mem_nil, or_false] at hg
    rcases hg with rfl | rfl | rfl | rfl <;> unfold Geo.val <;> simp only <;> omega
  obtain ⟨_, h⟩ := pre_pt b n w fr fm
  rw [has_iff (pr_rok b).2 n o, h]
  refine (adm_pt hd hlo hhi (fun e he => adm_in ?_ hx hy hd hX hY)).2.symm
  obtain ⟨_, eb, _⟩ := pr_parts b
  have eb' := eb
  unfold eroB at eb'
  simp only [Bool.and_eq_true, decide_eq_true_eq] at eb'
  obtain ⟨⟨⟨rp, rw'⟩, nw⟩, mp⟩ := eb'
  rw [(ero_yes rp rw' nw).1] at he
  by_cases np : rs = []
  · rw [(mv_nil np).1] at he
    simp at he
  · obtain ⟨_, ep, okp, _⟩ := mv_facts np mp
    rw [ep] at he
    exact regL_ok okp e he
end Go.Proofs.YtibkmhmeoelpdaaGreat
