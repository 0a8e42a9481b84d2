/- The closure of admitInto, and admitInto of the program, over the translation. admitInto of the program, over the translation. AdmitAt of the program, over the translation. -/
import Derived.Test.YtibkmhmeoelpdaaGreatFo
import Derived.Test.YtibkmhmeoelpdaaGreatIm
import Derived.Test.YtibkmhmeoelpdaaGreatFy
import Derived.Test.YtibkmhmeoelpdaaGreatFi
import Derived.Test.YtibkmhmeoelpdaaGreatVf
import Derived.Test.YtibkmhmeoelpdaaGreatKf
namespace Go.Proofs.YtibkmhmeoelpdaaGreat
open Go.RowKit
open Geo (H3)

/-- a bound, as the program keeps it: nothing is left once a half plane has refused -/
def qv (s : Adm) (x : Int) : Int := if s.ok = true then x else 0
theorem qv_no {s : Adm} (h : s.ok = false) (x : Int) : qv s x = 0 := by unfold qv; rw [h]; rfl
theorem qv_yes {s : Adm} (h : s.ok = true) (x : Int) : qv s x = x := by unfold qv; rw [h]; rfl
theorem qv_64 {s : Adm} {x : Int} (h : I64 x) : I64 (qv s x) := by
  unfold qv
  split
  · exact h
  · exact ⟨by omega, by omega⟩
theorem ok_64 {a b : Int} (h : okR a b = true) : I64 a ∧ I64 b := by
  obtain ⟨h1, h2, h3, h4, _⟩ := (okR_iff _ _).1 h
  exact ⟨⟨by omega, by omega⟩, ⟨by omega, by omega⟩⟩
theorem min_00 (a b : Int) : minP 0 0 a b = (0, 0) := min_no (fun h => by rw [ok_00] at h; cases h.1)
theorem max_00 (a b : Int) : maxP 0 0 a b = (0, 0) := max_no (fun h => by rw [ok_00] at h; cases h.1)
/-- the program's step is the step of the bounds -/
theorem nrw_adm {bx cy X Y d : Int} {s : Adm} {h : H3} (hd : 1 ≤ d ∧ d ≤ 2000000) (ht : -1000000000000000000 ≤ h.c * d - h.a * X - h.b * Y ∧ h.c * d - h.a * X - h.b * Y ≤ 1000000000000000000) (hn : -10000000 ≤ slp bx cy h ∧ slp bx cy h ≤ 10000000) :
    nrwP (slp bx cy h) (ofN (topN h.a h.b h.c X Y d) d) (ofD (topN h.a h.b h.c X Y d) d) (qv s s.lN) (qv s s.lD) (qv s s.hN) (qv s s.hD) = ((qv (admS bx cy X Y d s h) (admS bx cy X Y d s h).lN, qv (admS bx cy X Y d s h) (admS bx cy X Y d s h).lD), (qv (admS bx cy X Y d s h) (admS bx cy X Y d s h).hN, qv (admS bx cy X Y d s h) (admS bx cy X Y d s h).hD)) := by
  have hT : topN h.a h.b h.c X Y d = h.c * d - h.a * X - h.b * Y := rfl
  unfold admS
  rw [hT]
  generalize h.c * d - h.a * X - h.b * Y = T at *
  generalize slp bx cy h = n at *
  obtain ⟨hh, o1, e1⟩ := lxo_ok (n := T) (d := d) ht (by omega)
  obtain ⟨p1, p2, p3, p4, _⟩ := (okR_iff _ _).1 o1
  have p5 : ofD T d ≤ d := by
    unfold ofD
    rw [if_pos hh]
    unfold botR
    exact Int.le_trans (Int.ofNat_le.2 (Nat.div_le_self d.natAbs (Int.gcd T d))) (by omega)
  generalize ofN T d = a at *
  generalize ofD T d = b at *
  unfold nrwP
  by_cases q : 0 < n
  · rw [if_pos q, if_pos q]
    have m1 := mul_in b n 2000000 10000000 (by omega) (by omega) (by omega) hn.2
    have m2 : 1 * 1 ≤ b * n := Int.mul_le_mul p1 (by omega) (by omega) (by omega)
    have m3 := mul_in d n 2000000 10000000 (by omega) hd.2 (by omega) hn.2
    have m4 : 1 * 1 ≤ d * n := Int.mul_le_mul hd.1 (by omega) (by omega) (by omega)
    obtain ⟨f1, f2⟩ := of_same (x := a) (y := b * n) (u := T) (v := d * n) ⟨p3, p4⟩ (by omega) ht (by omega) (by rw [show a * (d * n) = a * d * n by grind, e1]; grind)
    rw [f1, f2]
    cases k : s.ok with
    | true =>
      simp [qv, k]
    | false =>
      simp [qv, k, min_00]
  · rw [if_neg q, if_neg q]
    by_cases q2 : n < 0
    · rw [if_pos q2, if_pos q2]
      have m1 := mul_in b (-n) 2000000 10000000 (by omega) (by omega) (by omega) (by omega)
      have m2 : 1 * 1 ≤ b * -n := Int.mul_le_mul p1 (by omega) (by omega) (by omega)
      have m3 := mul_in d (-n) 2000000 10000000 (by omega) hd.2 (by omega) (by omega)
      have m4 : 1 * 1 ≤ d * -n := Int.mul_le_mul hd.1 (by omega) (by omega) (by omega)
      have e0 : -d * n = d * -n := by grind
      have e9 : -(b * n) = b * -n := by grind
      rw [e0, e9]
      obtain ⟨f1, f2⟩ := of_same (x := -a) (y := b * -n) (u := -T) (v := d * -n) (by omega) (by omega) (by omega) (by omega) (by rw [show -a * (d * -n) = a * d * n by grind, e1]; grind)
      rw [f1, f2]
      cases k : s.ok with
      | true =>
        simp [qv, k]
      | false =>
        simp [qv, k, max_00]
    · rw [if_neg q2, if_neg q2]
      have sg : a < 0 ↔ T < 0 := by
        constructor
        · intro r
          have := Int.mul_neg_of_neg_of_pos r (show 0 < d by omega)
          rw [e1] at this
          rcases Int.lt_or_le T 0 with z | z
          · exact z
          · have := Int.mul_nonneg z (show 0 ≤ b by omega)
            omega
        · intro r
          have := Int.mul_neg_of_neg_of_pos r (show 0 < b by omega)
          rw [← e1] at this
          rcases Int.lt_or_le a 0 with z | z
          · exact z
          · have := Int.mul_nonneg z (show 0 ≤ d by omega)
            omega
      by_cases r : T < 0
      · rw [if_pos (sg.2 r)]
        have k0 : (s.ok && decide (0 ≤ T)) = false := by rw [decide_eq_false (by omega), Bool.and_false]
        simp only [qv, k0]
        rfl
      · rw [if_neg (fun x => r (sg.1 x))]
        have k0 : (s.ok && decide (0 ≤ T)) = s.ok := by rw [decide_eq_true (by omega), Bool.and_true]
        unfold qv
        simp only [k0]
theorem below_tok {k : Nat} {V X Y : World} (hk : k < V.heap.size) (h : Below k V X) (b : Below X.heap.size X Y) : Below k V Y := h.trans (b.mono (Nat.le_trans (Nat.le_of_lt hk) h.size))
theorem blk_low {k B : Nat} {V X : World} {cs : Array Value} {T : TypeId} (hb : Below k V X) (h : B < k) (q : Blk V B cs T) : Blk X B cs T := (hb.block B h).trans q
theorem clo_keep (am : Option Addr) (nm cm : Nat) (q bx cy lo hi : Int) (an : Option Addr) (nn cn : Nat) (al : Option Addr) (nl cl : Nat) {c1 c2 c3 c4 ha hb hc X Y d : Int} {p g b0 b1 k : Nat} {V : World} (h0 : b0 < k) (h1 : b1 < k) (hp : p < k) (hg : g < k) (K0 : Blk V b0 #[.int .i64 c1, .int .i64 c2, .int .i64 c3, .int .i64 c4] 35) (K1 : Blk V b1 #[.int .i64 ha, .int .i64 hb, .int .i64 hc] 104) (KR : Blk V p #[.slice am nm cm, .int .i64 q, .int .i64 bx, .int .i64 cy, .int .i64 lo, .int .i64 hi, .slice an nn cn, .slice al nl cl] 42) (KI : Blk V g #[.int .i64 X, .int .i64 Y, .int .i64 d] 45) (x : World) (hX : Below k V x) :
    x.cell? ⟨b0, 0, none⟩ = some (.int .i64 c1) ∧ x.cell? ⟨b0, 1, none⟩ = some (.int .i64 c2) ∧ x.cell? ⟨b0, 2, none⟩ = some (.int .i64 c3) ∧ x.cell? ⟨b0, 3, none⟩ = some (.int .i64 c4) ∧ x.cell? ⟨b1, 0, none⟩ = some (.int .i64 ha) ∧ x.cell? ⟨b1, 1, none⟩ = some (.int .i64 hb) ∧ x.cell? ⟨b1, 2, none⟩ = some (.int .i64 hc) ∧ x.cell? ⟨p, 0, none⟩ = some (.slice am nm cm) ∧ x.cell? ⟨p, 1, none⟩ = some (.int .i64 q) ∧ x.cell? ⟨p, 2, none⟩ = some (.int .i64 bx) ∧ x.cell? ⟨p, 3, none⟩ = some (.int .i64 cy) ∧ x.cell? ⟨p, 4, none⟩ = some (.int .i64 lo) ∧ x.cell? ⟨p, 5, none⟩ = some (.int .i64 hi) ∧ x.cell? ⟨p, 6, none⟩ = some (.slice an nn cn) ∧ x.cell? ⟨p, 7, none⟩ = some (.slice al nl cl) ∧ x.cell? ⟨g, 0, none⟩ = some (.int .i64 X) ∧ x.cell? ⟨g, 1, none⟩ = some (.int .i64 Y) ∧ x.cell? ⟨g, 2, none⟩ = some (.int .i64 d) := by
  have k0 := blk_low hX h0 K0
  have k1 := blk_low hX h1 K1
  have kr := blk_low hX hp KR
  have ki := blk_low hX hg KI
  exact ⟨k0.cell0 rfl, k0.cell0 rfl, k0.cell0 rfl, k0.cell0 rfl, k1.cell0 rfl, k1.cell0 rfl, k1.cell0 rfl, kr.c8_0, kr.c8_1, kr.c8_2, kr.c8_3, kr.c8_4, kr.c8_5, kr.c8_6, kr.c8_7, ki.cell0 rfl, ki.cell0 rfl, ki.cell0 rfl⟩
set_option maxRecDepth 20000 in
set_option maxHeartbeats 3200000 in
theorem impl_clo (am : Option Addr) (nm cm : Nat) (q bx cy lo hi : Int) (an : Option Addr) (nn cn : Nat) (al : Option Addr) (nl cl : Nat) (X Y d : Int) (p g : Nat) (s : Adm) (h : H3) (w : World) (KR0 : Blk w p #[.slice am nm cm, .int .i64 q, .int .i64 bx, .int .i64 cy, .int .i64 lo, .int .i64 hi, .slice an nn cn, .slice al nl cl] 42) (KI0 : Blk w g #[.int .i64 X, .int .i64 Y, .int .i64 d] 45) (so : s.Ok) (hk : okB h = true) (hx : -100 ≤ bx ∧ bx ≤ 100) (hy : -100 ≤ cy ∧ cy ≤ 100) (hX : -4000000000 ≤ X ∧ X ≤ 4000000000) (hY : -4000000000 ≤ Y ∧ Y ≤ 4000000000) (hd : 1 ≤ d ∧ d ≤ 2000000) :
    Calls Tryz.prog 101 #[.agg #[.int .i64 (qv s s.lN), .int .i64 (qv s s.lD), .int .i64 (qv s s.hN), .int .i64 (qv s s.hD)], .agg #[.int .i64 h.a, .int .i64 h.b, .int .i64 h.c], .pointer (some ⟨p, 0, none⟩), .pointer (some ⟨g, 0, none⟩)] w fun e w' => e = .returned (.agg #[.int .i64 (qv (admS bx cy X Y d s h) (admS bx cy X Y d s h).lN), .int .i64 (qv (admS bx cy X Y d s h) (admS bx cy X Y d s h).lD), .int .i64 (qv (admS bx cy X Y d s h) (admS bx cy X Y d s h).hN), .int .i64 (qv (admS bx cy X Y d s h) (admS bx cy X Y d s h).hD)]) ∧ Below w.heap.size w w' := by
  obtain ⟨it, in_⟩ := adm_in (bx := bx) (cy := cy) (X := X) (Y := Y) (d := d) hk hx hy hd hX hY
  have HQ := nrw_adm (s := s) hd it in_
  have hok : okH h.a h.b h.c = true := hk
  have HSL := Lib.hid (fun V => impl_slo am nm cm q bx cy lo hi an nn cn al nl cl h.a h.b h.c V hx hy hok)
  have hsl : h.a * bx + h.b * cy = slp bx cy h := rfl
  rw [hsl] at HSL
  have HTO := Lib.hid (fun V => impl_top h.a h.b h.c X Y d V hok hX hY hd)
  obtain ⟨hhT, oT, _⟩ := lxo_ok (n := topN h.a h.b h.c X Y d) (d := d) it (by omega)
  obtain ⟨p1, p2, p3, p4, _⟩ := (okR_iff _ _).1 oT
  have p5 : ofD (topN h.a h.b h.c X Y d) d ≤ d := by
    unfold ofD
    rw [if_pos hhT]
    unfold botR
    exact Int.le_trans (Int.ofNat_le.2 (Nat.div_le_self d.natAbs (Int.gcd (topN h.a h.b h.c X Y d) d))) (by omega)
  obtain ⟨s1, s2⟩ := ok_64 so.1
  obtain ⟨s3, s4⟩ := ok_64 so.2
  have HNA := Lib.hid (fun V => impl_nar (slp bx cy h) (ofN (topN h.a h.b h.c X Y d) d) (ofD (topN h.a h.b h.c X Y d) d) (qv s s.lN) (qv s s.lD) (qv s s.hN) (qv s s.hD) V (qv_64 s1) (qv_64 s2) (qv_64 s3) (qv_64 s4) in_ ⟨p3, p4⟩ (by omega))
  rw [HQ] at HNA
  clear HQ it in_ hok hsl hhT oT p1 p2 p3 p4 p5 s1 s2 s3 s4 so hk hx hy hX hY hd
  generalize qv (admS bx cy X Y d s h) (admS bx cy X Y d s h).lN = d1 at *
  generalize qv (admS bx cy X Y d s h) (admS bx cy X Y d s h).lD = d2 at *
  generalize qv (admS bx cy X Y d s h) (admS bx cy X Y d s h).hN = d3 at *
  generalize qv (admS bx cy X Y d s h) (admS bx cy X Y d s h).hD = d4 at *
  generalize qv s s.lN = c1 at *
  generalize qv s s.lD = c2 at *
  generalize qv s s.hN = c3 at *
  generalize qv s s.hD = c4 at *
  generalize ofN (topN h.a h.b h.c X Y d) d = tN at *
  generalize ofD (topN h.a h.b h.c X Y d) d = tD at *
  generalize slp bx cy h = n at *
  obtain ⟨ha, hb, hc⟩ := h
  simp only at HSL HTO ⊢
  have lp := KR0.lt
  have lg := KI0.lt
  have bV := below_bx2 (below_bx2 (below_one w (.cells #[.int .i64 c1, .int .i64 c2, .int .i64 c3, .int .i64 c4] 35)) (.cells #[.int .i64 ha, .int .i64 hb, .int .i64 hc] 104)) (.cells #[.int .i64 0, .int .i64 0, .int .i64 0, .int .i64 0] 35)
  have K0 := ((blk_new w #[.int .i64 c1, .int .i64 c2, .int .i64 c3, .int .i64 c4] 35 (b := w.heap.size) (by simp)).to (below_one _ (.cells #[.int .i64 ha, .int .i64 hb, .int .i64 hc] 104))).to (below_one _ (.cells #[.int .i64 0, .int .i64 0, .int .i64 0, .int .i64 0] 35))
  have K1 := (blk_new (w.alloc (.cells #[.int .i64 c1, .int .i64 c2, .int .i64 c3, .int .i64 c4] 35)) #[.int .i64 ha, .int .i64 hb, .int .i64 hc] 104 (b := w.heap.size + 1) (by simp)).to (below_one _ (.cells #[.int .i64 0, .int .i64 0, .int .i64 0, .int .i64 0] 35))
  have K2 := blk_new ((w.alloc (.cells #[.int .i64 c1, .int .i64 c2, .int .i64 c3, .int .i64 c4] 35)).alloc (.cells #[.int .i64 ha, .int .i64 hb, .int .i64 hc] 104)) #[.int .i64 0, .int .i64 0, .int .i64 0, .int .i64 0] 35 (b := w.heap.size + 1 + 1) (by simp)
  have KR := KR0.to bV
  have KI := KI0.to bV
  clear KR0 KI0
  go_enter Tryz.func101, Tryz.ntmps101
  go_upto_region 1 with fail
  generalize (((w.alloc (.cells #[.int .i64 c1, .int .i64 c2, .int .i64 c3, .int .i64 c4] 35)).alloc (.cells #[.int .i64 ha, .int .i64 hb, .int .i64 hc] 104)).alloc (.cells #[.int .i64 0, .int .i64 0, .int .i64 0, .int .i64 0] 35)) = V at *
  have kk := clo_keep am nm cm q bx cy lo hi an nn cn al nl cl (k := w.heap.size + 1 + 1) (by omega) (by omega) (by omega) (by omega) K0 K1 KR KI
  obtain ⟨i0, i1, i2, i3, i4, i5, i6, i7, i8, i9, i10, i11, i12, i13, i14, i15, i16, i17⟩ := kk V (Below.refl _ _)
  go_region_held3 (fun w' => w'.cell? ⟨w.heap.size, 0, none⟩ = some (.int .i64 c1) ∧ w'.cell? ⟨w.heap.size, 1, none⟩ = some (.int .i64 c2) ∧ w'.cell? ⟨w.heap.size, 2, none⟩ = some (.int .i64 c3) ∧ w'.cell? ⟨w.heap.size, 3, none⟩ = some (.int .i64 c4) ∧ w'.cell? ⟨w.heap.size + 1, 0, none⟩ = some (.int .i64 ha) ∧ w'.cell? ⟨w.heap.size + 1, 1, none⟩ = some (.int .i64 hb) ∧ w'.cell? ⟨w.heap.size + 1, 2, none⟩ = some (.int .i64 hc) ∧ w'.cell? ⟨p, 0, none⟩ = some (.slice am nm cm) ∧ w'.cell? ⟨p, 1, none⟩ = some (.int .i64 q) ∧ w'.cell? ⟨p, 2, none⟩ = some (.int .i64 bx) ∧ w'.cell? ⟨p, 3, none⟩ = some (.int .i64 cy) ∧ w'.cell? ⟨p, 4, none⟩ = some (.int .i64 lo) ∧ w'.cell? ⟨p, 5, none⟩ = some (.int .i64 hi) ∧ w'.cell? ⟨p, 6, none⟩ = some (.slice an nn cn) ∧ w'.cell? ⟨p, 7, none⟩ = some (.slice al nl cl) ∧ w'.cell? ⟨g, 0, none⟩ = some (.int .i64 X) ∧ w'.cell? ⟨g, 1, none⟩ = some (.int .i64 Y) ∧ w'.cell? ⟨g, 2, none⟩ = some (.int .i64 d))
    ((refine kk _ ?_; repeat (first | (with_reducible exact Below.refl _ _) | refine Below.setCell ?_ (by first | (simp; done) | (simp; omega)) _ | (with_reducible refine below_drk K2.lt ?_) | (with_reducible refine below_tok K2.lt ?_ (by assumption)))))
    (first | (go_at_call 103; (with_reducible refine (HSL.out _).mono ?_); rintro e wA ⟨rfl, blA⟩) | (go_at_call 104; (with_reducible refine (HTO.out _).mono ?_); rintro e wB ⟨rfl, blB⟩) | (go_at_call 102; (with_reducible refine (HNA.out _).mono ?_); rintro e wC ⟨rfl, blC⟩; have E1 : Blk wC _ _ _ := K2.to (by repeat (first | (with_reducible exact Below.refl _ _) | refine below_drw ?_ | refine below_bx2 ?_ _ | refine below_to ?_ (by assumption))); have z0 := E1.cell0 (i := 0) (v := .int .i64 0) rfl; have z1 := E1.cell0 (i := 1) (v := .int .i64 0) rfl; have z2 := E1.cell0 (i := 2) (v := .int .i64 0) rfl; have z3 := E1.cell0 (i := 3) (v := .int .i64 0) rfl; have f0 := E1.free 0; have f1 := E1.free 1; have f2 := E1.free 2; have f3 := E1.free 3))
  all_goals
    have b7 : Below w.heap.size w wC := below_to bV (by repeat (first | (with_reducible exact Below.refl _ _) | refine below_drw ?_ | refine below_bx2 ?_ _ | refine below_to ?_ (by assumption)))
    go_wp2_with fail
    exact bodyPost_ret (v := .agg #[.int .i64 d1, .int .i64 d2, .int .i64 d3, .int .i64 d4]) (by simp [results, Tryz.results101, go_sem, z0, z1, z2, z3]) rfl ⟨rfl, ((((b7.setCell (p := ⟨w.heap.size + 1 + 1, 0, none⟩) (Nat.le_add_right _ 2) (.int .i64 d1)).setCell (p := ⟨w.heap.size + 1 + 1, 1, none⟩) (Nat.le_add_right _ 2) (.int .i64 d2)).setCell (p := ⟨w.heap.size + 1 + 1, 2, none⟩) (Nat.le_add_right _ 2) (.int .i64 d3)).setCell (p := ⟨w.heap.size + 1 + 1, 3, none⟩) (Nat.le_add_right _ 2) (.int .i64 d4))⟩
open Go.RowKit
open Geo (H3)

theorem rng_keep {am : Option Addr} {nm cm : Nat} {q bx cy lo hi : Int} {an : Option Addr} {nn cn : Nat} {al : Option Addr} {nl cl : Nat} {V X : World} {B : Nat} {T : TypeId} (h : Blk V B #[.slice am nm cm, .int .i64 q, .int .i64 bx, .int .i64 cy, .int .i64 lo, .int .i64 hi, .slice an nn cn, .slice al nl cl] T) (hb : Below V.heap.size V X) :
    X.cell? ⟨B, 4, none⟩ = some (.int .i64 lo) ∧ X.cell? ⟨B, 5, none⟩ = some (.int .i64 hi) := ⟨(h.to hb).c8_4, (h.to hb).c8_5⟩
def admK (bx cy lo hi X Y d : Int) (es : List H3) (k : Nat) : Adm := (es.take k).foldl (admS bx cy X Y d) ⟨lo, 1, hi, 1, true⟩
theorem admK_n {bx cy lo hi X Y d : Int} {es : List H3} {n : Nat} (h : es.length = n) : admK bx cy lo hi X Y d es n = admL bx cy lo hi X Y d es := by unfold admK admL; rw [List.take_of_length_le (by omega)]
theorem admK_s {bx cy lo hi X Y d : Int} {es : List H3} {k : Nat} {h : H3} (hx : es[k]? = some h) : admK bx cy lo hi X Y d es (k + 1) = admS bx cy X Y d (admK bx cy lo hi X Y d es k) h := by
  unfold admK
  rw [List.take_add_one, hx, List.foldl_append]
  rfl
theorem admK_ok {bx cy lo hi X Y d : Int} {es : List H3} (hd : 1 ≤ d ∧ d ≤ 2000000) (hlo : -1000 ≤ lo ∧ lo ≤ 1000) (hhi : -1000 ≤ hi ∧ hi ≤ 1000) (hx : -100 ≤ bx ∧ bx ≤ 100) (hy : -100 ≤ cy ∧ cy ≤ 100) (hX : -4000000000 ≤ X ∧ X ≤ 4000000000) (hY : -4000000000 ≤ Y ∧ Y ≤ 4000000000) (ok : ∀ h ∈ es, okB h = true) (k : Nat) : (admK bx cy lo hi X Y d es k).Ok := by
  unfold admK
  refine (adm_fold hd (es.take k) (fun h hh => adm_in (ok h (List.mem_of_mem_take hh)) hx hy hd hX hY) _ ?_).1
  exact ⟨(one_ok hlo), (one_ok hhi)⟩
/-- whether an input is left, and the bounds then -/
def atB (s : Adm) : Bool := s.ok && spnB s.lN s.lD s.hN s.hD
def atV (s : Adm) (x : Int) : Int := if atB s = true then x else 0
theorem spn_00 : spnB 0 0 0 0 = false := by unfold spnB; rw [ok_00]; rfl
theorem sif_at (s : Adm) : spnB (qv s s.lN) (qv s s.lD) (qv s s.hN) (qv s s.hD) = atB s ∧ ∀ x : Int, sifA (qv s s.lN) (qv s s.lD) (qv s s.hN) (qv s s.hD) (qv s x) = atV s x := by
  cases k : s.ok with
  | true =>
    refine ⟨by simp [qv, atB, k], fun x => ?_⟩
    simp [qv, atB, atV, sifA, k]
  | false =>
    refine ⟨by simp [qv, atB, k, spn_00], fun x => ?_⟩
    simp [qv, atB, atV, sifA, k, spn_00]
set_option maxRecDepth 100000 in
set_option maxHeartbeats 2000000 in
theorem impl_into (am : Option Addr) (nm cm : Nat) (z0 z1 z2 z3 q bx cy lo hi : Int) (an : Option Addr) (nn cn : Nat) (al : Option Addr) (nl cl : Nat) (a : Option Addr) (n ca : Nat) (es : List H3) (sX sY sD : Int) (w : World) (hlm : [z0, z1, z2, z3].length = nm) (hM : IsAt w am [z0, z1, z2, z3]) (hm : mapB [z0, z1, z2, z3] q = true) (hx : -100 ≤ bx ∧ bx ≤ 100) (hy : -100 ≤ cy ∧ cy ≤ 100) (hlo : -1000 ≤ lo ∧ lo ≤ 1000) (hhi : -1000 ≤ hi ∧ hi ≤ 1000) (hl : es.length = n) (hn : n ≤ 1048576) (hA : HsAt w a es) (ok : ∀ h ∈ es, okB h = true) (hs : okS sX sY sD = true) (hd : sD ≤ 100000) :
    Calls Tryz.prog 49 #[.agg #[.slice am nm cm, .int .i64 q, .int .i64 bx, .int .i64 cy, .int .i64 lo, .int .i64 hi, .slice an nn cn, .slice al nl cl], .agg #[.slice a n ca], .agg #[.int .i64 sX, .int .i64 sY, .int .i64 sD]] w fun e w' => e = .returned (.tuple #[.agg #[.int .i64 (atV (admL bx cy lo hi (z0 * sX + z1 * sY) (z2 * sX + z3 * sY) (q * sD) es) (admL bx cy lo hi (z0 * sX + z1 * sY) (z2 * sX + z3 * sY) (q * sD) es).lN), .int .i64 (atV (admL bx cy lo hi (z0 * sX + z1 * sY) (z2 * sX + z3 * sY) (q * sD) es) (admL bx cy lo hi (z0 * sX + z1 * sY) (z2 * sX + z3 * sY) (q * sD) es).lD), .int .i64 (atV (admL bx cy lo hi (z0 * sX + z1 * sY) (z2 * sX + z3 * sY) (q * sD) es) (admL bx cy lo hi (z0 * sX + z1 * sY) (z2 * sX + z3 * sY) (q * sD) es).hN), .int .i64 (atV (admL bx cy lo hi (z0 * sX + z1 * sY) (z2 * sX + z3 * sY) (q * sD) es) (admL bx cy lo hi (z0 * sX + z1 * sY) (z2 * sX + z3 * sY) (q * sD) es).hD)], .bool (atB (admL bx cy lo hi (z0 * sX + z1 * sY) (z2 * sX + z3 * sY) (q * sD) es))]) ∧ Below w.heap.size w w' := by
  obtain ⟨y0, y1, y2, y3, hyy, ⟨a1, a2⟩, ⟨a3, a4⟩, ⟨a5, a6⟩, ⟨a7, a8⟩, q1, q2⟩ := map_four hm
  simp only [List.cons.injEq, and_true] at hyy
  obtain ⟨rfl, rfl, rfl, rfl⟩ := hyy
  obtain ⟨d1, _, x1, x2, y1, y2, _⟩ := (okS_iff _ _ _).1 hs
  have m0 := mul_in z0 sX 20 100000000 a1 a2 (by omega) (by omega)
  have m1 := mul_in z1 sY 20 100000000 a3 a4 (by omega) (by omega)
  have m2 := mul_in z2 sX 20 100000000 a5 a6 (by omega) (by omega)
  have m3 := mul_in z3 sY 20 100000000 a7 a8 (by omega) (by omega)
  have m4 := mul_in q sD 20 100000 (by omega) q2 (by omega) hd
  have m4' : 1 * 1 ≤ q * sD := Int.mul_le_mul (by omega) (by omega) (by omega) (by omega)
  have HIM := Lib.hid (fun V (h : Below w.heap.size w V) => impl_img am nm cm z0 z1 z2 z3 q bx cy lo hi an nn cn al nl cl sX sY sD V hlm (hM.below h) hm hs hd)
  have eX : -4000000000 ≤ z0 * sX + z1 * sY ∧ z0 * sX + z1 * sY ≤ 4000000000 := by omega
  have eY : -4000000000 ≤ z2 * sX + z3 * sY ∧ z2 * sX + z3 * sY ≤ 4000000000 := by omega
  have eD : 1 ≤ q * sD ∧ q * sD ≤ 2000000 := by omega
  clear m0 m1 m2 m3 m4 m4' x1 x2 y1 y2 d1 a1 a2 a3 a4 a5 a6 a7 a8 q1 q2 hlm hM hm hs hd
  generalize z0 * sX + z1 * sY = X at *
  generalize z2 * sX + z3 * sY = Y at *
  generalize q * sD = d at *
  have HK := Lib.hid (fun k => admK_ok (bx := bx) (cy := cy) (lo := lo) (hi := hi) (X := X) (Y := Y) (d := d) (es := es) eD hlo hhi hx hy eX eY ok k)
  have HO1 := Lib.hid (fun V => impl_ofA lo 1 V (by omega) (by omega) (by omega) (by omega))
  rw [(one_of (n := lo) (by omega)).1, (one_of (n := lo) (by omega)).2.1] at HO1
  have HO2 := Lib.hid (fun V => impl_ofA hi 1 V (by omega) (by omega) (by omega) (by omega))
  rw [(one_of (n := hi) (by omega)).1, (one_of (n := hi) (by omega)).2.1] at HO2
  have HCL := Lib.hid (fun p g k h V (hx' : es[k]? = some h) (KR : Blk V p #[.slice am nm cm, .int .i64 q, .int .i64 bx, .int .i64 cy, .int .i64 lo, .int .i64 hi, .slice an nn cn, .slice al nl cl] 42) (KI : Blk V g #[.int .i64 X, .int .i64 Y, .int .i64 d] 45) => impl_clo am nm cm q bx cy lo hi an nn cn al nl cl X Y d p g (admK bx cy lo hi X Y d es k) h V KR KI (HK.out k) (ok h (List.mem_of_getElem? hx')) hx hy eX eY eD)
  have HLA := Lib.hid hA
  have HLL := Lib.hid hl
  obtain ⟨u1, u2⟩ := ok_64 (HK.out n).1
  obtain ⟨u3, u4⟩ := ok_64 (HK.out n).2
  rw [admK_n hl] at u1 u2 u3 u4
  have HSI := Lib.hid (fun V => impl_sif (qv (admL bx cy lo hi X Y d es) (admL bx cy lo hi X Y d es).lN) (qv (admL bx cy lo hi X Y d es) (admL bx cy lo hi X Y d es).lD) (qv (admL bx cy lo hi X Y d es) (admL bx cy lo hi X Y d es).hN) (qv (admL bx cy lo hi X Y d es) (admL bx cy lo hi X Y d es).hD) V (qv_64 u1) (qv_64 u2) (qv_64 u3) (qv_64 u4))
  rw [(sif_at (admL bx cy lo hi X Y d es)).1, (sif_at (admL bx cy lo hi X Y d es)).2, (sif_at (admL bx cy lo hi X Y d es)).2, (sif_at (admL bx cy lo hi X Y d es)).2, (sif_at (admL bx cy lo hi X Y d es)).2] at HSI
  clear hx hy hlo hhi hA ok hl eX eY eD u1 u2 u3 u4
  generalize atV (admL bx cy lo hi X Y d es) (admL bx cy lo hi X Y d es).lN = d1 at *
  generalize atV (admL bx cy lo hi X Y d es) (admL bx cy lo hi X Y d es).lD = d2 at *
  generalize atV (admL bx cy lo hi X Y d es) (admL bx cy lo hi X Y d es).hN = d3 at *
  generalize atV (admL bx cy lo hi X Y d es) (admL bx cy lo hi X Y d es).hD = d4 at *
  generalize atB (admL bx cy lo hi X Y d es) = R at *
  have bV := below_bx2 (below_bx2 (below_bx2 (below_one w (.cells #[.slice am nm cm, .int .i64 q, .int .i64 bx, .int .i64 cy, .int .i64 lo, .int .i64 hi, .slice an nn cn, .slice al nl cl] 42)) (.cells #[.slice a n ca] 40)) (.cells #[.int .i64 sX, .int .i64 sY, .int .i64 sD] 45)) (.cells #[.int .i64 0, .int .i64 0, .int .i64 0, .int .i64 0] 35)
  have K0 := (((blk_new w #[.slice am nm cm, .int .i64 q, .int .i64 bx, .int .i64 cy, .int .i64 lo, .int .i64 hi, .slice an nn cn, .slice al nl cl] 42 (b := w.heap.size) (by simp)).to (below_one _ (.cells #[.slice a n ca] 40))).to (below_one _ (.cells #[.int .i64 sX, .int .i64 sY, .int .i64 sD] 45))).to (below_one _ (.cells #[.int .i64 0, .int .i64 0, .int .i64 0, .int .i64 0] 35))
  have K1 := ((blk_new (w.alloc (.cells #[.slice am nm cm, .int .i64 q, .int .i64 bx, .int .i64 cy, .int .i64 lo, .int .i64 hi, .slice an nn cn, .slice al nl cl] 42)) #[.slice a n ca] 40 (b := w.heap.size + 1) (by simp)).to (below_one _ (.cells #[.int .i64 sX, .int .i64 sY, .int .i64 sD] 45))).to (below_one _ (.cells #[.int .i64 0, .int .i64 0, .int .i64 0, .int .i64 0] 35))
  have K2 := (blk_new ((w.alloc (.cells #[.slice am nm cm, .int .i64 q, .int .i64 bx, .int .i64 cy, .int .i64 lo, .int .i64 hi, .slice an nn cn, .slice al nl cl] 42)).alloc (.cells #[.slice a n ca] 40)) #[.int .i64 sX, .int .i64 sY, .int .i64 sD] 45 (b := w.heap.size + 1 + 1) (by simp)).to (below_one _ (.cells #[.int .i64 0, .int .i64 0, .int .i64 0, .int .i64 0] 35))
  have K3 := blk_new (((w.alloc (.cells #[.slice am nm cm, .int .i64 q, .int .i64 bx, .int .i64 cy, .int .i64 lo, .int .i64 hi, .slice an nn cn, .slice al nl cl] 42)).alloc (.cells #[.slice a n ca] 40)).alloc (.cells #[.int .i64 sX, .int .i64 sY, .int .i64 sD] 45)) #[.int .i64 0, .int .i64 0, .int .i64 0, .int .i64 0] 35 (b := w.heap.size + 1 + 1 + 1) (by simp)
  have c0 := K0.c8_0
  have c1 := K0.c8_1
  have c2 := K0.c8_2
  have c3 := K0.c8_3
  have c4 := K0.c8_4
  have c5 := K0.c8_5
  have c6 := K0.c8_6
  have c7 := K0.c8_7
  have s0' := K2.cell0 (i := 0) (v := .int .i64 sX) rfl
  have s1' := K2.cell0 (i := 1) (v := .int .i64 sY) rfl
  have s2' := K2.cell0 (i := 2) (v := .int .i64 sD) rfl
  go_enter Tryz.func49, Tryz.ntmps49
  go_wp2_with fail
  clear c0 c1 c2 c3 c4 c5 c6 c7 s0' s1' s2'
  generalize ((((w.alloc (.cells #[.slice am nm cm, .int .i64 q, .int .i64 bx, .int .i64 cy, .int .i64 lo, .int .i64 hi, .slice an nn cn, .slice al nl cl] 42)).alloc (.cells #[.slice a n ca] 40)).alloc (.cells #[.int .i64 sX, .int .i64 sY, .int .i64 sD] 45)).alloc (.cells #[.int .i64 0, .int .i64 0, .int .i64 0, .int .i64 0] 35)) = V at *
  refine (HIM.out _ bV).mono ?_
  rintro e w1 ⟨rfl, bl1⟩
  have bN := below_to bl1 (below_one w1 (.cells #[.int .i64 X, .int .i64 Y, .int .i64 d] 45))
  have I0 := blk_new w1 #[.int .i64 X, .int .i64 Y, .int .i64 d] 45 rfl
  have b1 := below_to bV bN
  have L0 := K0.to bN
  have L1 := K1.to bN
  have L2 := K2.to bN
  have L3 := K3.to bN
  clear K0 K1 K2 K3 bV bl1 bN HIM
  go_upto_region 2 with fail
  generalize w1.alloc (.cells #[.int .i64 X, .int .i64 Y, .int .i64 d] 45) = U at *
  obtain ⟨gi, hgi⟩ : ∃ b, w1.heap.size = b := ⟨_, rfl⟩
  rw [hgi] at I0 ⊢
  clear hgi
  go_cut [9] from 13 to 19 (fun s9 wx => ∃ g, s9 = .pointer (some ⟨g, 0, none⟩) ∧ U.heap.size ≤ g ∧ Blk wx g #[.int .i64 lo, .int .i64 1, .int .i64 hi, .int .i64 1] 35 ∧ Below U.heap.size U wx)
  case first =>
    have r4 := L0.c8_4
    have r5 := L0.c8_5
    go_region_held3 (fun w' => w'.cell? ⟨w.heap.size, 4, none⟩ = some (.int .i64 lo) ∧ w'.cell? ⟨w.heap.size, 5, none⟩ = some (.int .i64 hi))
      ((refine rng_keep L0 ?_; repeat (first | (with_reducible exact Below.refl _ _) | refine Below.setCell ?_ (by first | (simp; done) | (simp; omega)) _ | refine below_bx2 ?_ _ | refine below_drw ?_ | refine below_to ?_ (by assumption))))
      (first | (go_at_call 30; (with_reducible refine (HO1.out _).mono ?_); rintro e wA ⟨rfl, blA⟩; have hcA := bcl3 blA; (first | (with_reducible have hxA := bcl3 (below_to blB blA)) | skip); have hsA := blA.size; (try simp at hsA)) | (go_at_call 30; (with_reducible refine (HO2.out _).mono ?_); rintro e wB ⟨rfl, blB⟩; have hcB := bcl3 blB; (first | (with_reducible have hxB := bcl3 (below_to blA blB)) | skip); have hsB := blB.size; (try simp at hsB)))
    all_goals
      (try obtain ⟨hcA1, hcA2⟩ := hcA)
      (try obtain ⟨hxA1, hxA2⟩ := hxA)
      (try obtain ⟨hcB1, hcB2⟩ := hcB)
      (try obtain ⟨hxB1, hxB2⟩ := hxB)
      go_wp2_with fail
      go_meet
      refine ⟨_, rfl, ?_, ?_, ?_⟩
      · first | exact Nat.le_refl _ | omega | (simp; omega)
      · first
        | (unfold Blk; with_reducible exact heap_alloc_new _ _)
        | (unfold Blk; with_reducible refine blk_s4 (a0 := .int .i64 0) (a1 := .int .i64 0) (a2 := .int .i64 0) (a3 := .int .i64 0) ?_ _ _ _ _
           apply at_new3 (Z := .cells #[.int .i64 0, .int .i64 0, .int .i64 0, .int .i64 0] 35)
           · repeat (first | (with_reducible exact Below.refl _ _) | refine below_bx2 ?_ _ | refine below_drw ?_ | refine below_to ?_ (by assumption))
           · first | rfl | (simp; done))
      · repeat (first | (with_reducible exact Below.refl _ _) | refine Below.setCell ?_ (by first | (simp; done) | (simp; omega)) _ | refine below_bx2 ?_ _ | refine below_drw ?_ | refine below_to ?_ (by assumption))
  case rest =>
    obtain ⟨gs, rfl, hgs, hG, hbx⟩ := hcut
    rename World => wc
    have b2 := below_to b1 hbx
    have M0 := L0.to hbx
    have M1 := L1.to hbx
    have M2 := L2.to hbx
    have M3 := L3.to hbx
    have I1 := I0.to hbx
    have KG : Blk wc gs #[.int .i64 lo, .int .i64 1, .int .i64 hi, .int .i64 1] 35 := hG
    clear L0 L1 L2 L3 I0 hbx hG b1 HO1 HO2
    have g0 := KG.cell0 (i := 0) (v := .int .i64 lo) rfl
    have g1 := KG.cell0 (i := 1) (v := .int .i64 1) rfl
    have g2 := KG.cell0 (i := 2) (v := .int .i64 hi) rfl
    have g3 := KG.cell0 (i := 3) (v := .int .i64 1) rfl
    have m1 := M1.cell0 (i := 0) (v := .slice a n ca) rfl
    have HF := Lib.hid (impl_fold 101 [.pointer (some ⟨w.heap.size, 0, none⟩), .pointer (some ⟨gi, 0, none⟩)] (enters_of Tryz.func101 (by kernel_rfl) rfl) (fun k => qv (admK bx cy lo hi X Y d es k) (admK bx cy lo hi X Y d es k).lN) (fun k => qv (admK bx cy lo hi X Y d es k) (admK bx cy lo hi X Y d es k).lD) (fun k => qv (admK bx cy lo hi X Y d es k) (admK bx cy lo hi X Y d es k).hN) (fun k => qv (admK bx cy lo hi X Y d es k) (admK bx cy lo hi X Y d es k).hD) a n ca es wc HLL.out hn (HLA.out.below b2) (fun k h V hx' hb => by
      have k1 := HCL.out w.heap.size gi k h V hx' (M0.to hb) (I1.to hb)
      rw [← admK_s hx'] at k1
      exact k1))
    simp only [show ∀ x : Int, qv (admK bx cy lo hi X Y d es 0) x = x from fun x => rfl, show (admK bx cy lo hi X Y d es 0).lN = lo from rfl, show (admK bx cy lo hi X Y d es 0).lD = 1 from rfl, show (admK bx cy lo hi X Y d es 0).hN = hi from rfl, show (admK bx cy lo hi X Y d es 0).hD = 1 from rfl, admK_n HLL.out] at HF
    clear HCL HK I1
    generalize qv (admL bx cy lo hi X Y d es) (admL bx cy lo hi X Y d es).lN = e1 at *
    generalize qv (admL bx cy lo hi X Y d es) (admL bx cy lo hi X Y d es).lD = e2 at *
    generalize qv (admL bx cy lo hi X Y d es) (admL bx cy lo hi X Y d es).hN = e3 at *
    generalize qv (admL bx cy lo hi X Y d es) (admL bx cy lo hi X Y d es).hD = e4 at *
    go_wp2_with fail
    refine HF.out.mono ?_
    rintro e w5 ⟨rfl, bl5⟩
    have b5 := below_to b2 bl5
    have N3 := M3.to bl5
    clear g0 g1 g2 g3 m1
    go_wp2_with fail
    refine (HSI.out _).mono ?_
    rintro e w6 ⟨rfl, bl6⟩
    have b6 := below_to b5 bl6
    have P3 := N3.to bl6
    have z0 := P3.cell0 (i := 0) (v := .int .i64 0) rfl
    have z1 := P3.cell0 (i := 1) (v := .int .i64 0) rfl
    have z2 := P3.cell0 (i := 2) (v := .int .i64 0) rfl
    have z3 := P3.cell0 (i := 3) (v := .int .i64 0) rfl
    have f0 := P3.free 0
    have f1 := P3.free 1
    have f2 := P3.free 2
    have f3 := P3.free 3
    go_wp2_with fail
    exact bodyPost_ret (v := .tuple #[.agg #[.int .i64 d1, .int .i64 d2, .int .i64 d3, .int .i64 d4], .bool R]) (by simp [results, Tryz.results49, go_sem, z0, z1, z2, z3]) rfl ⟨rfl, ((((b6.setCell (p := ⟨w.heap.size + 1 + 1 + 1, 0, none⟩) (Nat.le_add_right _ 3) (.int .i64 d1)).setCell (p := ⟨w.heap.size + 1 + 1 + 1, 1, none⟩) (Nat.le_add_right _ 3) (.int .i64 d2)).setCell (p := ⟨w.heap.size + 1 + 1 + 1, 2, none⟩) (Nat.le_add_right _ 3) (.int .i64 d3)).setCell (p := ⟨w.heap.size + 1 + 1 + 1, 3, none⟩) (Nat.le_add_right _ 3) (.int .i64 d4))⟩
open Go.RowKit
open Geo (H3)

/-- AdmitAt: whether its arguments leave a region to lead into, the bounds, and the answer -/
noncomputable def adtG (zs : List Int) (q bx cy lo hi : Int) (ps qs : List H3) (sX sY sD : Int) (rs : List H3) : Bool := okS sX sY sD && decide (sD ≤ 100000) && rpB zs q bx cy lo hi ps qs rs && !(((rpL zs q bx cy lo hi ps qs rs).length : Int) == 0)
noncomputable def adtS (zs : List Int) (q bx cy lo hi : Int) (ps qs : List H3) (sX sY sD : Int) (rs : List H3) : Adm := admL bx cy lo hi (zg zs 0 * sX + zg zs 1 * sY) (zg zs 2 * sX + zg zs 3 * sY) (q * sD) (rpL zs q bx cy lo hi ps qs rs)
noncomputable def adtB (zs : List Int) (q bx cy lo hi : Int) (ps qs : List H3) (sX sY sD : Int) (rs : List H3) : Bool := adtG zs q bx cy lo hi ps qs sX sY sD rs && atB (adtS zs q bx cy lo hi ps qs sX sY sD rs)
noncomputable def adtN (zs : List Int) (q bx cy lo hi : Int) (ps qs : List H3) (sX sY sD : Int) (rs : List H3) (x : Int) : Int := if adtG zs q bx cy lo hi ps qs sX sY sD rs = true then atV (adtS zs q bx cy lo hi ps qs sX sY sD rs) x else 0
theorem adt_no {zs : List Int} {q bx cy lo hi : Int} {ps qs : List H3} {sX sY sD : Int} {rs : List H3} (h : adtG zs q bx cy lo hi ps qs sX sY sD rs = false) : adtN zs q bx cy lo hi ps qs sX sY sD rs (adtS zs q bx cy lo hi ps qs sX sY sD rs).lN = 0 ∧ adtN zs q bx cy lo hi ps qs sX sY sD rs (adtS zs q bx cy lo hi ps qs sX sY sD rs).lD = 0 ∧ adtN zs q bx cy lo hi ps qs sX sY sD rs (adtS zs q bx cy lo hi ps qs sX sY sD rs).hN = 0 ∧ adtN zs q bx cy lo hi ps qs sX sY sD rs (adtS zs q bx cy lo hi ps qs sX sY sD rs).hD = 0 ∧ adtB zs q bx cy lo hi ps qs sX sY sD rs = false := by
  unfold adtN adtB
  rw [h]
  exact ⟨rfl, rfl, rfl, rfl, rfl⟩
theorem adt_yes {zs : List Int} {q bx cy lo hi : Int} {ps qs : List H3} {sX sY sD : Int} {rs : List H3} (h : adtG zs q bx cy lo hi ps qs sX sY sD rs = true) : adtN zs q bx cy lo hi ps qs sX sY sD rs (adtS zs q bx cy lo hi ps qs sX sY sD rs).lN = atV (adtS zs q bx cy lo hi ps qs sX sY sD rs) (adtS zs q bx cy lo hi ps qs sX sY sD rs).lN ∧ adtN zs q bx cy lo hi ps qs sX sY sD rs (adtS zs q bx cy lo hi ps qs sX sY sD rs).lD = atV (adtS zs q bx cy lo hi ps qs sX sY sD rs) (adtS zs q bx cy lo hi ps qs sX sY sD rs).lD ∧ adtN zs q bx cy lo hi ps qs sX sY sD rs (adtS zs q bx cy lo hi ps qs sX sY sD rs).hN = atV (adtS zs q bx cy lo hi ps qs sX sY sD rs) (adtS zs q bx cy lo hi ps qs sX sY sD rs).hN ∧ adtN zs q bx cy lo hi ps qs sX sY sD rs (adtS zs q bx cy lo hi ps qs sX sY sD rs).hD = atV (adtS zs q bx cy lo hi ps qs sX sY sD rs) (adtS zs q bx cy lo hi ps qs sX sY sD rs).hD ∧ adtB zs q bx cy lo hi ps qs sX sY sD rs = atB (adtS zs q bx cy lo hi ps qs sX sY sD rs) := by
  unfold adtN adtB
  rw [h]
  exact ⟨rfl, rfl, rfl, rfl, rfl⟩
theorem ero_all {rs ws : List H3} (b : eroB rs ws = true) : (∀ e ∈ eroL rs ws, okB e = true) ∧ (eroL rs ws).length ≤ 40 := by
  unfold eroB at b
  simp only [Bool.and_eq_true, decide_eq_true_eq] at b
  obtain ⟨⟨⟨rp, rw'⟩, nw⟩, mp⟩ := b
  rw [(ero_yes rp rw' nw).1]
  by_cases np : rs = []
  · rw [(mv_nil np).1]
    exact ⟨by simp, by simp⟩
  · obtain ⟨_, ep, okp, lp⟩ := mv_facts np mp
    rw [ep]
    exact ⟨fun e he => regL_ok okp e he, lp⟩
theorem adt_rok {rs ps qs : List H3} {zs : List Int} {q bx cy lo hi : Int} (h : rokB rs = false) : rpB zs q bx cy lo hi ps qs rs = false := by
  unfold rpB
  rw [(ero_no (.inl h)).2, Bool.and_false]
theorem impl_intoA (am : Option Addr) (nm cm : Nat) (zs : List Int) (q bx cy lo hi : Int) (an : Option Addr) (nn cn : Nat) (ps : List H3) (al : Option Addr) (nl cl : Nat) (qs : List H3) (ag : Option Addr) (n ca : Nat) (rs : List H3) (sX sY sD : Int) (w : World) (hA : RAt w am nm zs an nn ps al nl qs) (rp : rpB zs q bx cy lo hi ps qs rs = true) (hl : (rpL zs q bx cy lo hi ps qs rs).length = n) (hG : HsAt w ag (rpL zs q bx cy lo hi ps qs rs)) (os : okS sX sY sD = true) (hd : sD ≤ 100000) :
    Calls Tryz.prog 49 #[.agg #[.slice am nm cm, .int .i64 q, .int .i64 bx, .int .i64 cy, .int .i64 lo, .int .i64 hi, .slice an nn cn, .slice al nl cl], .agg #[.slice ag n ca], .agg #[.int .i64 sX, .int .i64 sY, .int .i64 sD]] w fun e w' => e = .returned (.tuple #[.agg #[.int .i64 (atV (adtS zs q bx cy lo hi ps qs sX sY sD rs) (adtS zs q bx cy lo hi ps qs sX sY sD rs).lN), .int .i64 (atV (adtS zs q bx cy lo hi ps qs sX sY sD rs) (adtS zs q bx cy lo hi ps qs sX sY sD rs).lD), .int .i64 (atV (adtS zs q bx cy lo hi ps qs sX sY sD rs) (adtS zs q bx cy lo hi ps qs sX sY sD rs).hN), .int .i64 (atV (adtS zs q bx cy lo hi ps qs sX sY sD rs) (adtS zs q bx cy lo hi ps qs sX sY sD rs).hD)], .bool (atB (adtS zs q bx cy lo hi ps qs sX sY sD rs))]) ∧ Below w.heap.size w w' := by
  have rp2 := rp
  unfold rpB at rp2
  rw [Bool.and_eq_true] at rp2
  obtain ⟨hlo, hhi, hm, hx, hy, _⟩ := rm_rng rp2.1
  have e : rpL zs q bx cy lo hi ps qs rs = eroL rs ps := (rp_yes rp2.1).1
  obtain ⟨ok, l40⟩ := ero_all rp2.2
  rw [← e] at ok l40
  obtain ⟨z0, z1, z2, z3, rfl, _⟩ := map_four hm
  exact impl_into am nm cm z0 z1 z2 z3 q bx cy lo hi an nn cn al nl cl ag n ca (rpL [z0, z1, z2, z3] q bx cy lo hi ps qs rs) sX sY sD w hA.lm hA.hm hm hx hy hlo (by omega) hl (by omega) hG ok os hd
set_option maxRecDepth 100000 in
set_option maxHeartbeats 2000000 in
theorem impl_adt (am : Option Addr) (nm cm : Nat) (zs : List Int) (q bx cy lo hi : Int) (an : Option Addr) (nn cn : Nat) (ps : List H3) (al : Option Addr) (nl cl : Nat) (qs : List H3) (a : Option Addr) (n ca : Nat) (rs : List H3) (sX sY sD : Int) (hS : In64 ⟨sX, sY, sD⟩) (w : World) (hA : RAt w am nm zs an nn ps al nl qs) (h64 : R64 q bx cy lo hi ps qs) (hle : nm + nn + nl ≤ 1048576) (hl : rs.length = n) (hn : n ≤ 1048576) (hr64 : ∀ h ∈ rs, In64 h) (hz : a = none → n = 0 ∧ ca = 0) (hG : HsAt w a rs) :
    Calls Tryz.prog 13 #[.agg #[.slice am nm cm, .int .i64 q, .int .i64 bx, .int .i64 cy, .int .i64 lo, .int .i64 hi, .slice an nn cn, .slice al nl cl], .agg #[.slice a n ca], .agg #[.int .i64 sX, .int .i64 sY, .int .i64 sD]] w fun e w' => e = .returned (.tuple #[.agg #[.int .i64 (adtN zs q bx cy lo hi ps qs sX sY sD rs (adtS zs q bx cy lo hi ps qs sX sY sD rs).lN), .int .i64 (adtN zs q bx cy lo hi ps qs sX sY sD rs (adtS zs q bx cy lo hi ps qs sX sY sD rs).lD), .int .i64 (adtN zs q bx cy lo hi ps qs sX sY sD rs (adtS zs q bx cy lo hi ps qs sX sY sD rs).hN), .int .i64 (adtN zs q bx cy lo hi ps qs sX sY sD rs (adtS zs q bx cy lo hi ps qs sX sY sD rs).hD)], .bool (adtB zs q bx cy lo hi ps qs sX sY sD rs)]) ∧ Below w.heap.size w w' := by
  have HSO := Lib.hid (fun V => impl_sok sX sY sD V hS.1.1 hS.1.2 hS.2.1.1 hS.2.1.2 hS.2.2.1 hS.2.2.2)
  have HRP := Lib.hid (fun V (h : Below w.heap.size w V) => impl_rp am nm cm zs q bx cy lo hi an nn cn ps al nl cl qs a n ca rs V (hA.below h) h64 hle hl hn hr64 hz (hG.below h))
  have HIN := Lib.hid (fun V ag cg (h : Below w.heap.size w V) (rp : rpB zs q bx cy lo hi ps qs rs = true) (ho : HsAt V ag (rpL zs q bx cy lo hi ps qs rs)) (os : okS sX sY sD = true) (hd : sD ≤ 100000) => impl_intoA am nm cm zs q bx cy lo hi an nn cn ps al nl cl qs ag (rpL zs q bx cy lo hi ps qs rs).length cg rs sX sY sD V (hA.below h) rp rfl ho os hd)
  have HNO := Lib.hid (fun h => adt_no (zs := zs) (q := q) (bx := bx) (cy := cy) (lo := lo) (hi := hi) (ps := ps) (qs := qs) (sX := sX) (sY := sY) (sD := sD) (rs := rs) h)
  have HYE := Lib.hid (fun h => adt_yes (zs := zs) (q := q) (bx := bx) (cy := cy) (lo := lo) (hi := hi) (ps := ps) (qs := qs) (sX := sX) (sY := sY) (sD := sD) (rs := rs) h)
  have HGD := Lib.hid (show adtG zs q bx cy lo hi ps qs sX sY sD rs = (okS sX sY sD && decide (sD ≤ 100000) && rpB zs q bx cy lo hi ps qs rs && !(((rpL zs q bx cy lo hi ps qs rs).length : Int) == 0)) from rfl)
  clear hA h64 hle hl hn hr64 hz hG hS
  generalize adtN zs q bx cy lo hi ps qs sX sY sD rs (adtS zs q bx cy lo hi ps qs sX sY sD rs).lN = d1 at *
  generalize adtN zs q bx cy lo hi ps qs sX sY sD rs (adtS zs q bx cy lo hi ps qs sX sY sD rs).lD = d2 at *
  generalize adtN zs q bx cy lo hi ps qs sX sY sD rs (adtS zs q bx cy lo hi ps qs sX sY sD rs).hN = d3 at *
  generalize adtN zs q bx cy lo hi ps qs sX sY sD rs (adtS zs q bx cy lo hi ps qs sX sY sD rs).hD = d4 at *
  generalize atV (adtS zs q bx cy lo hi ps qs sX sY sD rs) (adtS zs q bx cy lo hi ps qs sX sY sD rs).lN = e1 at *
  generalize atV (adtS zs q bx cy lo hi ps qs sX sY sD rs) (adtS zs q bx cy lo hi ps qs sX sY sD rs).lD = e2 at *
  generalize atV (adtS zs q bx cy lo hi ps qs sX sY sD rs) (adtS zs q bx cy lo hi ps qs sX sY sD rs).hN = e3 at *
  generalize atV (adtS zs q bx cy lo hi ps qs sX sY sD rs) (adtS zs q bx cy lo hi ps qs sX sY sD rs).hD = e4 at *
  generalize adtB zs q bx cy lo hi ps qs sX sY sD rs = R at *
  generalize atB (adtS zs q bx cy lo hi ps qs sX sY sD rs) = Q at *
  have bV := below_bx2 (below_bx2 (below_bx2 (below_one w (.cells #[.slice am nm cm, .int .i64 q, .int .i64 bx, .int .i64 cy, .int .i64 lo, .int .i64 hi, .slice an nn cn, .slice al nl cl] 42)) (.cells #[.slice a n ca] 40)) (.cells #[.int .i64 sX, .int .i64 sY, .int .i64 sD] 45)) (.cells #[.int .i64 0, .int .i64 0, .int .i64 0, .int .i64 0] 35)
  have K0 := (((blk_new w #[.slice am nm cm, .int .i64 q, .int .i64 bx, .int .i64 cy, .int .i64 lo, .int .i64 hi, .slice an nn cn, .slice al nl cl] 42 (b := w.heap.size) (by simp)).to (below_one _ (.cells #[.slice a n ca] 40))).to (below_one _ (.cells #[.int .i64 sX, .int .i64 sY, .int .i64 sD] 45))).to (below_one _ (.cells #[.int .i64 0, .int .i64 0, .int .i64 0, .int .i64 0] 35))
  have K1 := ((blk_new (w.alloc (.cells #[.slice am nm cm, .int .i64 q, .int .i64 bx, .int .i64 cy, .int .i64 lo, .int .i64 hi, .slice an nn cn, .slice al nl cl] 42)) #[.slice a n ca] 40 (b := w.heap.size + 1) (by simp)).to (below_one _ (.cells #[.int .i64 sX, .int .i64 sY, .int .i64 sD] 45))).to (below_one _ (.cells #[.int .i64 0, .int .i64 0, .int .i64 0, .int .i64 0] 35))
  have K2 := (blk_new ((w.alloc (.cells #[.slice am nm cm, .int .i64 q, .int .i64 bx, .int .i64 cy, .int .i64 lo, .int .i64 hi, .slice an nn cn, .slice al nl cl] 42)).alloc (.cells #[.slice a n ca] 40)) #[.int .i64 sX, .int .i64 sY, .int .i64 sD] 45 (b := w.heap.size + 1 + 1) (by simp)).to (below_one _ (.cells #[.int .i64 0, .int .i64 0, .int .i64 0, .int .i64 0] 35))
  have K3 := blk_new (((w.alloc (.cells #[.slice am nm cm, .int .i64 q, .int .i64 bx, .int .i64 cy, .int .i64 lo, .int .i64 hi, .slice an nn cn, .slice al nl cl] 42)).alloc (.cells #[.slice a n ca] 40)).alloc (.cells #[.int .i64 sX, .int .i64 sY, .int .i64 sD] 45)) #[.int .i64 0, .int .i64 0, .int .i64 0, .int .i64 0] 35 (b := w.heap.size + 1 + 1 + 1) (by simp)
  have c0 := K2.cell0 (i := 0) (v := .int .i64 sX) rfl
  have c1 := K2.cell0 (i := 1) (v := .int .i64 sY) rfl
  have c2 := K2.cell0 (i := 2) (v := .int .i64 sD) rfl
  go_enter Tryz.func13, Tryz.ntmps13
  go_wp2_with fail
  clear c0 c1 c2
  generalize ((((w.alloc (.cells #[.slice am nm cm, .int .i64 q, .int .i64 bx, .int .i64 cy, .int .i64 lo, .int .i64 hi, .slice an nn cn, .slice al nl cl] 42)).alloc (.cells #[.slice a n ca] 40)).alloc (.cells #[.int .i64 sX, .int .i64 sY, .int .i64 sD] 45)).alloc (.cells #[.int .i64 0, .int .i64 0, .int .i64 0, .int .i64 0] 35)) = V at *
  refine (HSO.out _).mono ?_
  rintro e w1 ⟨rfl, bl1⟩
  have b1 := below_to bV bl1
  have L0 := K0.to bl1
  have L1 := K1.to bl1
  have L2 := K2.to bl1
  have L3 := K3.to bl1
  clear K0 K1 K2 K3 bV bl1 HSO
  cases h1 : okS sX sY sD with
  | false =>
    have HN := Lib.hid (HNO.out (by rw [HGD.out, h1]; simp))
    clear h1 HIN
    have z0 := L3.cell0 (i := 0) (v := .int .i64 0) rfl
    have z1 := L3.cell0 (i := 1) (v := .int .i64 0) rfl
    have z2 := L3.cell0 (i := 2) (v := .int .i64 0) rfl
    have z3 := L3.cell0 (i := 3) (v := .int .i64 0) rfl
    have f0 := L3.free 0
    have f1 := L3.free 1
    have f2 := L3.free 2
    have f3 := L3.free 3
    go_wp2_with fail
    exact bodyPost_ret (v := .tuple #[.agg #[.int .i64 0, .int .i64 0, .int .i64 0, .int .i64 0], .bool false]) (by simp [results, Tryz.results13, go_sem, z0, z1, z2, z3]) rfl ⟨by rw [HN.out.1, HN.out.2.1, HN.out.2.2.1, HN.out.2.2.2.1, HN.out.2.2.2.2], ((((b1.setCell (p := ⟨w.heap.size + 1 + 1 + 1, 0, none⟩) (Nat.le_add_right _ 3) (.int .i64 0)).setCell (p := ⟨w.heap.size + 1 + 1 + 1, 1, none⟩) (Nat.le_add_right _ 3) (.int .i64 0)).setCell (p := ⟨w.heap.size + 1 + 1 + 1, 2, none⟩) (Nat.le_add_right _ 3) (.int .i64 0)).setCell (p := ⟨w.heap.size + 1 + 1 + 1, 3, none⟩) (Nat.le_add_right _ 3) (.int .i64 0))⟩
  | true =>
    have H1 := Lib.hid h1
    clear h1
    have c2 := L2.cell0 (i := 2) (v := .int .i64 sD) rfl
    by_cases h2 : 100000 < sD
    · have HN := Lib.hid (HNO.out (by rw [HGD.out, decide_eq_false (show ¬ sD ≤ 100000 by omega)]; simp))
      have z0 := L3.cell0 (i := 0) (v := .int .i64 0) rfl
      have z1 := L3.cell0 (i := 1) (v := .int .i64 0) rfl
      have z2 := L3.cell0 (i := 2) (v := .int .i64 0) rfl
      have z3 := L3.cell0 (i := 3) (v := .int .i64 0) rfl
      have f0 := L3.free 0
      have f1 := L3.free 1
      have f2 := L3.free 2
      have f3 := L3.free 3
      go_wp2_with fail
      exact bodyPost_ret (v := .tuple #[.agg #[.int .i64 0, .int .i64 0, .int .i64 0, .int .i64 0], .bool false]) (by simp [results, Tryz.results13, go_sem, z0, z1, z2, z3]) rfl ⟨by rw [HN.out.1, HN.out.2.1, HN.out.2.2.1, HN.out.2.2.2.1, HN.out.2.2.2.2], ((((b1.setCell (p := ⟨w.heap.size + 1 + 1 + 1, 0, none⟩) (Nat.le_add_right _ 3) (.int .i64 0)).setCell (p := ⟨w.heap.size + 1 + 1 + 1, 1, none⟩) (Nat.le_add_right _ 3) (.int .i64 0)).setCell (p := ⟨w.heap.size + 1 + 1 + 1, 2, none⟩) (Nat.le_add_right _ 3) (.int .i64 0)).setCell (p := ⟨w.heap.size + 1 + 1 + 1, 3, none⟩) (Nat.le_add_right _ 3) (.int .i64 0))⟩
    · have H2 := Lib.hid (show sD ≤ 100000 by omega)
      have r0 := L0.c8_0
      have r1 := L0.c8_1
      have r2 := L0.c8_2
      have r3 := L0.c8_3
      have r4 := L0.c8_4
      have r5 := L0.c8_5
      have r6 := L0.c8_6
      have r7 := L0.c8_7
      have m0 := L1.cell0 (i := 0) (v := .slice a n ca) rfl
      go_wp2_with fail
      clear c2 m0 h2 r0 r1 r2 r3 r4 r5 r6 r7
      refine (HRP.out _ b1).mono ?_
      rintro e w2 ⟨ag, cg, rfl, ho, bl2⟩
      have b2 := below_to b1 bl2
      have HO := Lib.hid (own_hs ho)
      have M0 := L0.to bl2
      have M1 := L1.to bl2
      have M2 := L2.to bl2
      have M3 := L3.to bl2
      clear L0 L1 L2 L3 b1 bl2 HRP ho
      generalize hlen : (rpL zs q bx cy lo hi ps qs rs).length = len at *
      have bN := below_one w2 (.cells #[.slice ag len cg] 40)
      have G0 := blk_new w2 #[.slice ag len cg] 40 rfl
      have b3 := below_to b2 bN
      have N0 := M0.to bN
      have N1 := M1.to bN
      have N2 := M2.to bN
      have N3 := M3.to bN
      have HO3 := Lib.hid (HO.out.below bN)
      clear M0 M1 M2 M3 b2 bN HO
      cases h3 : rpB zs q bx cy lo hi ps qs rs with
      | false =>
        have HN := Lib.hid (HNO.out (by rw [HGD.out, h3]; simp))
        clear h3 HIN
        have z0 := N3.cell0 (i := 0) (v := .int .i64 0) rfl
        have z1 := N3.cell0 (i := 1) (v := .int .i64 0) rfl
        have z2 := N3.cell0 (i := 2) (v := .int .i64 0) rfl
        have z3 := N3.cell0 (i := 3) (v := .int .i64 0) rfl
        have f0 := N3.free 0
        have f1 := N3.free 1
        have f2 := N3.free 2
        have f3 := N3.free 3
        go_wp2_with fail
        exact bodyPost_ret (v := .tuple #[.agg #[.int .i64 0, .int .i64 0, .int .i64 0, .int .i64 0], .bool false]) (by simp [results, Tryz.results13, go_sem, z0, z1, z2, z3]) rfl ⟨by rw [HN.out.1, HN.out.2.1, HN.out.2.2.1, HN.out.2.2.2.1, HN.out.2.2.2.2], ((((b3.setCell (p := ⟨w.heap.size + 1 + 1 + 1, 0, none⟩) (Nat.le_add_right _ 3) (.int .i64 0)).setCell (p := ⟨w.heap.size + 1 + 1 + 1, 1, none⟩) (Nat.le_add_right _ 3) (.int .i64 0)).setCell (p := ⟨w.heap.size + 1 + 1 + 1, 2, none⟩) (Nat.le_add_right _ 3) (.int .i64 0)).setCell (p := ⟨w.heap.size + 1 + 1 + 1, 3, none⟩) (Nat.le_add_right _ 3) (.int .i64 0))⟩
      | true =>
        have H3' := Lib.hid h3
        clear h3
        have g0 := G0.cell0 (i := 0) (v := .slice ag len cg) rfl
        go_wp2_with fail
        clear g0
        generalize w2.alloc (.cells #[.slice ag len cg] 40) = U at *
        obtain ⟨gb, hgb⟩ : ∃ b, w2.heap.size = b := ⟨_, rfl⟩
        rw [hgb] at G0 ⊢
        clear hgb
        refine (impl_void ag len cg _).mono ?_
        rintro e w4 ⟨rfl, bl4⟩
        have b4 := below_to b3 bl4
        have S0 := N0.to bl4
        have S1 := N1.to bl4
        have S2 := N2.to bl4
        have S3 := N3.to bl4
        have G1 := G0.to bl4
        have HO4 := Lib.hid (HO3.out.below bl4)
        clear N0 N1 N2 N3 G0 HO3 b3 bl4
        cases h4 : ((len : Int) == 0) with
        | true =>
          have HN := Lib.hid (HNO.out (by rw [HGD.out, h4]; simp))
          clear HIN
          have z0 := S3.cell0 (i := 0) (v := .int .i64 0) rfl
          have z1 := S3.cell0 (i := 1) (v := .int .i64 0) rfl
          have z2 := S3.cell0 (i := 2) (v := .int .i64 0) rfl
          have z3 := S3.cell0 (i := 3) (v := .int .i64 0) rfl
          have f0 := S3.free 0
          have f1 := S3.free 1
          have f2 := S3.free 2
          have f3 := S3.free 3
          go_wp2_with fail
          exact bodyPost_ret (v := .tuple #[.agg #[.int .i64 0, .int .i64 0, .int .i64 0, .int .i64 0], .bool false]) (by simp [results, Tryz.results13, go_sem, z0, z1, z2, z3]) rfl ⟨by rw [HN.out.1, HN.out.2.1, HN.out.2.2.1, HN.out.2.2.2.1, HN.out.2.2.2.2], ((((b4.setCell (p := ⟨w.heap.size + 1 + 1 + 1, 0, none⟩) (Nat.le_add_right _ 3) (.int .i64 0)).setCell (p := ⟨w.heap.size + 1 + 1 + 1, 1, none⟩) (Nat.le_add_right _ 3) (.int .i64 0)).setCell (p := ⟨w.heap.size + 1 + 1 + 1, 2, none⟩) (Nat.le_add_right _ 3) (.int .i64 0)).setCell (p := ⟨w.heap.size + 1 + 1 + 1, 3, none⟩) (Nat.le_add_right _ 3) (.int .i64 0))⟩
        | false =>
          have HN := Lib.hid (HYE.out (by rw [HGD.out, H1.out, decide_eq_true H2.out, H3'.out, h4]; rfl))
          have HI := Lib.hid (HIN.out w4 ag cg b4 H3'.out HO4.out H1.out H2.out)
          try rw [hlen] at HI
          clear HIN HO4 h4
          have r0 := S0.c8_0
          have r1 := S0.c8_1
          have r2 := S0.c8_2
          have r3 := S0.c8_3
          have r4 := S0.c8_4
          have r5 := S0.c8_5
          have r6 := S0.c8_6
          have r7 := S0.c8_7
          have g0 := G1.cell0 (i := 0) (v := .slice ag len cg) rfl
          have c0 := S2.cell0 (i := 0) (v := .int .i64 sX) rfl
          have c1 := S2.cell0 (i := 1) (v := .int .i64 sY) rfl
          have c2 := S2.cell0 (i := 2) (v := .int .i64 sD) rfl
          go_wp2_with fail
          clear g0 c0 c1 c2 r0 r1 r2 r3 r4 r5 r6 r7
          refine HI.out.mono ?_
          rintro e w5 ⟨rfl, bl5⟩
          have b5 := below_to b4 bl5
          have T3 := S3.to bl5
          have z0 := T3.cell0 (i := 0) (v := .int .i64 0) rfl
          have z1 := T3.cell0 (i := 1) (v := .int .i64 0) rfl
          have z2 := T3.cell0 (i := 2) (v := .int .i64 0) rfl
          have z3 := T3.cell0 (i := 3) (v := .int .i64 0) rfl
          have f0 := T3.free 0
          have f1 := T3.free 1
          have f2 := T3.free 2
          have f3 := T3.free 3
          go_wp2_with fail
          exact bodyPost_ret (v := .tuple #[.agg #[.int .i64 e1, .int .i64 e2, .int .i64 e3, .int .i64 e4], .bool Q]) (by simp [results, Tryz.results13, go_sem, z0, z1, z2, z3]) rfl ⟨by rw [HN.out.1, HN.out.2.1, HN.out.2.2.1, HN.out.2.2.2.1, HN.out.2.2.2.2], ((((b5.setCell (p := ⟨w.heap.size + 1 + 1 + 1, 0, none⟩) (Nat.le_add_right _ 3) (.int .i64 e1)).setCell (p := ⟨w.heap.size + 1 + 1 + 1, 1, none⟩) (Nat.le_add_right _ 3) (.int .i64 e2)).setCell (p := ⟨w.heap.size + 1 + 1 + 1, 2, none⟩) (Nat.le_add_right _ 3) (.int .i64 e3)).setCell (p := ⟨w.heap.size + 1 + 1 + 1, 3, none⟩) (Nat.le_add_right _ 3) (.int .i64 e4))⟩
end Go.Proofs.YtibkmhmeoelpdaaGreat
