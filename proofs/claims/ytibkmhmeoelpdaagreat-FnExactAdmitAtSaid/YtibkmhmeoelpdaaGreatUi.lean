/- The closure of admitInto, and admitInto of the program, over the translation. -/
import Derived.Test.YtibkmhmeoelpdaaGreatNr
import Derived.Test.YtibkmhmeoelpdaaGreatFo
import Derived.Test.YtibkmhmeoelpdaaGreatIm
import Derived.Test.YtibkmhmeoelpdaaGreatFy
import Derived.Test.YtibkmhmeoelpdaaGreatFi
namespace Go.Proofs.YtibkmhmeoelpdaaGreat
open Go.RowKit
open Geo (H3)

/-- a bound, as the program keeps it: nothing is left once a half plane has refused -/
def qv (s : Adm) (x : Int) : Int := if s.ok = true then x else 0
theorem qv_64 {s : Adm} {x : Int} (h : I64 x) : I64 (qv s x) := by
  unfold qv
  split
  · exact h
  · exact ⟨by omega, by omega⟩
theorem ok_64 {a b : Int} (h : okR a b = true) : I64 a ∧ I64 b := by
  obtain ⟨h1, h2, h3, h4, _⟩ := (okR_iff _ _).1 h
  exact ⟨⟨by omega, by omega⟩, ⟨by omega, by omega⟩⟩
theorem min_00 (a b : Int) : minP 0 0 a b = (0, 0) := min_no (fun h => by rw [ok_00] at h; cases h.1)
theorem max_00 (a b : Int) : maxP 0 0 a b = (0, 0) := max_no (fun h => by rw [ok_00] at h; cases h.1)
/-- the program's step is the step of the bounds -/
theorem nrw_adm {bx cy X Y d : Int} {s : Adm} {h : H3} (hd : 1 ≤ d ∧ d ≤ 2000000) (ht : -1000000000000000000 ≤ h.c * d - h.a * X - h.b * Y ∧ h.c * d - h.a * X - h.b * Y ≤ 1000000000000000000) (hn : -10000000 ≤ slp bx cy h ∧ slp bx cy h ≤ 10000000) :
    nrwP (slp bx cy h) (ofN (topN h.a h.b h.c X Y d) d) (ofD (topN h.a h.b h.c X Y d) d) (qv s s.lN) (qv s s.lD) (qv s s.hN) (qv s s.hD) = ((qv (admS bx cy X Y d s h) (admS bx cy X Y d s h).lN, qv (admS bx cy X Y d s h) (admS bx cy X Y d s h).lD), (qv (admS bx cy X Y d s h) (admS bx cy X Y d s h).hN, qv (admS bx cy X Y d s h) (admS bx cy X Y d s h).hD)) := by
  have hT : topN h.a h.b h.c X Y d = h.c * d - h.a * X - h.b * Y := rfl
  unfold admS
  rw [hT]
  generalize h.c * d - h.a * X - h.b * Y = T at *
  generalize slp bx cy h = n at *
  obtain ⟨hh, o1, e1⟩ := lxo_ok (n := T) (d := d) ht (by omega)
  obtain ⟨p1, p2, p3, p4, _⟩ := (okR_iff _ _).1 o1
  have p5 : ofD T d ≤ d := by
    unfold ofD
    rw [if_pos hh]
    unfold botR
    exact Int.le_trans (Int.ofNat_le.2 (Nat.div_le_self d.natAbs (Int.gcd T d))) (by omega)
  generalize ofN T d = a at *
  generalize ofD T d = b at *
  unfold nrwP
  by_cases q : 0 < n
  · rw [if_pos q, if_pos q]
    have m1 := mul_in b n 2000000 10000000 (by omega) (by omega) (by omega) hn.2
    have m2 : 1 * 1 ≤ b * n := Int.mul_le_mul p1 (by omega) (by omega) (by omega)
    have m3 := mul_in d n 2000000 10000000 (by omega) hd.2 (by omega) hn.2
    have m4 : 1 * 1 ≤ d * n := Int.mul_le_mul hd.1 (by omega) (by omega) (by omega)
    obtain ⟨f1, f2⟩ := of_same (x := a) (y := b * n) (u := T) (v := d * n) ⟨p3, p4⟩ (by omega) ht (by omega) (by rw [show a * (d * n) = a * d * n by grind, e1]; grind)
    rw [f1, f2]
    cases k : s.ok with
    | true =>
      simp [qv, k]
    | false =>
      simp [qv, k, min_00]
  · rw [if_neg q, if_neg q]
    by_cases q2 : n < 0
    · rw [if_pos q2, if_pos q2]
      have m1 := mul_in b (-n) 2000000 10000000 (by omega) (by omega) (by omega) (by omega)
      have m2 : 1 * 1 ≤ b * -n := Int.mul_le_mul p1 (by omega) (by omega) (by omega)
      have m3 := mul_in d (-n) 2000000 10000000 (by omega) hd.2 (by omega) (by omega)
      have m4 : 1 * 1 ≤ d * -n := Int.mul_le_mul hd.1 (by omega) (by omega) (by omega)
      have e0 : -d * n = d * -n := by grind
      have e9 : -(b * n) = b * -n := by grind
      rw [e0, e9]
      obtain ⟨f1, f2⟩ := of_same (x := -a) (y := b * -n) (u := -T) (v := d * -n) (by omega) (by omega) (by omega) (by omega) (by rw [show -a * (d * -n) = a * d * n by grind, e1]; grind)
      rw [f1, f2]
      cases k : s.ok with
      | true =>
        simp [qv, k]
      | false =>
        simp [qv, k, max_00]
    · rw [if_neg q2, if_neg q2]
      have sg : a < 0 ↔ T < 0 := by
        constructor
        · intro r
          have := Int.mul_neg_of_neg_of_pos r (show 0 < d by omega)
          rw [e1] at this
          rcases Int.lt_or_le T 0 with z | z
          · exact z
          · have := Int.mul_nonneg z (show 0 ≤ b by omega)
            omega
        · intro r
          have := Int.mul_neg_of_neg_of_pos r (show 0 < b by omega)
          rw [← e1] at this
          rcases Int.lt_or_le a 0 with z | z
          · exact z
          · have := Int.mul_nonneg z (show 0 ≤ d by omega)
            omega
      by_cases r : T < 0
      · rw [if_pos (sg.2 r)]
        have k0 : (s.ok && decide (0 ≤ T)) = false := by rw [decide_eq_false (by omega), Bool.and_false]
        simp only [qv, k0]
        rfl
      · rw [if_neg (fun x => r (sg.1 x))]
        have k0 : (s.ok && decide (0 ≤ T)) = s.ok := by rw [decide_eq_true (by omega), Bool.and_true]
        unfold qv
        simp only [k0]
theorem below_tok {k : Nat} {V X Y : World} (hk : k < V.heap.size) (h : Below k V X) (b : Below X.heap.size X Y) : Below k V Y := h.trans (b.mono (Nat.le_trans (Nat.le_of_lt hk) h.size))
theorem blk_low {k B : Nat} {V X : World} {cs : Array Value} {T : TypeId} (hb : Below k V X) (h : B < k) (q : Blk V B cs T) : Blk X B cs T := (hb.block B h).trans q
theorem clo_keep (am : Option Addr) (nm cm : Nat) (q bx cy lo hi : Int) (an : Option Addr) (nn cn : Nat) (al : Option Addr) (nl cl : Nat) {c1 c2 c3 c4 ha hb hc X Y d : Int} {p g b0 b1 k : Nat} {V : World} (h0 : b0 < k) (h1 : b1 < k) (hp : p < k) (hg : g < k) (K0 : Blk V b0 #[.int .i64 c1, .int .i64 c2, .int .i64 c3, .int .i64 c4] 35) (K1 : Blk V b1 #[.int .i64 ha, .int .i64 hb, .int .i64 hc] 104) (KR : Blk V p #[.slice am nm cm, .int .i64 q, .int .i64 bx, .int .i64 cy, .int .i64 lo, .int .i64 hi, .slice an nn cn, .slice al nl cl] 42) (KI : Blk V g #[.int .i64 X, .int .i64 Y, .int .i64 d] 45) (x : World) (hX : Below k V x) :
    x.cell? ⟨b0, 0, none⟩ = some (.int .i64 c1) ∧ x.cell? ⟨b0, 1, none⟩ = some (.int .i64 c2) ∧ x.cell? ⟨b0, 2, none⟩ = some (.int .i64 c3) ∧ x.cell? ⟨b0, 3, none⟩ = some (.int .i64 c4) ∧ x.cell? ⟨b1, 0, none⟩ = some (.int .i64 ha) ∧ x.cell? ⟨b1, 1, none⟩ = some (.int .i64 hb) ∧ x.cell? ⟨b1, 2, none⟩ = some (.int .i64 hc) ∧ x.cell? ⟨p, 0, none⟩ = some (.slice am nm cm) ∧ x.cell? ⟨p, 1, none⟩ = some (.int .i64 q) ∧ x.cell? ⟨p, 2, none⟩ = some (.int .i64 bx) ∧ x.cell? ⟨p, 3, none⟩ = some (.int .i64 cy) ∧ x.cell? ⟨p, 4, none⟩ = some (.int .i64 lo) ∧ x.cell? ⟨p, 5, none⟩ = some (.int .i64 hi) ∧ x.cell? ⟨p, 6, none⟩ = some (.slice an nn cn) ∧ x.cell? ⟨p, 7, none⟩ = some (.slice al nl cl) ∧ x.cell? ⟨g, 0, none⟩ = some (.int .i64 X) ∧ x.cell? ⟨g, 1, none⟩ = some (.int .i64 Y) ∧ x.cell? ⟨g, 2, none⟩ = some (.int .i64 d) := by
  have k0 := blk_low hX h0 K0
  have k1 := blk_low hX h1 K1
  have kr := blk_low hX hp KR
  have ki := blk_low hX hg KI
  exact ⟨k0.cell0 rfl, k0.cell0 rfl, k0.cell0 rfl, k0.cell0 rfl, k1.cell0 rfl, k1.cell0 rfl, k1.cell0 rfl, kr.c8_0, kr.c8_1, kr.c8_2, kr.c8_3, kr.c8_4, kr.c8_5, kr.c8_6, kr.c8_7, ki.cell0 rfl, ki.cell0 rfl, ki.cell0 rfl⟩
set_option maxRecDepth 20000 in
set_option maxHeartbeats 3200000 in
theorem impl_clo (am : Option Addr) (nm cm : Nat) (q bx cy lo hi : Int) (an : Option Addr) (nn cn : Nat) (al : Option Addr) (nl cl : Nat) (X Y d : Int) (p g : Nat) (s : Adm) (h : H3) (w : World) (KR0 : Blk w p #[.slice am nm cm, .int .i64 q, .int .i64 bx, .int .i64 cy, .int .i64 lo, .int .i64 hi, .slice an nn cn, .slice al nl cl] 42) (KI0 : Blk w g #[.int .i64 X, .int .i64 Y, .int .i64 d] 45) (so : s.Ok) (hk : okB h = true) (hx : -100 ≤ bx ∧ bx ≤ 100) (hy : -100 ≤ cy ∧ cy ≤ 100) (hX : -4000000000 ≤ X ∧ X ≤ 4000000000) (hY : -4000000000 ≤ Y ∧ Y ≤ 4000000000) (hd : 1 ≤ d ∧ d ≤ 2000000) :
    Calls Tryz.prog 101 #[.agg #[.int .i64 (qv s s.lN), .int .i64 (qv s s.lD), .int .i64 (qv s s.hN), .int .i64 (qv s s.hD)], .agg #[.int .i64 h.a, .int .i64 h.b, .int .i64 h.c], .pointer (some ⟨p, 0, none⟩), .pointer (some ⟨g, 0, none⟩)] w fun e w' => e = .returned (.agg #[.int .i64 (qv (admS bx cy X Y d s h) (admS bx cy X Y d s h).lN), .int .i64 (qv (admS bx cy X Y d s h) (admS bx cy X Y d s h).lD), .int .i64 (qv (admS bx cy X Y d s h) (admS bx cy X Y d s h).hN), .int .i64 (qv (admS bx cy X Y d s h) (admS bx cy X Y d s h).hD)]) ∧ Below w.heap.size w w' := by
  obtain ⟨it, in_⟩ := adm_in (bx := bx) (cy := cy) (X := X) (Y := Y) (d := d) hk hx hy hd hX hY
  have HQ := nrw_adm (s := s) hd it in_
  have hok : okH h.a h.b h.c = true := hk
  have HSL := Lib.hid (fun V => impl_slo am nm cm q bx cy lo hi an nn cn al nl cl h.a h.b h.c V hx hy hok)
  have hsl : h.a * bx + h.b * cy = slp bx cy h := rfl
  rw [hsl] at HSL
  have HTO := Lib.hid (fun V => impl_top h.a h.b h.c X Y d V hok hX hY hd)
  obtain ⟨hhT, oT, _⟩ := lxo_ok (n := topN h.a h.b h.c X Y d) (d := d) it (by omega)
  obtain ⟨p1, p2, p3, p4, _⟩ := (okR_iff _ _).1 oT
  have p5 : ofD (topN h.a h.b h.c X Y d) d ≤ d := by
    unfold ofD
    rw [if_pos hhT]
    unfold botR
    exact Int.le_trans (Int.ofNat_le.2 (Nat.div_le_self d.natAbs (Int.gcd (topN h.a h.b h.c X Y d) d))) (by omega)
  obtain ⟨s1, s2⟩ := ok_64 so.1
  obtain ⟨s3, s4⟩ := ok_64 so.2
  have HNA := Lib.hid (fun V => impl_nar (slp bx cy h) (ofN (topN h.a h.b h.c X Y d) d) (ofD (topN h.a h.b h.c X Y d) d) (qv s s.lN) (qv s s.lD) (qv s s.hN) (qv s s.hD) V (qv_64 s1) (qv_64 s2) (qv_64 s3) (qv_64 s4) in_ ⟨p3, p4⟩ (by omega))
  rw [HQ] at HNA
  clear HQ it in_ hok hsl hhT oT p1 p2 p3 p4 p5 s1 s2 s3 s4 so hk hx hy hX hY hd
  generalize qv (admS bx cy X Y d s h) (admS bx cy X Y d s h).lN = d1 at *
  generalize qv (admS bx cy X Y d s h) (admS bx cy X Y d s h).lD = d2 at *
  generalize qv (admS bx cy X Y d s h) (admS bx cy X Y d s h).hN = d3 at *
  generalize qv (admS bx cy X Y d s h) (admS bx cy X Y d s h).hD = d4 at *
  generalize qv s s.lN = c1 at *
  generalize qv s s.lD = c2 at *
  generalize qv s s.hN = c3 at *
  generalize qv s s.hD = c4 at *
  generalize ofN (topN h.a h.b h.c X Y d) d = tN at *
  generalize ofD (topN h.a h.b h.c X Y d) d = tD at *
  generalize slp bx cy h = n at *
  obtain ⟨ha, hb, hc⟩ := h
  simp only at HSL HTO ⊢
  have lp := KR0.lt
  have lg := KI0.lt
  have bV := below_bx2 (below_bx2 (below_one w (.cells #[.int .i64 c1, .int .i64 c2, .int .i64 c3, .int .i64 c4] 35)) (.cells #[.int .i64 ha, .int .i64 hb, .int .i64 hc] 104)) (.cells #[.int .i64 0, .int .i64 0, .int .i64 0, .int .i64 0] 35)
  have K0 := ((blk_new w #[.int .i64 c1, .int .i64 c2, .int .i64 c3, .int .i64 c4] 35 (b := w.heap.size) (by simp)).to (below_one _ (.cells #[.int .i64 ha, .int .i64 hb, .int .i64 hc] 104))).to (below_one _ (.cells #[.int .i64 0, .int .i64 0, .int .i64 0, .int .i64 0] 35))
  have K1 := (blk_new (w.alloc (.cells #[.int .i64 c1, .int .i64 c2, .int .i64 c3, .int .i64 c4] 35)) #[.int .i64 ha, .int .i64 hb, .int .i64 hc] 104 (b := w.heap.size + 1) (by simp)).to (below_one _ (.cells #[.int .i64 0, .int .i64 0, .int .i64 0, .int .i64 0] 35))
  have K2 := blk_new ((w.alloc (.cells #[.int .i64 c1, .int .i64 c2, .int .i64 c3, .int .i64 c4] 35)).alloc (.cells #[.int .i64 ha, .int .i64 hb, .int .i64 hc] 104)) #[.int .i64 0, .int .i64 0, .int .i64 0, .int .i64 0] 35 (b := w.heap.size + 1 + 1) (by simp)
  have KR := KR0.to bV
  have KI := KI0.to bV
  clear KR0 KI0
  go_enter Tryz.func101, Tryz.ntmps101
  go_upto_region 1 with fail
  generalize (((w.alloc (.cells #[.int .i64 c1, .int .i64 c2, .int .i64 c3, .int .i64 c4] 35)).alloc (.cells #[.int .i64 ha, .int .i64 hb, .int .i64 hc] 104)).alloc (.cells #[.int .i64 0, .int .i64 0, .int .i64 0, .int .i64 0] 35)) = V at *
  have kk := clo_keep am nm cm q bx cy lo hi an nn cn al nl cl (k := w.heap.size + 1 + 1) (by omega) (by omega) (by omega) (by omega) K0 K1 KR KI
  obtain ⟨i0, i1, i2, i3, i4, i5, i6, i7, i8, i9, i10, i11, i12, i13, i14, i15, i16, i17⟩ := kk V (Below.refl _ _)
  go_region_held3 (fun w' => w'.cell? ⟨w.heap.size, 0, none⟩ = some (.int .i64 c1) ∧ w'.cell? ⟨w.heap.size, 1, none⟩ = some (.int .i64 c2) ∧ w'.cell? ⟨w.heap.size, 2, none⟩ = some (.int .i64 c3) ∧ w'.cell? ⟨w.heap.size, 3, none⟩ = some (.int .i64 c4) ∧ w'.cell? ⟨w.heap.size + 1, 0, none⟩ = some (.int .i64 ha) ∧ w'.cell? ⟨w.heap.size + 1, 1, none⟩ = some (.int .i64 hb) ∧ w'.cell? ⟨w.heap.size + 1, 2, none⟩ = some (.int .i64 hc) ∧ w'.cell? ⟨p, 0, none⟩ = some (.slice am nm cm) ∧ w'.cell? ⟨p, 1, none⟩ = some (.int .i64 q) ∧ w'.cell? ⟨p, 2, none⟩ = some (.int .i64 bx) ∧ w'.cell? ⟨p, 3, none⟩ = some (.int .i64 cy) ∧ w'.cell? ⟨p, 4, none⟩ = some (.int .i64 lo) ∧ w'.cell? ⟨p, 5, none⟩ = some (.int .i64 hi) ∧ w'.cell? ⟨p, 6, none⟩ = some (.slice an nn cn) ∧ w'.cell? ⟨p, 7, none⟩ = some (.slice al nl cl) ∧ w'.cell? ⟨g, 0, none⟩ = some (.int .i64 X) ∧ w'.cell? ⟨g, 1, none⟩ = some (.int .i64 Y) ∧ w'.cell? ⟨g, 2, none⟩ = some (.int .i64 d))
    ((refine kk _ ?_; repeat (first | (with_reducible exact Below.refl _ _) | refine Below.setCell ?_ (by first | (simp; done) | (simp; omega)) _ | (with_reducible refine below_drk K2.lt ?_) | (with_reducible refine below_tok K2.lt ?_ (by assumption)))))
    (first | (go_at_call 103; (with_reducible refine (HSL.out _).mono ?_); rintro e wA ⟨rfl, blA⟩) | (go_at_call 104; (with_reducible refine (HTO.out _).mono ?_); rintro e wB ⟨rfl, blB⟩) | (go_at_call 102; (with_reducible refine (HNA.out _).mono ?_); rintro e wC ⟨rfl, blC⟩; have E1 : Blk wC _ _ _ := K2.to (by repeat (first | (with_reducible exact Below.refl _ _) | refine below_drw ?_ | refine below_bx2 ?_ _ | refine below_to ?_ (by assumption))); have z0 := E1.cell0 (i := 0) (v := .int .i64 0) rfl; have z1 := E1.cell0 (i := 1) (v := .int .i64 0) rfl; have z2 := E1.cell0 (i := 2) (v := .int .i64 0) rfl; have z3 := E1.cell0 (i := 3) (v := .int .i64 0) rfl; have f0 := E1.free 0; have f1 := E1.free 1; have f2 := E1.free 2; have f3 := E1.free 3))
  all_goals
    have b7 : Below w.heap.size w wC := below_to bV (by repeat (first | (with_reducible exact Below.refl _ _) | refine below_drw ?_ | refine below_bx2 ?_ _ | refine below_to ?_ (by assumption)))
    go_wp2_with fail
    exact bodyPost_ret (v := .agg #[.int .i64 d1, .int .i64 d2, .int .i64 d3, .int .i64 d4]) (by simp [results, Tryz.results101, go_sem, z0, z1, z2, z3]) rfl ⟨rfl, ((((b7.setCell (p := ⟨w.heap.size + 1 + 1, 0, none⟩) (Nat.le_add_right _ 2) (.int .i64 d1)).setCell (p := ⟨w.heap.size + 1 + 1, 1, none⟩) (Nat.le_add_right _ 2) (.int .i64 d2)).setCell (p := ⟨w.heap.size + 1 + 1, 2, none⟩) (Nat.le_add_right _ 2) (.int .i64 d3)).setCell (p := ⟨w.heap.size + 1 + 1, 3, none⟩) (Nat.le_add_right _ 2) (.int .i64 d4))⟩
end Go.Proofs.YtibkmhmeoelpdaaGreat
