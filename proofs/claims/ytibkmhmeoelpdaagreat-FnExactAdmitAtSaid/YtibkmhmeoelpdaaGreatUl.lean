/- l11Admit of the model, over the translation. -/
import Derived.Test.YtibkmhmeoelpdaaGreatUj
namespace Go.Proofs.YtibkmhmeoelpdaaGreat
open Go.RowKit
open Geo (H3)

theorem adm_dead {bx cy X Y d : Int} {s : Adm} (h : s.ok = false) (x : H3) : (admS bx cy X Y d s x).ok = false := by
  unfold admS
  split
  · exact h
  · split
    · exact h
    · simp [h]
theorem adm_deads {bx cy X Y d : Int} (es : List H3) : ∀ {s : Adm}, s.ok = false → (es.foldl (admS bx cy X Y d) s).ok = false := by
  induction es with
  | nil => intro s h; exact h
  | cons x t ih => intro s h; rw [List.foldl_cons]; exact ih (adm_dead h x)
theorem admK_dead {bx cy lo hi X Y d : Int} {es : List H3} {k : Nat} (h : (admK bx cy lo hi X Y d es k).ok = false) : (admL bx cy lo hi X Y d es).ok = false := by
  unfold admL
  rw [← List.take_append_drop k es, List.foldl_append]
  exact adm_deads _ h
theorem at_no {s : Adm} (h : atB s = false) : atV s s.lN = 0 ∧ atV s s.lD = 0 ∧ atV s s.hN = 0 ∧ atV s s.hD = 0 ∧ atB s = false := by
  unfold atV
  rw [h]
  exact ⟨rfl, rfl, rfl, rfl, rfl⟩
theorem at_yes {s : Adm} (h : atB s = true) : atV s s.lN = s.lN ∧ atV s s.lD = s.lD ∧ atV s s.hN = s.hN ∧ atV s s.hD = s.hD ∧ atB s = true := by
  unfold atV
  rw [h]
  exact ⟨rfl, rfl, rfl, rfl, rfl⟩
theorem admS_pos {bx cy X Y d : Int} {s : Adm} {h : H3} (q : 0 < h.a * bx + h.b * cy) : admS bx cy X Y d s h = ⟨s.lN, s.lD, (minP s.hN s.hD (ofN (topN h.a h.b h.c X Y d) (d * (h.a * bx + h.b * cy))) (ofD (topN h.a h.b h.c X Y d) (d * (h.a * bx + h.b * cy)))).1, (minP s.hN s.hD (ofN (topN h.a h.b h.c X Y d) (d * (h.a * bx + h.b * cy))) (ofD (topN h.a h.b h.c X Y d) (d * (h.a * bx + h.b * cy)))).2, s.ok⟩ := by
  unfold admS
  have e : slp bx cy h = h.a * bx + h.b * cy := rfl
  rw [e, if_pos q]
  rfl
theorem admS_neg {bx cy X Y d : Int} {s : Adm} {h : H3} (q : h.a * bx + h.b * cy < 0) : admS bx cy X Y d s h = ⟨(maxP s.lN s.lD (ofN (-topN h.a h.b h.c X Y d) (-d * (h.a * bx + h.b * cy))) (ofD (-topN h.a h.b h.c X Y d) (-d * (h.a * bx + h.b * cy)))).1, (maxP s.lN s.lD (ofN (-topN h.a h.b h.c X Y d) (-d * (h.a * bx + h.b * cy))) (ofD (-topN h.a h.b h.c X Y d) (-d * (h.a * bx + h.b * cy)))).2, s.hN, s.hD, s.ok⟩ := by
  unfold admS
  have e : slp bx cy h = h.a * bx + h.b * cy := rfl
  rw [e, if_neg (by omega), if_pos q]
  rfl
theorem admS_zero {bx cy X Y d : Int} {s : Adm} {h : H3} (q : ¬ 0 < h.a * bx + h.b * cy) (r : ¬ h.a * bx + h.b * cy < 0) : admS bx cy X Y d s h = ⟨s.lN, s.lD, s.hN, s.hD, s.ok && decide (0 ≤ topN h.a h.b h.c X Y d)⟩ := by
  unfold admS
  have e : slp bx cy h = h.a * bx + h.b * cy := rfl
  rw [e, if_neg q, if_neg r]
  rfl
set_option maxRecDepth 100000 in
set_option maxHeartbeats 4000000 in
theorem spec_into (am : Option Addr) (nm cm : Nat) (z0 z1 z2 z3 q bx cy lo hi : Int) (an : Option Addr) (nn cn : Nat) (al : Option Addr) (nl cl : Nat) (a : Option Addr) (n ca : Nat) (es : List H3) (sX sY sD : Int) (w : World) (hlm : [z0, z1, z2, z3].length = nm) (hM : IsAt w am [z0, z1, z2, z3]) (hm : mapB [z0, z1, z2, z3] q = true) (hx : -100 ≤ bx ∧ bx ≤ 100) (hy : -100 ≤ cy ∧ cy ≤ 100) (hlo : -1000 ≤ lo ∧ lo ≤ 1000) (hhi : -1000 ≤ hi ∧ hi ≤ 1000) (hl : es.length = n) (hn : n ≤ 1048576) (hA : HsAt w a es) (ok : ∀ h ∈ es, okB h = true) (hs : okS sX sY sD = true) (hd : sD ≤ 100000) :
    Calls Tryz.prog 46 #[.agg #[.slice am nm cm, .int .i64 q, .int .i64 bx, .int .i64 cy, .int .i64 lo, .int .i64 hi, .slice an nn cn, .slice al nl cl], .agg #[.slice a n ca], .agg #[.int .i64 sX, .int .i64 sY, .int .i64 sD]] w fun e w' => e = .returned (.tuple #[.agg #[.int .i64 (atV (admL bx cy lo hi (z0 * sX + z1 * sY) (z2 * sX + z3 * sY) (q * sD) es) (admL bx cy lo hi (z0 * sX + z1 * sY) (z2 * sX + z3 * sY) (q * sD) es).lN), .int .i64 (atV (admL bx cy lo hi (z0 * sX + z1 * sY) (z2 * sX + z3 * sY) (q * sD) es) (admL bx cy lo hi (z0 * sX + z1 * sY) (z2 * sX + z3 * sY) (q * sD) es).lD), .int .i64 (atV (admL bx cy lo hi (z0 * sX + z1 * sY) (z2 * sX + z3 * sY) (q * sD) es) (admL bx cy lo hi (z0 * sX + z1 * sY) (z2 * sX + z3 * sY) (q * sD) es).hN), .int .i64 (atV (admL bx cy lo hi (z0 * sX + z1 * sY) (z2 * sX + z3 * sY) (q * sD) es) (admL bx cy lo hi (z0 * sX + z1 * sY) (z2 * sX + z3 * sY) (q * sD) es).hD)], .bool (atB (admL bx cy lo hi (z0 * sX + z1 * sY) (z2 * sX + z3 * sY) (q * sD) es))]) ∧ Below w.heap.size w w' := by
  have hm' := hm
  have hs' := hs
  obtain ⟨y0, y1, y2, y3, hyy, ⟨a1, a2⟩, ⟨a3, a4⟩, ⟨a5, a6⟩, ⟨a7, a8⟩, q1, q2⟩ := map_four hm'
  simp only [List.cons.injEq, and_true] at hyy
  obtain ⟨rfl, rfl, rfl, rfl⟩ := hyy
  obtain ⟨d1, _, x1, x2, y1, y2, _⟩ := (okS_iff _ _ _).1 hs'
  have m0 := mul_in z0 sX 20 100000000 a1 a2 (by omega) (by omega)
  have m1 := mul_in z1 sY 20 100000000 a3 a4 (by omega) (by omega)
  have m2 := mul_in z2 sX 20 100000000 a5 a6 (by omega) (by omega)
  have m3 := mul_in z3 sY 20 100000000 a7 a8 (by omega) (by omega)
  have m4 := mul_in q sD 20 100000 (by omega) q2 (by omega) hd
  have m4' : 1 * 1 ≤ q * sD := Int.mul_le_mul (by omega) (by omega) (by omega) (by omega)
  have HAT := Lib.hid (fun V hA hB hC (h : Below w.heap.size w V) (hh : okH hA hB hC = true) => spec_att am nm cm z0 z1 z2 z3 q bx cy lo hi an nn cn al nl cl hA hB hC sX sY sD V hlm (hM.below h) hm hh hs hd)
  have eX : -4000000000 ≤ z0 * sX + z1 * sY ∧ z0 * sX + z1 * sY ≤ 4000000000 := by omega
  have eY : -4000000000 ≤ z2 * sX + z3 * sY ∧ z2 * sX + z3 * sY ≤ 4000000000 := by omega
  have eD : 1 ≤ q * sD ∧ q * sD ≤ 2000000 := by omega
  clear m0 m1 m2 m3 m4 m4' x1 x2 y1 y2 d1 a1 a2 a3 a4 a5 a6 a7 a8 q1 q2 hlm hM hm hs hd hm' hs'
  generalize z0 * sX + z1 * sY = X at *
  generalize z2 * sX + z3 * sY = Y at *
  generalize q * sD = d at *
  have HK := Lib.hid (fun k => admK_ok (bx := bx) (cy := cy) (lo := lo) (hi := hi) (X := X) (Y := Y) (d := d) (es := es) eD hlo hhi hx hy eX eY ok k)
  have HIA := Lib.hid (fun k h (hx' : es[k]? = some h) => adm_in (bx := bx) (cy := cy) (X := X) (Y := Y) (d := d) (ok h (List.mem_of_getElem? hx')) hx hy eD eX eY)
  have HOK := Lib.hid ok
  have HO1 := Lib.hid (fun V => spec_ofA lo 1 V (by omega) (by omega) (by omega) (by omega))
  rw [(one_of (n := lo) (by omega)).1, (one_of (n := lo) (by omega)).2.1] at HO1
  have HO2 := Lib.hid (fun V => spec_ofA hi 1 V (by omega) (by omega) (by omega) (by omega))
  rw [(one_of (n := hi) (by omega)).1, (one_of (n := hi) (by omega)).2.1] at HO2
  have HLA := Lib.hid hA
  have HLL := Lib.hid hl
  have HX := Lib.hid hx
  have HY := Lib.hid hy
  clear hA hl hx hy ok hlo hhi eX eY
  have HND := Lib.hid (fun (h : atB (admL bx cy lo hi X Y d es) = false) => at_no h)
  have HYD := Lib.hid (fun (h : atB (admL bx cy lo hi X Y d es) = true) => at_yes h)
  generalize atV (admL bx cy lo hi X Y d es) (admL bx cy lo hi X Y d es).lN = d1 at *
  generalize atV (admL bx cy lo hi X Y d es) (admL bx cy lo hi X Y d es).lD = d2 at *
  generalize atV (admL bx cy lo hi X Y d es) (admL bx cy lo hi X Y d es).hN = d3 at *
  generalize atV (admL bx cy lo hi X Y d es) (admL bx cy lo hi X Y d es).hD = d4 at *
  generalize hR : atB (admL bx cy lo hi X Y d es) = R at *
  have HR := Lib.hid hR
  clear hR
  have bV := below_bx2 (below_bx2 (below_bx2 (below_one w (.cells #[.slice am nm cm, .int .i64 q, .int .i64 bx, .int .i64 cy, .int .i64 lo, .int .i64 hi, .slice an nn cn, .slice al nl cl] 42)) (.cells #[.slice a n ca] 40)) (.cells #[.int .i64 sX, .int .i64 sY, .int .i64 sD] 45)) (.cells #[.int .i64 0, .int .i64 0, .int .i64 0, .int .i64 0] 35)
  have K0 := (((blk_new w #[.slice am nm cm, .int .i64 q, .int .i64 bx, .int .i64 cy, .int .i64 lo, .int .i64 hi, .slice an nn cn, .slice al nl cl] 42 (b := w.heap.size) (by simp)).to (below_one _ (.cells #[.slice a n ca] 40))).to (below_one _ (.cells #[.int .i64 sX, .int .i64 sY, .int .i64 sD] 45))).to (below_one _ (.cells #[.int .i64 0, .int .i64 0, .int .i64 0, .int .i64 0] 35))
  have K1 := ((blk_new (w.alloc (.cells #[.slice am nm cm, .int .i64 q, .int .i64 bx, .int .i64 cy, .int .i64 lo, .int .i64 hi, .slice an nn cn, .slice al nl cl] 42)) #[.slice a n ca] 40 (b := w.heap.size + 1) (by simp)).to (below_one _ (.cells #[.int .i64 sX, .int .i64 sY, .int .i64 sD] 45))).to (below_one _ (.cells #[.int .i64 0, .int .i64 0, .int .i64 0, .int .i64 0] 35))
  have K2 := (blk_new ((w.alloc (.cells #[.slice am nm cm, .int .i64 q, .int .i64 bx, .int .i64 cy, .int .i64 lo, .int .i64 hi, .slice an nn cn, .slice al nl cl] 42)).alloc (.cells #[.slice a n ca] 40)) #[.int .i64 sX, .int .i64 sY, .int .i64 sD] 45 (b := w.heap.size + 1 + 1) (by simp)).to (below_one _ (.cells #[.int .i64 0, .int .i64 0, .int .i64 0, .int .i64 0] 35))
  have K3 := blk_new (((w.alloc (.cells #[.slice am nm cm, .int .i64 q, .int .i64 bx, .int .i64 cy, .int .i64 lo, .int .i64 hi, .slice an nn cn, .slice al nl cl] 42)).alloc (.cells #[.slice a n ca] 40)).alloc (.cells #[.int .i64 sX, .int .i64 sY, .int .i64 sD] 45)) #[.int .i64 0, .int .i64 0, .int .i64 0, .int .i64 0] 35 (b := w.heap.size + 1 + 1 + 1) (by simp)
  go_enter Tryz.func46, Tryz.ntmps46
  go_upto_region 1 with fail
  generalize ((((w.alloc (.cells #[.slice am nm cm, .int .i64 q, .int .i64 bx, .int .i64 cy, .int .i64 lo, .int .i64 hi, .slice an nn cn, .slice al nl cl] 42)).alloc (.cells #[.slice a n ca] 40)).alloc (.cells #[.int .i64 sX, .int .i64 sY, .int .i64 sD] 45)).alloc (.cells #[.int .i64 0, .int .i64 0, .int .i64 0, .int .i64 0] 35)) = U at *
  go_cut [8] from 14 to 20 (fun s9 wx => ∃ g, s9 = .pointer (some ⟨g, 0, none⟩) ∧ U.heap.size ≤ g ∧ Blk wx g #[.int .i64 lo, .int .i64 1, .int .i64 hi, .int .i64 1] 35 ∧ Below U.heap.size U wx)
  case first =>
    have r4 := K0.c8_4
    have r5 := K0.c8_5
    go_region_held3 (fun w' => w'.cell? ⟨w.heap.size, 4, none⟩ = some (.int .i64 lo) ∧ w'.cell? ⟨w.heap.size, 5, none⟩ = some (.int .i64 hi))
      ((refine rng_keep K0 ?_; repeat (first | (with_reducible exact Below.refl _ _) | refine Below.setCell ?_ (by first | (simp; done) | (simp; omega)) _ | refine below_bx2 ?_ _ | refine below_drw ?_ | refine below_to ?_ (by assumption))))
      (first | (go_at_call 92; (with_reducible refine (HO1.out _).mono ?_); rintro e wA ⟨rfl, blA⟩; have hcA := bcl3 blA; (first | (with_reducible have hxA := bcl3 (below_to blB blA)) | skip); have hsA := blA.size; (try simp at hsA)) | (go_at_call 92; (with_reducible refine (HO2.out _).mono ?_); rintro e wB ⟨rfl, blB⟩; have hcB := bcl3 blB; (first | (with_reducible have hxB := bcl3 (below_to blA blB)) | skip); have hsB := blB.size; (try simp at hsB)))
    all_goals
      (try obtain ⟨hcA1, hcA2⟩ := hcA)
      (try obtain ⟨hxA1, hxA2⟩ := hxA)
      (try obtain ⟨hcB1, hcB2⟩ := hcB)
      (try obtain ⟨hxB1, hxB2⟩ := hxB)
      go_wp2_with fail
      go_meet
      refine ⟨_, rfl, ?_, ?_, ?_⟩
      · first | exact Nat.le_refl _ | omega | (simp; omega)
      · first
        | (unfold Blk; with_reducible exact heap_alloc_new _ _)
        | (unfold Blk; with_reducible refine blk_s4 (a0 := .int .i64 0) (a1 := .int .i64 0) (a2 := .int .i64 0) (a3 := .int .i64 0) ?_ _ _ _ _
           apply at_new3 (Z := .cells #[.int .i64 0, .int .i64 0, .int .i64 0, .int .i64 0] 35)
           · repeat (first | (with_reducible exact Below.refl _ _) | refine below_bx2 ?_ _ | refine below_drw ?_ | refine below_to ?_ (by assumption))
           · first | rfl | (simp; done))
      · repeat (first | (with_reducible exact Below.refl _ _) | refine Below.setCell ?_ (by first | (simp; done) | (simp; omega)) _ | refine below_bx2 ?_ _ | refine below_drw ?_ | refine below_to ?_ (by assumption))
  case rest =>
    obtain ⟨gs, rfl, hgs, hG, hbx⟩ := hcut
    rename World => wc
    have lgs : w.heap.size + 1 + 1 + 1 < gs := Nat.lt_of_lt_of_le K3.lt hgs
    have b2 := below_to bV hbx
    have M0 := K0.to hbx
    have M1 := K1.to hbx
    have M2 := K2.to hbx
    have M3 := K3.to hbx
    have KG : Blk wc gs #[.int .i64 lo, .int .i64 1, .int .i64 hi, .int .i64 1] 35 := hG
    clear K0 K1 K2 K3 hbx hG bV HO1 HO2 hgs
    have m1 := M1.cell0 (i := 0) (v := .slice a n ca) rfl
    go_wp2
    clear m1
    go_loopw [24] (fun i wr => ∃ k : Nat, k ≤ n ∧ i = .int .i64 k ∧ (admK bx cy lo hi X Y d es k).ok = true ∧ Below w.heap.size w wr ∧ Blk wr gs #[.int .i64 (admK bx cy lo hi X Y d es k).lN, .int .i64 (admK bx cy lo hi X Y d es k).lD, .int .i64 (admK bx cy lo hi X Y d es k).hN, .int .i64 (admK bx cy lo hi X Y d es k).hD] 35 ∧ Blk wr w.heap.size #[.slice am nm cm, .int .i64 q, .int .i64 bx, .int .i64 cy, .int .i64 lo, .int .i64 hi, .slice an nn cn, .slice al nl cl] 42 ∧ Blk wr (w.heap.size + 1 + 1) #[.int .i64 sX, .int .i64 sY, .int .i64 sD] 45 ∧ Blk wr (w.heap.size + 1 + 1 + 1) #[.int .i64 0, .int .i64 0, .int .i64 0, .int .i64 0] 35) (fun i _ => n - (intOf i).toNat)
    case atStart => exact ⟨0, Nat.zero_le _, rfl, rfl, b2, KG, M0, M2, M3⟩
    case round =>
      obtain ⟨k, hk, rfl, hko, hbw, hG, h0, h2, h3⟩ := hrel
      clear M0 M1 M2 M3 KG
      by_cases hlt : k < n
      · obtain ⟨⟨xa, xb, xc⟩, hx⟩ : ∃ x, es[k]? = some x := ⟨_, List.getElem?_eq_getElem (by rw [HLL.out]; exact hlt)⟩
        have HXS := Lib.hid hx
        obtain ⟨g, o, rfl, hcx⟩ := HLA.out k _ hx
        obtain ⟨t1, t2, t3⟩ := hcx.to hbw
        simp only at t1 t2 t3
        have hok : okH xa xb xc = true := HOK.out _ (List.mem_of_getElem? hx)
        obtain ⟨it, in_⟩ := HIA.out k _ hx
        have HST := Lib.hid (admK_s (bx := bx) (cy := cy) (lo := lo) (hi := hi) (X := X) (Y := Y) (d := d) hx)
        have so := HK.out k
        have hT : topN xa xb xc X Y d = xc * d - xa * X - xb * Y := rfl
        simp only at it in_
        rw [← hT] at it
        have hsl : slp bx cy ⟨xa, xb, xc⟩ = xa * bx + xb * cy := rfl
        rw [hsl] at in_
        clear hT hsl hx hcx
        have bX := below_bx2 hbw (.cells #[.int .i64 xa, .int .i64 xb, .int .i64 xc] 104)
        have bN := below_one wr (.cells #[.int .i64 xa, .int .i64 xb, .int .i64 xc] 104)
        have HB0 := blk_new wr #[.int .i64 xa, .int .i64 xb, .int .i64 xc] 104 rfl
        have HAC := Lib.hid (HAT.out _ xa xb xc bX hok)
        have G := hG.to bN
        have R0 := h0.to bN
        have S0 := h2.to bN
        have T0 := h3.to bN
        clear hG h0 h2 h3
        have r0 := R0.c8_0
        have r1 := R0.c8_1
        have r2 := R0.c8_2
        have r3 := R0.c8_3
        have r4 := R0.c8_4
        have r5 := R0.c8_5
        have r6 := R0.c8_6
        have r7 := R0.c8_7
        have v0 := S0.cell0 (i := 0) (v := .int .i64 sX) rfl
        have v1 := S0.cell0 (i := 1) (v := .int .i64 sY) rfl
        have v2 := S0.cell0 (i := 2) (v := .int .i64 sD) rfl
        go_wp2_with fail
        clear r0 r1 r2 r3 r4 r5 r6 r7 v0 v1 v2 t1 t2 t3
        refine HAC.out.mono ?_
        rintro e w4 ⟨rfl, bl4⟩
        have b4 := below_to bX bl4
        have G4 := G.to bl4
        have R4 := R0.to bl4
        have S4 := S0.to bl4
        have T4 := T0.to bl4
        have H4 := HB0.to bl4
        clear G R0 S0 T0 HB0 bl4 bX bN HAC hbw
        obtain ⟨i1, i2, i3, i4, i5, i6, _⟩ := (okH_iff _ _ _).1 hok
        have n0 := mul_in xa bx 50000 100 (by omega) (by omega) HX.out.1 HX.out.2
        have n1 := mul_in xb cy 50000 100 (by omega) (by omega) HY.out.1 HY.out.2
        clear i1 i2 i3 i4 i5 i6 hok
        have AP := Lib.hid (fun q => admS_pos (X := X) (Y := Y) (d := d) (s := admK bx cy lo hi X Y d es k) (h := ⟨xa, xb, xc⟩) (bx := bx) (cy := cy) q)
        have AN := Lib.hid (fun q => admS_neg (X := X) (Y := Y) (d := d) (s := admK bx cy lo hi X Y d es k) (h := ⟨xa, xb, xc⟩) (bx := bx) (cy := cy) q)
        have AZ := Lib.hid (fun q r => admS_zero (X := X) (Y := Y) (d := d) (s := admK bx cy lo hi X Y d es k) (h := ⟨xa, xb, xc⟩) (bx := bx) (cy := cy) q r)
        simp only at AP AN AZ
        obtain ⟨s1, s2⟩ := ok_64 so.1
        obtain ⟨s3, s4⟩ := ok_64 so.2
        clear so
        generalize topN xa xb xc X Y d = T at *
        generalize e0 : xa * bx = u0 at *
        generalize e1 : xb * cy = u1 at *
        have v0 : IntKind.i64.wrap u0 = u0 := IntWalk.i64_in _ (by omega)
        have v1 : IntKind.i64.wrap u1 = u1 := IntWalk.i64_in _ (by omega)
        have v2 : IntKind.i64.wrap (u0 + u1) = u0 + u1 := IntWalk.i64_in _ (by omega)
        generalize eN : u0 + u1 = N at *
        obtain ⟨l1, hl1⟩ : ∃ x, (admK bx cy lo hi X Y d es k).lN = x := ⟨_, rfl⟩
        obtain ⟨l2, hl2⟩ : ∃ x, (admK bx cy lo hi X Y d es k).lD = x := ⟨_, rfl⟩
        obtain ⟨j1, hj1⟩ : ∃ x, (admK bx cy lo hi X Y d es k).hN = x := ⟨_, rfl⟩
        obtain ⟨j2, hj2⟩ : ∃ x, (admK bx cy lo hi X Y d es k).hD = x := ⟨_, rfl⟩
        rw [hl1, hl2, hj1, hj2] at G4 AP AN AZ
        rw [hko] at AP AN AZ
        rw [hl1] at s1
        rw [hl2] at s2
        rw [hj1] at s3
        rw [hj2] at s4
        clear hl1 hl2 hj1 hj2 hko
        have m1 := mul_in d N 2000000 10000000 (by omega) eD.2 in_.1 in_.2
        have x0 := H4.cell0 (i := 0) (v := .int .i64 xa) rfl
        have x1 := H4.cell0 (i := 1) (v := .int .i64 xb) rfl
        have r2 := R4.c8_2
        have r3 := R4.c8_3
        by_cases p1 : 0 < N
        · have HAP := Lib.hid (AP.out p1)
          have m2 : 1 * 1 ≤ d * N := Int.mul_le_mul eD.1 (by omega) (by omega) (by omega)
          have e5 : IntKind.i64.wrap (d * N) = d * N := IntWalk.i64_in _ (by omega)
          have HO := Lib.hid (fun V => spec_ofA T (d * N) V (by omega) (by omega) (by omega) (by omega))
          obtain ⟨_, oo, _⟩ := lxo_ok (n := T) (d := d * N) it (by omega)
          obtain ⟨k1, k2, k3, k4, _⟩ := (okR_iff _ _).1 oo
          have HM := Lib.hid (fun V => spec_min j1 j2 (ofN T (d * N)) (ofD T (d * N)) V s3.1 s3.2 s4.1 s4.2 (by omega) (by omega) (by omega) (by omega))
          clear oo k1 k2 k3 k4 s1 s2 s3 s4 AP AN AZ
          generalize ofN T (d * N) = o1 at *
          generalize ofD T (d * N) = o2 at *
          generalize minP j1 j2 o1 o2 = y at *
          obtain ⟨y1, y2⟩ := y
          simp only at HM HAP
          have p0 := G4.cell0 (i := 2) rfl
          have p1 := G4.cell0 (i := 3) rfl
          go_wp2_with fail
          go_region_with (first | (go_at_call 92; (with_reducible refine (HO.out _).mono ?_); rintro e wA ⟨rfl, blA⟩; have EA0 : Blk wA _ _ _ := G4.to (by repeat (first | (with_reducible exact Below.refl _ _) | refine below_drw ?_ | refine below_bx2 ?_ _ | refine below_to ?_ (by assumption))); have q2 := EA0.cell0 (i := 2) rfl; have q3 := EA0.cell0 (i := 3) rfl) | (go_at_call 94; (with_reducible refine (HM.out _).mono ?_); rintro e wB ⟨rfl, blB⟩; have EB0 : Blk wB _ _ _ := G4.to (by repeat (first | (with_reducible exact Below.refl _ _) | refine below_drw ?_ | refine below_bx2 ?_ _ | refine below_to ?_ (by assumption))); have EBR : Blk wB _ _ _ := R4.to (by repeat (first | (with_reducible exact Below.refl _ _) | refine below_drw ?_ | refine below_bx2 ?_ _ | refine below_to ?_ (by assumption))); have EBS : Blk wB _ _ _ := S4.to (by repeat (first | (with_reducible exact Below.refl _ _) | refine below_drw ?_ | refine below_bx2 ?_ _ | refine below_to ?_ (by assumption))); have EBT : Blk wB _ _ _ := T4.to (by repeat (first | (with_reducible exact Below.refl _ _) | refine below_drw ?_ | refine below_bx2 ?_ _ | refine below_to ?_ (by assumption))); have y2' := EB0.cell0 (i := 2) rfl; have y3' := EB0.cell0 (i := 3) rfl; have uf2 := EB0.free 2; have uf3 := EB0.free 3))
          all_goals
            have b8 : Below w.heap.size w wB := below_to b4 (by repeat (first | (with_reducible exact Below.refl _ _) | refine below_drw ?_ | refine below_bx2 ?_ _ | refine below_to ?_ (by assumption)))
            have F0 := Lib.hid (nrw_set2 EB0 (.int .i64 y1) (.int .i64 y2))
            have FR := Lib.hid (blk_far (blk_far EBR (p := ⟨gs, 2, none⟩) (.int .i64 y1) (by simp only; omega)) (p := ⟨gs, 3, none⟩) (.int .i64 y2) (by simp only; omega))
            have FS := Lib.hid (blk_far (blk_far EBS (p := ⟨gs, 2, none⟩) (.int .i64 y1) (by simp only; omega)) (p := ⟨gs, 3, none⟩) (.int .i64 y2) (by simp only; omega))
            have FT := Lib.hid (blk_far (blk_far EBT (p := ⟨gs, 2, none⟩) (.int .i64 y1) (by simp only; omega)) (p := ⟨gs, 3, none⟩) (.int .i64 y2) (by simp only; omega))
            have b9 := Lib.hid ((b8.setCell (p := ⟨gs, 2, none⟩) (by simp only; omega) (.int .i64 y1)).setCell (p := ⟨gs, 3, none⟩) (by simp only; omega) (.int .i64 y2))
            clear b8 EBR EBS EBT EB0
            go_wp2_with fail
            go_roundw
            case rel => exact ⟨k + 1, by omega, by go_num, by rw [HST.out, HAP.out], b9.out, by rw [HST.out, HAP.out]; exact F0.out, FR.out, FS.out, FT.out⟩
            case measure => simp [intOf]; omega
        · by_cases p2 : N < 0
          · have HAP := Lib.hid (AN.out p2)
            have m2 : 1 * 1 ≤ d * -N := Int.mul_le_mul eD.1 (by omega) (by omega) (by omega)
            have m3 := mul_in d (-N) 2000000 10000000 (by omega) eD.2 (by omega) (by omega)
            have e4 : -d * N = d * -N := by rw [Int.neg_mul, Int.mul_neg]
            rw [← e4] at m2 m3
            clear e4
            have e5 : IntKind.i64.wrap (-d * N) = -d * N := IntWalk.i64_in _ (by omega)
            have e6 : IntKind.i64.wrap (-d) = -d := IntWalk.i64_in _ (by omega)
            have e7 : IntKind.i64.wrap (-T) = -T := IntWalk.i64_in _ (by omega)
            have HO := Lib.hid (fun V => spec_ofA (-T) (-d * N) V (by omega) (by omega) (by omega) (by omega))
            obtain ⟨_, oo, _⟩ := lxo_ok (n := -T) (d := -d * N) (by omega) (by omega)
            obtain ⟨k1, k2, k3, k4, _⟩ := (okR_iff _ _).1 oo
            have HM := Lib.hid (fun V => spec_max l1 l2 (ofN (-T) (-d * N)) (ofD (-T) (-d * N)) V s1.1 s1.2 s2.1 s2.2 (by omega) (by omega) (by omega) (by omega))
            clear oo k1 k2 k3 k4 s1 s2 s3 s4 AP AN AZ
            generalize ofN (-T) (-d * N) = o1 at *
            generalize ofD (-T) (-d * N) = o2 at *
            generalize maxP l1 l2 o1 o2 = y at *
            obtain ⟨y1, y2⟩ := y
            simp only at HM HAP
            have p0 := G4.cell0 (i := 0) rfl
            have p1 := G4.cell0 (i := 1) rfl
            go_wp2_with fail
            go_region_with (first | (go_at_call 92; (with_reducible refine (HO.out _).mono ?_); rintro e wA ⟨rfl, blA⟩; have EA0 : Blk wA _ _ _ := G4.to (by repeat (first | (with_reducible exact Below.refl _ _) | refine below_drw ?_ | refine below_bx2 ?_ _ | refine below_to ?_ (by assumption))); have q2 := EA0.cell0 (i := 0) rfl; have q3 := EA0.cell0 (i := 1) rfl) | (go_at_call 95; (with_reducible refine (HM.out _).mono ?_); rintro e wB ⟨rfl, blB⟩; have EB0 : Blk wB _ _ _ := G4.to (by repeat (first | (with_reducible exact Below.refl _ _) | refine below_drw ?_ | refine below_bx2 ?_ _ | refine below_to ?_ (by assumption))); have EBR : Blk wB _ _ _ := R4.to (by repeat (first | (with_reducible exact Below.refl _ _) | refine below_drw ?_ | refine below_bx2 ?_ _ | refine below_to ?_ (by assumption))); have EBS : Blk wB _ _ _ := S4.to (by repeat (first | (with_reducible exact Below.refl _ _) | refine below_drw ?_ | refine below_bx2 ?_ _ | refine below_to ?_ (by assumption))); have EBT : Blk wB _ _ _ := T4.to (by repeat (first | (with_reducible exact Below.refl _ _) | refine below_drw ?_ | refine below_bx2 ?_ _ | refine below_to ?_ (by assumption))); have y2' := EB0.cell0 (i := 0) rfl; have y3' := EB0.cell0 (i := 1) rfl; have uf2 := EB0.free 0; have uf3 := EB0.free 1))
            all_goals
              have b8 : Below w.heap.size w wB := below_to b4 (by repeat (first | (with_reducible exact Below.refl _ _) | refine below_drw ?_ | refine below_bx2 ?_ _ | refine below_to ?_ (by assumption)))
              have F0 := Lib.hid (nrw_set0 EB0 (.int .i64 y1) (.int .i64 y2))
              have FR := Lib.hid (blk_far (blk_far EBR (p := ⟨gs, 0, none⟩) (.int .i64 y1) (by simp only; omega)) (p := ⟨gs, 1, none⟩) (.int .i64 y2) (by simp only; omega))
              have FS := Lib.hid (blk_far (blk_far EBS (p := ⟨gs, 0, none⟩) (.int .i64 y1) (by simp only; omega)) (p := ⟨gs, 1, none⟩) (.int .i64 y2) (by simp only; omega))
              have FT := Lib.hid (blk_far (blk_far EBT (p := ⟨gs, 0, none⟩) (.int .i64 y1) (by simp only; omega)) (p := ⟨gs, 1, none⟩) (.int .i64 y2) (by simp only; omega))
              have b9 := Lib.hid ((b8.setCell (p := ⟨gs, 0, none⟩) (by simp only; omega) (.int .i64 y1)).setCell (p := ⟨gs, 1, none⟩) (by simp only; omega) (.int .i64 y2))
              clear b8 EBR EBS EBT EB0
              go_wp2_with fail
              go_roundw
              case rel => exact ⟨k + 1, by omega, by go_num, by rw [HST.out, HAP.out], b9.out, by rw [HST.out, HAP.out]; exact F0.out, FR.out, FS.out, FT.out⟩
              case measure => simp [intOf]; omega
          · have HZ := Lib.hid (AZ.out p1 p2)
            by_cases p3 : T < 0
            · have HDD := Lib.hid (HND.out (by have h := admK_dead (k := k + 1) (lo := lo) (hi := hi) (by rw [HST.out, HZ.out, decide_eq_false (show ¬ 0 ≤ T by omega)]; rfl); rw [← HR.out]; unfold atB; rw [h]; rfl))
              have z0 := T4.cell0 (i := 0) (v := .int .i64 0) rfl
              have z1 := T4.cell0 (i := 1) (v := .int .i64 0) rfl
              have z2 := T4.cell0 (i := 2) (v := .int .i64 0) rfl
              have z3 := T4.cell0 (i := 3) (v := .int .i64 0) rfl
              have f0 := T4.free 0
              have f1 := T4.free 1
              have f2 := T4.free 2
              have f3 := T4.free 3
              go_wp2_with fail
              exact bodyPost_ret (v := .tuple #[.agg #[.int .i64 0, .int .i64 0, .int .i64 0, .int .i64 0], .bool false]) (by simp [results, Tryz.results46, go_sem, z0, z1, z2, z3]) rfl ⟨by rw [HDD.out.1, HDD.out.2.1, HDD.out.2.2.1, HDD.out.2.2.2.1, HDD.out.2.2.2.2], ((((b4.setCell (p := ⟨w.heap.size + 1 + 1 + 1, 0, none⟩) (Nat.le_add_right _ 3) (.int .i64 0)).setCell (p := ⟨w.heap.size + 1 + 1 + 1, 1, none⟩) (Nat.le_add_right _ 3) (.int .i64 0)).setCell (p := ⟨w.heap.size + 1 + 1 + 1, 2, none⟩) (Nat.le_add_right _ 3) (.int .i64 0)).setCell (p := ⟨w.heap.size + 1 + 1 + 1, 3, none⟩) (Nat.le_add_right _ 3) (.int .i64 0))⟩
            · have HPK := Lib.hid (show (true && decide (0 ≤ T)) = true by rw [decide_eq_true (by omega)]; rfl)
              go_wp2_with fail
              go_roundw
              case rel => exact ⟨k + 1, by omega, by go_num, by rw [HST.out, HZ.out]; exact HPK.out, b4, by rw [HST.out, HZ.out]; exact G4, R4, S4, T4⟩
              case measure => simp [intOf]; omega
      · have hkn : k = n := by omega
        subst hkn
        rw [admK_n HLL.out] at hko hG
        have so := HK.out k
        rw [admK_n HLL.out] at so
        obtain ⟨s1, s2⟩ := ok_64 so.1
        obtain ⟨s3, s4⟩ := ok_64 so.2
        have HSP := Lib.hid (fun V => spec_spn (admL bx cy lo hi X Y d es).lN (admL bx cy lo hi X Y d es).lD (admL bx cy lo hi X Y d es).hN (admL bx cy lo hi X Y d es).hD V s1 s2 s3 s4)
        have HAB := Lib.hid (show atB (admL bx cy lo hi X Y d es) = spnB (admL bx cy lo hi X Y d es).lN (admL bx cy lo hi X Y d es).lD (admL bx cy lo hi X Y d es).hN (admL bx cy lo hi X Y d es).hD by unfold atB; rw [hko]; rfl)
        clear so s1 s2 s3 s4 hko HK HIA
        generalize (admL bx cy lo hi X Y d es).lN = c1 at *
        generalize (admL bx cy lo hi X Y d es).lD = c2 at *
        generalize (admL bx cy lo hi X Y d es).hN = c3 at *
        generalize (admL bx cy lo hi X Y d es).hD = c4 at *
        have q0 := hG.cell0 (i := 0) (v := .int .i64 c1) rfl
        have q1 := hG.cell0 (i := 1) (v := .int .i64 c2) rfl
        have q2 := hG.cell0 (i := 2) (v := .int .i64 c3) rfl
        have q3 := hG.cell0 (i := 3) (v := .int .i64 c4) rfl
        go_wp2_with fail
        clear q0 q1 q2 q3
        refine (HSP.out _).mono ?_
        rintro e w9 ⟨rfl, bl9⟩
        have b9 := below_to hbw bl9
        have T9 := h3.to bl9
        have G9 := hG.to bl9
        cases h9 : spnB c1 c2 c3 c4 with
        | false =>
          have HDD := Lib.hid (HND.out (by rw [← HR.out, HAB.out, h9]))
          have z0 := T9.cell0 (i := 0) (v := .int .i64 0) rfl
          have z1 := T9.cell0 (i := 1) (v := .int .i64 0) rfl
          have z2 := T9.cell0 (i := 2) (v := .int .i64 0) rfl
          have z3 := T9.cell0 (i := 3) (v := .int .i64 0) rfl
          have f0 := T9.free 0
          have f1 := T9.free 1
          have f2 := T9.free 2
          have f3 := T9.free 3
          go_wp2_with fail
          exact bodyPost_ret (v := .tuple #[.agg #[.int .i64 0, .int .i64 0, .int .i64 0, .int .i64 0], .bool false]) (by simp [results, Tryz.results46, go_sem, z0, z1, z2, z3]) rfl ⟨by rw [HDD.out.1, HDD.out.2.1, HDD.out.2.2.1, HDD.out.2.2.2.1, HDD.out.2.2.2.2], ((((b9.setCell (p := ⟨w.heap.size + 1 + 1 + 1, 0, none⟩) (Nat.le_add_right _ 3) (.int .i64 0)).setCell (p := ⟨w.heap.size + 1 + 1 + 1, 1, none⟩) (Nat.le_add_right _ 3) (.int .i64 0)).setCell (p := ⟨w.heap.size + 1 + 1 + 1, 2, none⟩) (Nat.le_add_right _ 3) (.int .i64 0)).setCell (p := ⟨w.heap.size + 1 + 1 + 1, 3, none⟩) (Nat.le_add_right _ 3) (.int .i64 0))⟩
        | true =>
          have HDD := Lib.hid (HYD.out (by rw [← HR.out, HAB.out, h9]))
          have q0 := G9.cell0 (i := 0) (v := .int .i64 c1) rfl
          have q1 := G9.cell0 (i := 1) (v := .int .i64 c2) rfl
          have q2 := G9.cell0 (i := 2) (v := .int .i64 c3) rfl
          have q3 := G9.cell0 (i := 3) (v := .int .i64 c4) rfl
          have z0 := T9.cell0 (i := 0) (v := .int .i64 0) rfl
          have z1 := T9.cell0 (i := 1) (v := .int .i64 0) rfl
          have z2 := T9.cell0 (i := 2) (v := .int .i64 0) rfl
          have z3 := T9.cell0 (i := 3) (v := .int .i64 0) rfl
          have f0 := T9.free 0
          have f1 := T9.free 1
          have f2 := T9.free 2
          have f3 := T9.free 3
          go_wp2_with fail
          exact bodyPost_ret (v := .tuple #[.agg #[.int .i64 c1, .int .i64 c2, .int .i64 c3, .int .i64 c4], .bool true]) (by simp [results, Tryz.results46, go_sem, z0, z1, z2, z3]) rfl ⟨by rw [HDD.out.1, HDD.out.2.1, HDD.out.2.2.1, HDD.out.2.2.2.1, HDD.out.2.2.2.2], ((((b9.setCell (p := ⟨w.heap.size + 1 + 1 + 1, 0, none⟩) (Nat.le_add_right _ 3) (.int .i64 c1)).setCell (p := ⟨w.heap.size + 1 + 1 + 1, 1, none⟩) (Nat.le_add_right _ 3) (.int .i64 c2)).setCell (p := ⟨w.heap.size + 1 + 1 + 1, 2, none⟩) (Nat.le_add_right _ 3) (.int .i64 c3)).setCell (p := ⟨w.heap.size + 1 + 1 + 1, 3, none⟩) (Nat.le_add_right _ 3) (.int .i64 c4))⟩
end Go.Proofs.YtibkmhmeoelpdaaGreat
