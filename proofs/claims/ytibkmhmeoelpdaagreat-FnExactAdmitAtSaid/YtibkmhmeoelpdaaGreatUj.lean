/- admitInto of the program, over the translation. -/
import Derived.Test.YtibkmhmeoelpdaaGreatUi
namespace Go.Proofs.YtibkmhmeoelpdaaGreat
open Go.RowKit
open Geo (H3)

theorem rng_keep {am : Option Addr} {nm cm : Nat} {q bx cy lo hi : Int} {an : Option Addr} {nn cn : Nat} {al : Option Addr} {nl cl : Nat} {V X : World} {B : Nat} {T : TypeId} (h : Blk V B #[.slice am nm cm, .int .i64 q, .int .i64 bx, .int .i64 cy, .int .i64 lo, .int .i64 hi, .slice an nn cn, .slice al nl cl] T) (hb : Below V.heap.size V X) :
    X.cell? ⟨B, 4, none⟩ = some (.int .i64 lo) ∧ X.cell? ⟨B, 5, none⟩ = some (.int .i64 hi) := ⟨(h.to hb).c8_4, (h.to hb).c8_5⟩
def admK (bx cy lo hi X Y d : Int) (es : List H3) (k : Nat) : Adm := (es.take k).foldl (admS bx cy X Y d) ⟨lo, 1, hi, 1, true⟩
theorem admK_n {bx cy lo hi X Y d : Int} {es : List H3} {n : Nat} (h : es.length = n) : admK bx cy lo hi X Y d es n = admL bx cy lo hi X Y d es := by unfold admK admL; rw [List.take_of_length_le (by omega)]
theorem admK_s {bx cy lo hi X Y d : Int} {es : List H3} {k : Nat} {h : H3} (hx : es[k]? = some h) : admK bx cy lo hi X Y d es (k + 1) = admS bx cy X Y d (admK bx cy lo hi X Y d es k) h := by
  unfold admK
  rw [List.take_add_one, hx, List.foldl_append]
  rfl
theorem admK_ok {bx cy lo hi X Y d : Int} {es : List H3} (hd : 1 ≤ d ∧ d ≤ 2000000) (hlo : -1000 ≤ lo ∧ lo ≤ 1000) (hhi : -1000 ≤ hi ∧ hi ≤ 1000) (hx : -100 ≤ bx ∧ bx ≤ 100) (hy : -100 ≤ cy ∧ cy ≤ 100) (hX : -4000000000 ≤ X ∧ X ≤ 4000000000) (hY : -4000000000 ≤ Y ∧ Y ≤ 4000000000) (ok : ∀ h ∈ es, okB h = true) (k : Nat) : (admK bx cy lo hi X Y d es k).Ok := by
  unfold admK
  refine (adm_fold hd (es.take k) (fun h hh => adm_in (ok h (List.mem_of_mem_take hh)) hx hy hd hX hY) _ ?_).1
  exact ⟨(one_ok hlo), (one_ok hhi)⟩
/-- whether an input is left, and the bounds then -/
def atB (s : Adm) : Bool := s.ok && spnB s.lN s.lD s.hN s.hD
def atV (s : Adm) (x : Int) : Int := if atB s = true then x else 0
theorem spn_00 : spnB 0 0 0 0 = false := by unfold spnB; rw [ok_00]; rfl
theorem sif_at (s : Adm) : spnB (qv s s.lN) (qv s s.lD) (qv s s.hN) (qv s s.hD) = atB s ∧ ∀ x : Int, sifA (qv s s.lN) (qv s s.lD) (qv s s.hN) (qv s s.hD) (qv s x) = atV s x := by
  cases k : s.ok with
  | true =>
    refine ⟨by simp [qv, atB, k], fun x => ?_⟩
    simp [qv, atB, atV, sifA, k]
  | false =>
    refine ⟨by simp [qv, atB, k, spn_00], fun x => ?_⟩
    simp [qv, atB, atV, sifA, k, spn_00]
set_option maxRecDepth 100000 in
set_option maxHeartbeats 2000000 in
theorem impl_into (am : Option Addr) (nm cm : Nat) (z0 z1 z2 z3 q bx cy lo hi : Int) (an : Option Addr) (nn cn : Nat) (al : Option Addr) (nl cl : Nat) (a : Option Addr) (n ca : Nat) (es : List H3) (sX sY sD : Int) (w : World) (hlm : [z0, z1, z2, z3].length = nm) (hM : IsAt w am [z0, z1, z2, z3]) (hm : mapB [z0, z1, z2, z3] q = true) (hx : -100 ≤ bx ∧ bx ≤ 100) (hy : -100 ≤ cy ∧ cy ≤ 100) (hlo : -1000 ≤ lo ∧ lo ≤ 1000) (hhi : -1000 ≤ hi ∧ hi ≤ 1000) (hl : es.length = n) (hn : n ≤ 1048576) (hA : HsAt w a es) (ok : ∀ h ∈ es, okB h = true) (hs : okS sX sY sD = true) (hd : sD ≤ 100000) :
    Calls Tryz.prog 49 #[.agg #[.slice am nm cm, .int .i64 q, .int .i64 bx, .int .i64 cy, .int .i64 lo, .int .i64 hi, .slice an nn cn, .slice al nl cl], .agg #[.slice a n ca], .agg #[.int .i64 sX, .int .i64 sY, .int .i64 sD]] w fun e w' => e = .returned (.tuple #[.agg #[.int .i64 (atV (admL bx cy lo hi (z0 * sX + z1 * sY) (z2 * sX + z3 * sY) (q * sD) es) (admL bx cy lo hi (z0 * sX + z1 * sY) (z2 * sX + z3 * sY) (q * sD) es).lN), .int .i64 (atV (admL bx cy lo hi (z0 * sX + z1 * sY) (z2 * sX + z3 * sY) (q * sD) es) (admL bx cy lo hi (z0 * sX + z1 * sY) (z2 * sX + z3 * sY) (q * sD) es).lD), .int .i64 (atV (admL bx cy lo hi (z0 * sX + z1 * sY) (z2 * sX + z3 * sY) (q * sD) es) (admL bx cy lo hi (z0 * sX + z1 * sY) (z2 * sX + z3 * sY) (q * sD) es).hN), .int .i64 (atV (admL bx cy lo hi (z0 * sX + z1 * sY) (z2 * sX + z3 * sY) (q * sD) es) (admL bx cy lo hi (z0 * sX + z1 * sY) (z2 * sX + z3 * sY) (q * sD) es).hD)], .bool (atB (admL bx cy lo hi (z0 * sX + z1 * sY) (z2 * sX + z3 * sY) (q * sD) es))]) ∧ Below w.heap.size w w' := by
  obtain ⟨y0, y1, y2, y3, hyy, ⟨a1, a2⟩, ⟨a3, a4⟩, ⟨a5, a6⟩, ⟨a7, a8⟩, q1, q2⟩ := map_four hm
  simp only [List.cons.injEq, and_true] at hyy
  obtain ⟨rfl, rfl, rfl, rfl⟩ := hyy
  obtain ⟨d1, _, x1, x2, y1, y2, _⟩ := (okS_iff _ _ _).1 hs
  have m0 := mul_in z0 sX 20 100000000 a1 a2 (by omega) (by omega)
  have m1 := mul_in z1 sY 20 100000000 a3 a4 (by omega) (by omega)
  have m2 := mul_in z2 sX 20 100000000 a5 a6 (by omega) (by omega)
  have m3 := mul_in z3 sY 20 100000000 a7 a8 (by omega) (by omega)
  have m4 := mul_in q sD 20 100000 (by omega) q2 (by omega) hd
  have m4' : 1 * 1 ≤ q * sD := Int.mul_le_mul (by omega) (by omega) (by omega) (by omega)
  have HIM := Lib.hid (fun V (h : Below w.heap.size w V) => impl_img am nm cm z0 z1 z2 z3 q bx cy lo hi an nn cn al nl cl sX sY sD V hlm (hM.below h) hm hs hd)
  have eX : -4000000000 ≤ z0 * sX + z1 * sY ∧ z0 * sX + z1 * sY ≤ 4000000000 := by omega
  have eY : -4000000000 ≤ z2 * sX + z3 * sY ∧ z2 * sX + z3 * sY ≤ 4000000000 := by omega
  have eD : 1 ≤ q * sD ∧ q * sD ≤ 2000000 := by omega
  clear m0 m1 m2 m3 m4 m4' x1 x2 y1 y2 d1 a1 a2 a3 a4 a5 a6 a7 a8 q1 q2 hlm hM hm hs hd
  generalize z0 * sX + z1 * sY = X at *
  generalize z2 * sX + z3 * sY = Y at *
  generalize q * sD = d at *
  have HK := Lib.hid (fun k => admK_ok (bx := bx) (cy := cy) (lo := lo) (hi := hi) (X := X) (Y := Y) (d := d) (es := es) eD hlo hhi hx hy eX eY ok k)
  have HO1 := Lib.hid (fun V => impl_ofA lo 1 V (by omega) (by omega) (by omega) (by omega))
  rw [(one_of (n := lo) (by omega)).1, (one_of (n := lo) (by omega)).2.1] at HO1
  have HO2 := Lib.hid (fun V => impl_ofA hi 1 V (by omega) (by omega) (by omega) (by omega))
  rw [(one_of (n := hi) (by omega)).1, (one_of (n := hi) (by omega)).2.1] at HO2
  have HCL := Lib.hid (fun p g k h V (hx' : es[k]? = some h) (KR : Blk V p #[.slice am nm cm, .int .i64 q, .int .i64 bx, .int .i64 cy, .int .i64 lo, .int .i64 hi, .slice an nn cn, .slice al nl cl] 42) (KI : Blk V g #[.int .i64 X, .int .i64 Y, .int .i64 d] 45) => impl_clo am nm cm q bx cy lo hi an nn cn al nl cl X Y d p g (admK bx cy lo hi X Y d es k) h V KR KI (HK.out k) (ok h (List.mem_of_getElem? hx')) hx hy eX eY eD)
  have HLA := Lib.hid hA
  have HLL := Lib.hid hl
  obtain ⟨u1, u2⟩ := ok_64 (HK.out n).1
  obtain ⟨u3, u4⟩ := ok_64 (HK.out n).2
  rw [admK_n hl] at u1 u2 u3 u4
  have HSI := Lib.hid (fun V => impl_sif (qv (admL bx cy lo hi X Y d es) (admL bx cy lo hi X Y d es).lN) (qv (admL bx cy lo hi X Y d es) (admL bx cy lo hi X Y d es).lD) (qv (admL bx cy lo hi X Y d es) (admL bx cy lo hi X Y d es).hN) (qv (admL bx cy lo hi X Y d es) (admL bx cy lo hi X Y d es).hD) V (qv_64 u1) (qv_64 u2) (qv_64 u3) (qv_64 u4))
  rw [(sif_at (admL bx cy lo hi X Y d es)).1, (sif_at (admL bx cy lo hi X Y d es)).2, (sif_at (admL bx cy lo hi X Y d es)).2, (sif_at (admL bx cy lo hi X Y d es)).2, (sif_at (admL bx cy lo hi X Y d es)).2] at HSI
  clear hx hy hlo hhi hA ok hl eX eY eD u1 u2 u3 u4
  generalize atV (admL bx cy lo hi X Y d es) (admL bx cy lo hi X Y d es).lN = d1 at *
  generalize atV (admL bx cy lo hi X Y d es) (admL bx cy lo hi X Y d es).lD = d2 at *
  generalize atV (admL bx cy lo hi X Y d es) (admL bx cy lo hi X Y d es).hN = d3 at *
  generalize atV (admL bx cy lo hi X Y d es) (admL bx cy lo hi X Y d es).hD = d4 at *
  generalize atB (admL bx cy lo hi X Y d es) = R at *
  have bV := below_bx2 (below_bx2 (below_bx2 (below_one w (.cells #[.slice am nm cm, .int .i64 q, .int .i64 bx, .int .i64 cy, .int .i64 lo, .int .i64 hi, .slice an nn cn, .slice al nl cl] 42)) (.cells #[.slice a n ca] 40)) (.cells #[.int .i64 sX, .int .i64 sY, .int .i64 sD] 45)) (.cells #[.int .i64 0, .int .i64 0, .int .i64 0, .int .i64 0] 35)
  have K0 := (((blk_new w #[.slice am nm cm, .int .i64 q, .int .i64 bx, .int .i64 cy, .int .i64 lo, .int .i64 hi, .slice an nn cn, .slice al nl cl] 42 (b := w.heap.size) (by simp)).to (below_one _ (.cells #[.slice a n ca] 40))).to (below_one _ (.cells #[.int .i64 sX, .int .i64 sY, .int .i64 sD] 45))).to (below_one _ (.cells #[.int .i64 0, .int .i64 0, .int .i64 0, .int .i64 0] 35))
  have K1 := ((blk_new (w.alloc (.cells #[.slice am nm cm, .int .i64 q, .int .i64 bx, .int .i64 cy, .int .i64 lo, .int .i64 hi, .slice an nn cn, .slice al nl cl] 42)) #[.slice a n ca] 40 (b := w.heap.size + 1) (by simp)).to (below_one _ (.cells #[.int .i64 sX, .int .i64 sY, .int .i64 sD] 45))).to (below_one _ (.cells #[.int .i64 0, .int .i64 0, .int .i64 0, .int .i64 0] 35))
  have K2 := (blk_new ((w.alloc (.cells #[.slice am nm cm, .int .i64 q, .int .i64 bx, .int .i64 cy, .int .i64 lo, .int .i64 hi, .slice an nn cn, .slice al nl cl] 42)).alloc (.cells #[.slice a n ca] 40)) #[.int .i64 sX, .int .i64 sY, .int .i64 sD] 45 (b := w.heap.size + 1 + 1) (by simp)).to (below_one _ (.cells #[.int .i64 0, .int .i64 0, .int .i64 0, .int .i64 0] 35))
  have K3 := blk_new (((w.alloc (.cells #[.slice am nm cm, .int .i64 q, .int .i64 bx, .int .i64 cy, .int .i64 lo, .int .i64 hi, .slice an nn cn, .slice al nl cl] 42)).alloc (.cells #[.slice a n ca] 40)).alloc (.cells #[.int .i64 sX, .int .i64 sY, .int .i64 sD] 45)) #[.int .i64 0, .int .i64 0, .int .i64 0, .int .i64 0] 35 (b := w.heap.size + 1 + 1 + 1) (by simp)
  have c0 := K0.c8_0
  have c1 := K0.c8_1
  have c2 := K0.c8_2
  have c3 := K0.c8_3
  have c4 := K0.c8_4
  have c5 := K0.c8_5
  have c6 := K0.c8_6
  have c7 := K0.c8_7
  have s0' := K2.cell0 (i := 0) (v := .int .i64 sX) rfl
  have s1' := K2.cell0 (i := 1) (v := .int .i64 sY) rfl
  have s2' := K2.cell0 (i := 2) (v := .int .i64 sD) rfl
  go_enter Tryz.func49, Tryz.ntmps49
  go_wp2_with fail
  clear c0 c1 c2 c3 c4 c5 c6 c7 s0' s1' s2'
  generalize ((((w.alloc (.cells #[.slice am nm cm, .int .i64 q, .int .i64 bx, .int .i64 cy, .int .i64 lo, .int .i64 hi, .slice an nn cn, .slice al nl cl] 42)).alloc (.cells #[.slice a n ca] 40)).alloc (.cells #[.int .i64 sX, .int .i64 sY, .int .i64 sD] 45)).alloc (.cells #[.int .i64 0, .int .i64 0, .int .i64 0, .int .i64 0] 35)) = V at *
  refine (HIM.out _ bV).mono ?_
  rintro e w1 ⟨rfl, bl1⟩
  have bN := below_to bl1 (below_one w1 (.cells #[.int .i64 X, .int .i64 Y, .int .i64 d] 45))
  have I0 := blk_new w1 #[.int .i64 X, .int .i64 Y, .int .i64 d] 45 rfl
  have b1 := below_to bV bN
  have L0 := K0.to bN
  have L1 := K1.to bN
  have L2 := K2.to bN
  have L3 := K3.to bN
  clear K0 K1 K2 K3 bV bl1 bN HIM
  go_upto_region 2 with fail
  generalize w1.alloc (.cells #[.int .i64 X, .int .i64 Y, .int .i64 d] 45) = U at *
  obtain ⟨gi, hgi⟩ : ∃ b, w1.heap.size = b := ⟨_, rfl⟩
  rw [hgi] at I0 ⊢
  clear hgi
  go_cut [9] from 13 to 19 (fun s9 wx => ∃ g, s9 = .pointer (some ⟨g, 0, none⟩) ∧ U.heap.size ≤ g ∧ Blk wx g #[.int .i64 lo, .int .i64 1, .int .i64 hi, .int .i64 1] 35 ∧ Below U.heap.size U wx)
  case first =>
    have r4 := L0.c8_4
    have r5 := L0.c8_5
    go_region_held3 (fun w' => w'.cell? ⟨w.heap.size, 4, none⟩ = some (.int .i64 lo) ∧ w'.cell? ⟨w.heap.size, 5, none⟩ = some (.int .i64 hi))
      ((refine rng_keep L0 ?_; repeat (first | (with_reducible exact Below.refl _ _) | refine Below.setCell ?_ (by first | (simp; done) | (simp; omega)) _ | refine below_bx2 ?_ _ | refine below_drw ?_ | refine below_to ?_ (by assumption))))
      (first | (go_at_call 30; (with_reducible refine (HO1.out _).mono ?_); rintro e wA ⟨rfl, blA⟩; have hcA := bcl3 blA; (first | (with_reducible have hxA := bcl3 (below_to blB blA)) | skip); have hsA := blA.size; (try simp at hsA)) | (go_at_call 30; (with_reducible refine (HO2.out _).mono ?_); rintro e wB ⟨rfl, blB⟩; have hcB := bcl3 blB; (first | (with_reducible have hxB := bcl3 (below_to blA blB)) | skip); have hsB := blB.size; (try simp at hsB)))
    all_goals
      (try obtain ⟨hcA1, hcA2⟩ := hcA)
      (try obtain ⟨hxA1, hxA2⟩ := hxA)
      (try obtain ⟨hcB1, hcB2⟩ := hcB)
      (try obtain ⟨hxB1, hxB2⟩ := hxB)
      go_wp2_with fail
      go_meet
      refine ⟨_, rfl, ?_, ?_, ?_⟩
      · first | exact Nat.le_refl _ | omega | (simp; omega)
      · first
        | (unfold Blk; with_reducible exact heap_alloc_new _ _)
        | (unfold Blk; with_reducible refine blk_s4 (a0 := .int .i64 0) (a1 := .int .i64 0) (a2 := .int .i64 0) (a3 := .int .i64 0) ?_ _ _ _ _
           apply at_new3 (Z := .cells #[.int .i64 0, .int .i64 0, .int .i64 0, .int .i64 0] 35)
           · repeat (first | (with_reducible exact Below.refl _ _) | refine below_bx2 ?_ _ | refine below_drw ?_ | refine below_to ?_ (by assumption))
           · first | rfl | (simp; done))
      · repeat (first | (with_reducible exact Below.refl _ _) | refine Below.setCell ?_ (by first | (simp; done) | (simp; omega)) _ | refine below_bx2 ?_ _ | refine below_drw ?_ | refine below_to ?_ (by assumption))
  case rest =>
    obtain ⟨gs, rfl, hgs, hG, hbx⟩ := hcut
    rename World => wc
    have b2 := below_to b1 hbx
    have M0 := L0.to hbx
    have M1 := L1.to hbx
    have M2 := L2.to hbx
    have M3 := L3.to hbx
    have I1 := I0.to hbx
    have KG : Blk wc gs #[.int .i64 lo, .int .i64 1, .int .i64 hi, .int .i64 1] 35 := hG
    clear L0 L1 L2 L3 I0 hbx hG b1 HO1 HO2
    have g0 := KG.cell0 (i := 0) (v := .int .i64 lo) rfl
    have g1 := KG.cell0 (i := 1) (v := .int .i64 1) rfl
    have g2 := KG.cell0 (i := 2) (v := .int .i64 hi) rfl
    have g3 := KG.cell0 (i := 3) (v := .int .i64 1) rfl
    have m1 := M1.cell0 (i := 0) (v := .slice a n ca) rfl
    have HF := Lib.hid (impl_fold 101 [.pointer (some ⟨w.heap.size, 0, none⟩), .pointer (some ⟨gi, 0, none⟩)] (enters_of Tryz.func101 (by kernel_rfl) rfl) (fun k => qv (admK bx cy lo hi X Y d es k) (admK bx cy lo hi X Y d es k).lN) (fun k => qv (admK bx cy lo hi X Y d es k) (admK bx cy lo hi X Y d es k).lD) (fun k => qv (admK bx cy lo hi X Y d es k) (admK bx cy lo hi X Y d es k).hN) (fun k => qv (admK bx cy lo hi X Y d es k) (admK bx cy lo hi X Y d es k).hD) a n ca es wc HLL.out hn (HLA.out.below b2) (fun k h V hx' hb => by
      have k1 := HCL.out w.heap.size gi k h V hx' (M0.to hb) (I1.to hb)
      rw [← admK_s hx'] at k1
      exact k1))
    simp only [show ∀ x : Int, qv (admK bx cy lo hi X Y d es 0) x = x from fun x => rfl, show (admK bx cy lo hi X Y d es 0).lN = lo from rfl, show (admK bx cy lo hi X Y d es 0).lD = 1 from rfl, show (admK bx cy lo hi X Y d es 0).hN = hi from rfl, show (admK bx cy lo hi X Y d es 0).hD = 1 from rfl, admK_n HLL.out] at HF
    clear HCL HK I1
    generalize qv (admL bx cy lo hi X Y d es) (admL bx cy lo hi X Y d es).lN = e1 at *
    generalize qv (admL bx cy lo hi X Y d es) (admL bx cy lo hi X Y d es).lD = e2 at *
    generalize qv (admL bx cy lo hi X Y d es) (admL bx cy lo hi X Y d es).hN = e3 at *
    generalize qv (admL bx cy lo hi X Y d es) (admL bx cy lo hi X Y d es).hD = e4 at *
    go_wp2_with fail
    refine HF.out.mono ?_
    rintro e w5 ⟨rfl, bl5⟩
    have b5 := below_to b2 bl5
    have N3 := M3.to bl5
    clear g0 g1 g2 g3 m1
    go_wp2_with fail
    refine (HSI.out _).mono ?_
    rintro e w6 ⟨rfl, bl6⟩
    have b6 := below_to b5 bl6
    have P3 := N3.to bl6
    have z0 := P3.cell0 (i := 0) (v := .int .i64 0) rfl
    have z1 := P3.cell0 (i := 1) (v := .int .i64 0) rfl
    have z2 := P3.cell0 (i := 2) (v := .int .i64 0) rfl
    have z3 := P3.cell0 (i := 3) (v := .int .i64 0) rfl
    have f0 := P3.free 0
    have f1 := P3.free 1
    have f2 := P3.free 2
    have f3 := P3.free 3
    go_wp2_with fail
    exact bodyPost_ret (v := .tuple #[.agg #[.int .i64 d1, .int .i64 d2, .int .i64 d3, .int .i64 d4], .bool R]) (by simp [results, Tryz.results49, go_sem, z0, z1, z2, z3]) rfl ⟨rfl, ((((b6.setCell (p := ⟨w.heap.size + 1 + 1 + 1, 0, none⟩) (Nat.le_add_right _ 3) (.int .i64 d1)).setCell (p := ⟨w.heap.size + 1 + 1 + 1, 1, none⟩) (Nat.le_add_right _ 3) (.int .i64 d2)).setCell (p := ⟨w.heap.size + 1 + 1 + 1, 2, none⟩) (Nat.le_add_right _ 3) (.int .i64 d3)).setCell (p := ⟨w.heap.size + 1 + 1 + 1, 3, none⟩) (Nat.le_add_right _ 3) (.int .i64 d4))⟩
end Go.Proofs.YtibkmhmeoelpdaaGreat
