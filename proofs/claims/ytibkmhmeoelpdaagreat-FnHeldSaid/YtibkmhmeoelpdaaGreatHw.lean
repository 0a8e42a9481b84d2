/- Which inputs hold a drawn room's state: with an admitted input every disturbance leads into the region, and an input that holds the state is admitted (no calls). What FnHeld asks of a drawn room's admitted inputs (no calls). The walk of the law FnHeld. -/
import Derived.Test.YtibkmhmeoelpdaaGreatRb
import Derived.Test.YtibkmhmeoelpdaaGreatXa
import Derived.Test.YtibkmhmeoelpdaaGreatSk
import Derived.Test.YtibkmhmeoelpdaaGreatFm
import Derived.Test.YtibkmhmeoelpdaaGreatTc
import Derived.Test.YtibkmhmeoelpdaaGreatKf
namespace Go.Proofs.YtibkmhmeoelpdaaGreat
open Go.RowKit
open Geo (H3)

theorem spot_val {x y d : Int} (h : hasS x y d = true) (e : H3) : Geo.val e (x.tdiv (gS x y d)) (y.tdiv (gS x y d)) (d.tdiv (gS x y d)) ≤ 0 ↔ Geo.val e x y d ≤ 0 := by
  obtain ⟨d1, _⟩ := hasS_pos h
  have p : 1 ≤ ((gS x y d : Nat) : Int) := by have := gS_pos x y d d1; omega
  have ex := Int.tdiv_mul_cancel (gS_dvd_x x y d)
  have ey := Int.tdiv_mul_cancel (gS_dvd_y x y d)
  have ed := Int.tdiv_mul_cancel (gS_dvd_d x y d)
  have key : ∀ a b c G : Int, 1 ≤ G → a * G = x → b * G = y → c * G = d → (Geo.val e a b c ≤ 0 ↔ Geo.val e x y d ≤ 0) := by
    intro a b c G hG e1 e2 e3
    subst e1 e2 e3
    rw [← scale_le hG]
    have : Geo.val e a b c * G = Geo.val e (a * G) (b * G) (c * G) := by unfold Geo.val; grind
    rw [this]
  exact key _ _ _ _ p ex ey ed
theorem spot_has {x y d : Int} (h1 : 1 ≤ d) (h2 : d ≤ 5000000000) (hx : -(1000 * d) ≤ x ∧ x ≤ 1000 * d) (hy : -(1000 * d) ≤ y ∧ y ≤ 1000 * d) : hasS x y d = true := by
  have p : 1 ≤ ((gS x y d : Nat) : Int) := by have := gS_pos x y d h1; omega
  have ex := Int.tdiv_mul_cancel (gS_dvd_x x y d)
  have ey := Int.tdiv_mul_cancel (gS_dvd_y x y d)
  have ed := Int.tdiv_mul_cancel (gS_dvd_d x y d)
  have key : ∀ a b c G : Int, 1 ≤ G → a * G = x → b * G = y → c * G = d → ((gS x y d : Nat) : Int) = G → okS a b c = true := by
    intro a b c G hG e1 e2 e3 e4
    have sc := gS_scale G a b c (by omega)
    rw [Int.mul_comm G a, Int.mul_comm G b, Int.mul_comm G c, e1, e2, e3, e4] at sc
    have g1 : ((gS a b c : Nat) : Int) = 1 := by
      have : G * ((gS a b c : Nat) : Int) = G * 1 := by rw [← sc, Int.mul_one]
      exact Int.eq_of_mul_eq_mul_left (by omega) this
    have le : ∀ u v : Int, u * G ≤ v * G → u ≤ v := fun u v h => Int.le_of_mul_le_mul_right h (by omega)
    have c1 : 1 ≤ c := by
      rcases Int.lt_or_le c 1 with z | z
      · have := Int.mul_le_mul_of_nonneg_right (show c ≤ 0 by omega) (show 0 ≤ G by omega)
        omega
      · exact z
    have c2 : c * 1 ≤ c * G := Int.mul_le_mul_of_nonneg_left hG (by omega)
    have t : 1000 * c * G = 1000 * d := by rw [Int.mul_assoc, e3]
    have t2 : -(1000 * c) * G = -(1000 * d) := by rw [Int.neg_mul, t]
    exact (okS_iff _ _ _).2 ⟨c1, by omega, le _ _ (by rw [t2, e1]; exact hx.1), le _ _ (by rw [t, e1]; exact hx.2), le _ _ (by rw [t2, e2]; exact hy.1), le _ _ (by rw [t, e2]; exact hy.2), by omega⟩
  unfold hasS
  rw [decide_eq_true h1, Bool.true_and]
  exact key _ _ _ _ p ex ey ed rfl
theorem val_frame {X Y W : Int} (h : ∀ g ∈ Geo.frame, Geo.val g X Y W ≤ 0) : (-(1000 * W) ≤ X ∧ X ≤ 1000 * W) ∧ -(1000 * W) ≤ Y ∧ Y ≤ 1000 * W := by
  have m1 := h ⟨1, 0, 1000⟩ (by simp [Geo.frame])
  have m2 := h ⟨0, 1, 1000⟩ (by simp [Geo.frame])
  have m3 := h ⟨-1, 0, 1000⟩ (by simp [Geo.frame])
  have m4 := h ⟨0, -1, 1000⟩ (by simp [Geo.frame])
  unfold Geo.val at m1 m2 m3 m4
  simp only at m1 m2 m3 m4
  omega
theorem rok_frame {rs : List H3} (r : rokB rs = true) (n : rs ≠ []) {X Y W : Int} (w : 0 < W) (h : ∀ e ∈ rs, Geo.val e X Y W ≤ 0) : ∀ g ∈ Geo.frame, Geo.val g X Y W ≤ 0 := by
  intro g hg
  have e := rok_reg r n
  exact reg_imp (List.all_eq_true.2 (fun x hx => rok_all r x hx)) (by rw [e]; exact n) w (by rw [e]; exact h) g (List.mem_append_left _ hg)
section
variable {zs : List Int} {q bx cy lo hi X Y : Int} {ps qs rs : List H3}
/-- an input is left by the bounds exactly if it leads the mapped state into the eroded region -/
theorem rc_in (F : RoomF zs q bx cy lo hi ps qs) (hX : -15 ≤ X ∧ X ≤ 14) (hY : -15 ≤ Y ∧ Y ≤ 14) (b : rpB zs q bx cy lo hi ps qs rs = true) (n : rpL zs q bx cy lo hi ps qs rs ≠ []) {uN uD : Int} (hu : 0 < uD) :
    (adtS zs q bx cy lo hi ps qs X Y 1 rs).In uD uN ↔ (lo * uD ≤ uN ∧ uN ≤ hi * uD) ∧ ∀ e ∈ eroL rs ps, Geo.val e ((zg zs 0 * X + zg zs 1 * Y) * uD + uN * q * bx) ((zg zs 2 * X + zg zs 3 * Y) * uD + uN * q * cy) (q * uD) ≤ 0 := by
  obtain ⟨_, _, _, eL, eb⟩ := rb_adt F hX hY b n
  obtain ⟨mx, my, hq⟩ := rb_map F hX hY
  have hb := F.2.2.1
  have hc := F.2.2.2.1
  have hl := F.2.2.2.2.1
  have hh := F.2.2.2.2.2.1
  obtain ⟨ok, _⟩ := ero_all eb
  have o0 : Adm.Ok ⟨lo, 1, hi, 1, true⟩ := ⟨one_ok (n := lo) (by omega), one_ok (n := hi) (by omega)⟩
  have fold := (adm_fold (bx := bx) (cy := cy) (X := zg zs 0 * X + zg zs 1 * Y) (Y := zg zs 2 * X + zg zs 3 * Y) (d := q) (by omega) (eroL rs ps) (fun h hh => adm_in (ok h hh) (by omega) (by omega) (by omega) (by omega) (by omega)) _ o0).2 uD uN hu
  unfold adtS admL
  rw [Int.mul_one, eL, fold]
  unfold Adm.In
  simp only [Int.mul_one, true_and]
  constructor
  · rintro ⟨a, c⟩
    exact ⟨a, fun e he => adm_val.1 (c e he)⟩
  · rintro ⟨a, c⟩
    exact ⟨a, fun e he => adm_val.2 (c e he)⟩
/-- an input that is left leads into the region, whatever the disturbance -/
theorem in_lead (F : RoomF zs q bx cy lo hi ps qs) (hX : -15 ≤ X ∧ X ≤ 14) (hY : -15 ≤ Y ∧ Y ≤ 14) (b : rpB zs q bx cy lo hi ps qs rs = true) (n : rpL zs q bx cy lo hi ps qs rs ≠ []) {uN uD : Int} (hu : 0 < uD) (hin : (adtS zs q bx cy lo hi ps qs X Y 1 rs).In uD uN) {p : H3} (hc : 1 ≤ p.c) (hp : ∀ g ∈ ps, Geo.val g p.a p.b p.c ≤ 0) :
    ∀ e ∈ rs, Geo.val e (heX zs q bx X Y 1 uN uD p) (heY zs q cy X Y 1 uN uD p) (heD q 1 uD p) ≤ 0 := by
  obtain ⟨_, _, _, eL, eb⟩ := rb_adt F hX hY b n
  obtain ⟨_, kv⟩ := (rc_in F hX hY b n hu).1 hin
  have hq := F.2.2.2.2.2.2.1
  rw [eL] at n
  intro e he
  have r := ero_pt eb n (Int.mul_pos (show 0 < q by omega) hu) hc hp kv e he
  have e1 : heX zs q bx X Y 1 uN uD p = ((zg zs 0 * X + zg zs 1 * Y) * uD + uN * q * bx) * p.c + p.a * (q * uD) := by unfold heX nsX; grind
  have e2 : heY zs q cy X Y 1 uN uD p = ((zg zs 2 * X + zg zs 3 * Y) * uD + uN * q * cy) * p.c + p.b * (q * uD) := by unfold heY nsX; grind
  have e3 : heD q 1 uD p = q * uD * p.c := by unfold heD; grind
  rw [e1, e2, e3]
  exact r
/-- an input that holds the state is left by the bounds -/
theorem held_in (F : RoomF zs q bx cy lo hi ps qs) (hX : -15 ≤ X ∧ X ≤ 14) (hY : -15 ≤ Y ∧ Y ≤ 14) {uN uD : Int} (h : ihB zs q bx cy lo hi ps qs X Y 1 uN uD qs = true) : 0 < uD ∧ (adtS zs q bx cy lo hi ps qs X Y 1 qs).In uD uN := by
  obtain ⟨G, eb, ne, _, _, _⟩ := rb_ero F
  obtain ⟨_, rpb, rpl, _⟩ := rb_rp F
  obtain ⟨rp, np, l4, _, cr⟩ := box_facts G
  have rq := F.2.2.2.2.2.2.2.2.2.1
  have nq := F.2.2.2.2.2.2.2.2.2.2.1
  have sm := F.2.2.2.2.2.2.2.2.2.2.2.2.2.2
  have hq := F.2.2.2.2.2.2.1
  have nr : rpL zs q bx cy lo hi ps qs qs ≠ [] := by rw [rpl]; exact ne
  unfold ihB isiB at h
  simp only [Bool.and_eq_true, List.all_eq_true] at h
  obtain ⟨⟨⟨_, ou⟩, iu⟩, ha⟩ := h
  have u1 := okR_pos ou
  unfold inB at iu
  simp only [Bool.and_eq_true, decide_eq_true_eq] at iu
  have hu : 0 < uD := by omega
  have W : 0 < q * uD := Int.mul_pos (by omega) hu
  refine ⟨hu, (rc_in F hX hY rpb nr hu).2 ⟨⟨by omega, by omega⟩, ?_⟩⟩
  have cv : ∀ i, i < 4 → ∀ e ∈ qs, Geo.val e (heX zs q bx X Y 1 uN uD (crA ps i)) (heY zs q cy X Y 1 uN uD (crA ps i)) (heD q 1 uD (crA ps i)) ≤ 0 := by
    intro i hi e he
    have k := ha (crA ps i) (List.mem_of_getElem? (corL_get ps (show i < ps.length by omega)))
    unfold heB at k
    rw [Bool.and_eq_true] at k
    have g := k.1
    unfold heG at g
    rw [Bool.and_eq_true] at g
    have hs := (has_iff rq nq (heS_ok k.1)).1 k.2 e he
    unfold heS at hs
    rw [if_pos k.1] at hs
    exact (spot_val g.2 e).1 hs
  have pe : ∀ e ∈ qs, erB ps e = true ∧ Geo.val (erM ps e) ((zg zs 0 * X + zg zs 1 * Y) * uD + uN * q * bx) ((zg zs 2 * X + zg zs 3 * Y) * uD + uN * q * cy) (q * uD) ≤ 0 ∧ Geo.val e ((zg zs 0 * X + zg zs 1 * Y) * uD + uN * q * bx) ((zg zs 2 * X + zg zs 3 * Y) * uD + uN * q * cy) (q * uD) ≤ 0 := by
    intro e he
    obtain ⟨N, hb, N0, vl, _, j, hj, hN⟩ := ero_edge G (rok_all rq e he) (sm e he)
    have v := cv j hj e he
    have c1 := (cr j hj).1
    have e1 : heX zs q bx X Y 1 uN uD (crA ps j) = ((zg zs 0 * X + zg zs 1 * Y) * uD + uN * q * bx) + (crA ps j).a * (q * uD) := by unfold heX nsX; rw [c1]; grind
    have e2 : heY zs q cy X Y 1 uN uD (crA ps j) = ((zg zs 2 * X + zg zs 3 * Y) * uD + uN * q * cy) + (crA ps j).b * (q * uD) := by unfold heY nsX; rw [c1]; grind
    have e3 : heD q 1 uD (crA ps j) = q * uD := by unfold heD; rw [c1]; grind
    rw [e1, e2, e3] at v
    have m := Int.mul_nonneg N0 (Int.le_of_lt W)
    refine ⟨hb, (vl _ _ _).2 ?_, ?_⟩
    · unfold Geo.val at v
      rw [hN]
      have e4 : e.a * ((zg zs 0 * X + zg zs 1 * Y) * uD + uN * q * bx) + e.b * ((zg zs 2 * X + zg zs 3 * Y) * uD + uN * q * cy) - (e.c - (e.a * (crA ps j).a + e.b * (crA ps j).b)) * (q * uD) = e.a * ((zg zs 0 * X + zg zs 1 * Y) * uD + uN * q * bx + (crA ps j).a * (q * uD)) + e.b * ((zg zs 2 * X + zg zs 3 * Y) * uD + uN * q * cy + (crA ps j).b * (q * uD)) - e.c * (q * uD) := by grind
      rw [e4]
      exact v
    · unfold Geo.val at v ⊢
      have e4 : e.a * ((zg zs 0 * X + zg zs 1 * Y) * uD + uN * q * bx + (crA ps j).a * (q * uD)) + e.b * ((zg zs 2 * X + zg zs 3 * Y) * uD + uN * q * cy + (crA ps j).b * (q * uD)) - e.c * (q * uD) = e.a * ((zg zs 0 * X + zg zs 1 * Y) * uD + uN * q * bx) + e.b * ((zg zs 2 * X + zg zs 3 * Y) * uD + uN * q * cy) - e.c * (q * uD) + (e.a * (crA ps j).a + e.b * (crA ps j).b) * (q * uD) := by grind
      rw [e4, ← hN] at v
      omega
  have fr := rok_frame rq nq W (fun e he => (pe e he).2.2)
  have mp := eb
  unfold eroB at mp
  simp only [Bool.and_eq_true, decide_eq_true_eq] at mp
  obtain ⟨_, ep, okp, _⟩ := mv_facts nq mp.2
  rw [(ero_yes rq rp np).1, ep] at ne ⊢
  rw [List.nil_append] at ne okp ⊢
  refine (reg_pt okp ne W fr).2 (fun g hg => ?_)
  obtain ⟨e, he, rfl⟩ := List.mem_map.1 hg
  exact (pe e he).2.1
/-- a whole input that is left holds the state -/
theorem in_held (F : RoomF zs q bx cy lo hi ps qs) (hX : -15 ≤ X ∧ X ≤ 14) (hY : -15 ≤ Y ∧ Y ≤ 14) {m : Int} (hin : (adtS zs q bx cy lo hi ps qs X Y 1 qs).In 1 m) : ihB zs q bx cy lo hi ps qs X Y 1 m 1 qs = true := by
  obtain ⟨G, eb, ne, _, _, _⟩ := rb_ero F
  obtain ⟨rm, rpb, rpl, _⟩ := rb_rp F
  obtain ⟨rp, np, l4, _, cr⟩ := box_facts G
  have rq := F.2.2.2.2.2.2.2.2.2.1
  have nq := F.2.2.2.2.2.2.2.2.2.2.1
  have hq := F.2.2.2.2.2.2.1
  have hl := F.2.2.2.2.1
  have hh := F.2.2.2.2.2.1
  have nr : rpL zs q bx cy lo hi ps qs qs ≠ [] := by rw [rpl]; exact ne
  obtain ⟨⟨i1, i2⟩, _⟩ := (rc_in F hX hY rpb nr (by omega)).1 hin
  have om : okR m 1 = true := one_ok (by omega)
  unfold ihB isiB
  rw [rm, om, inB_of (by omega) (by omega)]
  simp only [Bool.true_and, Bool.and_true, List.all_eq_true]
  intro p hp
  unfold corL at hp
  simp only [List.mem_map, List.mem_range] at hp
  obtain ⟨i, hii, rfl⟩ := hp
  have hi4 : i < 4 := by omega
  have e0 : crn (atI ps i) (atI ps ((i + 1) % ps.length)) = crA ps i := rfl
  rw [e0]
  obtain ⟨c1, ca, cb⟩ := cr i hi4
  obtain ⟨oi, _, ins, _⟩ := cnr_facts rp np hii
  have v := in_lead F hX hY rpb nr (by omega) hin (p := crA ps i) (by omega) (fun g hg => ins g (List.mem_append_right _ hg))
  have hd : heD q 1 1 (crA ps i) = q := by unfold heD; rw [c1]; omega
  have fr := val_frame (rok_frame rq nq (by rw [hd]; omega) v)
  have hs := spot_has (by rw [hd]; omega) (by rw [hd]; omega) fr.1 fr.2
  have g : heG zs q bx cy lo hi ps qs X Y 1 m 1 (crA ps i) = true := by
    unfold heG nsC
    rw [hs, rm, om, oi, show okS X Y 1 = true from whole_ok (by omega) (by omega), decide_eq_true (show (crA ps i).c ≤ 1000 by omega), inB_of (by omega) (by omega)]
    rfl
  unfold heB
  rw [g, Bool.true_and, has_iff rq nq (heS_ok g)]
  intro e he
  have hv := (spot_val hs e).2 (v e he)
  unfold heS
  rw [if_pos g]
  exact hv
end
open Go.RowKit
open Geo (H3)

/-- a picked input lies in its span -/
theorem pin_in {a b c d : Int} (h : spnB a b c d = true) (wish : Int) : ispB a b c d (pinP a b c d wish).1 (pinP a b c d wish).2 = true := by
  obtain ⟨o1, o2, le⟩ := spn_iff.1 h
  have i1 := cei_in o1
  have i2 := flo_in o2
  by_cases l : ceiR a b ≤ floR c d
  · rw [pin_b h rfl l]
    have h1 : ceiR a b ≤ min (max (clpI wish (-1000) 1000) (ceiR a b)) (floR c d) := by omega
    have h2 : min (max (clpI wish (-1000) 1000) (ceiR a b)) (floR c d) ≤ floR c d := by omega
    simp only
    generalize min (max (clpI wish (-1000) 1000) (ceiR a b)) (floR c d) = v at *
    exact isp_iff.2 ⟨h, (one_of (n := v) (by omega)).2.2, by have := (cei_le o1).1 h1; omega, by have := (flo_ge o2).1 h2; omega⟩
  · rw [pin_a h rfl (by omega)]
    have hb : -1000 ≤ clpI wish (-1000) 1000 ∧ clpI wish (-1000) 1000 ≤ 1000 := by unfold clpI; omega
    generalize clpI wish (-1000) 1000 = n at *
    have om := maxF_ge (k := 1) (m := 0) (one_ok hb) o1 (by omega)
    have pm := okR_pos om.1
    have ge := ((maxF_ge (k := (maxP n 1 a b).2) (m := (maxP n 1 a b).1) (one_ok hb) o1 (by omega)).2.1 (Int.le_refl _)).2
    generalize (maxP n 1 a b).1 = x at *
    generalize (maxP n 1 a b).2 = y at *
    unfold minP
    rw [if_pos ⟨om.1, o2⟩]
    by_cases q : cmpR x y c d ≤ 0
    · rw [if_pos q]
      exact isp_iff.2 ⟨h, om.1, ge, cmp_0.1 q⟩
    · rw [if_neg q]
      exact isp_iff.2 ⟨h, o2, le, Int.le_refl _⟩
section
variable {zs : List Int} {q bx cy lo hi X Y : Int} {ps qs : List H3}
/-- no input is admitted: the middle of the range does not hold the state -/
theorem re_no (F : RoomF zs q bx cy lo hi ps qs) (hX : -15 ≤ X ∧ X ≤ 14) (hY : -15 ≤ Y ∧ Y ≤ 14) (h : adtB zs q bx cy lo hi ps qs X Y 1 qs = false) (uN uD : Int) : ihB zs q bx cy lo hi ps qs X Y 1 uN uD qs = false := by
  obtain ⟨_, rpb, rpl, _⟩ := rb_rp F
  have nr : rpL zs q bx cy lo hi ps qs qs ≠ [] := by rw [rpl]; exact (rb_ero F).2.2.1
  obtain ⟨_, so, e1, _⟩ := rb_adt F hX hY rpb nr
  rw [Bool.eq_false_iff]
  intro k
  obtain ⟨u, hin⟩ := held_in F hX hY k
  have := (at_iff so).2 ((adm_some so).1 ⟨_, _, u, hin⟩)
  rw [e1, this] at h
  cases h
/-- what the bounds are, where an input is admitted -/
theorem re_yes (F : RoomF zs q bx cy lo hi ps qs) (hX : -15 ≤ X ∧ X ≤ 14) (hY : -15 ≤ Y ∧ Y ≤ 14) (h : adtB zs q bx cy lo hi ps qs X Y 1 qs = true) :
    ∃ a b c d : Int, adtN zs q bx cy lo hi ps qs X Y 1 qs (adtS zs q bx cy lo hi ps qs X Y 1 qs).lN = a ∧ adtN zs q bx cy lo hi ps qs X Y 1 qs (adtS zs q bx cy lo hi ps qs X Y 1 qs).lD = b ∧ adtN zs q bx cy lo hi ps qs X Y 1 qs (adtS zs q bx cy lo hi ps qs X Y 1 qs).hN = c ∧ adtN zs q bx cy lo hi ps qs X Y 1 qs (adtS zs q bx cy lo hi ps qs X Y 1 qs).hD = d ∧
    spnB a b c d = true ∧ cmpO a b lo 1 = cmpR a b lo 1 ∧ 0 ≤ cmpR a b lo 1 ∧ cmpO c d hi 1 = cmpR c d hi 1 ∧ cmpR c d hi 1 ≤ 0 ∧
    (∀ m, lo ≤ m → m ≤ hi → ihB zs q bx cy lo hi ps qs X Y 1 m 1 qs = ispB a b c d m 1) ∧
    (∀ n m, ispB a b c d n m = true → isiB zs q bx cy lo hi ps qs n m = true) ∧ whoP a b c d ≤ hi - lo + 1 := by
  obtain ⟨rm, rpb, rpl, _⟩ := rb_rp F
  have nr : rpL zs q bx cy lo hi ps qs qs ≠ [] := by rw [rpl]; exact (rb_ero F).2.2.1
  obtain ⟨g, so, e1, _⟩ := rb_adt F hX hY rpb nr
  rw [e1] at h
  obtain ⟨n1, n2, n3, n4, _⟩ := adt_yes g
  have av : ∀ x : Int, atV (adtS zs q bx cy lo hi ps qs X Y 1 qs) x = x := fun x => by unfold atV; rw [if_pos h]
  obtain ⟨sk, le⟩ := (at_iff so).1 h
  have hl := F.2.2.2.2.1
  have hh := F.2.2.2.2.2.1
  have p1 := okR_pos so.1
  have p2 := okR_pos so.2
  have inl := (rc_in F hX hY rpb nr (show 0 < (adtS zs q bx cy lo hi ps qs X Y 1 qs).lD by omega)).1 (show (adtS zs q bx cy lo hi ps qs X Y 1 qs).In _ (adtS zs q bx cy lo hi ps qs X Y 1 qs).lN from ⟨sk, Int.le_refl _, le⟩)
  have inh := (rc_in F hX hY rpb nr (show 0 < (adtS zs q bx cy lo hi ps qs X Y 1 qs).hD by omega)).1 (show (adtS zs q bx cy lo hi ps qs X Y 1 qs).In _ (adtS zs q bx cy lo hi ps qs X Y 1 qs).hN from ⟨sk, le, Int.le_refl _⟩)
  have sp := spn_iff.2 ⟨so.1, so.2, le⟩
  refine ⟨_, _, _, _, n1.trans (av _), n2.trans (av _), n3.trans (av _), n4.trans (av _), sp, cmpO_of so.1 (one_ok (by omega)), cmp_00.2 (by have := inl.1.1; omega), cmpO_of so.2 (one_ok (by omega)), cmp_0.2 (by have := inh.1.2; omega), ?_, ?_, ?_⟩
  · intro m m1 m2
    rw [Bool.eq_iff_iff, isp_iff]
    constructor
    · intro k
      obtain ⟨_, hin⟩ := held_in F hX hY k
      exact ⟨sp, one_ok (by omega), by have := hin.2.1; omega, by have := hin.2.2; omega⟩
    · rintro ⟨_, _, k1, k2⟩
      exact in_held F hX hY ⟨sk, by omega, by omega⟩
  · intro n m k
    obtain ⟨_, on, k1, k2⟩ := isp_iff.1 k
    have pm := okR_pos on
    have t1 := fr_trans (a := lo) (b := 1) (c := (adtS zs q bx cy lo hi ps qs X Y 1 qs).lN) (d := (adtS zs q bx cy lo hi ps qs X Y 1 qs).lD) (e := n) (f := m) (by omega) p1 pm (by have := inl.1.1; omega) k1
    have t2 := fr_trans (a := n) (b := m) (c := (adtS zs q bx cy lo hi ps qs X Y 1 qs).hN) (d := (adtS zs q bx cy lo hi ps qs X Y 1 qs).hD) (e := hi) (f := 1) pm p2 (by omega) k2 (by have := inh.1.2; omega)
    unfold isiB
    rw [rm, on, inB_of (by omega) (by omega)]
    rfl
  · have f1 : floR (adtS zs q bx cy lo hi ps qs X Y 1 qs).hN (adtS zs q bx cy lo hi ps qs X Y 1 qs).hD ≤ hi := by
      rcases Int.lt_or_le hi (floR (adtS zs q bx cy lo hi ps qs X Y 1 qs).hN (adtS zs q bx cy lo hi ps qs X Y 1 qs).hD) with z | z
      · have k := (flo_ge so.2 (n := hi + 1)).1 (by omega)
        have := inh.1.2
        have e : (hi + 1) * (adtS zs q bx cy lo hi ps qs X Y 1 qs).hD = hi * (adtS zs q bx cy lo hi ps qs X Y 1 qs).hD + (adtS zs q bx cy lo hi ps qs X Y 1 qs).hD := by grind
        omega
      · exact z
    have f2 : lo ≤ ceiR (adtS zs q bx cy lo hi ps qs X Y 1 qs).lN (adtS zs q bx cy lo hi ps qs X Y 1 qs).lD := by
      rcases Int.lt_or_le (ceiR (adtS zs q bx cy lo hi ps qs X Y 1 qs).lN (adtS zs q bx cy lo hi ps qs X Y 1 qs).lD) lo with z | z
      · have k := (cei_le so.1 (n := lo - 1)).1 (by omega)
        have := inl.1.1
        have e : (lo - 1) * (adtS zs q bx cy lo hi ps qs X Y 1 qs).lD = lo * (adtS zs q bx cy lo hi ps qs X Y 1 qs).lD - (adtS zs q bx cy lo hi ps qs X Y 1 qs).lD := by grind
        omega
      · exact z
    unfold whoP
    split <;> omega
end
open Go.RowKit
open Geo (H3)

theorem keep12 {V X : World} {Ba Bb Bc : Nat} {a0 a1 a2 a3 a4 a5 a6 a7 b0 c0 c1 c2 : Value} {Ta Tb Tc : TypeId} (ha : Blk V Ba #[a0, a1, a2, a3, a4, a5, a6, a7] Ta) (hb : Blk V Bb #[b0] Tb) (hc : Blk V Bc #[c0, c1, c2] Tc) (hBel : Below V.heap.size V X) :
    X.cell? ⟨Ba, 0, none⟩ = some a0 ∧ X.cell? ⟨Ba, 1, none⟩ = some a1 ∧ X.cell? ⟨Ba, 2, none⟩ = some a2 ∧ X.cell? ⟨Ba, 3, none⟩ = some a3 ∧ X.cell? ⟨Ba, 4, none⟩ = some a4 ∧ X.cell? ⟨Ba, 5, none⟩ = some a5 ∧ X.cell? ⟨Ba, 6, none⟩ = some a6 ∧ X.cell? ⟨Ba, 7, none⟩ = some a7 ∧ X.cell? ⟨Bb, 0, none⟩ = some b0 ∧ X.cell? ⟨Bc, 0, none⟩ = some c0 ∧ X.cell? ⟨Bc, 1, none⟩ = some c1 ∧ X.cell? ⟨Bc, 2, none⟩ = some c2 := ⟨(ha.to hBel).c8_0, (ha.to hBel).c8_1, (ha.to hBel).c8_2, (ha.to hBel).c8_3, (ha.to hBel).c8_4, (ha.to hBel).c8_5, (ha.to hBel).c8_6, (ha.to hBel).c8_7, (hb.to hBel).cell0 rfl, (hc.to hBel).cell0 rfl, (hc.to hBel).cell0 rfl, (hc.to hBel).cell0 rfl⟩
theorem keep84 {V X : World} {Ba Bb : Nat} {a0 a1 a2 a3 a4 a5 a6 a7 b0 b1 b2 b3 : Value} {Ta Tb : TypeId} (ha : Blk V Ba #[a0, a1, a2, a3, a4, a5, a6, a7] Ta) (hb : Blk V Bb #[b0, b1, b2, b3] Tb) (hBel : Below V.heap.size V X) :
    X.cell? ⟨Ba, 0, none⟩ = some a0 ∧ X.cell? ⟨Ba, 1, none⟩ = some a1 ∧ X.cell? ⟨Ba, 2, none⟩ = some a2 ∧ X.cell? ⟨Ba, 3, none⟩ = some a3 ∧ X.cell? ⟨Ba, 4, none⟩ = some a4 ∧ X.cell? ⟨Ba, 5, none⟩ = some a5 ∧ X.cell? ⟨Ba, 6, none⟩ = some a6 ∧ X.cell? ⟨Ba, 7, none⟩ = some a7 ∧ X.cell? ⟨Bb, 0, none⟩ = some b0 ∧ X.cell? ⟨Bb, 1, none⟩ = some b1 ∧ X.cell? ⟨Bb, 2, none⟩ = some b2 ∧ X.cell? ⟨Bb, 3, none⟩ = some b3 := ⟨(ha.to hBel).c8_0, (ha.to hBel).c8_1, (ha.to hBel).c8_2, (ha.to hBel).c8_3, (ha.to hBel).c8_4, (ha.to hBel).c8_5, (ha.to hBel).c8_6, (ha.to hBel).c8_7, (hb.to hBel).cell0 rfl, (hb.to hBel).cell0 rfl, (hb.to hBel).cell0 rfl, (hb.to hBel).cell0 rfl⟩
theorem keep18 {V X : World} {Ba Bb Bc Bd Be : Nat} {a0 a1 a2 a3 a4 a5 a6 a7 b0 c0 c1 c2 d0 d1 d2 d3 e0 e1 : Value} {Ta Tb Tc Td Te : TypeId} (ha : Blk V Ba #[a0, a1, a2, a3, a4, a5, a6, a7] Ta) (hb : Blk V Bb #[b0] Tb) (hc : Blk V Bc #[c0, c1, c2] Tc) (hd : Blk V Bd #[d0, d1, d2, d3] Td) (he : Blk V Be #[e0, e1] Te) (hBel : Below V.heap.size V X) :
    X.cell? ⟨Ba, 0, none⟩ = some a0 ∧ X.cell? ⟨Ba, 1, none⟩ = some a1 ∧ X.cell? ⟨Ba, 2, none⟩ = some a2 ∧ X.cell? ⟨Ba, 3, none⟩ = some a3 ∧ X.cell? ⟨Ba, 4, none⟩ = some a4 ∧ X.cell? ⟨Ba, 5, none⟩ = some a5 ∧ X.cell? ⟨Ba, 6, none⟩ = some a6 ∧ X.cell? ⟨Ba, 7, none⟩ = some a7 ∧ X.cell? ⟨Bb, 0, none⟩ = some b0 ∧ X.cell? ⟨Bc, 0, none⟩ = some c0 ∧ X.cell? ⟨Bc, 1, none⟩ = some c1 ∧ X.cell? ⟨Bc, 2, none⟩ = some c2 ∧ X.cell? ⟨Bd, 0, none⟩ = some d0 ∧ X.cell? ⟨Bd, 1, none⟩ = some d1 ∧ X.cell? ⟨Bd, 2, none⟩ = some d2 ∧ X.cell? ⟨Bd, 3, none⟩ = some d3 ∧ X.cell? ⟨Be, 0, none⟩ = some e0 ∧ X.cell? ⟨Be, 1, none⟩ = some e1 := ⟨(ha.to hBel).c8_0, (ha.to hBel).c8_1, (ha.to hBel).c8_2, (ha.to hBel).c8_3, (ha.to hBel).c8_4, (ha.to hBel).c8_5, (ha.to hBel).c8_6, (ha.to hBel).c8_7, (hb.to hBel).cell0 rfl, (hc.to hBel).cell0 rfl, (hc.to hBel).cell0 rfl, (hc.to hBel).cell0 rfl, (hd.to hBel).cell0 rfl, (hd.to hBel).cell0 rfl, (hd.to hBel).cell0 rfl, (hd.to hBel).cell0 rfl, (he.to hBel).cell0 rfl, (he.to hBel).cell0 rfl⟩
theorem keep842 {V X : World} {Ba Bb Bc : Nat} {a0 a1 a2 a3 a4 a5 a6 a7 b0 b1 b2 b3 c0 c1 : Value} {Ta Tb Tc : TypeId} (ha : Blk V Ba #[a0, a1, a2, a3, a4, a5, a6, a7] Ta) (hb : Blk V Bb #[b0, b1, b2, b3] Tb) (hc : Blk V Bc #[c0, c1] Tc) (hBel : Below V.heap.size V X) :
    X.cell? ⟨Ba, 0, none⟩ = some a0 ∧ X.cell? ⟨Ba, 1, none⟩ = some a1 ∧ X.cell? ⟨Ba, 2, none⟩ = some a2 ∧ X.cell? ⟨Ba, 3, none⟩ = some a3 ∧ X.cell? ⟨Ba, 4, none⟩ = some a4 ∧ X.cell? ⟨Ba, 5, none⟩ = some a5 ∧ X.cell? ⟨Ba, 6, none⟩ = some a6 ∧ X.cell? ⟨Ba, 7, none⟩ = some a7 ∧ X.cell? ⟨Bb, 0, none⟩ = some b0 ∧ X.cell? ⟨Bb, 1, none⟩ = some b1 ∧ X.cell? ⟨Bb, 2, none⟩ = some b2 ∧ X.cell? ⟨Bb, 3, none⟩ = some b3 ∧ X.cell? ⟨Bc, 0, none⟩ = some c0 ∧ X.cell? ⟨Bc, 1, none⟩ = some c1 := ⟨(ha.to hBel).c8_0, (ha.to hBel).c8_1, (ha.to hBel).c8_2, (ha.to hBel).c8_3, (ha.to hBel).c8_4, (ha.to hBel).c8_5, (ha.to hBel).c8_6, (ha.to hBel).c8_7, (hb.to hBel).cell0 rfl, (hb.to hBel).cell0 rfl, (hb.to hBel).cell0 rfl, (hb.to hBel).cell0 rfl, (hc.to hBel).cell0 rfl, (hc.to hBel).cell0 rfl⟩
theorem rem_in40 {x : Int} (h : 0 ≤ x ∧ x ≤ 65535) : (0 ≤ x.tmod 40 ∧ x.tmod 40 ≤ 39) := by
  rw [Int.tmod_eq_emod_of_nonneg h.1]
  have := Int.emod_nonneg x (show (40 : Int) ≠ 0 by omega)
  have := Int.emod_lt_of_pos x (show (0 : Int) < 40 by omega)
  omega
theorem wrap40 {y : Int} (h : 0 ≤ y ∧ y ≤ 39) : IntKind.i64.wrap (y - 20) = y - 20 := IntWalk.i64_in _ (by omega)
theorem set2' {W : World} {B : Nat} {t : TypeId} {a0 a1 : Value} (h : W.heap[B]? = some (.cells #[a0, a1] t (0, 0))) (u v : Value) : ((W.setCell ⟨B, 0, none⟩ u).setCell ⟨B, 1, none⟩ v).heap[B]? = some (.cells #[u, v] t (0, 0)) :=
  heap_setCell_same _ B 1 _ t v (heap_setCell_same W B 0 _ t u h)
theorem cen_64 {s : Int} (h : -2000 ≤ s ∧ s ≤ 2000) : ∃ uN uD : Int, cenV true s = .agg #[.int .i64 uN, .int .i64 uD] ∧ (-9223372036854775808 ≤ uN ∧ uN ≤ 9223372036854775807) ∧ -9223372036854775808 ≤ uD ∧ uD ≤ 9223372036854775807 := by
  refine ⟨cenN s, (cenD s : Int), rfl, ?_⟩
  have a := sgn_abs s 2
  have t : topR s 2 ≤ s.natAbs := Nat.div_le_self _ _
  have b : botR s 2 ≤ 2 := Nat.div_le_self _ _
  unfold cenN cenD
  omega
set_option maxRecDepth 100000 in
set_option maxHeartbeats 2000000 in
theorem law_held (a : Option Addr) (len cap : Nat) (w : World) (_hm : len ≤ maxLen) (hB : BytesAt w a len) :
    Calls Tryz.prog 5 #[.slice a len cap] w fun e w' => e = .returned (.bool true) ∧ Below w.heap.size w w' := by
  by_cases hle : (1048576 : Int) < (len : Int)
  · go_enter Tryz.func5, Tryz.ntmps5
    go_wp2
    go_ret
    exact ⟨rfl, Below.refl _ _⟩
  have HB := Lib.hid hB
  have hl : len ≤ 1048576 := by omega
  clear hB
  go_enter Tryz.func5, Tryz.ntmps5
  go_wp2_with fail
  refine (make_state w a len cap hl HB.out).mono ?_
  rintro e w1 ⟨zs, q, bx, cy, lo, hi, ps, qs, am, nm, cm, an, nn, cn, al, nl, cl, X, Y, hF, hXY, hsum, rfl, ⟨hA, hNL⟩, bl⟩
  have HF := Lib.hid hF
  have HXY := Lib.hid hXY
  have hlo := hF.2.2.2.2.1
  have hhi := hF.2.2.2.2.2.1
  have H64 := Lib.hid hF.r64
  have HSUM := Lib.hid (show nm + nn + nl ≤ 1048576 by omega)
  have HNL := Lib.hid (show nl ≤ 1048576 by omega)
  have HZL := Lib.hid hNL.l
  have HS64 := Lib.hid (show In64 ⟨X, Y, 1⟩ from ⟨⟨by simp only; omega, by simp only; omega⟩, ⟨by simp only; omega, by simp only; omega⟩, ⟨by simp, by simp⟩⟩)
  have HRM := Lib.hid (rb_rp hF).1
  have HNO := Lib.hid (fun h uN uD => re_no hF hXY.1 hXY.2 h uN uD)
  have HYE := Lib.hid (fun h => re_yes hF hXY.1 hXY.2 h)
  have HOS := Lib.hid (show okS X Y 1 = true from whole_ok (by omega) (by omega))
  have HR0 := Lib.hid hA
  have HLL := Lib.hid hA.ll
  have b0 := bl
  clear hF hXY hA hNL bl hsum
  have bN := below_bx2 (below_one w1 (.cells #[.slice am nm cm, .int .i64 q, .int .i64 bx, .int .i64 cy, .int .i64 lo, .int .i64 hi, .slice an nn cn, .slice al nl cl] 42)) (.cells #[.int .i64 X, .int .i64 Y, .int .i64 1] 45)
  have BX0 := (blk_new w1 #[.slice am nm cm, .int .i64 q, .int .i64 bx, .int .i64 cy, .int .i64 lo, .int .i64 hi, .slice an nn cn, .slice al nl cl] 42 rfl).to (below_one _ (.cells #[.int .i64 X, .int .i64 Y, .int .i64 1] 45))
  have BS0 := blk_new (w1.alloc (.cells #[.slice am nm cm, .int .i64 q, .int .i64 bx, .int .i64 cy, .int .i64 lo, .int .i64 hi, .slice an nn cn, .slice al nl cl] 42)) #[.int .i64 X, .int .i64 Y, .int .i64 1] 45 (b := w1.heap.size + 1) (by simp)
  have b_1 := below_to b0 bN
  have HR_2 := Lib.hid (HR0.out.below bN)
  clear b0 HR0
  clear bN
  go_upto_region 4 with fail
  generalize (w1.alloc (.cells #[.slice am nm cm, .int .i64 q, .int .i64 bx, .int .i64 cy, .int .i64 lo, .int .i64 hi, .slice an nn cn, .slice al nl cl] 42)).alloc (.cells #[.int .i64 X, .int .i64 Y, .int .i64 1] 45) = W2 at *
  obtain ⟨xb, hxb⟩ : ∃ b, w1.heap.size = b := ⟨_, rfl⟩
  rw [hxb] at BX0 BS0 ⊢
  clear hxb
  have p7 := BX0.c8_7
  have bN := below_one W2 (.cells #[.slice al nl cl] 40)
  have BP0 := blk_new W2 #[.slice al nl cl] 40 rfl
  have b_3 := below_to b_1 bN
  have HR_4 := Lib.hid (HR_2.out.below bN)
  have BX_5 := BX0.to bN
  have BS_6 := BS0.to bN
  clear b_1 HR_2 BX0 BS0
  clear bN
  have q0 := BX_5.cell0 (i := 0) (v := .slice am nm cm) rfl
  have q1 := BX_5.cell0 (i := 1) (v := .int .i64 q) rfl
  have q2 := BX_5.cell0 (i := 2) (v := .int .i64 bx) rfl
  have q3 := BX_5.cell0 (i := 3) (v := .int .i64 cy) rfl
  have q4 := BX_5.cell0 (i := 4) (v := .int .i64 lo) rfl
  have q5 := BX_5.cell0 (i := 5) (v := .int .i64 hi) rfl
  have q6 := BX_5.cell0 (i := 6) (v := .slice an nn cn) rfl
  have q7 := BX_5.cell0 (i := 7) (v := .slice al nl cl) rfl
  have q8 := BP0.cell0 (i := 0) (v := .slice al nl cl) rfl
  have q9 := BS_6.cell0 (i := 0) (v := .int .i64 X) rfl
  have q10 := BS_6.cell0 (i := 1) (v := .int .i64 Y) rfl
  have q11 := BS_6.cell0 (i := 2) (v := .int .i64 1) rfl
  go_wp2_with fail
  clear q0 q1 q2 q3 q4 q5 q6 q7 q8 q9 q10 q11
  generalize W2.alloc (.cells #[.slice al nl cl] 40) = U1 at *
  obtain ⟨pb, hbk⟩ : ∃ b, W2.heap.size = b := ⟨_, rfl⟩
  rw [hbk] at BP0 ⊢
  clear hbk
  clear p7
  refine (impl_adt am nm cm zs q bx cy lo hi an nn cn ps al nl cl qs al nl cl qs X Y 1 HS64.out U1 HR_4.out H64.out HSUM.out HLL.out HNL.out H64.out.qs HZL.out HR_4.out.hl).mono ?_
  rintro e w2 ⟨rfl, bl⟩
  have b_7 := below_to b_3 bl
  have HR_8 := Lib.hid (HR_4.out.below bl)
  have BX_9 := BX_5.to bl
  have BS_10 := BS_6.to bl
  have BP_11 := BP0.to bl
  clear b_3 HR_4 BX_5 BS_6 BP0
  clear bl
  generalize adtN zs q bx cy lo hi ps qs X Y 1 qs (adtS zs q bx cy lo hi ps qs X Y 1 qs).lN = n1 at *
  generalize adtN zs q bx cy lo hi ps qs X Y 1 qs (adtS zs q bx cy lo hi ps qs X Y 1 qs).lD = n2 at *
  generalize adtN zs q bx cy lo hi ps qs X Y 1 qs (adtS zs q bx cy lo hi ps qs X Y 1 qs).hN = n3 at *
  generalize adtN zs q bx cy lo hi ps qs X Y 1 qs (adtS zs q bx cy lo hi ps qs X Y 1 qs).hD = n4 at *
  generalize adtB zs q bx cy lo hi ps qs X Y 1 qs = R at *
  have bN := below_one w2 (.cells #[.int .i64 n1, .int .i64 n2, .int .i64 n3, .int .i64 n4] 35)
  have BA0 := blk_new w2 #[.int .i64 n1, .int .i64 n2, .int .i64 n3, .int .i64 n4] 35 rfl
  have b_12 := below_to b_7 bN
  have HR_13 := Lib.hid (HR_8.out.below bN)
  have BX_14 := BX_9.to bN
  have BS_15 := BS_10.to bN
  have BP_16 := BP_11.to bN
  clear b_7 HR_8 BX_9 BS_10 BP_11
  clear bN
  have q0 := BX_14.cell0 (i := 0) (v := .slice am nm cm) rfl
  have q1 := BX_14.cell0 (i := 1) (v := .int .i64 q) rfl
  have q2 := BX_14.cell0 (i := 2) (v := .int .i64 bx) rfl
  have q3 := BX_14.cell0 (i := 3) (v := .int .i64 cy) rfl
  have q4 := BX_14.cell0 (i := 4) (v := .int .i64 lo) rfl
  have q5 := BX_14.cell0 (i := 5) (v := .int .i64 hi) rfl
  have q6 := BX_14.cell0 (i := 6) (v := .slice an nn cn) rfl
  have q7 := BX_14.cell0 (i := 7) (v := .slice al nl cl) rfl
  go_wp2_with fail
  clear q0 q1 q2 q3 q4 q5 q6 q7
  generalize w2.alloc (.cells #[.int .i64 n1, .int .i64 n2, .int .i64 n3, .int .i64 n4] 35) = U2 at *
  obtain ⟨ab, hbk⟩ : ∃ b, w2.heap.size = b := ⟨_, rfl⟩
  rw [hbk] at BA0 ⊢
  clear hbk
  refine (impl_room am nm cm zs q bx cy lo hi an nn cn ps al nl cl qs U2 true HRM.out HR_13.out H64.out HSUM.out).mono ?_
  rintro e w3 ⟨rfl, bl⟩
  have b_17 := below_to b_12 bl
  have HR_18 := Lib.hid (HR_13.out.below bl)
  have BX_19 := BX_14.to bl
  have BS_20 := BS_15.to bl
  have BP_21 := BP_16.to bl
  have BA_22 := BA0.to bl
  clear b_12 HR_13 BX_14 BS_15 BP_16 BA0
  clear bl
  have q0 := BS_20.cell0 (i := 0) (v := .int .i64 X) rfl
  have q1 := BS_20.cell0 (i := 1) (v := .int .i64 Y) rfl
  have q2 := BS_20.cell0 (i := 2) (v := .int .i64 1) rfl
  go_wp2_with fail
  clear q0 q1 q2
  have HI := impl_sok X Y 1 w3 HS64.out.1.1 HS64.out.1.2 HS64.out.2.1.1 HS64.out.2.1.2 (by omega) (by omega)
  simp only [HOS.out] at HI
  refine HI.mono ?_
  rintro e w4 ⟨rfl, bl⟩
  clear HI
  have b_23 := below_to b_17 bl
  have HR_24 := Lib.hid (HR_18.out.below bl)
  have BX_25 := BX_19.to bl
  have BS_26 := BS_20.to bl
  have BP_27 := BP_21.to bl
  have BA_28 := BA_22.to bl
  clear b_17 HR_18 BX_19 BS_20 BP_21 BA_22
  clear bl
  cases R with
  | false =>
    obtain ⟨uN, uD, hcv, hu⟩ : ∃ uN uD : Int, cenV true (lo + hi) = .agg #[.int .i64 uN, .int .i64 uD] ∧ (-9223372036854775808 ≤ uN ∧ uN ≤ 9223372036854775807) ∧ -9223372036854775808 ≤ uD ∧ uD ≤ 9223372036854775807 := cen_64 (s := lo + hi) (by omega)
    have HCE := Lib.hid (fun V (hr : RAt V am nm zs an nn ps al nl qs) => impl_cen am nm cm zs q bx cy lo hi an nn cn ps al nl cl qs V hr H64.out HSUM.out)
    rw [HRM.out, hcv] at HCE
    have HU := Lib.hid hu
    clear hcv hu
    have HIH := Lib.hid (fun V (hr : RAt V am nm zs an nn ps al nl qs) => impl_ih am nm cm zs q bx cy lo hi an nn cn ps al nl cl qs X Y 1 uN uD al nl cl qs V hr H64.out HSUM.out HS64.out (by first | exact HU.out | omega) HLL.out HNL.out H64.out.qs hr.hl)
    rw [HNO.out (by simp) uN uD] at HIH
    clear HNO HYE
    go_upto_region 9 with fail
    have p0 := BX_25.c8_0
    have p1 := BX_25.c8_1
    have p2 := BX_25.c8_2
    have p3 := BX_25.c8_3
    have p4 := BX_25.c8_4
    have p5 := BX_25.c8_5
    have p6 := BX_25.c8_6
    have p7 := BX_25.c8_7
    have q0 := BP_27.cell0 (i := 0) rfl
    have r0 := BS_26.cell0 (i := 0) (v := .int .i64 X) rfl
    have r1 := BS_26.cell0 (i := 1) (v := .int .i64 Y) rfl
    have r2 := BS_26.cell0 (i := 2) (v := .int .i64 1) rfl
    go_region_held3 (fun w' => w'.cell? ⟨xb, 0, none⟩ = some (.slice am nm cm) ∧ w'.cell? ⟨xb, 1, none⟩ = some (.int .i64 q) ∧ w'.cell? ⟨xb, 2, none⟩ = some (.int .i64 bx) ∧ w'.cell? ⟨xb, 3, none⟩ = some (.int .i64 cy) ∧ w'.cell? ⟨xb, 4, none⟩ = some (.int .i64 lo) ∧ w'.cell? ⟨xb, 5, none⟩ = some (.int .i64 hi) ∧ w'.cell? ⟨xb, 6, none⟩ = some (.slice an nn cn) ∧ w'.cell? ⟨xb, 7, none⟩ = some (.slice al nl cl) ∧ w'.cell? ⟨pb, 0, none⟩ = some (.slice al nl cl) ∧ w'.cell? ⟨(xb + 1), 0, none⟩ = some (.int .i64 X) ∧ w'.cell? ⟨(xb + 1), 1, none⟩ = some (.int .i64 Y) ∧ w'.cell? ⟨(xb + 1), 2, none⟩ = some (.int .i64 1))
      ((with_reducible refine keep12 BX_25 BP_27 BS_26 ?_; repeat (first | (with_reducible exact Below.refl _ _) | refine below_bx2 ?_ _ | refine below_drw ?_ | refine below_to ?_ (by assumption))))
      (first | (go_at_call 27; (with_reducible refine (HCE.out _ ?_).mono ?_); (focus (refine HR_24.out.below ?_; repeat (first | (with_reducible exact Below.refl _ _) | refine below_bx2 ?_ _ | refine below_drw ?_ | refine below_to ?_ (by assumption)))); rintro e wA ⟨rfl, blA⟩) | (go_at_call 26; (with_reducible refine (HIH.out _ ?_).mono ?_); (focus (refine HR_24.out.below ?_; repeat (first | (with_reducible exact Below.refl _ _) | refine below_bx2 ?_ _ | refine below_drw ?_ | refine below_to ?_ (by assumption)))); rintro e wB ⟨rfl, blB⟩))
    all_goals
      go_wp2_with fail
      go_ret
      refine ⟨rfl, below_to b_23 ?_⟩
      repeat (first | (with_reducible exact Below.refl _ _) | refine below_bx2 ?_ _ | refine below_drw ?_ | refine below_to ?_ (by assumption))
  | true =>
    obtain ⟨a', b', c', d', h1, h2, h3, h4, sp, e1, g1, e2, g2, ih, isi, wh⟩ := HYE.out (by simp)
    subst h1
    subst h2
    subst h3
    subst h4
    obtain ⟨o1, o2, _⟩ := spn_iff.1 sp
    obtain ⟨i1, i2⟩ := ok_64 o1
    obtain ⟨i3, i4⟩ := ok_64 o2
    have HSP := Lib.hid (fun V => impl_spn n1 n2 n3 n4 V i1 i2 i3 i4)
    rw [sp] at HSP
    have HO1 := Lib.hid (fun V => impl_ofA lo 1 V (by omega) (by omega) (by omega) (by omega))
    rw [(one_of (n := lo) (by omega)).1, (one_of (n := lo) (by omega)).2.1] at HO1
    have HO2 := Lib.hid (fun V => impl_ofA hi 1 V (by omega) (by omega) (by omega) (by omega))
    rw [(one_of (n := hi) (by omega)).1, (one_of (n := hi) (by omega)).2.1] at HO2
    have HC1 := Lib.hid (fun V => impl_cmp n1 n2 lo 1 V i1.1 i1.2 i2.1 i2.2 (by omega) (by omega) (by omega) (by omega))
    rw [e1] at HC1
    have HC2 := Lib.hid (fun V => impl_cmp n3 n4 hi 1 V i3.1 i3.2 i4.1 i4.2 (by omega) (by omega) (by omega) (by omega))
    rw [e2] at HC2
    generalize cmpR n1 n2 lo 1 = k1 at *
    generalize cmpR n3 n4 hi 1 = k2 at *
    have d1 : decide (k1 < 0) = false := decide_eq_false (by omega)
    have d2 : decide (0 < k2) = false := decide_eq_false (by omega)
    have HIH := Lib.hid ih
    have HISI := Lib.hid isi
    have HWH := Lib.hid wh
    have HPN := Lib.hid (fun wish => pin_in sp wish)
    have HI1 := Lib.hid i1
    have HI2 := Lib.hid i2
    have HI3 := Lib.hid i3
    have HI4 := Lib.hid i4
    clear e1 e2 g1 g2 ih isi wh o1 o2 i1 i2 i3 i4 HNO HYE sp
    go_upto_region 10 with fail
    go_cut [65] from 45 to 65 (fun s5 wx => s5 = .bool false ∧ Below w4.heap.size w4 wx)
    case first =>
      have p0 := BX_25.c8_0
      have p1 := BX_25.c8_1
      have p2 := BX_25.c8_2
      have p3 := BX_25.c8_3
      have p4 := BX_25.c8_4
      have p5 := BX_25.c8_5
      have p6 := BX_25.c8_6
      have p7 := BX_25.c8_7
      have s0 := BA_28.cell0 (i := 0) (v := .int .i64 n1) rfl
      have s1 := BA_28.cell0 (i := 1) (v := .int .i64 n2) rfl
      have s2 := BA_28.cell0 (i := 2) (v := .int .i64 n3) rfl
      have s3 := BA_28.cell0 (i := 3) (v := .int .i64 n4) rfl
      go_region_held3 (fun w' => w'.cell? ⟨xb, 0, none⟩ = some (.slice am nm cm) ∧ w'.cell? ⟨xb, 1, none⟩ = some (.int .i64 q) ∧ w'.cell? ⟨xb, 2, none⟩ = some (.int .i64 bx) ∧ w'.cell? ⟨xb, 3, none⟩ = some (.int .i64 cy) ∧ w'.cell? ⟨xb, 4, none⟩ = some (.int .i64 lo) ∧ w'.cell? ⟨xb, 5, none⟩ = some (.int .i64 hi) ∧ w'.cell? ⟨xb, 6, none⟩ = some (.slice an nn cn) ∧ w'.cell? ⟨xb, 7, none⟩ = some (.slice al nl cl) ∧ w'.cell? ⟨ab, 0, none⟩ = some (.int .i64 n1) ∧ w'.cell? ⟨ab, 1, none⟩ = some (.int .i64 n2) ∧ w'.cell? ⟨ab, 2, none⟩ = some (.int .i64 n3) ∧ w'.cell? ⟨ab, 3, none⟩ = some (.int .i64 n4))
        ((with_reducible refine keep84 BX_25 BA_28 ?_; repeat (first | (with_reducible exact Below.refl _ _) | refine below_bx2 ?_ _ | refine below_drw ?_ | refine below_to ?_ (by assumption))))
        (first | (go_at_call 28; (with_reducible refine (HSP.out _).mono ?_); rintro e wS ⟨rfl, blS⟩) | (go_at_call 30; (with_reducible refine (HO1.out _).mono ?_); rintro e wA ⟨rfl, blA⟩) | (go_at_call 30; (with_reducible refine (HO2.out _).mono ?_); rintro e wB ⟨rfl, blB⟩) | (go_at_call 29; (with_reducible refine (HC1.out _).mono ?_); rintro e wC ⟨rfl, blC⟩) | (go_at_call 29; (with_reducible refine (HC2.out _).mono ?_); rintro e wD ⟨rfl, blD⟩))
      all_goals
        go_wp2_with fail
        go_meet
        refine ⟨by first | rfl | simp [d1, d2], ?_⟩
        repeat (first | (with_reducible exact Below.refl _ _) | refine below_bx2 ?_ _ | refine below_drw ?_ | refine below_to ?_ (by assumption))
    case rest =>
      obtain ⟨rfl, hbx⟩ := hcut
      rename World => w7
      have b_29 := below_to b_23 hbx
      have HR_30 := Lib.hid (HR_24.out.below hbx)
      have BX_31 := BX_25.to hbx
      have BS_32 := BS_26.to hbx
      have BP_33 := BP_27.to hbx
      have BA_34 := BA_28.to hbx
      clear b_23 HR_24 BX_25 BS_26 BP_27 BA_28
      clear hbx d1 d2 HSP HO1 HO2 HC1 HC2
      have x4 := BX_31.c8_4
      go_wp2_with fail
      clear x4
      have b7 := b_29
      go_loopw [8] (fun i wr => ∃ m : Int, lo ≤ m ∧ m ≤ hi + 1 ∧ i = .int .i64 m ∧ Below w7.heap.size w7 wr) (fun i _ => (hi + 1 - intOf i).toNat)
      case atStart => exact ⟨lo, Int.le_refl _, by omega, rfl, Below.refl _ _⟩
      case round =>
        obtain ⟨m, hm1, hm2, rfl, hbw⟩ := hrel
        have b_35 := below_to b_29 hbw
        have HR_36 := Lib.hid (HR_30.out.below hbw)
        have BX_37 := BX_31.to hbw
        have BS_38 := BS_32.to hbw
        have BP_39 := BP_33.to hbw
        have BA_40 := BA_34.to hbw
        have hbv := hbw
        have x5 := BX_37.c8_5
        by_cases hlt : m ≤ hi
        · have HO := Lib.hid (fun V => impl_ofA m 1 V (by omega) (by omega) (by omega) (by omega))
          rw [(one_of (n := m) (by omega)).1, (one_of (n := m) (by omega)).2.1] at HO
          have HU := Lib.hid (show (-9223372036854775808 ≤ m ∧ m ≤ 9223372036854775807) ∧ -9223372036854775808 ≤ (1 : Int) ∧ (1 : Int) ≤ 9223372036854775807 from ⟨⟨by omega, by omega⟩, by omega, by omega⟩)
          have HHE := Lib.hid (fun V (hr : RAt V am nm zs an nn ps al nl qs) => impl_ih am nm cm zs q bx cy lo hi an nn cn ps al nl cl qs X Y 1 m 1 al nl cl qs V hr H64.out HSUM.out HS64.out (by first | exact HU.out | omega) HLL.out HNL.out H64.out.qs hr.hl)
          rw [HIH.out m hm1 hlt] at HHE
          have HSI := Lib.hid (fun V => impl_isp n1 n2 n3 n4 m 1 V HI1.out HI2.out HI3.out HI4.out HU.out.1 HU.out.2)
          generalize ispB n1 n2 n3 n4 m 1 = Z at *
          go_wp2_with fail
          clear x5
          refine (HO.out _).mono ?_
          rintro e w8 ⟨rfl, bl⟩
          have b_41 := below_to b_35 bl
          have HR_42 := Lib.hid (HR_36.out.below bl)
          have BX_43 := BX_37.to bl
          have BS_44 := BS_38.to bl
          have BP_45 := BP_39.to bl
          have BA_46 := BA_40.to bl
          have w7b_47 := below_to hbv bl
          clear b_35 HR_36 BX_37 BS_38 BP_39 BA_40 hbv
          clear bl
          have bN := below_one w8 (.cells #[.int .i64 m, .int .i64 1] 33)
          have BU0 := blk_new w8 #[.int .i64 m, .int .i64 1] 33 rfl
          have b_48 := below_to b_41 bN
          have HR_49 := Lib.hid (HR_42.out.below bN)
          have BX_50 := BX_43.to bN
          have BS_51 := BS_44.to bN
          have BP_52 := BP_45.to bN
          have BA_53 := BA_46.to bN
          have w7b_54 := below_to w7b_47 bN
          clear b_41 HR_42 BX_43 BS_44 BP_45 BA_46 w7b_47
          clear bN
          go_upto_region 16 with fail
          generalize w8.alloc (.cells #[.int .i64 m, .int .i64 1] 33) = U8 at *
          obtain ⟨ub, hub⟩ : ∃ b, w8.heap.size = b := ⟨_, rfl⟩
          rw [hub] at BU0 ⊢
          clear hub
          go_cut [84] from 76 to 84 (fun s5 wx => s5 = .bool false ∧ Below U8.heap.size U8 wx)
          case first =>
            have p0 := BX_50.c8_0
            have p1 := BX_50.c8_1
            have p2 := BX_50.c8_2
            have p3 := BX_50.c8_3
            have p4 := BX_50.c8_4
            have p5 := BX_50.c8_5
            have p6 := BX_50.c8_6
            have p7 := BX_50.c8_7
            have q0 := BP_52.cell0 (i := 0) rfl
            have r0 := BS_51.cell0 (i := 0) (v := .int .i64 X) rfl
            have r1 := BS_51.cell0 (i := 1) (v := .int .i64 Y) rfl
            have r2 := BS_51.cell0 (i := 2) (v := .int .i64 1) rfl
            have s0 := BA_53.cell0 (i := 0) (v := .int .i64 n1) rfl
            have s1 := BA_53.cell0 (i := 1) (v := .int .i64 n2) rfl
            have s2 := BA_53.cell0 (i := 2) (v := .int .i64 n3) rfl
            have s3 := BA_53.cell0 (i := 3) (v := .int .i64 n4) rfl
            have t0 := BU0.cell0 (i := 0) (v := .int .i64 m) rfl
            have t1 := BU0.cell0 (i := 1) (v := .int .i64 1) rfl
            go_region_held3 (fun w' => w'.cell? ⟨xb, 0, none⟩ = some (.slice am nm cm) ∧ w'.cell? ⟨xb, 1, none⟩ = some (.int .i64 q) ∧ w'.cell? ⟨xb, 2, none⟩ = some (.int .i64 bx) ∧ w'.cell? ⟨xb, 3, none⟩ = some (.int .i64 cy) ∧ w'.cell? ⟨xb, 4, none⟩ = some (.int .i64 lo) ∧ w'.cell? ⟨xb, 5, none⟩ = some (.int .i64 hi) ∧ w'.cell? ⟨xb, 6, none⟩ = some (.slice an nn cn) ∧ w'.cell? ⟨xb, 7, none⟩ = some (.slice al nl cl) ∧ w'.cell? ⟨pb, 0, none⟩ = some (.slice al nl cl) ∧ w'.cell? ⟨(xb + 1), 0, none⟩ = some (.int .i64 X) ∧ w'.cell? ⟨(xb + 1), 1, none⟩ = some (.int .i64 Y) ∧ w'.cell? ⟨(xb + 1), 2, none⟩ = some (.int .i64 1) ∧ w'.cell? ⟨ab, 0, none⟩ = some (.int .i64 n1) ∧ w'.cell? ⟨ab, 1, none⟩ = some (.int .i64 n2) ∧ w'.cell? ⟨ab, 2, none⟩ = some (.int .i64 n3) ∧ w'.cell? ⟨ab, 3, none⟩ = some (.int .i64 n4) ∧ w'.cell? ⟨ub, 0, none⟩ = some (.int .i64 m) ∧ w'.cell? ⟨ub, 1, none⟩ = some (.int .i64 1))
              ((with_reducible refine keep18 BX_50 BP_52 BS_51 BA_53 BU0 ?_; repeat (first | (with_reducible exact Below.refl _ _) | refine below_bx2 ?_ _ | refine below_drw ?_ | refine below_to ?_ (by assumption))))
              (first | (go_at_call 26; (with_reducible refine (HHE.out _ ?_).mono ?_); (focus (refine HR_49.out.below ?_; repeat (first | (with_reducible exact Below.refl _ _) | refine below_bx2 ?_ _ | refine below_drw ?_ | refine below_to ?_ (by assumption)))); rintro e wA ⟨rfl, blA⟩) | (go_at_call 31; (with_reducible refine (HSI.out _).mono ?_); rintro e wB ⟨rfl, blB⟩))
            all_goals
              go_wp2_with fail
              go_meet
              refine ⟨by simp, ?_⟩
              repeat (first | (with_reducible exact Below.refl _ _) | refine below_bx2 ?_ _ | refine below_drw ?_ | refine below_to ?_ (by assumption))
          case rest =>
            obtain ⟨rfl, hbx⟩ := hcut
            rename World => w9
            have b_55 := below_to b_48 hbx
            have HR_56 := Lib.hid (HR_49.out.below hbx)
            have BX_57 := BX_50.to hbx
            have BS_58 := BS_51.to hbx
            have BP_59 := BP_52.to hbx
            have BA_60 := BA_53.to hbx
            have w7b_61 := below_to w7b_54 hbx
            have BU_62 := BU0.to hbx
            clear b_48 HR_49 BX_50 BS_51 BP_52 BA_53 w7b_54 BU0
            clear hbx HO HHE HSI
            have hw1 : IntKind.i64.wrap (m + 1) = m + 1 := IntWalk.i64_in _ (by omega)
            go_wp2_with fail
            go_roundw
            case rel => exact ⟨m + 1, by omega, by omega, rfl, w7b_61⟩
            case measure => simp [intOf]; omega
        · go_wp2_with fail
          clear x5
          have HMN := Lib.hid (fun V (q : Below w.heap.size w V) => show Calls Tryz.prog 33 #[.slice a len cap, .int .i64 60] V (Num 0 65535 V) from make_num V a len cap 60 (by omega) hl (HB.out.below q))
          unfold Num at HMN
          have HPI := Lib.hid (fun V wish => impl_pin n1 n2 n3 n4 wish V HI1.out HI2.out HI3.out HI4.out)
          go_upto_region 18 with fail
          go_cut [10] from 85 to 90 (fun s5 wx => ∃ wish g, s5 = .pointer (some ⟨g, 0, none⟩) ∧ wr.heap.size ≤ g ∧ Blk wx g #[.int .i64 (pinP n1 n2 n3 n4 wish).1, .int .i64 (pinP n1 n2 n3 n4 wish).2] 33 ∧ Below wr.heap.size wr wx)
          case first =>
            have s0 := BA_40.cell0 (i := 0) (v := .int .i64 n1) rfl
            have s1 := BA_40.cell0 (i := 1) (v := .int .i64 n2) rfl
            have s2 := BA_40.cell0 (i := 2) (v := .int .i64 n3) rfl
            have s3 := BA_40.cell0 (i := 3) (v := .int .i64 n4) rfl
            go_region_held3 (fun w' => w'.cell? ⟨ab, 0, none⟩ = some (.int .i64 n1) ∧ w'.cell? ⟨ab, 1, none⟩ = some (.int .i64 n2) ∧ w'.cell? ⟨ab, 2, none⟩ = some (.int .i64 n3) ∧ w'.cell? ⟨ab, 3, none⟩ = some (.int .i64 n4))
              ((with_reducible refine keep4 BA_40 ?_; repeat (first | (with_reducible exact Below.refl _ _) | refine Below.setCell ?_ (by first | (simp; done) | (simp; omega)) _ | refine below_bx2 ?_ _ | refine below_drw ?_ | refine below_to ?_ (by assumption))))
              (first | (go_at_call 33; (with_reducible refine (HMN.out _ ?_).mono ?_); (focus (refine below_to b_35 ?_; repeat (first | (with_reducible exact Below.refl _ _) | refine below_bx2 ?_ _ | refine below_drw ?_ | refine below_to ?_ (by assumption)))); rintro e wM ⟨x, hx, rfl, blM⟩; have rx := rem_in40 hx; have wx1 := wrap40 rx; obtain ⟨hcM, hfM⟩ := bcl3 blM; have hsM := blM.size; (try simp at hsM)) | (go_at_call 32; (with_reducible refine (HPI.out _ _).mono ?_); rintro e wP ⟨rfl, blP⟩; obtain ⟨hcP, hfP⟩ := bcl3 blP; have hsP := blP.size; (try simp at hsP); (first | (with_reducible have hx2 := bcl3 (below_to blM blP)) | skip); (try obtain ⟨hxc, hxf⟩ := hx2)))
            all_goals
              go_wp2_with fail
              go_meet
              refine ⟨x.tmod 40 - 20, _, rfl, ?_, ?_, ?_⟩
              · first | exact Nat.le_refl _ | omega | (simp; omega)
              · first
                | (unfold Blk; with_reducible exact heap_alloc_new _ _)
                | (unfold Blk; with_reducible refine set2' (a0 := .int .i64 0) (a1 := .int .i64 0) ?_ _ _
                   apply at_new3 (Z := .cells #[.int .i64 0, .int .i64 0] 33)
                   · repeat (first | (with_reducible exact Below.refl _ _) | refine below_bx2 ?_ _ | refine below_drw ?_ | refine below_to ?_ (by assumption))
                   · first | rfl | (simp; done))
              · repeat (first | (with_reducible exact Below.refl _ _) | refine Below.setCell ?_ (by first | (simp; done) | (simp; omega)) _ | refine below_bx2 ?_ _ | refine below_drw ?_ | refine below_to ?_ (by assumption))
          case rest =>
            obtain ⟨wish, gp, rfl, hgp, hG, hbx⟩ := hcut
            rename World => wc
            have BP20 : Blk wc gp #[.int .i64 (pinP n1 n2 n3 n4 wish).1, .int .i64 (pinP n1 n2 n3 n4 wish).2] 33 := hG
            clear hG hgp HMN HPI
            have b_63 := below_to b_35 hbx
            have HR_64 := Lib.hid (HR_36.out.below hbx)
            have BX_65 := BX_37.to hbx
            have BS_66 := BS_38.to hbx
            have BP_67 := BP_39.to hbx
            have BA_68 := BA_40.to hbx
            have w7b_69 := below_to hbv hbx
            clear b_35 HR_36 BX_37 BS_38 BP_39 BA_40 hbv
            clear hbx
            have hin := HPN.out wish
            have his := HISI.out _ _ hin
            obtain ⟨_, op, _⟩ := isp_iff.1 hin
            obtain ⟨j1, j2⟩ := ok_64 op
            generalize (pinP n1 n2 n3 n4 wish).1 = x1 at *
            generalize (pinP n1 n2 n3 n4 wish).2 = x2 at *
            have HSI := Lib.hid (fun V => impl_isp n1 n2 n3 n4 x1 x2 V HI1.out HI2.out HI3.out HI4.out j1 j2)
            rw [hin] at HSI
            have HSJ := Lib.hid (fun V (hr : RAt V am nm zs an nn ps al nl qs) => impl_isi am nm cm zs q bx cy lo hi an nn cn ps al nl cl qs x1 x2 V hr H64.out ⟨j1, j2⟩ HSUM.out)
            rw [his] at HSJ
            have HWI := Lib.hid (fun V => impl_whi n1 n2 n3 n4 V HI1.out HI2.out HI3.out HI4.out)
            have hwh := HWH.out
            generalize whoP n1 n2 n3 n4 = wv at *
            have y1 : IntKind.i64.wrap (hi - lo) = hi - lo := IntWalk.i64_in _ (by omega)
            have y2 : IntKind.i64.wrap (hi - lo + 1) = hi - lo + 1 := IntWalk.i64_in _ (by omega)
            clear hin his op j1 j2
            go_upto_region 19 with fail
            have p0 := BX_65.c8_0
            have p1 := BX_65.c8_1
            have p2 := BX_65.c8_2
            have p3 := BX_65.c8_3
            have p4 := BX_65.c8_4
            have p5 := BX_65.c8_5
            have p6 := BX_65.c8_6
            have p7 := BX_65.c8_7
            have s0 := BA_68.cell0 (i := 0) (v := .int .i64 n1) rfl
            have s1 := BA_68.cell0 (i := 1) (v := .int .i64 n2) rfl
            have s2 := BA_68.cell0 (i := 2) (v := .int .i64 n3) rfl
            have s3 := BA_68.cell0 (i := 3) (v := .int .i64 n4) rfl
            have t0 := BP20.cell0 (i := 0) (v := .int .i64 x1) rfl
            have t1 := BP20.cell0 (i := 1) (v := .int .i64 x2) rfl
            go_region_held3 (fun w' => w'.cell? ⟨xb, 0, none⟩ = some (.slice am nm cm) ∧ w'.cell? ⟨xb, 1, none⟩ = some (.int .i64 q) ∧ w'.cell? ⟨xb, 2, none⟩ = some (.int .i64 bx) ∧ w'.cell? ⟨xb, 3, none⟩ = some (.int .i64 cy) ∧ w'.cell? ⟨xb, 4, none⟩ = some (.int .i64 lo) ∧ w'.cell? ⟨xb, 5, none⟩ = some (.int .i64 hi) ∧ w'.cell? ⟨xb, 6, none⟩ = some (.slice an nn cn) ∧ w'.cell? ⟨xb, 7, none⟩ = some (.slice al nl cl) ∧ w'.cell? ⟨ab, 0, none⟩ = some (.int .i64 n1) ∧ w'.cell? ⟨ab, 1, none⟩ = some (.int .i64 n2) ∧ w'.cell? ⟨ab, 2, none⟩ = some (.int .i64 n3) ∧ w'.cell? ⟨ab, 3, none⟩ = some (.int .i64 n4) ∧ w'.cell? ⟨gp, 0, none⟩ = some (.int .i64 x1) ∧ w'.cell? ⟨gp, 1, none⟩ = some (.int .i64 x2))
              ((with_reducible refine keep842 BX_65 BA_68 BP20 ?_; repeat (first | (with_reducible exact Below.refl _ _) | refine below_bx2 ?_ _ | refine below_drw ?_ | refine below_to ?_ (by assumption))))
              (first | (go_at_call 31; (with_reducible refine (HSI.out _).mono ?_); rintro e wA ⟨rfl, blA⟩) | (go_at_call 34; (with_reducible refine (HSJ.out _ ?_).mono ?_); (focus (refine HR_64.out.below ?_; repeat (first | (with_reducible exact Below.refl _ _) | refine below_bx2 ?_ _ | refine below_drw ?_ | refine below_to ?_ (by assumption)))); rintro e wB ⟨rfl, blB⟩) | (go_at_call 35; (with_reducible refine (HWI.out _).mono ?_); rintro e wC ⟨rfl, blC⟩))
            all_goals
              go_wp2_with fail
              go_ret
              refine ⟨by simp, below_to b_63 ?_⟩
              repeat (first | (with_reducible exact Below.refl _ _) | refine below_bx2 ?_ _ | refine below_drw ?_ | refine below_to ?_ (by assumption))
end Go.Proofs.YtibkmhmeoelpdaaGreat
