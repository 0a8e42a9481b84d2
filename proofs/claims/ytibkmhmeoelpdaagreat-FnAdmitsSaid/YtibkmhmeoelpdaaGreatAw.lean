/- What is true of the regions that rooms are kept in (no calls). Which inputs hold a drawn room's state: with an admitted input every disturbance leads into the region, and an input that holds the state is admitted (no calls). What FnAdmits asks of a kept region (no calls). The walk of the law FnAdmits. -/
import Derived.Test.YtibkmhmeoelpdaaGreatBg
import Derived.Test.YtibkmhmeoelpdaaGreatDn
import Derived.Test.YtibkmhmeoelpdaaGreatRb
import Derived.Test.YtibkmhmeoelpdaaGreatXa
import Derived.Test.YtibkmhmeoelpdaaGreatSk
import Derived.Test.YtibkmhmeoelpdaaGreatCv
namespace Go.Proofs.YtibkmhmeoelpdaaGreat
open Go.RowKit
open Geo (H3)

section
variable {zs : List Int} {q bx cy lo hi : Int} {ps qs : List H3}
theorem rrG_some {m : Int} (h : rrB zs q bx cy lo hi ps qs m = true) : rmB zs q bx cy lo hi ps qs = true ∧ rrG zs q bx cy lo hi ps qs m = some (rrL zs q bx cy lo hi ps qs m, rrN zs q bx cy lo hi ps qs m, rrS zs q bx cy lo hi ps qs m) ∧ rrF zs q bx cy lo hi ps qs m.toNat qs 0 = some (rrL zs q bx cy lo hi ps qs m, rrN zs q bx cy lo hi ps qs m, rrS zs q bx cy lo hi ps qs m) := by
  cases e : rrG zs q bx cy lo hi ps qs m with
  | none => rw [(rr_none e).2.2.2] at h; cases h
  | some x =>
    obtain ⟨L, N, S⟩ := x
    obtain ⟨e1, e2, e3, _⟩ := rr_some e
    rw [e1, e2, e3]
    have e' := e
    unfold rrG at e'
    split at e'
    · rename_i c
      exact ⟨c.2, rfl, e'⟩
    · cases e'
/-- the greatest region that is kept -/
theorem kg_facts (h : kgB zs q bx cy lo hi ps qs = true) : rmB zs q bx cy lo hi ps qs = true ∧ rokB (kgL zs q bx cy lo hi ps qs) = true ∧ Sub (kgL zs q bx cy lo hi ps qs) qs ∧ prB zs q bx cy lo hi ps qs (kgL zs q bx cy lo hi ps qs) = true ∧ Sub (kgL zs q bx cy lo hi ps qs) (prL zs q bx cy lo hi ps qs (kgL zs q bx cy lo hi ps qs)) ∧ kgN zs q bx cy lo hi ps qs = (rrN zs q bx cy lo hi ps qs 12 : Int) ∧
    ∀ us, rokB us = true → Sub us qs → (∀ rs', kpB zs q bx cy lo hi ps qs rs' = true → Sub us rs' → Sub us (prL zs q bx cy lo hi ps qs rs')) → Sub us (kgL zs q bx cy lo hi ps qs) := by
  obtain ⟨e1, _, e3, _⟩ := kg_yes h
  unfold kgB at h
  rw [Bool.and_eq_true] at h
  obtain ⟨rm, _, e⟩ := rrG_some h.1
  rw [h.2] at e
  obtain ⟨r, n, _, _⟩ := rm_qs rm
  obtain ⟨f1, f2, _, _, f5, f6⟩ := rrF_facts _ qs 0 r _ _ _ e
  obtain ⟨k1, k2⟩ := f5 rfl
  obtain ⟨p1, p2⟩ := stop_kept k1 k2
  rw [e1]
  exact ⟨rm, f1, f2, p1, p2, e3, f6⟩
theorem kg_ik (h : kgB zs q bx cy lo hi ps qs = true) : ikB zs q bx cy lo hi ps qs (kgL zs q bx cy lo hi ps qs) = true ∧ wiB (kgL zs q bx cy lo hi ps qs) qs = true := by
  obtain ⟨rm, r, s, b, t, _⟩ := kg_facts h
  obtain ⟨rq, _⟩ := rm_qs rm
  exact ⟨ik_of b rq s t, s.wi r rq⟩
/-- a wider range of inputs -/
theorem kg_wider {lo' hi' : Int} (h : kgB zs q bx cy lo hi ps qs = true) (h' : kgB zs q bx cy lo' hi' ps qs = true) (h1 : lo' ≤ lo) (h2 : hi ≤ hi') : wiB (kgL zs q bx cy lo hi ps qs) (kgL zs q bx cy lo' hi' ps qs) = true := by
  obtain ⟨_, r, s, b, t, _⟩ := kg_facts h
  obtain ⟨_, r', _, _, _, _, g⟩ := kg_facts h'
  refine Sub.wi r r' (g _ r s (fun rs' k s' => t.trans (pr_mono b (kp_parts k).1 h1 h2 s')))
/-- narrower limits -/
theorem kg_narrow {qs' : List H3} (h : kgB zs q bx cy lo hi ps qs = true) (h' : kgB zs q bx cy lo hi ps qs' = true) (s0 : Sub qs' qs) : wiB (kgL zs q bx cy lo hi ps qs') (kgL zs q bx cy lo hi ps qs) = true ∧ ikB zs q bx cy lo hi ps qs (kgL zs q bx cy lo hi ps qs') = true := by
  obtain ⟨rm, r, _, _, _, _, g⟩ := kg_facts h
  obtain ⟨_, r', s', b', t', _⟩ := kg_facts h'
  obtain ⟨rq, _⟩ := rm_qs rm
  obtain ⟨_, e', g', p', eL'⟩ := pr_parts b'
  have b : prB zs q bx cy lo hi ps qs (kgL zs q bx cy lo hi ps qs') = true := by unfold prB; rw [rm, e', g', p']; rfl
  have eL : prL zs q bx cy lo hi ps qs (kgL zs q bx cy lo hi ps qs') = prL zs q bx cy lo hi ps qs' (kgL zs q bx cy lo hi ps qs') := by rw [eL', (pr_parts b).2.2.2.2]
  have s := s'.trans s0
  rw [← eL] at t'
  refine ⟨Sub.wi r' r (g _ r' s (fun rs' k s'' => t'.trans (pr_mono b (kp_parts k).1 (Int.le_refl _) (Int.le_refl _) s''))), ik_of b rq s t'⟩
end
theorem sub_cut {qs : List H3} {h : H3} (b : cutB qs h = true) (n : qs ≠ []) : Sub (cutA qs h) qs ∧ rokB (cutA qs h) = true := by
  have e : cutA qs h = regL (qs ++ [h]) := by unfold cutA; rw [if_pos ⟨b, n⟩]
  unfold cutB at b
  simp only [Bool.and_eq_true, decide_eq_true_eq] at b
  obtain ⟨⟨r, k⟩, l⟩ := b
  have ok := all_app (ks := [h]) (rok_allB r) (by simp [k])
  have ln : (regL (qs ++ [h])).length ≤ 40 := by have := reg_more (ks := [h]) r n; simp at this; omega
  rw [e]
  have := sub_reg ok (rok_allB r) (fun X Y W w k g hg => k g (List.mem_append_right _ (List.mem_append_left _ hg)))
  rw [rok_reg r n] at this
  exact ⟨this, rok_regL ok ln⟩
open Go.RowKit
open Geo (H3)

theorem spot_val {x y d : Int} (h : hasS x y d = true) (e : H3) : Geo.val e (x.tdiv (gS x y d)) (y.tdiv (gS x y d)) (d.tdiv (gS x y d)) ≤ 0 ↔ Geo.val e x y d ≤ 0 := by
  obtain ⟨d1, _⟩ := hasS_pos h
  have p : 1 ≤ ((gS x y d : Nat) : Int) := by have := gS_pos x y d d1; omega
  have ex := Int.tdiv_mul_cancel (gS_dvd_x x y d)
  have ey := Int.tdiv_mul_cancel (gS_dvd_y x y d)
  have ed := Int.tdiv_mul_cancel (gS_dvd_d x y d)
  have key : ∀ a b c G : Int, 1 ≤ G → a * G = x → b * G = y → c * G = d → (Geo.val e a b c ≤ 0 ↔ Geo.val e x y d ≤ 0) := by
    intro a b c G hG e1 e2 e3
    subst e1 e2 e3
    rw [← scale_le hG]
    have : Geo.val e a b c * G = Geo.val e (a * G) (b * G) (c * G) := by unfold Geo.val; grind
    rw [this]
  exact key _ _ _ _ p ex ey ed
theorem spot_has {x y d : Int} (h1 : 1 ≤ d) (h2 : d ≤ 5000000000) (hx : -(1000 * d) ≤ x ∧ x ≤ 1000 * d) (hy : -(1000 * d) ≤ y ∧ y ≤ 1000 * d) : hasS x y d = true := by
  have p : 1 ≤ ((gS x y d : Nat) : Int) := by have := gS_pos x y d h1; omega
  have ex := Int.tdiv_mul_cancel (gS_dvd_x x y d)
  have ey := Int.tdiv_mul_cancel (gS_dvd_y x y d)
  have ed := Int.tdiv_mul_cancel (gS_dvd_d x y d)
  have key : ∀ a b c G : Int, 1 ≤ G → a * G = x → b * G = y → c * G = d → ((gS x y d : Nat) : Int) = G → okS a b c = true := by
    intro a b c G hG e1 e2 e3 e4
    have sc := gS_scale G a b c (by omega)
    rw [Int.mul_comm G a, Int.mul_comm G b, Int.mul_comm G c, e1, e2, e3, e4] at sc
    have g1 : ((gS a b c : Nat) : Int) = 1 := by
      have : G * ((gS a b c : Nat) : Int) = G * 1 := by rw [← sc, Int.mul_one]
      exact Int.eq_of_mul_eq_mul_left (by omega) this
    have le : ∀ u v : Int, u * G ≤ v * G → u ≤ v := fun u v h => Int.le_of_mul_le_mul_right h (by omega)
    have c1 : 1 ≤ c := by
      rcases Int.lt_or_le c 1 with z | z
      · have := Int.mul_le_mul_of_nonneg_right (show c ≤ 0 by omega) (show 0 ≤ G by omega)
        omega
      · exact z
    have c2 : c * 1 ≤ c * G := Int.mul_le_mul_of_nonneg_left hG (by omega)
    have t : 1000 * c * G = 1000 * d := by rw [Int.mul_assoc, e3]
    have t2 : -(1000 * c) * G = -(1000 * d) := by rw [Int.neg_mul, t]
    exact (okS_iff _ _ _).2 ⟨c1, by omega, le _ _ (by rw [t2, e1]; exact hx.1), le _ _ (by rw [t, e1]; exact hx.2), le _ _ (by rw [t2, e2]; exact hy.1), le _ _ (by rw [t, e2]; exact hy.2), by omega⟩
  unfold hasS
  rw [decide_eq_true h1, Bool.true_and]
  exact key _ _ _ _ p ex ey ed rfl
theorem val_frame {X Y W : Int} (h : ∀ g ∈ Geo.frame, Geo.val g X Y W ≤ 0) : (-(1000 * W) ≤ X ∧ X ≤ 1000 * W) ∧ -(1000 * W) ≤ Y ∧ Y ≤ 1000 * W := by
  have m1 := h ⟨1, 0, 1000⟩ (by simp [Geo.frame])
  have m2 := h ⟨0, 1, 1000⟩ (by simp [Geo.frame])
  have m3 := h ⟨-1, 0, 1000⟩ (by simp [Geo.frame])
  have m4 := h ⟨0, -1, 1000⟩ (by simp [Geo.frame])
  unfold Geo.val at m1 m2 m3 m4
  simp only at m1 m2 m3 m4
  omega
theorem rok_frame {rs : List H3} (r : rokB rs = true) (n : rs ≠ []) {X Y W : Int} (w : 0 < W) (h : ∀ e ∈ rs, Geo.val e X Y W ≤ 0) : ∀ g ∈ Geo.frame, Geo.val g X Y W ≤ 0 := by
  intro g hg
  have e := rok_reg r n
  exact reg_imp (List.all_eq_true.2 (fun x hx => rok_all r x hx)) (by rw [e]; exact n) w (by rw [e]; exact h) g (List.mem_append_left _ hg)
section
variable {zs : List Int} {q bx cy lo hi X Y : Int} {ps qs rs : List H3}
/-- an input is left by the bounds exactly if it leads the mapped state into the eroded region -/
theorem rc_in (F : RoomF zs q bx cy lo hi ps qs) (hX : -15 ≤ X ∧ X ≤ 14) (hY : -15 ≤ Y ∧ Y ≤ 14) (b : rpB zs q bx cy lo hi ps qs rs = true) (n : rpL zs q bx cy lo hi ps qs rs ≠ []) {uN uD : Int} (hu : 0 < uD) :
    (adtS zs q bx cy lo hi ps qs X Y 1 rs).In uD uN ↔ (lo * uD ≤ uN ∧ uN ≤ hi * uD) ∧ ∀ e ∈ eroL rs ps, Geo.val e ((zg zs 0 * X + zg zs 1 * Y) * uD + uN * q * bx) ((zg zs 2 * X + zg zs 3 * Y) * uD + uN * q * cy) (q * uD) ≤ 0 := by
  obtain ⟨_, _, _, eL, eb⟩ := rb_adt F hX hY b n
  obtain ⟨mx, my, hq⟩ := rb_map F hX hY
  have hb := F.2.2.1
  have hc := F.2.2.2.1
  have hl := F.2.2.2.2.1
  have hh := F.2.2.2.2.2.1
  obtain ⟨ok, _⟩ := ero_all eb
  have o0 : Adm.Ok ⟨lo, 1, hi, 1, true⟩ := ⟨one_ok (n := lo) (by omega), one_ok (n := hi) (by omega)⟩
  have fold := (adm_fold (bx := bx) (cy := cy) (X := zg zs 0 * X + zg zs 1 * Y) (Y := zg zs 2 * X + zg zs 3 * Y) (d := q) (by omega) (eroL rs ps) (fun h hh => adm_in (ok h hh) (by omega) (by omega) (by omega) (by omega) (by omega)) _ o0).2 uD uN hu
  unfold adtS admL
  rw [Int.mul_one, eL, fold]
  unfold Adm.In
  simp only [Int.mul_one, true_and]
  constructor
  · rintro ⟨a, c⟩
    exact ⟨a, fun e he => adm_val.1 (c e he)⟩
  · rintro ⟨a, c⟩
    exact ⟨a, fun e he => adm_val.2 (c e he)⟩
/-- an input that is left leads into the region, whatever the disturbance -/
theorem in_lead (F : RoomF zs q bx cy lo hi ps qs) (hX : -15 ≤ X ∧ X ≤ 14) (hY : -15 ≤ Y ∧ Y ≤ 14) (b : rpB zs q bx cy lo hi ps qs rs = true) (n : rpL zs q bx cy lo hi ps qs rs ≠ []) {uN uD : Int} (hu : 0 < uD) (hin : (adtS zs q bx cy lo hi ps qs X Y 1 rs).In uD uN) {p : H3} (hc : 1 ≤ p.c) (hp : ∀ g ∈ ps, Geo.val g p.a p.b p.c ≤ 0) :
    ∀ e ∈ rs, Geo.val e (heX zs q bx X Y 1 uN uD p) (heY zs q cy X Y 1 uN uD p) (heD q 1 uD p) ≤ 0 := by
  obtain ⟨_, _, _, eL, eb⟩ := rb_adt F hX hY b n
  obtain ⟨_, kv⟩ := (rc_in F hX hY b n hu).1 hin
  have hq := F.2.2.2.2.2.2.1
  rw [eL] at n
  intro e he
  have r := ero_pt eb n (Int.mul_pos (show 0 < q by omega) hu) hc hp kv e he
  have e1 : heX zs q bx X Y 1 uN uD p = ((zg zs 0 * X + zg zs 1 * Y) * uD + uN * q * bx) * p.c + p.a * (q * uD) := by unfold heX nsX; grind
  have e2 : heY zs q cy X Y 1 uN uD p = ((zg zs 2 * X + zg zs 3 * Y) * uD + uN * q * cy) * p.c + p.b * (q * uD) := by unfold heY nsX; grind
  have e3 : heD q 1 uD p = q * uD * p.c := by unfold heD; grind
  rw [e1, e2, e3]
  exact r
/-- an input that holds the state is left by the bounds -/
theorem held_in (F : RoomF zs q bx cy lo hi ps qs) (hX : -15 ≤ X ∧ X ≤ 14) (hY : -15 ≤ Y ∧ Y ≤ 14) {uN uD : Int} (h : ihB zs q bx cy lo hi ps qs X Y 1 uN uD qs = true) : 0 < uD ∧ (adtS zs q bx cy lo hi ps qs X Y 1 qs).In uD uN := by
  obtain ⟨G, eb, ne, _, _, _⟩ := rb_ero F
  obtain ⟨_, rpb, rpl, _⟩ := rb_rp F
  obtain ⟨rp, np, l4, _, cr⟩ := box_facts G
  have rq := F.2.2.2.2.2.2.2.2.2.1
  have nq := F.2.2.2.2.2.2.2.2.2.2.1
  have sm := F.2.2.2.2.2.2.2.2.2.2.2.2.2.2
  have hq := F.2.2.2.2.2.2.1
  have nr : rpL zs q bx cy lo hi ps qs qs ≠ [] := by rw [rpl]; exact ne
  unfold ihB isiB at h
  simp only [Bool.and_eq_true, List.all_eq_true] at h
  obtain ⟨⟨⟨_, ou⟩, iu⟩, ha⟩ := h
  have u1 := okR_pos ou
  unfold inB at iu
  simp only [Bool.and_eq_true, decide_eq_true_eq] at iu
  have hu : 0 < uD := by omega
  have W : 0 < q * uD := Int.mul_pos (by omega) hu
  refine ⟨hu, (rc_in F hX hY rpb nr hu).2 ⟨⟨by omega, by omega⟩, ?_⟩⟩
  have cv : ∀ i, i < 4 → ∀ e ∈ qs, Geo.val e (heX zs q bx X Y 1 uN uD (crA ps i)) (heY zs q cy X Y 1 uN uD (crA ps i)) (heD q 1 uD (crA ps i)) ≤ 0 := by
    intro i hi e he
    have k := ha (crA ps i) (List.mem_of_getElem? (corL_get ps (show i < ps.length by omega)))
    unfold heB at k
    rw [Bool.and_eq_true] at k
    have g := k.1
    unfold heG at g
    rw [Bool.and_eq_true] at g
    have hs := (has_iff rq nq (heS_ok k.1)).1 k.2 e he
    unfold heS at hs
    rw [if_pos k.1] at hs
    exact (spot_val g.2 e).1 hs
  have pe : ∀ e ∈ qs, erB ps e = true ∧ Geo.val (erM ps e) ((zg zs 0 * X + zg zs 1 * Y) * uD + uN * q * bx) ((zg zs 2 * X + zg zs 3 * Y) * uD + uN * q * cy) (q * uD) ≤ 0 ∧ Geo.val e ((zg zs 0 * X + zg zs 1 * Y) * uD + uN * q * bx) ((zg zs 2 * X + zg zs 3 * Y) * uD + uN * q * cy) (q * uD) ≤ 0 := by
    intro e he
    obtain ⟨N, hb, N0, vl, _, j, hj, hN⟩ := ero_edge G (rok_all rq e he) (sm e he)
    have v := cv j hj e he
    have c1 := (cr j hj).1
    have e1 : heX zs q bx X Y 1 uN uD (crA ps j) = ((zg zs 0 * X + zg zs 1 * Y) * uD + uN * q * bx) + (crA ps j).a * (q * uD) := by unfold heX nsX; rw [c1]; grind
    have e2 : heY zs q cy X Y 1 uN uD (crA ps j) = ((zg zs 2 * X + zg zs 3 * Y) * uD + uN * q * cy) + (crA ps j).b * (q * uD) := by unfold heY nsX; rw [c1]; grind
    have e3 : heD q 1 uD (crA ps j) = q * uD := by unfold heD; rw [c1]; grind
    rw [e1, e2, e3] at v
    have m := Int.mul_nonneg N0 (Int.le_of_lt W)
    refine ⟨hb, (vl _ _ _).2 ?_, ?_⟩
    · unfold Geo.val at v
      rw [hN]
      have e4 : e.a * ((zg zs 0 * X + zg zs 1 * Y) * uD + uN * q * bx) + e.b * ((zg zs 2 * X + zg zs 3 * Y) * uD + uN * q * cy) - (e.c - (e.a * (crA ps j).a + e.b * (crA ps j).b)) * (q * uD) = e.a * ((zg zs 0 * X + zg zs 1 * Y) * uD + uN * q * bx + (crA ps j).a * (q * uD)) + e.b * ((zg zs 2 * X + zg zs 3 * Y) * uD + uN * q * cy + (crA ps j).b * (q * uD)) - e.c * (q * uD) := by grind
      rw [e4]
      exact v
    · unfold Geo.val at v ⊢
      have e4 : e.a * ((zg zs 0 * X + zg zs 1 * Y) * uD + uN * q * bx + (crA ps j).a * (q * uD)) + e.b * ((zg zs 2 * X + zg zs 3 * Y) * uD + uN * q * cy + (crA ps j).b * (q * uD)) - e.c * (q * uD) = e.a * ((zg zs 0 * X + zg zs 1 * Y) * uD + uN * q * bx) + e.b * ((zg zs 2 * X + zg zs 3 * Y) * uD + uN * q * cy) - e.c * (q * uD) + (e.a * (crA ps j).a + e.b * (crA ps j).b) * (q * uD) := by grind
      rw [e4, ← hN] at v
      omega
  have fr := rok_frame rq nq W (fun e he => (pe e he).2.2)
  have mp := eb
  unfold eroB at mp
  simp only [Bool.and_eq_true, decide_eq_true_eq] at mp
  obtain ⟨_, ep, okp, _⟩ := mv_facts nq mp.2
  rw [(ero_yes rq rp np).1, ep] at ne ⊢
  rw [List.nil_append] at ne okp ⊢
  refine (reg_pt okp ne W fr).2 (fun g hg => ?_)
  obtain ⟨e, he, rfl⟩ := List.mem_map.1 hg
  exact (pe e he).2.1
/-- a whole input that is left holds the state -/
theorem in_held (F : RoomF zs q bx cy lo hi ps qs) (hX : -15 ≤ X ∧ X ≤ 14) (hY : -15 ≤ Y ∧ Y ≤ 14) {m : Int} (hin : (adtS zs q bx cy lo hi ps qs X Y 1 qs).In 1 m) : ihB zs q bx cy lo hi ps qs X Y 1 m 1 qs = true := by
  obtain ⟨G, eb, ne, _, _, _⟩ := rb_ero F
  obtain ⟨rm, rpb, rpl, _⟩ := rb_rp F
  obtain ⟨rp, np, l4, _, cr⟩ := box_facts G
  have rq := F.2.2.2.2.2.2.2.2.2.1
  have nq := F.2.2.2.2.2.2.2.2.2.2.1
  have hq := F.2.2.2.2.2.2.1
  have hl := F.2.2.2.2.1
  have hh := F.2.2.2.2.2.1
  have nr : rpL zs q bx cy lo hi ps qs qs ≠ [] := by rw [rpl]; exact ne
  obtain ⟨⟨i1, i2⟩, _⟩ := (rc_in F hX hY rpb nr (by omega)).1 hin
  have om : okR m 1 = true := one_ok (by omega)
  unfold ihB isiB
  rw [rm, om, inB_of (by omega) (by omega)]
  simp only [Bool.true_and, Bool.and_true, List.all_eq_true]
  intro p hp
  unfold corL at hp
  simp only [List.mem_map, List.mem_range] at hp
  obtain ⟨i, hii, rfl⟩ := hp
  have hi4 : i < 4 := by omega
  have e0 : crn (atI ps i) (atI ps ((i + 1) % ps.length)) = crA ps i := rfl
  rw [e0]
  obtain ⟨c1, ca, cb⟩ := cr i hi4
  obtain ⟨oi, _, ins, _⟩ := cnr_facts rp np hii
  have v := in_lead F hX hY rpb nr (by omega) hin (p := crA ps i) (by omega) (fun g hg => ins g (List.mem_append_right _ hg))
  have hd : heD q 1 1 (crA ps i) = q := by unfold heD; rw [c1]; omega
  have fr := val_frame (rok_frame rq nq (by rw [hd]; omega) v)
  have hs := spot_has (by rw [hd]; omega) (by rw [hd]; omega) fr.1 fr.2
  have g : heG zs q bx cy lo hi ps qs X Y 1 m 1 (crA ps i) = true := by
    unfold heG nsC
    rw [hs, rm, om, oi, show okS X Y 1 = true from whole_ok (by omega) (by omega), decide_eq_true (show (crA ps i).c ≤ 1000 by omega), inB_of (by omega) (by omega)]
    rfl
  unfold heB
  rw [g, Bool.true_and, has_iff rq nq (heS_ok g)]
  intro e he
  have hv := (spot_val hs e).2 (v e he)
  unfold heS
  rw [if_pos g]
  exact hv
end
open Go.RowKit
open Geo (H3)

section
variable {zs : List Int} {q bx cy lo hi X Y : Int} {ps qs : List H3}
theorem corR_4 (F : RoomF zs q bx cy lo hi ps qs) : corR ps = corL ps 4 ∧ (corR ps).length = 4 := by
  obtain ⟨G, _⟩ := rb_ero F
  obtain ⟨rp, _, l4, _⟩ := box_facts G
  unfold corR
  rw [if_pos rp, l4]
  exact ⟨rfl, corL_len _ _⟩
/-- a kept region that is not void: its states can be kept, and have an admitted input -/
theorem rd_keep (F : RoomF zs q bx cy lo hi ps qs) (hX : -15 ≤ X ∧ X ≤ 14) (hY : -15 ≤ Y ∧ Y ≤ 14) (b : kgB zs q bx cy lo hi ps qs = true) (n : kgL zs q bx cy lo hi ps qs ≠ []) :
    rokB (kgL zs q bx cy lo hi ps qs) = true ∧ rpB zs q bx cy lo hi ps qs (kgL zs q bx cy lo hi ps qs) = true ∧ rpL zs q bx cy lo hi ps qs (kgL zs q bx cy lo hi ps qs) ≠ [] ∧ ckB zs q bx cy lo hi ps qs X Y 1 = hasB (kgL zs q bx cy lo hi ps qs) X Y 1 ∧
    (hasB (kgL zs q bx cy lo hi ps qs) X Y 1 = true → adtB zs q bx cy lo hi ps qs X Y 1 (kgL zs q bx cy lo hi ps qs) = true) := by
  obtain ⟨_, rk, _, pk, sk, _⟩ := kg_facts b
  have c : ckB zs q bx cy lo hi ps qs X Y 1 = hasB (kgL zs q bx cy lo hi ps qs) X Y 1 := by unfold ckB; rw [b, Bool.true_and]
  generalize kgL zs q bx cy lo hi ps qs = K at *
  obtain ⟨rm, eb, gb, pb, eL⟩ := pr_parts pk
  have rpb : rpB zs q bx cy lo hi ps qs K = true := by unfold rpB; rw [rm, eb]; rfl
  have e : rpL zs q bx cy lo hi ps qs K = eroL K ps := (rp_yes rm).1
  rcases sk with h | ⟨np, sub⟩
  · exact absurd h n
  have nr : rpL zs q bx cy lo hi ps qs K ≠ [] := by
    rw [e]
    intro h0
    have g0 : prG bx cy lo hi ps K = [] := by
      unfold prG
      rw [h0]
      cases c : gwC [] bx cy lo hi with
      | true => exact (gw_same c (.inl rfl)).1
      | false => exact (gw_no c).1
    rw [eL, g0] at np
    apply np
    unfold pbkL
    split
    · exact (mv_nil rfl).1
    · rfl
  refine ⟨rk, rpb, nr, c, fun h => ?_⟩
  have o : okS X Y 1 = true := whole_ok (by omega) (by omega)
  have inK := (has_iff rk n o).1 h
  have inP : hasB (prL zs q bx cy lo hi ps qs K) X Y 1 = true := (has_iff (pr_rok pk).2 np o).2 (sub X Y 1 (by omega) inK)
  rw [← rb_pre F hX hY pk np nr]
  exact inP
theorem rd_at {s : Adm} (so : s.Ok) (h : atB s = true) : 0 < s.lD ∧ s.In s.lD s.lN := by
  obtain ⟨a, b⟩ := (at_iff so).1 h
  have p := okR_pos so.1
  exact ⟨by omega, a, Int.le_refl _, b⟩
/-- an admitted state: the least input leads into the region from it, whatever the corner of the noise -/
theorem rd_lead (F : RoomF zs q bx cy lo hi ps qs) (hX : -15 ≤ X ∧ X ≤ 14) (hY : -15 ≤ Y ∧ Y ≤ 14) {K : List H3} (rk : rokB K = true) (nk : K ≠ []) (rpb : rpB zs q bx cy lo hi ps qs K = true) (nr : rpL zs q bx cy lo hi ps qs K ≠ []) (h : adtB zs q bx cy lo hi ps qs X Y 1 K = true) :
    ∃ uN uD : Int, adtN zs q bx cy lo hi ps qs X Y 1 K (adtS zs q bx cy lo hi ps qs X Y 1 K).lN = uN ∧ adtN zs q bx cy lo hi ps qs X Y 1 K (adtS zs q bx cy lo hi ps qs X Y 1 K).lD = uD ∧ I64 uN ∧ I64 uD ∧
    ∀ i, i < 4 → heG zs q bx cy lo hi ps qs X Y 1 uN uD (crA ps i) = true → hasB K (heS zs q bx cy lo hi ps qs X Y 1 uN uD (crA ps i)).a (heS zs q bx cy lo hi ps qs X Y 1 uN uD (crA ps i)).b (heS zs q bx cy lo hi ps qs X Y 1 uN uD (crA ps i)).c = true := by
  obtain ⟨g, so, e1, _⟩ := rb_adt F hX hY rpb nr
  rw [e1] at h
  obtain ⟨n1, n2, _⟩ := adt_yes g
  have a1 : ∀ x : Int, atV (adtS zs q bx cy lo hi ps qs X Y 1 K) x = x := fun x => by unfold atV; rw [if_pos h]
  obtain ⟨u1, hin⟩ := rd_at so h
  obtain ⟨i1, i2⟩ := ok_64 so.1
  refine ⟨_, _, n1.trans (a1 _), n2.trans (a1 _), i1, i2, fun i hi hg => ?_⟩
  obtain ⟨G, _⟩ := rb_ero F
  obtain ⟨rp, np, l4, _, cr⟩ := box_facts G
  obtain ⟨_, _, ins, _⟩ := cnr_facts rp np (show i < ps.length by omega)
  have v := in_lead F hX hY rpb nr u1 hin (p := crA ps i) (by rw [(cr i hi).1]; omega) (fun g hg => ins g (List.mem_append_right _ hg))
  have g2 := hg
  unfold heG at g2
  rw [Bool.and_eq_true] at g2
  rw [has_iff rk nk (heS_ok hg)]
  intro e he
  have hv := (spot_val g2.2 e).2 (v e he)
  unfold heS
  rw [if_pos hg]
  exact hv
end
open Go.RowKit
open Geo (H3)

theorem keep12 {V X : World} {B C D : Nat} {a0 a1 a2 a3 a4 a5 a6 a7 b0 c0 c1 c2 : Value} {T U T' : TypeId} (h : Blk V B #[a0, a1, a2, a3, a4, a5, a6, a7] T) (k : Blk V C #[b0] U) (l : Blk V D #[c0, c1, c2] T') (hb : Below V.heap.size V X) :
    X.cell? ⟨B, 0, none⟩ = some a0 ∧ X.cell? ⟨B, 1, none⟩ = some a1 ∧ X.cell? ⟨B, 2, none⟩ = some a2 ∧ X.cell? ⟨B, 3, none⟩ = some a3 ∧ X.cell? ⟨B, 4, none⟩ = some a4 ∧ X.cell? ⟨B, 5, none⟩ = some a5 ∧ X.cell? ⟨B, 6, none⟩ = some a6 ∧ X.cell? ⟨B, 7, none⟩ = some a7 ∧ X.cell? ⟨C, 0, none⟩ = some b0 ∧ X.cell? ⟨D, 0, none⟩ = some c0 ∧ X.cell? ⟨D, 1, none⟩ = some c1 ∧ X.cell? ⟨D, 2, none⟩ = some c2 :=
  ⟨(h.to hb).c8_0, (h.to hb).c8_1, (h.to hb).c8_2, (h.to hb).c8_3, (h.to hb).c8_4, (h.to hb).c8_5, (h.to hb).c8_6, (h.to hb).c8_7, (k.to hb).cell0 rfl, (l.to hb).cell0 rfl, (l.to hb).cell0 rfl, (l.to hb).cell0 rfl⟩
def adm10_0 : Oper :=
  { dst := some 42, op := Go.Op.load 42 (Go.Operand.tmp 3), type := 42, pos := "laws.go:569", after := #[], guard := none }
def adm10_1 : Oper :=
  { dst := some 43, op := Go.Op.load 45 (Go.Operand.tmp 4), type := 45, pos := "laws.go:569", after := #[], guard := none }
def adm10_2 : Oper :=
  { dst := some 44, op := Go.Op.call { callee := Go.Callee.value (Go.Operand.func 37), args := #[Go.Operand.tmp 42, Go.Operand.tmp 43], argTypes := #[42, 45] }, type := 4, pos := "laws.go:569", after := #[{ on := 0, ground := Go.Ground.data }, { on := 1, ground := Go.Ground.data }], guard := none }
def adm10_3 : Oper :=
  { dst := some 45, op := Go.Op.load 40 (Go.Operand.tmp 5), type := 40, pos := "laws.go:569", after := #[], guard := none }
def adm10_4 : Oper :=
  { dst := some 46, op := Go.Op.load 45 (Go.Operand.tmp 4), type := 45, pos := "laws.go:569", after := #[], guard := none }
def adm10_5 : Oper :=
  { dst := some 47, op := Go.Op.call { callee := Go.Callee.value (Go.Operand.func 24), args := #[Go.Operand.tmp 45, Go.Operand.tmp 46], argTypes := #[40, 45] }, type := 4, pos := "laws.go:569", after := #[{ on := 3, ground := Go.Ground.data }, { on := 4, ground := Go.Ground.data }, { on := 2, ground := Go.Ground.chain }], guard := none }
def adm10_6 : Oper :=
  { dst := some 48, op := Go.Op.binOp Go.BinOp.neq 4 (Go.Operand.tmp 44) (Go.Operand.tmp 47) 4, type := 4, pos := "laws.go:569", after := #[{ on := 2, ground := Go.Ground.data }, { on := 5, ground := Go.Ground.data }], guard := none }
def adm10_7 : Oper :=
  { dst := some 49, op := Go.Op.move (Go.Operand.tmp 48), type := 4, pos := "laws.go:569", after := #[{ on := 6, ground := Go.Ground.data }, { on := 5, ground := Go.Ground.chain }], guard := none }
def adm10_8 : Oper :=
  { dst := some 50, op := Go.Op.load 40 (Go.Operand.tmp 5), type := 40, pos := "laws.go:569", after := #[{ on := 7, ground := Go.Ground.guard }], guard := some (7, false) }
def adm10_9 : Oper :=
  { dst := some 51, op := Go.Op.load 45 (Go.Operand.tmp 4), type := 45, pos := "laws.go:569", after := #[{ on := 7, ground := Go.Ground.guard }], guard := some (7, false) }
def adm10_10 : Oper :=
  { dst := some 52, op := Go.Op.call { callee := Go.Callee.value (Go.Operand.func 24), args := #[Go.Operand.tmp 50, Go.Operand.tmp 51], argTypes := #[40, 45] }, type := 4, pos := "laws.go:569", after := #[{ on := 8, ground := Go.Ground.data }, { on := 9, ground := Go.Ground.data }, { on := 7, ground := Go.Ground.chain }, { on := 7, ground := Go.Ground.guard }], guard := some (7, false) }
def adm10_11 : Oper :=
  { dst := some 53, op := Go.Op.move (Go.Operand.tmp 52), type := 4, pos := "laws.go:569", after := #[{ on := 10, ground := Go.Ground.data }, { on := 10, ground := Go.Ground.chain }, { on := 7, ground := Go.Ground.guard }], guard := some (7, false) }
def adm10_12 : Oper :=
  { dst := some 54, op := Go.Op.move (Go.Operand.tmp 8), type := 4, pos := "laws.go:569", after := #[{ on := 11, ground := Go.Ground.guard }], guard := some (11, true) }
def adm10_13 : Oper :=
  { dst := some 55, op := Go.Op.unOp Go.UnOp.not 4 (Go.Operand.tmp 54), type := 4, pos := "laws.go:569", after := #[{ on := 12, ground := Go.Ground.data }, { on := 11, ground := Go.Ground.guard }], guard := some (11, true) }
def adm10_14 : Oper :=
  { dst := some 56, op := Go.Op.pick (Go.Operand.tmp 53) (Go.Operand.tmp 55) (Go.Operand.const (Go.Value.bool false)), type := 4, pos := "laws.go:569", after := #[{ on := 11, ground := Go.Ground.data }, { on := 13, ground := Go.Ground.data }, { on := 7, ground := Go.Ground.guard }], guard := some (7, false) }
def adm10_15 : Oper :=
  { dst := some 57, op := Go.Op.pick (Go.Operand.tmp 49) (Go.Operand.const (Go.Value.bool true)) (Go.Operand.tmp 56), type := 4, pos := "laws.go:569", after := #[{ on := 7, ground := Go.Ground.data }, { on := 14, ground := Go.Ground.data }], guard := none }
set_option maxRecDepth 100000 in
set_option maxHeartbeats 1600000 in
theorem law_adm (a : Option Addr) (len cap : Nat) (w : World) (_hm : len ≤ maxLen) (hB : BytesAt w a len) :
    Calls Tryz.prog 6 #[.slice a len cap] w fun e w' => e = .returned (.bool true) ∧ Below w.heap.size w w' := by
  by_cases hle : (1048576 : Int) < (len : Int)
  · go_enter Tryz.func6, Tryz.ntmps6
    go_wp2
    go_ret
    exact ⟨rfl, Below.refl _ _⟩
  have HB := Lib.hid hB
  have hl : len ≤ 1048576 := by omega
  clear hB
  go_enter Tryz.func6, Tryz.ntmps6
  go_wp2_with fail
  refine (make_state w a len cap hl HB.out).mono ?_
  rintro e w1 ⟨zs, q, bx, cy, lo, hi, ps, qs, am, nm, cm, an, nn, cn, al, nl, cl, X, Y, hF, hXY, hsum, rfl, ⟨hA, hNL⟩, bl⟩
  have HF := Lib.hid hF
  have HXY := Lib.hid hXY
  have hlo := hF.2.2.2.2.1
  have hhi := hF.2.2.2.2.2.1
  have H64 := Lib.hid hF.r64
  have HSUM := Lib.hid (show nm + nn + nl ≤ 1048576 by omega)
  have HNL := Lib.hid (show nl ≤ 1048576 by omega)
  have HZL := Lib.hid hNL.l
  have HS64 := Lib.hid (show In64 ⟨X, Y, 1⟩ from ⟨⟨by simp only; omega, by simp only; omega⟩, ⟨by simp only; omega, by simp only; omega⟩, ⟨by simp, by simp⟩⟩)
  have HRM := Lib.hid (rb_rp hF).1
  have HKP := Lib.hid (fun b n => rd_keep hF hXY.1 hXY.2 b n)
  have HC4 := Lib.hid (corR_4 hF)
  have HBF := Lib.hid (box_facts (rb_ero hF).1)
  have HLD := Lib.hid (fun K (rk : rokB K = true) nk rpb nr h => rd_lead (K := K) hF hXY.1 hXY.2 rk nk rpb nr h)
  have HLP := Lib.hid hA.ln
  have HNP := Lib.hid (show nn ≤ 1048576 by omega)
  have HR0 := Lib.hid hA
  have HLL := Lib.hid hA.ll
  have b0 := bl
  clear hF hXY hA hNL bl hsum
  have bN := below_bx2 (below_one w1 (.cells #[.slice am nm cm, .int .i64 q, .int .i64 bx, .int .i64 cy, .int .i64 lo, .int .i64 hi, .slice an nn cn, .slice al nl cl] 42)) (.cells #[.int .i64 X, .int .i64 Y, .int .i64 1] 45)
  have BX0 := (blk_new w1 #[.slice am nm cm, .int .i64 q, .int .i64 bx, .int .i64 cy, .int .i64 lo, .int .i64 hi, .slice an nn cn, .slice al nl cl] 42 rfl).to (below_one _ (.cells #[.int .i64 X, .int .i64 Y, .int .i64 1] 45))
  have BS0 := blk_new (w1.alloc (.cells #[.slice am nm cm, .int .i64 q, .int .i64 bx, .int .i64 cy, .int .i64 lo, .int .i64 hi, .slice an nn cn, .slice al nl cl] 42)) #[.int .i64 X, .int .i64 Y, .int .i64 1] 45 (b := w1.heap.size + 1) (by simp)
  have b_1 := below_to b0 bN
  have HR_2 := Lib.hid (HR0.out.below bN)
  clear b0 HR0
  clear bN
  go_upto_region 4 with fail
  generalize (w1.alloc (.cells #[.slice am nm cm, .int .i64 q, .int .i64 bx, .int .i64 cy, .int .i64 lo, .int .i64 hi, .slice an nn cn, .slice al nl cl] 42)).alloc (.cells #[.int .i64 X, .int .i64 Y, .int .i64 1] 45) = W2 at *
  obtain ⟨xb, hxb⟩ : ∃ b, w1.heap.size = b := ⟨_, rfl⟩
  rw [hxb] at BX0 BS0 ⊢
  clear hxb
  have q0 := BX0.cell0 (i := 0) (v := .slice am nm cm) rfl
  have q1 := BX0.cell0 (i := 1) (v := .int .i64 q) rfl
  have q2 := BX0.cell0 (i := 2) (v := .int .i64 bx) rfl
  have q3 := BX0.cell0 (i := 3) (v := .int .i64 cy) rfl
  have q4 := BX0.cell0 (i := 4) (v := .int .i64 lo) rfl
  have q5 := BX0.cell0 (i := 5) (v := .int .i64 hi) rfl
  have q6 := BX0.cell0 (i := 6) (v := .slice an nn cn) rfl
  have q7 := BX0.cell0 (i := 7) (v := .slice al nl cl) rfl
  go_wp2_with fail
  clear q0 q1 q2 q3 q4 q5 q6 q7
  refine (impl_kr am nm cm zs q bx cy lo hi an nn cn ps al nl cl qs W2 HR_2.out H64.out HSUM.out).mono ?_
  rintro e w2 ⟨ak, ck, rfl, ho, bl⟩
  have HK0 := Lib.hid (own_hs ho)
  have HZNK := Lib.hid (own_nil ho)
  clear ho
  generalize kgL zs q bx cy lo hi ps qs = K at *
  generalize hBK : kgB zs q bx cy lo hi ps qs = fq at *
  have b_3 := below_to b_1 bl
  have HR_4 := Lib.hid (HR_2.out.below bl)
  have BX_5 := BX0.to bl
  have BS_6 := BS0.to bl
  clear b_1 HR_2 BX0 BS0
  clear bl
  have bN := below_one w2 (.cells #[.slice ak K.length ck] 40)
  have BK0 := blk_new w2 #[.slice ak K.length ck] 40 rfl
  have b_7 := below_to b_3 bN
  have HR_8 := Lib.hid (HR_4.out.below bN)
  have BX_9 := BX_5.to bN
  have BS_10 := BS_6.to bN
  have HK_11 := Lib.hid (HK0.out.below bN)
  clear b_3 HR_4 BX_5 BS_6 HK0
  clear bN
  have q0 := BX_9.cell0 (i := 0) (v := .slice am nm cm) rfl
  have q1 := BX_9.cell0 (i := 1) (v := .int .i64 q) rfl
  have q2 := BX_9.cell0 (i := 2) (v := .int .i64 bx) rfl
  have q3 := BX_9.cell0 (i := 3) (v := .int .i64 cy) rfl
  have q4 := BX_9.cell0 (i := 4) (v := .int .i64 lo) rfl
  have q5 := BX_9.cell0 (i := 5) (v := .int .i64 hi) rfl
  have q6 := BX_9.cell0 (i := 6) (v := .slice an nn cn) rfl
  have q7 := BX_9.cell0 (i := 7) (v := .slice al nl cl) rfl
  go_wp2_with fail
  clear q0 q1 q2 q3 q4 q5 q6 q7
  generalize w2.alloc (.cells #[.slice ak K.length ck] 40) = U2 at *
  obtain ⟨kb, hbk⟩ : ∃ b, w2.heap.size = b := ⟨_, rfl⟩
  rw [hbk] at BK0 ⊢
  clear hbk
  refine (impl_room am nm cm zs q bx cy lo hi an nn cn ps al nl cl qs U2 true HRM.out HR_8.out H64.out HSUM.out).mono ?_
  rintro e w3 ⟨rfl, bl⟩
  have b_12 := below_to b_7 bl
  have HR_13 := Lib.hid (HR_8.out.below bl)
  have BX_14 := BX_9.to bl
  have BS_15 := BS_10.to bl
  have HK_16 := Lib.hid (HK_11.out.below bl)
  have BK_17 := BK0.to bl
  clear b_7 HR_8 BX_9 BS_10 HK_11 BK0
  clear bl
  cases fq with
  | false =>
    go_wp2
    go_ret
    exact ⟨rfl, b_12⟩
  | true =>
    have q0 := BK_17.cell0 (i := 0) (v := .slice ak K.length ck) rfl
    go_wp2_with fail
    clear q0
    refine (impl_void ak K.length ck w3).mono ?_
    rintro e w4 ⟨rfl, bl⟩
    have b_18 := below_to b_12 bl
    have HR_19 := Lib.hid (HR_13.out.below bl)
    have BX_20 := BX_14.to bl
    have BS_21 := BS_15.to bl
    have HK_22 := Lib.hid (HK_16.out.below bl)
    have BK_23 := BK_17.to bl
    clear b_12 HR_13 BX_14 BS_15 HK_16 BK_17
    clear bl
    by_cases hK : K = []
    · have hz : ((K.length : Int) == 0) = true := by rw [hK]; rfl
      go_wp2
      go_ret
      exact ⟨rfl, b_18⟩
    · have hz : ((K.length : Int) == 0) = false := eq_b (by have := List.length_pos_iff.2 hK; omega)
      obtain ⟨hrk, hrpb, hnr, hck, hadt⟩ := HKP.out (by simp) hK
      have hl40 := rok_len hrk
      have HRK := Lib.hid hrk
      have HLD2 := Lib.hid (fun h => HLD.out K hrk hK hrpb hnr h)
      have HCK := Lib.hid hck
      have HAD := Lib.hid hadt
      clear hrk hrpb hnr hck hadt HKP HLD hBK hK
      have q0 := BX_20.cell0 (i := 0) (v := .slice am nm cm) rfl
      have q1 := BX_20.cell0 (i := 1) (v := .int .i64 q) rfl
      have q2 := BX_20.cell0 (i := 2) (v := .int .i64 bx) rfl
      have q3 := BX_20.cell0 (i := 3) (v := .int .i64 cy) rfl
      have q4 := BX_20.cell0 (i := 4) (v := .int .i64 lo) rfl
      have q5 := BX_20.cell0 (i := 5) (v := .int .i64 hi) rfl
      have q6 := BX_20.cell0 (i := 6) (v := .slice an nn cn) rfl
      have q7 := BX_20.cell0 (i := 7) (v := .slice al nl cl) rfl
      have q8 := BK_23.cell0 (i := 0) (v := .slice ak K.length ck) rfl
      have q9 := BS_21.cell0 (i := 0) (v := .int .i64 X) rfl
      have q10 := BS_21.cell0 (i := 1) (v := .int .i64 Y) rfl
      have q11 := BS_21.cell0 (i := 2) (v := .int .i64 1) rfl
      go_wp2_with fail
      clear q0 q1 q2 q3 q4 q5 q6 q7 q8 q9 q10 q11
      clear hz
      refine (impl_adt am nm cm zs q bx cy lo hi an nn cn ps al nl cl qs ak K.length ck K X Y 1 HS64.out w4 HR_19.out H64.out HSUM.out rfl (by omega) (fun x hx => ok_in64 (rok_all HRK.out x hx)) HZNK.out HK_22.out).mono ?_
      rintro e w5 ⟨rfl, bl⟩
      have b_24 := below_to b_18 bl
      have HR_25 := Lib.hid (HR_19.out.below bl)
      have BX_26 := BX_20.to bl
      have BS_27 := BS_21.to bl
      have HK_28 := Lib.hid (HK_22.out.below bl)
      have BK_29 := BK_23.to bl
      clear b_18 HR_19 BX_20 BS_21 HK_22 BK_23
      clear bl
      generalize hn1 : adtN zs q bx cy lo hi ps qs X Y 1 K (adtS zs q bx cy lo hi ps qs X Y 1 K).lN = n1 at *
      generalize hn2 : adtN zs q bx cy lo hi ps qs X Y 1 K (adtS zs q bx cy lo hi ps qs X Y 1 K).lD = n2 at *
      generalize hn3 : adtN zs q bx cy lo hi ps qs X Y 1 K (adtS zs q bx cy lo hi ps qs X Y 1 K).hN = n3 at *
      generalize hn4 : adtN zs q bx cy lo hi ps qs X Y 1 K (adtS zs q bx cy lo hi ps qs X Y 1 K).hD = n4 at *
      generalize adtB zs q bx cy lo hi ps qs X Y 1 K = R at *
      have bN := below_one w5 (.cells #[.int .i64 n1, .int .i64 n2, .int .i64 n3, .int .i64 n4] 35)
      have BA0 := blk_new w5 #[.int .i64 n1, .int .i64 n2, .int .i64 n3, .int .i64 n4] 35 rfl
      have b_30 := below_to b_24 bN
      have HR_31 := Lib.hid (HR_25.out.below bN)
      have BX_32 := BX_26.to bN
      have BS_33 := BS_27.to bN
      have HK_34 := Lib.hid (HK_28.out.below bN)
      have BK_35 := BK_29.to bN
      clear b_24 HR_25 BX_26 BS_27 HK_28 BK_29
      clear bN
      go_wp2_with fail
      generalize w5.alloc (.cells #[.int .i64 n1, .int .i64 n2, .int .i64 n3, .int .i64 n4] 35) = U5 at *
      obtain ⟨ab, hbk⟩ : ∃ b, w5.heap.size = b := ⟨_, rfl⟩
      rw [hbk] at BA0 ⊢
      clear hbk
      have HCKC := Lib.hid (fun V (h : Below w.heap.size w V) (hr : RAt V am nm zs an nn ps al nl qs) => impl_ck am nm cm zs q bx cy lo hi an nn cn ps al nl cl qs X Y 1 HS64.out V hr H64.out HSUM.out)
      rw [HCK.out] at HCKC
      have HHS := Lib.hid (fun V (k : HsAt V ak K) => impl_has ak K.length ck K X Y 1 V rfl (by omega) (fun x hx => ok_in64 (rok_all HRK.out x hx)) HS64.out k)
      generalize hh : hasB K X Y 1 = H at *
      have HHH := Lib.hid hh
      clear hh
      cases H with
      | false =>
        go_cut [57] from 42 to 57 (fun s5 wx => s5 = .bool false ∧ Below U5.heap.size U5 wx)
        case first =>
          have p0 := BX_32.c8_0
          have p1 := BX_32.c8_1
          have p2 := BX_32.c8_2
          have p3 := BX_32.c8_3
          have p4 := BX_32.c8_4
          have p5 := BX_32.c8_5
          have p6 := BX_32.c8_6
          have p7 := BX_32.c8_7
          have q0 := BK_35.cell0 (i := 0) rfl
          have r0 := BS_33.cell0 (i := 0) (v := .int .i64 X) rfl
          have r1 := BS_33.cell0 (i := 1) (v := .int .i64 Y) rfl
          have r2 := BS_33.cell0 (i := 2) (v := .int .i64 1) rfl
          refine wp_region_held_drew (S := (fun w' => w'.cell? ⟨xb, 0, none⟩ = some (.slice am nm cm) ∧ w'.cell? ⟨xb, 1, none⟩ = some (.int .i64 q) ∧ w'.cell? ⟨xb, 2, none⟩ = some (.int .i64 bx) ∧ w'.cell? ⟨xb, 3, none⟩ = some (.int .i64 cy) ∧ w'.cell? ⟨xb, 4, none⟩ = some (.int .i64 lo) ∧ w'.cell? ⟨xb, 5, none⟩ = some (.int .i64 hi) ∧ w'.cell? ⟨xb, 6, none⟩ = some (.slice an nn cn) ∧ w'.cell? ⟨xb, 7, none⟩ = some (.slice al nl cl) ∧ w'.cell? ⟨kb, 0, none⟩ = some (.slice ak K.length ck) ∧ w'.cell? ⟨(xb + 1), 0, none⟩ = some (.int .i64 X) ∧ w'.cell? ⟨(xb + 1), 1, none⟩ = some (.int .i64 Y) ∧ w'.cell? ⟨(xb + 1), 2, none⟩ = some (.int .i64 1))) (by kernel_rfl) ?_ (fun hHeld => ?_)
          · (with_reducible refine keep12 BX_32 BK_35 BS_33 ?_; repeat (first | (with_reducible exact Below.refl _ _) | refine below_bx2 ?_ _ | refine below_drw ?_ | refine below_to ?_ (by assumption)))
          refine wpAnyH_take (i := 0) (oi := adm10_0) (v := ?_) rfl (by as_aux_lemma => kernel_rfl) (by as_aux_lemma => kernel_rfl) (by as_aux_lemma => kernel_rfl) (fun _ _ _ h => h) (Or.inl ⟨by rfl, ?_⟩) (by assumption) ?_
          rotate_left
          · unfold adm10_0; intro w hSw; (try dsimp only at hSw); go_simp; try (with_reducible rfl)
          try simp only [adm10_0, Act.put, List.setIfInBounds_toArray, List.set_cons_zero, List.set_cons_succ]
          refine wpAnyH_take (i := 1) (oi := adm10_1) (v := ?_) rfl (by as_aux_lemma => kernel_rfl) (by as_aux_lemma => kernel_rfl) (by as_aux_lemma => kernel_rfl) (fun _ _ _ h => h) (Or.inl ⟨by rfl, ?_⟩) (by assumption) ?_
          rotate_left
          · unfold adm10_1; intro w hSw; (try dsimp only at hSw); go_simp; try (with_reducible rfl)
          try simp only [adm10_1, Act.put, List.setIfInBounds_toArray, List.set_cons_zero, List.set_cons_succ]
          refine wpAnyH_take (i := 3) (oi := adm10_3) (v := ?_) rfl (by as_aux_lemma => kernel_rfl) (by as_aux_lemma => kernel_rfl) (by as_aux_lemma => kernel_rfl) (fun _ _ _ h => h) (Or.inl ⟨by rfl, ?_⟩) (by assumption) ?_
          rotate_left
          · unfold adm10_3; intro w hSw; (try dsimp only at hSw); go_simp; try (with_reducible rfl)
          try simp only [adm10_3, Act.put, List.setIfInBounds_toArray, List.set_cons_zero, List.set_cons_succ]
          refine wpAnyH_take (i := 4) (oi := adm10_4) (v := ?_) rfl (by as_aux_lemma => kernel_rfl) (by as_aux_lemma => kernel_rfl) (by as_aux_lemma => kernel_rfl) (fun _ _ _ h => h) (Or.inl ⟨by rfl, ?_⟩) (by assumption) ?_
          rotate_left
          · unfold adm10_4; intro w hSw; (try dsimp only at hSw); go_simp; try (with_reducible rfl)
          try simp only [adm10_4, Act.put, List.setIfInBounds_toArray, List.set_cons_zero, List.set_cons_succ]
          refine wpAnyH_ready (rs := [2]) (by as_aux_lemma => kernel_rfl) (by simp) ?_
          refine (AllReadyH.cons (o := adm10_2) rfl (fun K hK => ?_) AllReadyH.nil)
          unfold adm10_2
          go_simp
          (go_at_call 37; (with_reducible refine (HCKC.out _ ?_ ?_).mono ?_); (focus (refine below_to b_30 ?_; repeat (first | (with_reducible exact Below.refl _ _) | refine below_bx2 ?_ _ | refine below_drw ?_ | refine below_to ?_ (by assumption)))); (focus (refine HR_31.out.below ?_; repeat (first | (with_reducible exact Below.refl _ _) | refine below_bx2 ?_ _ | refine below_drw ?_ | refine below_to ?_ (by assumption)))); rintro e z2 ⟨rfl, bl2⟩)
          try go_wp2_with fail
          refine hK.out _ _ ?_ (fun hHeld2 => ?_)
          · (with_reducible refine keep12 BX_32 BK_35 BS_33 ?_; repeat (first | (with_reducible exact Below.refl _ _) | refine below_bx2 ?_ _ | refine below_drw ?_ | refine below_to ?_ (by assumption)))
          clear hK K hHeld
          have hHeld := hHeld2
          clear hHeld2
          try simp only [adm10_2, Act.put, List.setIfInBounds_toArray, List.set_cons_zero, List.set_cons_succ]
          as_aux_lemma =>
           refine wpAnyH_ready (rs := [5]) (by as_aux_lemma => kernel_rfl) (by simp) ?_
           refine (AllReadyH.cons (o := adm10_5) rfl (fun K hK => ?_) AllReadyH.nil)
           unfold adm10_5
           go_simp
           (go_at_call 24; (with_reducible refine (HHS.out _ ?_).mono ?_); (focus (refine HK_34.out.below ?_; repeat (first | (with_reducible exact Below.refl _ _) | refine below_bx2 ?_ _ | refine below_drw ?_ | refine below_to ?_ (by assumption)))); rintro e z5 ⟨rfl, bl5⟩)
           try go_wp2_with fail
           refine hK.out _ _ ?_ (fun hHeld2 => ?_)
           · (with_reducible refine keep12 BX_32 BK_35 BS_33 ?_; repeat (first | (with_reducible exact Below.refl _ _) | refine below_bx2 ?_ _ | refine below_drw ?_ | refine below_to ?_ (by assumption)))
           clear hK K hHeld
           have hHeld := hHeld2
           clear hHeld2
           try simp only [adm10_5, Act.put, List.setIfInBounds_toArray, List.set_cons_zero, List.set_cons_succ]
           as_aux_lemma =>
            refine wpAnyH_take (i := 6) (oi := adm10_6) (v := ?_) rfl (by as_aux_lemma => kernel_rfl) (by as_aux_lemma => kernel_rfl) (by as_aux_lemma => kernel_rfl) (fun _ _ _ h => h) (Or.inl ⟨by rfl, ?_⟩) (by assumption) ?_
            rotate_left
            · unfold adm10_6; intro w hSw; (try dsimp only at hSw); go_simp; try (with_reducible rfl)
            try simp only [adm10_6, Act.put, List.setIfInBounds_toArray, List.set_cons_zero, List.set_cons_succ]
            refine wpAnyH_take (i := 7) (oi := adm10_7) (v := ?_) rfl (by as_aux_lemma => kernel_rfl) (by as_aux_lemma => kernel_rfl) (by as_aux_lemma => kernel_rfl) (fun _ _ _ h => h) (Or.inl ⟨by rfl, ?_⟩) (by assumption) ?_
            rotate_left
            · unfold adm10_7; intro w hSw; (try dsimp only at hSw); go_simp; try (with_reducible rfl)
            try simp only [adm10_7, Act.put, List.setIfInBounds_toArray, List.set_cons_zero, List.set_cons_succ]
            refine wpAnyH_take (i := 8) (oi := adm10_8) (v := ?_) rfl (by as_aux_lemma => kernel_rfl) (by as_aux_lemma => kernel_rfl) (by as_aux_lemma => kernel_rfl) (fun _ _ _ h => h) (Or.inl ⟨by rfl, ?_⟩) (by assumption) ?_
            rotate_left
            · unfold adm10_8; intro w hSw; (try dsimp only at hSw); go_simp; try (with_reducible rfl)
            try simp only [adm10_8, Act.put, List.setIfInBounds_toArray, List.set_cons_zero, List.set_cons_succ]
            refine wpAnyH_take (i := 9) (oi := adm10_9) (v := ?_) rfl (by as_aux_lemma => kernel_rfl) (by as_aux_lemma => kernel_rfl) (by as_aux_lemma => kernel_rfl) (fun _ _ _ h => h) (Or.inl ⟨by rfl, ?_⟩) (by assumption) ?_
            rotate_left
            · unfold adm10_9; intro w hSw; (try dsimp only at hSw); go_simp; try (with_reducible rfl)
            try simp only [adm10_9, Act.put, List.setIfInBounds_toArray, List.set_cons_zero, List.set_cons_succ]
            refine wpAnyH_ready (rs := [10]) (by as_aux_lemma => kernel_rfl) (by simp) ?_
            refine (AllReadyH.cons (o := adm10_10) rfl (fun K hK => ?_) AllReadyH.nil)
            unfold adm10_10
            go_simp
            (go_at_call 24; (with_reducible refine (HHS.out _ ?_).mono ?_); (focus (refine HK_34.out.below ?_; repeat (first | (with_reducible exact Below.refl _ _) | refine below_bx2 ?_ _ | refine below_drw ?_ | refine below_to ?_ (by assumption)))); rintro e z10 ⟨rfl, bl10⟩)
            try go_wp2_with fail
            refine hK.out _ _ ?_ (fun hHeld2 => ?_)
            · (with_reducible refine keep12 BX_32 BK_35 BS_33 ?_; repeat (first | (with_reducible exact Below.refl _ _) | refine below_bx2 ?_ _ | refine below_drw ?_ | refine below_to ?_ (by assumption)))
            clear hK K hHeld
            have hHeld := hHeld2
            clear hHeld2
            try simp only [adm10_10, Act.put, List.setIfInBounds_toArray, List.set_cons_zero, List.set_cons_succ]
            as_aux_lemma =>
             refine wpAnyH_take (i := 11) (oi := adm10_11) (v := ?_) rfl (by as_aux_lemma => kernel_rfl) (by as_aux_lemma => kernel_rfl) (by as_aux_lemma => kernel_rfl) (fun _ _ _ h => h) (Or.inl ⟨by rfl, ?_⟩) (by assumption) ?_
             rotate_left
             · unfold adm10_11; intro w hSw; (try dsimp only at hSw); go_simp; try (with_reducible rfl)
             try simp only [adm10_11, Act.put, List.setIfInBounds_toArray, List.set_cons_zero, List.set_cons_succ]
             refine wpAnyH_take (i := 12) (oi := adm10_12) (v := undef) rfl (by as_aux_lemma => kernel_rfl) (by as_aux_lemma => kernel_rfl) (by as_aux_lemma => kernel_rfl) (fun _ _ _ h => h) (Or.inr ⟨by rfl, rfl⟩) (by assumption) ?_
             try simp only [adm10_12, Act.put, List.setIfInBounds_toArray, List.set_cons_zero, List.set_cons_succ]
             refine wpAnyH_take (i := 13) (oi := adm10_13) (v := undef) rfl (by as_aux_lemma => kernel_rfl) (by as_aux_lemma => kernel_rfl) (by as_aux_lemma => kernel_rfl) (fun _ _ _ h => h) (Or.inr ⟨by rfl, rfl⟩) (by assumption) ?_
             try simp only [adm10_13, Act.put, List.setIfInBounds_toArray, List.set_cons_zero, List.set_cons_succ]
             refine wpAnyH_take (i := 14) (oi := adm10_14) (v := ?_) rfl (by as_aux_lemma => kernel_rfl) (by as_aux_lemma => kernel_rfl) (by as_aux_lemma => kernel_rfl) (fun _ _ _ h => h) (Or.inl ⟨by rfl, ?_⟩) (by assumption) ?_
             rotate_left
             · unfold adm10_14; intro w hSw; (try dsimp only at hSw); go_simp; try (with_reducible rfl)
             try simp only [adm10_14, Act.put, List.setIfInBounds_toArray, List.set_cons_zero, List.set_cons_succ]
             refine wpAnyH_take (i := 15) (oi := adm10_15) (v := ?_) rfl (by as_aux_lemma => kernel_rfl) (by as_aux_lemma => kernel_rfl) (by as_aux_lemma => kernel_rfl) (fun _ _ _ h => h) (Or.inl ⟨by rfl, ?_⟩) (by assumption) ?_
             rotate_left
             · unfold adm10_15; intro w hSw; (try dsimp only at hSw); go_simp; try (with_reducible rfl)
             try simp only [adm10_15, Act.put, List.setIfInBounds_toArray, List.set_cons_zero, List.set_cons_succ]
             refine wpAnyH_done (by kernel_rfl) ?_ _
             go_wp2_with fail
             go_meet
             refine ⟨rfl, ?_⟩
             repeat (first | (with_reducible exact Below.refl _ _) | refine below_bx2 ?_ _ | refine below_drw ?_ | refine below_to ?_ (by assumption))
        case rest =>
          obtain ⟨rfl, hbx⟩ := hcut
          rename World => wc
          have b_36 := below_to b_30 hbx
          have HR_37 := Lib.hid (HR_31.out.below hbx)
          have BX_38 := BX_32.to hbx
          have BS_39 := BS_33.to hbx
          have HK_40 := Lib.hid (HK_34.out.below hbx)
          have BK_41 := BK_35.to hbx
          have BA_42 := BA0.to hbx
          clear b_30 HR_31 BX_32 BS_33 HK_34 BK_35 BA0
          clear hbx
          cases R with
          | false =>
            go_wp2
            go_ret
            exact ⟨rfl, b_36⟩
          | true =>
            have q0 := BK_41.cell0 (i := 0) (v := .slice ak K.length ck) rfl
            have q1 := BS_39.cell0 (i := 0) (v := .int .i64 X) rfl
            have q2 := BS_39.cell0 (i := 1) (v := .int .i64 Y) rfl
            have q3 := BS_39.cell0 (i := 2) (v := .int .i64 1) rfl
            go_wp2_with fail
            clear q0 q1 q2 q3
            refine (HHS.out wc HK_40.out).mono ?_
            rintro e w6 ⟨rfl, bl⟩
            have b_43 := below_to b_36 bl
            have HR_44 := Lib.hid (HR_37.out.below bl)
            have BX_45 := BX_38.to bl
            have BS_46 := BS_39.to bl
            have HK_47 := Lib.hid (HK_40.out.below bl)
            have BK_48 := BK_41.to bl
            have BA_49 := BA_42.to bl
            clear b_36 HR_37 BX_38 BS_39 HK_40 BK_41 BA_42
            clear bl
            go_wp2
            go_ret
            exact ⟨rfl, b_43⟩
      | true =>
        have hR := HAD.out (by simp)
        subst hR
        obtain ⟨uN, uD, hu1, hu2, i1, i2, hld⟩ := HLD2.out (by simp)
        subst hu1
        subst hu2
        clear hn1 hn2 hn3 hn4 HLD2 HAD
        have HLD := Lib.hid hld
        clear hld
        go_cut [57] from 42 to 57 (fun s5 wx => s5 = .bool false ∧ Below U5.heap.size U5 wx)
        case first =>
          have p0 := BX_32.c8_0
          have p1 := BX_32.c8_1
          have p2 := BX_32.c8_2
          have p3 := BX_32.c8_3
          have p4 := BX_32.c8_4
          have p5 := BX_32.c8_5
          have p6 := BX_32.c8_6
          have p7 := BX_32.c8_7
          have q0 := BK_35.cell0 (i := 0) rfl
          have r0 := BS_33.cell0 (i := 0) (v := .int .i64 X) rfl
          have r1 := BS_33.cell0 (i := 1) (v := .int .i64 Y) rfl
          have r2 := BS_33.cell0 (i := 2) (v := .int .i64 1) rfl
          go_region_held3 (fun w' => w'.cell? ⟨xb, 0, none⟩ = some (.slice am nm cm) ∧ w'.cell? ⟨xb, 1, none⟩ = some (.int .i64 q) ∧ w'.cell? ⟨xb, 2, none⟩ = some (.int .i64 bx) ∧ w'.cell? ⟨xb, 3, none⟩ = some (.int .i64 cy) ∧ w'.cell? ⟨xb, 4, none⟩ = some (.int .i64 lo) ∧ w'.cell? ⟨xb, 5, none⟩ = some (.int .i64 hi) ∧ w'.cell? ⟨xb, 6, none⟩ = some (.slice an nn cn) ∧ w'.cell? ⟨xb, 7, none⟩ = some (.slice al nl cl) ∧ w'.cell? ⟨kb, 0, none⟩ = some (.slice ak K.length ck) ∧ w'.cell? ⟨(xb + 1), 0, none⟩ = some (.int .i64 X) ∧ w'.cell? ⟨(xb + 1), 1, none⟩ = some (.int .i64 Y) ∧ w'.cell? ⟨(xb + 1), 2, none⟩ = some (.int .i64 1))
            ((with_reducible refine keep12 BX_32 BK_35 BS_33 ?_; repeat (first | (with_reducible exact Below.refl _ _) | refine below_bx2 ?_ _ | refine below_drw ?_ | refine below_to ?_ (by assumption))))
            (first | (go_at_call 37; (with_reducible refine (HCKC.out _ ?_ ?_).mono ?_); (focus (refine below_to b_30 ?_; repeat (first | (with_reducible exact Below.refl _ _) | refine below_bx2 ?_ _ | refine below_drw ?_ | refine below_to ?_ (by assumption)))); (focus (refine HR_31.out.below ?_; repeat (first | (with_reducible exact Below.refl _ _) | refine below_bx2 ?_ _ | refine below_drw ?_ | refine below_to ?_ (by assumption)))); rintro e wA ⟨rfl, blA⟩) | (go_at_call 24; (with_reducible refine (HHS.out _ ?_).mono ?_); (focus (refine HK_34.out.below ?_; repeat (first | (with_reducible exact Below.refl _ _) | refine below_bx2 ?_ _ | refine below_drw ?_ | refine below_to ?_ (by assumption)))); rintro e wB ⟨rfl, blB⟩))
          all_goals
            go_wp2_with fail
            go_meet
            refine ⟨rfl, ?_⟩
            repeat (first | (with_reducible exact Below.refl _ _) | refine below_bx2 ?_ _ | refine below_drw ?_ | refine below_to ?_ (by assumption))
        case rest =>
          obtain ⟨rfl, hbx⟩ := hcut
          rename World => wc
          have b_50 := below_to b_30 hbx
          have HR_51 := Lib.hid (HR_31.out.below hbx)
          have BX_52 := BX_32.to hbx
          have BS_53 := BS_33.to hbx
          have HK_54 := Lib.hid (HK_34.out.below hbx)
          have BK_55 := BK_35.to hbx
          have BA_56 := BA0.to hbx
          clear b_30 HR_31 BX_32 BS_33 HK_34 BK_35 BA0
          clear hbx
          have q0 := BK_55.cell0 (i := 0) (v := .slice ak K.length ck) rfl
          have q1 := BS_53.cell0 (i := 0) (v := .int .i64 X) rfl
          have q2 := BS_53.cell0 (i := 1) (v := .int .i64 Y) rfl
          have q3 := BS_53.cell0 (i := 2) (v := .int .i64 1) rfl
          go_wp2_with fail
          clear q0 q1 q2 q3
          refine (HHS.out wc HK_54.out).mono ?_
          rintro e w6 ⟨rfl, bl⟩
          have b_57 := below_to b_50 bl
          have HR_58 := Lib.hid (HR_51.out.below bl)
          have BX_59 := BX_52.to bl
          have BS_60 := BS_53.to bl
          have HK_61 := Lib.hid (HK_54.out.below bl)
          have BK_62 := BK_55.to bl
          have BA_63 := BA_56.to bl
          clear b_50 HR_51 BX_52 BS_53 HK_54 BK_55 BA_56
          clear bl HHS HCKC
          have x6 := BX_59.c8_6
          go_wp2_with fail
          clear x6
          refine (impl_cor an nn cn ps w6 HLP.out HNP.out H64.out.ps HR_58.out.hn).mono ?_
          rintro e w7 ⟨ac, cc, rfl, ho, bl⟩
          have HC0 := Lib.hid (own_hs ho)
          clear ho
          have b_64 := below_to b_57 bl
          have HR_65 := Lib.hid (HR_58.out.below bl)
          have BX_66 := BX_59.to bl
          have BS_67 := BS_60.to bl
          have HK_68 := Lib.hid (HK_61.out.below bl)
          have BK_69 := BK_62.to bl
          have BA_70 := BA_63.to bl
          clear b_57 HR_58 BX_59 BS_60 HK_61 BK_62 BA_63
          clear bl
          have hlen := HC4.out.2
          generalize hcl : (corR ps).length = m at *
          skip
          go_wp2
          have b7 := b_64
          go_loopw [70] (fun i wr => ∃ k : Nat, k ≤ m ∧ i = .int .i64 k ∧ Below w7.heap.size w7 wr) (fun i _ => m - (intOf i).toNat)
          case atStart => exact ⟨0, Nat.zero_le _, rfl, Below.refl _ _⟩
          case round =>
            obtain ⟨k, hk, rfl, hbw⟩ := hrel
            have b_71 := below_to b_64 hbw
            have HR_72 := Lib.hid (HR_65.out.below hbw)
            have BX_73 := BX_66.to hbw
            have BS_74 := BS_67.to hbw
            have HK_75 := Lib.hid (HK_68.out.below hbw)
            have BK_76 := BK_69.to hbw
            have BA_77 := BA_70.to hbw
            have HC_78 := Lib.hid (HC0.out.below hbw)
            have hbv := hbw
            by_cases hlt : k < m
            · obtain ⟨p, hp⟩ : ∃ p, (corR ps)[k]? = some p := ⟨_, List.getElem?_eq_getElem (by rw [hcl]; exact hlt)⟩
              have hp2 : p = crA ps k := by
                  rw [HC4.out.1, corL_get ps (show k < 4 by omega)] at hp
                  exact (Option.some.inj hp).symm
              obtain ⟨g, o, rfl, t1, t2, t3⟩ := HC_78.out k _ hp
              have hk4 : k < 4 := by omega
              have HL4 := Lib.hid (HLD.out k hk4)
              have hcr := HBF.out.2.2.2.2 k hk4
              rw [← hp2] at HL4 hcr
              clear hp hp2
              have HNS := Lib.hid (fun V (hr : RAt V am nm zs an nn ps al nl qs) => impl_ns am nm cm zs q bx cy lo hi an nn cn ps al nl cl qs X Y 1 n1 n2 p.a p.b p.c V hr H64.out HS64.out ⟨i1, i2⟩ (show In64 ⟨p.a, p.b, p.c⟩ from ⟨⟨by simp only; omega, by simp only; omega⟩, ⟨by simp only; omega, by simp only; omega⟩, ⟨by simp only; omega, by simp only; omega⟩⟩) HSUM.out)
              rw [ns_val] at HNS
              clear hcr
              have HOK := Lib.hid (fun h => heS_ok (zs := zs) (q := q) (bx := bx) (cy := cy) (lo := lo) (hi := hi) (ps := ps) (qs := qs) (sX := X) (sY := Y) (sD := 1) (uN := n1) (uD := n2) (p := p) h)
              generalize heS zs q bx cy lo hi ps qs X Y 1 n1 n2 p = s at *
              generalize heG zs q bx cy lo hi ps qs X Y 1 n1 n2 p = G at *
              obtain ⟨pa, pb, pc⟩ := p
              obtain ⟨sa, sb, sc⟩ := s
              simp only at t1 t2 t3 HNS HL4 HOK
              have bN := below_one wr (.cells #[.int .i64 pa, .int .i64 pb, .int .i64 pc] 45)
              have BP0 := blk_new wr #[.int .i64 pa, .int .i64 pb, .int .i64 pc] 45 rfl
              have b_79 := below_to b_71 bN
              have HR_80 := Lib.hid (HR_72.out.below bN)
              have BX_81 := BX_73.to bN
              have BS_82 := BS_74.to bN
              have HK_83 := Lib.hid (HK_75.out.below bN)
              have BK_84 := BK_76.to bN
              have BA_85 := BA_77.to bN
              have HC_86 := Lib.hid (HC_78.out.below bN)
              have w7b_87 := below_to hbv bN
              clear b_71 HR_72 BX_73 BS_74 HK_75 BK_76 BA_77 HC_78 hbv
              clear bN
              have q0 := BX_81.cell0 (i := 0) (v := .slice am nm cm) rfl
              have q1 := BX_81.cell0 (i := 1) (v := .int .i64 q) rfl
              have q2 := BX_81.cell0 (i := 2) (v := .int .i64 bx) rfl
              have q3 := BX_81.cell0 (i := 3) (v := .int .i64 cy) rfl
              have q4 := BX_81.cell0 (i := 4) (v := .int .i64 lo) rfl
              have q5 := BX_81.cell0 (i := 5) (v := .int .i64 hi) rfl
              have q6 := BX_81.cell0 (i := 6) (v := .slice an nn cn) rfl
              have q7 := BX_81.cell0 (i := 7) (v := .slice al nl cl) rfl
              have q8 := BS_82.cell0 (i := 0) (v := .int .i64 X) rfl
              have q9 := BS_82.cell0 (i := 1) (v := .int .i64 Y) rfl
              have q10 := BS_82.cell0 (i := 2) (v := .int .i64 1) rfl
              have q11 := BA_85.cell0 (i := 0) (v := .int .i64 n1) rfl
              have q12 := BA_85.cell0 (i := 1) (v := .int .i64 n2) rfl
              go_wp2_with fail
              clear q0 q1 q2 q3 q4 q5 q6 q7 q8 q9 q10 q11 q12
              generalize wr.alloc (.cells #[.int .i64 pa, .int .i64 pb, .int .i64 pc] 45) = U7 at *
              obtain ⟨pb1, hbk⟩ : ∃ b, wr.heap.size = b := ⟨_, rfl⟩
              rw [hbk] at BP0 ⊢
              clear hbk
              clear t1 t2 t3
              refine (HNS.out U7 HR_80.out).mono ?_
              rintro e w8 ⟨rfl, bl⟩
              have b_88 := below_to b_79 bl
              have HR_89 := Lib.hid (HR_80.out.below bl)
              have BX_90 := BX_81.to bl
              have BS_91 := BS_82.to bl
              have HK_92 := Lib.hid (HK_83.out.below bl)
              have BK_93 := BK_84.to bl
              have BA_94 := BA_85.to bl
              have HC_95 := Lib.hid (HC_86.out.below bl)
              have w7b_96 := below_to w7b_87 bl
              have BP_97 := BP0.to bl
              clear b_79 HR_80 BX_81 BS_82 HK_83 BK_84 BA_85 HC_86 w7b_87 BP0
              clear bl
              have hbN := below_one w8 (.cells #[.int .i64 sa, .int .i64 sb, .int .i64 sc] 45)
              have BN0 := blk_new w8 #[.int .i64 sa, .int .i64 sb, .int .i64 sc] 45 rfl
              skip
              have b_98 := below_to b_88 hbN
              have HR_99 := Lib.hid (HR_89.out.below hbN)
              have BX_100 := BX_90.to hbN
              have BS_101 := BS_91.to hbN
              have HK_102 := Lib.hid (HK_92.out.below hbN)
              have BK_103 := BK_93.to hbN
              have BA_104 := BA_94.to hbN
              have HC_105 := Lib.hid (HC_95.out.below hbN)
              have w7b_106 := below_to w7b_96 hbN
              have BP_107 := BP_97.to hbN
              clear b_88 HR_89 BX_90 BS_91 HK_92 BK_93 BA_94 HC_95 w7b_96 BP_97
              clear hbN
              cases G with
              | false =>
                go_wp2
                go_roundw
                case rel => exact ⟨k + 1, by omega, by go_num, w7b_106⟩
                case measure => simp [intOf]; omega
              | true =>
                have q0 := BK_103.cell0 (i := 0) (v := .slice ak K.length ck) rfl
                have q1 := BN0.cell0 (i := 0) (v := .int .i64 sa) rfl
                have q2 := BN0.cell0 (i := 1) (v := .int .i64 sb) rfl
                have q3 := BN0.cell0 (i := 2) (v := .int .i64 sc) rfl
                go_wp2_with fail
                clear q0 q1 q2 q3
                have hs := okS64 (HOK.out (by simp))
                have HI := impl_has ak K.length ck K sa sb sc _ rfl (by omega) (fun x hx => ok_in64 (rok_all HRK.out x hx)) hs HK_102.out
                rw [HL4.out (by simp)] at HI
                refine HI.mono ?_
                rintro e w9 ⟨rfl, bl⟩
                have HB9 := below_to w7b_106 bl
                clear HI
                go_wp2
                go_roundw
                case rel => exact ⟨k + 1, by omega, by go_num, HB9⟩
                case measure => simp [intOf]; omega
            · have hkm : k = m := by omega
              subst hkm
              go_wp2
              go_ret
              exact ⟨rfl, below_to b7 hbw⟩
end Go.Proofs.YtibkmhmeoelpdaaGreat
