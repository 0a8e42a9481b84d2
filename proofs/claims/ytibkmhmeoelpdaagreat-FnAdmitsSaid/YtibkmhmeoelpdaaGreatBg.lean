/- The steps of a round grow with the region that they are taken of (no calls). A grown region is exactly what the inputs reach; a round grows with the region and with the range (no calls). What the rounds of a room say of its regions: each lies within the one before, and the last contains every region that is kept (no calls). -/
import Derived.Test.YtibkmhmeoelpdaaGreatAu
import Derived.Test.YtibkmhmeoelpdaaGreatDt
namespace Go.Proofs.YtibkmhmeoelpdaaGreat
open Go.RowKit
open Geo (H3)

/-- every point of one region lies in another -/
def Sub (ps qs : List H3) : Prop := ps = [] ∨ (qs ≠ [] ∧ ∀ X Y W : Int, 0 < W → (∀ e ∈ ps, Geo.val e X Y W ≤ 0) → ∀ g ∈ qs, Geo.val g X Y W ≤ 0)
theorem Sub.refl (ps : List H3) : Sub ps ps := by
  by_cases h : ps = []
  · exact .inl h
  · exact .inr ⟨h, fun _ _ _ _ k => k⟩
theorem Sub.trans {ps qs rs : List H3} (a : Sub ps qs) (b : Sub qs rs) : Sub ps rs := by
  rcases a with a | ⟨n, a⟩
  · exact .inl a
  · rcases b with b | ⟨m, b⟩
    · exact absurd b n
    · exact .inr ⟨m, fun X Y W w k => b X Y W w (a X Y W w k)⟩
theorem Sub.wi {ps qs : List H3} (r : rokB ps = true) (q : rokB qs = true) (s : Sub ps qs) : wiB ps qs = true := by
  rcases s with rfl | ⟨n, s⟩
  · unfold wiB
    rw [r, q]
    simp
  · exact within_rok r q n (fun _ => s)
theorem Sub.nil {ps : List H3} (s : Sub ps []) : ps = [] := by
  rcases s with h | ⟨h, _⟩
  · exact h
  · exact absurd rfl h
/-- regions made of half planes: what is asked of the points is enough -/
theorem sub_reg {hs ks : List H3} (h : hs.all okB = true) (k : ks.all okB = true) (s : ∀ X Y W : Int, 0 < W → (∀ g ∈ Geo.frame ++ hs, Geo.val g X Y W ≤ 0) → ∀ g ∈ ks, Geo.val g X Y W ≤ 0) : Sub (regL hs) (regL ks) := by
  by_cases n : regL hs = []
  · exact .inl n
  · refine .inr ⟨fun e => n ?_, fun X Y W w kk g hg => ?_⟩
    · rcases regL_inv k with ⟨p, _⟩ | ⟨_, f⟩
      · have := p.1
        rw [e] at this
        simp at this
      · refine reg_eq h (.inr ⟨rfl, ?_⟩)
        obtain ⟨z, zn, fz⟩ := f
        refine ⟨z, zn, fun X Y W w a => fz X Y W w (fun g hg => ?_)⟩
        have a' : ∀ g ∈ Geo.frame ++ hs, Geo.val g X Y W ≤ 0 := by
          intro g hg
          rcases List.mem_append.1 hg with m | m
          · exact a g (List.mem_append_right _ m)
          · exact a g (List.mem_append_left _ m)
        rcases List.mem_append.1 hg with m | m
        · exact a' g (List.mem_append_left _ m)
        · exact s X Y W w a' g m
    · rcases List.mem_append.1 (reg_sub k g hg) with m | m
      · exact reg_imp h n w kk g (List.mem_append_left _ m)
      · exact s X Y W w (reg_imp h n w kk) g m
/-- a valid region is void or its own half planes' region -/
theorem sub_same {ps qs : List H3} (r : rokB ps = true) (q : rokB qs = true) (a : Sub ps qs) (b : Sub qs ps) : ps = qs := by
  by_cases n : ps = []
  · subst n
    exact (Sub.nil b).symm
  · by_cases m : qs = []
    · subst m
      exact Sub.nil a
    · have e1 := meet_same r n q (a.wi r q)
      have e2 := meet_same q m r (b.wi q r)
      have sw : regL (ps ++ qs) = regL (qs ++ ps) := regL_swap (all_app (rok_allB q) (rok_allB r))
      rw [e1, e2] at sw
      exact sw
/-- the farthest corner of a region -/
theorem far_facts {ps : List H3} {A B : Int} (r : rokB ps = true) (n : ps ≠ []) (iA : In5 A) (iB : In5 B) :
    ∃ (j : Nat) (N D : Int), j < ps.length ∧ farS A B ps ps.length = ((j : Int), N, D) ∧ 1 ≤ D ∧ N * (crA ps j).c = (A * (crA ps j).a + B * (crA ps j).b) * D ∧
      ∀ X Y W : Int, 0 < W → (∀ e ∈ ps, Geo.val e X Y W ≤ 0) → (A * X + B * Y) * D ≤ N * W := by
  have hp : 0 < ps.length := List.length_pos_iff.2 n
  rcases far_ix A B ps ps.length with ⟨z, _⟩ | ⟨j, hj, e⟩
  · omega
  have ok : ∀ i, i < ps.length → okS (crA ps i).a (crA ps i).b (crA ps i).c = true := fun i hi => (cnr_facts r n hi).1
  have mx := far_max iA iB ok ps.length (Nat.le_refl _)
  have fj := va_facts iA iB (ok j hj)
  rw [e] at mx
  simp only at mx
  refine ⟨j, _, _, hj, e, by have := fj.2.2.2.1; omega, fj.2.2.1, ?_⟩
  intro X Y W w k
  by_cases z : A = 0 ∧ B = 0
  · obtain ⟨rfl, rfl⟩ := z
    have h1 := fj.2.2.1
    have c1 := (cnr_facts r n hj).2.1
    have : vaN 0 0 (crA ps j) = 0 := by
      have e0 : (0 * (crA ps j).a + 0 * (crA ps j).b) * vaD 0 0 (crA ps j) = 0 := by simp
      rw [e0] at h1
      rcases Int.mul_eq_zero.1 h1 with q | q
      · exact q
      · omega
    rw [this]
    simp
  · have nz : A ≠ 0 ∨ B ≠ 0 := by omega
    have hD := fj.2.2.2.1
    obtain ⟨P, _⟩ := rok_poly r n
    have nh : Geo.nz ⟨A * vaD A B (crA ps j), B * vaD A B (crA ps j), vaN A B (crA ps j)⟩ := by
      unfold Geo.nz
      rcases nz with h | h
      · exact .inl (Int.mul_ne_zero h (by omega))
      · exact .inr (Int.mul_ne_zero h (by omega))
    have hin := Geo.inside_of P nh (fun p hp => ?_) w k
    · unfold Geo.val at hin
      simp only at hin
      have : (A * X + B * Y) * vaD A B (crA ps j) = A * vaD A B (crA ps j) * X + B * vaD A B (crA ps j) * Y := by grind
      omega
    · obtain ⟨i, hi, rfl⟩ := cyc_ix hp
      obtain ⟨_, ci, _, _, _, kk, hkk, _, e2⟩ := cnr_facts r n hi
      rw [e2]
      refine Int.mul_nonpos_of_nonneg_of_nonpos (by omega) ?_
      have fi := va_facts iA iB (ok i hi)
      have m := mx i hi
      obtain ⟨_, _, v1, v2, _⟩ := fi
      unfold Geo.val
      simp only
      generalize vaN A B (crA ps i) = ni at *
      generalize vaD A B (crA ps i) = di at *
      generalize vaN A B (crA ps j) = N at *
      generalize vaD A B (crA ps j) = D at *
      generalize (crA ps i).a = X at *
      generalize (crA ps i).b = Y at *
      generalize (crA ps i).c = C at *
      have h1 : ni * D * C ≤ N * di * C := Int.mul_le_mul_of_nonneg_right m (by omega)
      have h2 : (A * D * X + B * D * Y - N * C) * di = ni * D * C - N * di * C := by
        have : ni * D * C = (A * X + B * Y) * di * D := by rw [← v1]; grind
        rw [this]
        grind
      rcases Int.lt_or_le 0 (A * D * X + B * D * Y - N * C) with q | q
      · have := Int.mul_pos q (show 0 < di by omega)
        omega
      · exact q
theorem posz_le {k v : Int} (hk : 0 < k) (h : k * v ≤ 0) : v ≤ 0 := by
  rcases Int.lt_or_le 0 v with q | q
  · have := Int.mul_pos hk q
    omega
  · exact q
/-- an eroded edge: it holds a point exactly if the edge holds the point moved by the farthest corner -/
theorem er_edge {ws : List H3} (r : rokB ws = true) (n : ws ≠ []) {e : H3} (ok : okB e = true) (hb : erB ws e = true) :
    (∃ x y c : Int, 1 ≤ c ∧ (∀ g ∈ ws, Geo.val g x y c ≤ 0) ∧ ∀ X Y W : Int, Geo.val e (X * c + x * W) (Y * c + y * W) (W * c) ≤ 0 → Geo.val (erM ws e) X Y W ≤ 0) ∧
    ∀ X Y W x y c : Int, 0 < W → 1 ≤ c → (∀ g ∈ ws, Geo.val g x y c ≤ 0) → Geo.val (erM ws e) X Y W ≤ 0 → Geo.val e (X * c + x * W) (Y * c + y * W) (W * c) ≤ 0 := by
  obtain ⟨iA, iB, _⟩ := ok_in ok
  obtain ⟨j, N, D, hj, ef, hD, hv, hin⟩ := far_facts r n iA iB
  obtain ⟨_, c1, ins, _⟩ := cnr_facts r n hj
  have eN : erN ws e = N := by unfold erN; rw [ef]
  have eD : erD ws e = D := by unfold erD; rw [ef]
  have hb' := hb
  unfold erB at hb'
  obtain ⟨g, hg, hvv⟩ := red_parts hb'
  have key : ∀ X Y W : Int, Geo.val (erM ws e) X Y W ≤ 0 ↔ (e.a * X + e.b * Y - e.c * W) * D + N * W ≤ 0 := by
    intro X Y W
    have h1 := hvv X Y W
    rw [show redH (e.a * erD ws e) (e.b * erD ws e) (e.c * erD ws e - erN ws e) = erM ws e from rfl, eD, eN] at h1
    rw [← scale_le hg, ← h1]
    have : e.a * D * X + e.b * D * Y - (e.c * D - N) * W = (e.a * X + e.b * Y - e.c * W) * D + N * W := by grind
    rw [this]
  refine ⟨⟨_, _, _, c1, fun g hg => ins g (List.mem_append_right _ hg), fun X Y W h => ?_⟩, fun X Y W x y c w hc hin' h => ?_⟩
  · rw [key]
    unfold Geo.val at h
    generalize (crA ws j).a = x at *
    generalize (crA ws j).b = y at *
    generalize (crA ws j).c = c at *
    refine posz_le (k := c) (by omega) ?_
    have h2 := Int.mul_le_mul_of_nonneg_right h (show 0 ≤ D by omega)
    have h3 : c * ((e.a * X + e.b * Y - e.c * W) * D + N * W) = (e.a * (X * c + x * W) + e.b * (Y * c + y * W) - e.c * (W * c)) * D + (N * c - (e.a * x + e.b * y) * D) * W := by grind
    rw [h3, hv]
    omega
  · rw [key] at h
    have h1 := hin x y c (by omega) hin'
    unfold Geo.val
    refine posz_le (k := D) (by omega) ?_
    have h2 := Int.mul_le_mul_of_nonneg_right h (show 0 ≤ c by omega)
    have h3 := Int.mul_le_mul_of_nonneg_right h1 (show 0 ≤ W by omega)
    have h4 : D * (e.a * (X * c + x * W) + e.b * (Y * c + y * W) - e.c * (W * c)) = ((e.a * X + e.b * Y - e.c * W) * D + N * W) * c + ((e.a * x + e.b * y) * D * W - N * c * W) := by grind
    rw [h4]
    omega
theorem ero_mono {ps qs ws : List H3} (bp : eroB ps ws = true) (bq : eroB qs ws = true) (s : Sub ps qs) : Sub (eroL ps ws) (eroL qs ws) := by
  have bp' := bp
  have bq' := bq
  unfold eroB at bp bq
  simp only [Bool.and_eq_true, decide_eq_true_eq] at bp bq
  obtain ⟨⟨⟨rp, rw'⟩, nw⟩, mp⟩ := bp
  obtain ⟨⟨⟨rq, _⟩, _⟩, mq⟩ := bq
  rw [(ero_yes rp rw' nw).1, (ero_yes rq rw' nw).1]
  rcases s with rfl | ⟨nq, s⟩
  · rw [(mv_nil rfl).1]; exact .inl rfl
  by_cases np : ps = []
  · rw [(mv_nil np).1]; exact .inl rfl
  obtain ⟨ap, ep, okp, _⟩ := mv_facts np mp
  obtain ⟨aq, eq, okq, _⟩ := mv_facts nq mq
  rw [ep, eq]
  refine sub_reg okp okq (fun X Y W w k g hg => ?_)
  rw [List.nil_append] at hg
  obtain ⟨h, hh, rfl⟩ := List.mem_map.1 hg
  obtain ⟨⟨x, y, c, hc, hin, imp⟩, _⟩ := er_edge rw' nw (rok_all rq h hh) (List.all_eq_true.1 aq h hh)
  refine imp X Y W (s _ _ _ (Int.mul_pos w (by omega)) (fun e he => ?_) h hh)
  exact (er_edge rw' nw (rok_all rp e he) (List.all_eq_true.1 ap e he)).2 X Y W x y c w hc hin (k _ (List.mem_append_right _ (List.mem_append_right _ (List.mem_map.2 ⟨e, he, rfl⟩))))
theorem pbk_mono {ps qs : List H3} {zs : List Int} {q : Int} (bp : pbkB ps zs q = true) (bq : pbkB qs zs q = true) (s : Sub ps qs) : Sub (pbkL ps zs q) (pbkL qs zs q) := by
  unfold pbkB at bp bq
  rw [Bool.and_eq_true] at bp bq
  obtain ⟨cp, mp⟩ := bp
  obtain ⟨cq, mq⟩ := bq
  rw [(pbk_yes cp).1, (pbk_yes cq).1]
  rcases s with rfl | ⟨nq, s⟩
  · rw [(mv_nil rfl).1]; exact .inl rfl
  by_cases np : ps = []
  · rw [(mv_nil np).1]; exact .inl rfl
  have q1 : 0 < q := by
    unfold pbkC mapB at cp
    simp only [Bool.and_eq_true] at cp
    have := cp.1.1.1.2
    unfold inB at this
    simp at this
    omega
  obtain ⟨ap, ep, okp, _⟩ := mv_facts np mp
  obtain ⟨aq, eq, okq, _⟩ := mv_facts nq mq
  rw [ep, eq]
  have key : ∀ (e : H3), pbB zs q e = true → ∀ X Y W : Int, Geo.val (pbM zs q e) X Y W ≤ 0 ↔ Geo.val e (zg zs 0 * X + zg zs 1 * Y) (zg zs 2 * X + zg zs 3 * Y) (q * W) ≤ 0 := by
    intro e he X Y W
    obtain ⟨g, hg, hv⟩ := red_parts he
    rw [← scale_le hg, show Geo.val (pbM zs q e) X Y W * g = _ from (hv X Y W).symm]
    have : (e.a * zg zs 0 + e.b * zg zs 2) * X + (e.a * zg zs 1 + e.b * zg zs 3) * Y - e.c * q * W = Geo.val e (zg zs 0 * X + zg zs 1 * Y) (zg zs 2 * X + zg zs 3 * Y) (q * W) := by unfold Geo.val; grind
    rw [this]
  refine sub_reg okp okq (fun X Y W w k g hg => ?_)
  rw [List.nil_append] at hg
  obtain ⟨h, hh, rfl⟩ := List.mem_map.1 hg
  rw [key h (List.all_eq_true.1 aq h hh)]
  refine s _ _ _ (Int.mul_pos q1 w) (fun e he => ?_) h hh
  rw [← key e (List.all_eq_true.1 ap e he)]
  exact k _ (List.mem_append_right _ (List.mem_append_right _ (List.mem_map.2 ⟨e, he, rfl⟩)))

/-- the half plane that touches a region in a direction -/
theorem tc_edge {ps : List H3} {A B : Int} (r : rokB ps = true) (n : ps ≠ []) (iA : In5 A) (iB : In5 B) (t : tcB A B ps = true) :
    (∃ x y c : Int, 1 ≤ c ∧ (∀ g ∈ ps, Geo.val g x y c ≤ 0) ∧ ∀ X Y W : Int, Geo.val (tcH A B ps) X Y W ≤ 0 → (A * X + B * Y) * c ≤ (A * x + B * y) * W) ∧
    ∀ X Y W k p q : Int, 0 < k → 0 < W → A * p + B * q = 0 → (∀ g ∈ ps, Geo.val g (X * k + p) (Y * k + q) (W * k) ≤ 0) → Geo.val (tcH A B ps) X Y W ≤ 0 := by
  obtain ⟨j, N, D, hj, ef, hD, hv, hin⟩ := far_facts r n iA iB
  obtain ⟨_, c1, ins, _⟩ := cnr_facts r n hj
  unfold tcB at t
  rw [ef] at t
  simp only at t
  obtain ⟨g, hg, hvv⟩ := red_parts t
  have eH : tcH A B ps = redH (A * D) (B * D) N := by unfold tcH; rw [ef]
  have key : ∀ X Y W : Int, Geo.val (tcH A B ps) X Y W ≤ 0 ↔ (A * X + B * Y) * D - N * W ≤ 0 := by
    intro X Y W
    rw [eH, ← scale_le hg, ← hvv]
    have : A * D * X + B * D * Y - N * W = (A * X + B * Y) * D - N * W := by grind
    rw [this]
  refine ⟨⟨_, _, _, c1, fun g hg => ins g (List.mem_append_right _ hg), fun X Y W h => ?_⟩, fun X Y W k p q hk w z h => ?_⟩
  · rw [key] at h
    generalize (crA ps j).a = x at *
    generalize (crA ps j).b = y at *
    generalize (crA ps j).c = c at *
    have h2 := Int.mul_le_mul_of_nonneg_right h (show 0 ≤ c by omega)
    have h3 : D * ((A * X + B * Y) * c - (A * x + B * y) * W) = ((A * X + B * Y) * D - N * W) * c + (N * c - (A * x + B * y) * D) * W := by grind
    have h4 : D * ((A * X + B * Y) * c - (A * x + B * y) * W) ≤ 0 := by rw [h3, hv]; omega
    have := posz_le (show 0 < D by omega) h4
    omega
  · rw [key]
    have h1 := hin _ _ _ (Int.mul_pos w hk) h
    refine posz_le hk ?_
    have h3 : k * ((A * X + B * Y) * D - N * W) = (A * (X * k + p) + B * (Y * k + q)) * D - N * (W * k) - (A * p + B * q) * D := by grind
    rw [h3, z]
    omega
/-- a point that a grown edge holds, if some input leads to a point that the edge holds -/
theorem grow_at {bx cy lo hi : Int} {e : H3} (b : grB bx cy lo hi e = true) {X Y W k m : Int} (w : 0 < W) (hk : 0 < k) (h1 : lo * (k * W) ≤ m) (h2 : m ≤ hi * (k * W)) (h : Geo.val e (X * k + m * bx) (Y * k + m * cy) (W * k) ≤ 0) : Geo.val (grM bx cy lo hi e) X Y W ≤ 0 := by
  obtain ⟨g, hg, hv⟩ := red_parts b
  refine (scale_le hg).1 ?_
  show Geo.val (redH e.a e.b (e.c + max (-lo * slp bx cy e) (-hi * slp bx cy e))) X Y W * g ≤ 0
  rw [← hv]
  refine posz_le hk ?_
  have hW : 0 < k * W := Int.mul_pos hk w
  have h' : k * (e.a * X + e.b * Y - e.c * W) + m * slp bx cy e ≤ 0 := by
    unfold Geo.val at h
    unfold slp
    have : e.a * (X * k + m * bx) + e.b * (Y * k + m * cy) - e.c * (W * k) = k * (e.a * X + e.b * Y - e.c * W) + m * (e.a * bx + e.b * cy) := by grind
    omega
  have e1 : k * (e.a * X + e.b * Y - (e.c + max (-lo * slp bx cy e) (-hi * slp bx cy e)) * W) = k * (e.a * X + e.b * Y - e.c * W) - max (-lo * slp bx cy e) (-hi * slp bx cy e) * (k * W) := by grind
  rw [e1]
  generalize slp bx cy e = s at *
  generalize k * (e.a * X + e.b * Y - e.c * W) = t at *
  generalize k * W = V at *
  have l1 : -lo * s * V ≤ max (-lo * s) (-hi * s) * V := Int.mul_le_mul_of_nonneg_right (by omega) (by omega)
  have l2 : -hi * s * V ≤ max (-lo * s) (-hi * s) * V := Int.mul_le_mul_of_nonneg_right (by omega) (by omega)
  have f1 : -lo * s * V = -(lo * V * s) := by grind
  have f2 : -hi * s * V = -(hi * V * s) := by grind
  rcases Int.lt_or_le s 0 with q | q
  · have := Int.mul_le_mul_of_nonpos_right h2 (show s ≤ 0 by omega)
    omega
  · have := Int.mul_le_mul_of_nonneg_right h1 q
    omega
theorem grow_end {bx cy lo hi u : Int} {e : H3} (b : grB bx cy lo hi e = true) {X Y W : Int} (hu : (u = lo ∧ 0 ≤ slp bx cy e ∨ u = hi ∧ slp bx cy e ≤ 0) ∧ lo ≤ hi) (h : Geo.val (grM bx cy lo hi e) X Y W ≤ 0) : (e.a * X + e.b * Y - e.c * W) + u * W * slp bx cy e ≤ 0 := by
  obtain ⟨g, hg, hv⟩ := red_parts b
  have h' := (scale_le hg).2 h
  rw [show Geo.val (grM bx cy lo hi e) X Y W * g = _ from (hv X Y W).symm] at h'
  have e1 : e.a * X + e.b * Y - (e.c + max (-lo * slp bx cy e) (-hi * slp bx cy e)) * W = (e.a * X + e.b * Y - e.c * W) - max (-lo * slp bx cy e) (-hi * slp bx cy e) * W := by grind
  rw [e1] at h'
  generalize slp bx cy e = s at *
  obtain ⟨hu, hl⟩ := hu
  have mx : max (-lo * s) (-hi * s) = -u * s := by
    rcases hu with ⟨rfl, q⟩ | ⟨rfl, q⟩
    · have := Int.mul_le_mul_of_nonneg_right (show -hi ≤ -u by omega) q
      omega
    · have := Int.mul_le_mul_of_nonpos_right (show -u ≤ -lo by omega) q
      omega
  rw [mx] at h'
  have : -u * s * W = -(u * W * s) := by grind
  omega
/-- exactly what the inputs reach -/
theorem grow_pt {ps : List H3} {bx cy lo hi : Int} (r : rokB ps = true) (n : ps ≠ []) (z : ¬ (bx = 0 ∧ cy = 0)) (hx : In100 bx) (hy : In100 cy) (hl : lo ≤ hi) (t : gwT ps bx cy = true) (ha : ps.all (grB bx cy lo hi) = true) {X Y W : Int} (w : 0 < W)
    (h : ∀ g ∈ gwU ps bx cy ++ ps.map (grM bx cy lo hi), Geo.val g X Y W ≤ 0) : ∃ k m : Int, 0 < k ∧ lo * (k * W) ≤ m ∧ m ≤ hi * (k * W) ∧ ∀ e ∈ ps, Geo.val e (X * k + m * bx) (Y * k + m * cy) (W * k) ≤ 0 := by
  have o := ort bx cy
  have i5 := gw_in5 hx hy
  unfold gwD at i5
  simp only [List.mem_cons, List.not_mem_nil, or_false] at i5
  obtain ⟨a1, b1⟩ := i5 _ (.inl rfl)
  obtain ⟨a2, b2⟩ := i5 _ (.inr rfl)
  simp only at a1 b1 a2 b2
  unfold gwT at t
  rw [Bool.and_eq_true] at t
  obtain ⟨⟨x1, y1, c1, hc1, in1, f1⟩, _⟩ := tc_edge r n ⟨by omega, by omega⟩ ⟨by omega, by omega⟩ t.1
  obtain ⟨⟨x2, y2, c2, hc2, in2, f2⟩, _⟩ := tc_edge r n ⟨by omega, by omega⟩ ⟨by omega, by omega⟩ t.2
  have v1 := f1 X Y W (h _ (List.mem_append_left _ (by simp [gwU])))
  have v2 := f2 X Y W (h _ (List.mem_append_left _ (by simp [gwU])))
  have ed : ∀ e ∈ ps, grB bx cy lo hi e = true ∧ Geo.val (grM bx cy lo hi e) X Y W ≤ 0 := fun e he => ⟨List.all_eq_true.1 ha e he, h _ (List.mem_append_right _ (List.mem_map.2 ⟨e, he, rfl⟩))⟩
  clear h f1 f2 t ha i5
  -- a point of the region on the line through the state along the inputs
  obtain ⟨Zx, Zy, Zc, hZ, inZ, onZ⟩ : ∃ Zx Zy Zc : Int, 0 < Zc ∧ (∀ e ∈ ps, Geo.val e Zx Zy Zc ≤ 0) ∧ -gwa bx cy * (Zx * W - X * Zc) + gwb bx cy * (Zy * W - Y * Zc) = 0 := by
    by_cases q : (-gwa bx cy * X + gwb bx cy * Y) * c1 = (-gwa bx cy * x1 + gwb bx cy * y1) * W
    · refine ⟨x1, y1, c1, by omega, in1, ?_⟩
      have : -gwa bx cy * (x1 * W - X * c1) + gwb bx cy * (y1 * W - Y * c1) = (-gwa bx cy * x1 + gwb bx cy * y1) * W - (-gwa bx cy * X + gwb bx cy * Y) * c1 := by grind
      omega
    · have e2 : (gwa bx cy * X + -gwb bx cy * Y) * c2 = -((-gwa bx cy * X + gwb bx cy * Y) * c2) := by grind
      have e3 : (gwa bx cy * x2 + -gwb bx cy * y2) * W = -((-gwa bx cy * x2 + gwb bx cy * y2) * W) := by grind
      rw [e2, e3] at v2
      obtain ⟨l2, hl2⟩ : ∃ l, l = (-gwa bx cy * x1 + gwb bx cy * y1) * W - (-gwa bx cy * X + gwb bx cy * Y) * c1 := ⟨_, rfl⟩
      obtain ⟨l1, hl1⟩ : ∃ l, l = (-gwa bx cy * X + gwb bx cy * Y) * c2 - (-gwa bx cy * x2 + gwb bx cy * y2) * W := ⟨_, rfl⟩
      have p2 : 0 < l2 := by omega
      have p1 : 0 ≤ l1 := by omega
      refine ⟨l1 * x1 + l2 * x2, l1 * y1 + l2 * y2, l1 * c1 + l2 * c2, ?_, fun e he => ?_, ?_⟩
      · have := Int.mul_nonneg p1 (show 0 ≤ c1 by omega)
        have := Int.mul_pos p2 (show 0 < c2 by omega)
        omega
      · have m1 := Int.mul_nonpos_of_nonneg_of_nonpos p1 (in1 e he)
        have m2 := Int.mul_nonpos_of_nonneg_of_nonpos (Int.le_of_lt p2) (in2 e he)
        have : Geo.val e (l1 * x1 + l2 * x2) (l1 * y1 + l2 * y2) (l1 * c1 + l2 * c2) = l1 * Geo.val e x1 y1 c1 + l2 * Geo.val e x2 y2 c2 := by unfold Geo.val; grind
        omega
      · have : -gwa bx cy * ((l1 * x1 + l2 * x2) * W - X * (l1 * c1 + l2 * c2)) + gwb bx cy * ((l1 * y1 + l2 * y2) * W - Y * (l1 * c1 + l2 * c2)) = l1 * ((-gwa bx cy * x1 + gwb bx cy * y1) * W - (-gwa bx cy * X + gwb bx cy * Y) * c1) - l2 * ((-gwa bx cy * X + gwb bx cy * Y) * c2 - (-gwa bx cy * x2 + gwb bx cy * y2) * W) := by grind
        rw [this, ← hl1, ← hl2]
        grind
  clear v1 v2 in1 in2
  -- along the inputs
  have par : cy * (Zx * W - X * Zc) = bx * (Zy * W - Y * Zc) := by
    have ec : gwa bx cy * (Int.gcd bx cy : Int) = cy := Int.tdiv_mul_cancel (Int.gcd_dvd_right _ _)
    have eb : gwb bx cy * (Int.gcd bx cy : Int) = bx := Int.tdiv_mul_cancel (Int.gcd_dvd_left _ _)
    generalize Zx * W - X * Zc = p at *
    generalize Zy * W - Y * Zc = q' at *
    generalize gwa bx cy = ga at *
    generalize gwb bx cy = gb at *
    generalize (Int.gcd bx cy : Int) = g at *
    rw [← ec, ← eb]
    grind
  have hbb : 0 < bx * bx + cy * cy := by
    have s1 : 0 ≤ bx * bx := by
      rcases Int.lt_or_le bx 0 with q | q
      · exact Int.le_of_lt (Int.mul_pos_of_neg_of_neg q q)
      · exact Int.mul_nonneg q q
    have s2 : 0 ≤ cy * cy := by
      rcases Int.lt_or_le cy 0 with q | q
      · exact Int.le_of_lt (Int.mul_pos_of_neg_of_neg q q)
      · exact Int.mul_nonneg q q
    have : bx * bx ≠ 0 ∨ cy * cy ≠ 0 := by
      by_cases q : bx = 0
      · right
        intro k
        rcases Int.mul_eq_zero.1 k with k | k <;> exact z ⟨q, k⟩
      · left
        intro k
        rcases Int.mul_eq_zero.1 k with k | k <;> exact q k
    omega
  obtain ⟨bb, hb⟩ : ∃ b, b = bx * bx + cy * cy := ⟨_, rfl⟩
  obtain ⟨dot, hd⟩ : ∃ d, d = bx * (Zx * W - X * Zc) + cy * (Zy * W - Y * Zc) := ⟨_, rfl⟩
  rw [← hb] at hbb
  have ex : bb * Zx * W = X * (Zc * bb) + dot * bx := by rw [hb, hd]; grind
  have ey : bb * Zy * W = Y * (Zc * bb) + dot * cy := by rw [hb, hd]; grind
  have hk : 0 < Zc * bb := Int.mul_pos hZ hbb
  have inP : ∀ e ∈ ps, Geo.val e (X * (Zc * bb) + dot * bx) (Y * (Zc * bb) + dot * cy) (W * (Zc * bb)) ≤ 0 := by
    intro e he
    rw [← ex, ← ey]
    have : Geo.val e (bb * Zx * W) (bb * Zy * W) (W * (Zc * bb)) = bb * W * Geo.val e Zx Zy Zc := by unfold Geo.val; grind
    rw [this]
    exact Int.mul_nonpos_of_nonneg_of_nonpos (Int.le_of_lt (Int.mul_pos hbb w)) (inZ e he)
  clear ex ey hd hb par onZ inZ
  generalize Zc * bb = k at *
  have hkW : 0 < k * W := Int.mul_pos hk w
  have vs : ∀ e : H3, Geo.val e (X * k + dot * bx) (Y * k + dot * cy) (W * k) = k * (e.a * X + e.b * Y - e.c * W) + dot * slp bx cy e := by
    intro e; unfold Geo.val slp; grind
  by_cases q1 : hi * (k * W) < dot
  · refine ⟨1, hi * W, by omega, ?_, ?_, fun e he => ?_⟩
    · have := Int.mul_le_mul_of_nonneg_right hl (show 0 ≤ W by omega)
      rw [Int.one_mul]; exact this
    · rw [Int.one_mul]; exact Int.le_refl _
    · have vv : Geo.val e (X * 1 + hi * W * bx) (Y * 1 + hi * W * cy) (W * 1) = (e.a * X + e.b * Y - e.c * W) + hi * W * slp bx cy e := by unfold Geo.val slp; grind
      rw [vv]
      rcases Int.lt_or_le 0 (slp bx cy e) with q | q
      · have := inP e he
        rw [vs] at this
        refine posz_le hk ?_
        have m := Int.mul_le_mul_of_nonneg_right (Int.le_of_lt q1) (Int.le_of_lt q)
        have e5 : k * ((e.a * X + e.b * Y - e.c * W) + hi * W * slp bx cy e) = k * (e.a * X + e.b * Y - e.c * W) + hi * (k * W) * slp bx cy e := by grind
        omega
      · exact grow_end (ed e he).1 ⟨.inr ⟨rfl, q⟩, hl⟩ (ed e he).2
  · by_cases q2 : dot < lo * (k * W)
    · refine ⟨1, lo * W, by omega, ?_, ?_, fun e he => ?_⟩
      · rw [Int.one_mul]; exact Int.le_refl _
      · have := Int.mul_le_mul_of_nonneg_right hl (show 0 ≤ W by omega)
        rw [Int.one_mul]; exact this
      · have vv : Geo.val e (X * 1 + lo * W * bx) (Y * 1 + lo * W * cy) (W * 1) = (e.a * X + e.b * Y - e.c * W) + lo * W * slp bx cy e := by unfold Geo.val slp; grind
        rw [vv]
        rcases Int.lt_or_le (slp bx cy e) 0 with q | q
        · have := inP e he
          rw [vs] at this
          refine posz_le hk ?_
          have m := Int.mul_le_mul_of_nonpos_right (Int.le_of_lt q2) (Int.le_of_lt q)
          have e5 : k * ((e.a * X + e.b * Y - e.c * W) + lo * W * slp bx cy e) = k * (e.a * X + e.b * Y - e.c * W) + lo * (k * W) * slp bx cy e := by grind
          omega
        · exact grow_end (ed e he).1 ⟨.inl ⟨rfl, q⟩, hl⟩ (ed e he).2
    · exact ⟨k, dot, hk, by omega, by omega, inP⟩
theorem gw_mono {ps qs : List H3} {bx cy lo hi lo' hi' : Int} (bp : gwB ps bx cy lo hi = true) (bq : gwB qs bx cy lo' hi' = true) (h1 : lo' ≤ lo) (h2 : hi ≤ hi') (s : Sub ps qs) : Sub (gwL ps bx cy lo hi) (gwL qs bx cy lo' hi') := by
  have cp : gwC ps bx cy lo hi = true := by
    cases h : gwC ps bx cy lo hi with
    | true => rfl
    | false => rw [(gw_no h).2] at bp; cases bp
  have cq : gwC qs bx cy lo' hi' = true := by
    cases h : gwC qs bx cy lo' hi' with
    | true => rfl
    | false => rw [(gw_no h).2] at bq; cases bq
  rcases s with rfl | ⟨nq, s⟩
  · rw [(gw_same cp (.inl rfl)).1]; exact .inl rfl
  by_cases np : ps = []
  · rw [(gw_same cp (.inl np)).1]; exact .inl np
  by_cases z : bx = 0 ∧ cy = 0
  · rw [(gw_same cp (.inr z)).1, (gw_same cq (.inr z)).1]
    exact .inr ⟨nq, s⟩
  have tp : gwT ps bx cy = true := by
    cases h : gwT ps bx cy with
    | true => rfl
    | false => rw [(gw_tno np z h).2] at bp; cases bp
  have tq : gwT qs bx cy = true := by
    cases h : gwT qs bx cy with
    | true => rfl
    | false => rw [(gw_tno nq z h).2] at bq; cases bq
  obtain ⟨lp, ep⟩ := gw_yes cp np z tp
  obtain ⟨lq, eq⟩ := gw_yes cq nq z tq
  rw [ep] at bp
  rw [eq] at bq
  obtain ⟨ap, mp, okp, _⟩ := mv_facts np bp
  obtain ⟨aq, mq, okq, _⟩ := mv_facts nq bq
  rw [lp, lq, mp, mq]
  unfold gwC inB at cp cq
  simp only [Bool.and_eq_true, decide_eq_true_eq] at cp cq
  obtain ⟨⟨⟨⟨⟨x1, x2⟩, _⟩, y1⟩, _⟩, rp⟩ := cp
  obtain ⟨_, rq⟩ := cq
  have hx : In100 bx := by unfold In100; omega
  have hy : In100 cy := by unfold In100; omega
  have i5 := gw_in5 hx hy
  unfold gwD at i5
  simp only [List.mem_cons, List.not_mem_nil, or_false] at i5
  obtain ⟨a1, b1⟩ := i5 _ (.inl rfl)
  obtain ⟨a2, b2⟩ := i5 _ (.inr rfl)
  simp only at a1 b1 a2 b2
  have o := ort bx cy
  refine sub_reg okp okq (fun X Y W w k g hg => ?_)
  obtain ⟨kk, m, hk, m1, m2, hin⟩ := grow_pt rp np z hx hy (by omega) tp ap w (fun g hg => k g (List.mem_append_right _ hg))
  have hs := s _ _ _ (Int.mul_pos w hk) hin
  have hkW : 0 < kk * W := Int.mul_pos hk w
  rcases List.mem_append.1 hg with hg | hg
  · unfold gwT at tq
    rw [Bool.and_eq_true] at tq
    unfold gwU at hg
    simp only [List.mem_cons, List.not_mem_nil, or_false] at hg
    rcases hg with rfl | rfl
    · refine (tc_edge rq nq ⟨by omega, by omega⟩ ⟨by omega, by omega⟩ tq.1).2 X Y W kk _ _ hk w ?_ hs
      have : -gwa bx cy * (m * bx) + gwb bx cy * (m * cy) = m * (-gwa bx cy * bx + gwb bx cy * cy) := by grind
      rw [this, o, Int.mul_zero]
    · refine (tc_edge rq nq ⟨by omega, by omega⟩ ⟨by omega, by omega⟩ tq.2).2 X Y W kk _ _ hk w ?_ hs
      have : gwa bx cy * (m * bx) + -gwb bx cy * (m * cy) = -m * (-gwa bx cy * bx + gwb bx cy * cy) := by grind
      rw [this, o, Int.mul_zero]
  · obtain ⟨e, he, rfl⟩ := List.mem_map.1 hg
    refine grow_at (List.all_eq_true.1 aq e he) w hk ?_ ?_ (hs e he)
    · have := Int.mul_le_mul_of_nonneg_right h1 (Int.le_of_lt hkW)
      omega
    · have := Int.mul_le_mul_of_nonneg_right h2 (Int.le_of_lt hkW)
      omega

section
variable {zs : List Int} {q bx cy lo hi : Int} {ps qs : List H3}
theorem pr_parts {rs : List H3} (b : prB zs q bx cy lo hi ps qs rs = true) : rmB zs q bx cy lo hi ps qs = true ∧ eroB rs ps = true ∧ gwB (eroL rs ps) bx cy lo hi = true ∧ pbkB (prG bx cy lo hi ps rs) zs q = true ∧ prL zs q bx cy lo hi ps qs rs = pbkL (prG bx cy lo hi ps rs) zs q := by
  have e : prL zs q bx cy lo hi ps qs rs = pbkL (prG bx cy lo hi ps rs) zs q := by unfold prL; rw [if_pos b]
  unfold prB at b
  simp only [Bool.and_eq_true] at b
  exact ⟨b.1.1.1, b.1.1.2, b.1.2, b.2, e⟩
theorem ero_rok {rs ws : List H3} (b : eroB rs ws = true) : rokB rs = true := by
  unfold eroB at b
  simp only [Bool.and_eq_true] at b
  exact b.1.1.1
theorem pbk_rok {gs : List H3} (b : pbkB gs zs q = true) : rokB (pbkL gs zs q) = true := by
  unfold pbkB at b
  rw [Bool.and_eq_true] at b
  obtain ⟨c, m⟩ := b
  rw [(pbk_yes c).1]
  by_cases n : gs = []
  · rw [(mv_nil n).1]; rfl
  · obtain ⟨_, e, ok, ln⟩ := mv_facts n m
    rw [e]
    exact rok_regL ok ln
theorem pr_rok {rs : List H3} (b : prB zs q bx cy lo hi ps qs rs = true) : rokB rs = true ∧ rokB (prL zs q bx cy lo hi ps qs rs) = true := by
  obtain ⟨_, e, _, p, eL⟩ := pr_parts b
  rw [eL]
  exact ⟨ero_rok e, pbk_rok p⟩
/-- a wider range of inputs and a larger region: at least as many states lead into it -/
theorem pr_mono {lo' hi' : Int} {qs' rs rs' : List H3} (b : prB zs q bx cy lo hi ps qs rs = true) (b' : prB zs q bx cy lo' hi' ps qs' rs' = true) (h1 : lo' ≤ lo) (h2 : hi ≤ hi') (s : Sub rs rs') : Sub (prL zs q bx cy lo hi ps qs rs) (prL zs q bx cy lo' hi' ps qs' rs') := by
  obtain ⟨_, e, g, p, eL⟩ := pr_parts b
  obtain ⟨_, e', g', p', eL'⟩ := pr_parts b'
  rw [eL, eL']
  refine pbk_mono p p' ?_
  unfold prG
  exact gw_mono g g' h1 h2 (ero_mono e e' s)
theorem kp_parts {rs : List H3} (b : kpB zs q bx cy lo hi ps qs rs = true) : prB zs q bx cy lo hi ps qs rs = true ∧ metB rs (prL zs q bx cy lo hi ps qs rs) = true ∧ kpL zs q bx cy lo hi ps qs rs = metL rs (prL zs q bx cy lo hi ps qs rs) := by
  unfold kpB at b
  rw [Bool.and_eq_true] at b
  exact ⟨b.1, b.2, (kp_yes b.1).1⟩
theorem met_parts {xs ys : List H3} (b : metB xs ys = true) : rokB xs = true ∧ rokB ys = true ∧ rokB (metL xs ys) = true ∧ Sub (metL xs ys) xs ∧ Sub (metL xs ys) ys ∧ ∀ us, rokB us = true → Sub us xs → Sub us ys → Sub us (metL xs ys) := by
  have b' := b
  unfold metB at b
  simp only [Bool.and_eq_true, decide_eq_true_eq] at b
  obtain ⟨⟨r1, r2⟩, l⟩ := b
  by_cases n : xs ≠ [] ∧ ys ≠ []
  · have e : metL xs ys = regL (xs ++ ys) := by unfold metL; rw [if_pos ⟨b', n⟩]
    have ok := all_app (rok_allB r1) (rok_allB r2)
    have ln : (regL (xs ++ ys)).length ≤ 40 := by have := reg_more (ks := ys) r1 n.1; omega
    have e1 := rok_reg r1 n.1
    have e2 := rok_reg r2 n.2
    rw [e]
    refine ⟨r1, r2, rok_regL ok ln, ?_, ?_, fun us ru s1 s2 => ?_⟩
    · have := sub_reg ok (rok_allB r1) (fun X Y W w k g hg => k g (List.mem_append_right _ (List.mem_append_left _ hg)))
      rwa [e1] at this
    · have := sub_reg ok (rok_allB r2) (fun X Y W w k g hg => k g (List.mem_append_right _ (List.mem_append_right _ hg)))
      rwa [e2] at this
    · by_cases nu : us = []
      · exact .inl nu
      · have eu := rok_reg ru nu
        rcases s1 with s1 | ⟨_, s1⟩
        · exact .inl s1
        rcases s2 with s2 | ⟨_, s2⟩
        · exact .inl s2
        have := sub_reg (rok_allB ru) ok (fun X Y W w k g hg => by
          rcases List.mem_append.1 hg with m | m
          · exact s1 X Y W w (fun e he => k e (List.mem_append_right _ he)) g m
          · exact s2 X Y W w (fun e he => k e (List.mem_append_right _ he)) g m)
        rwa [eu] at this
  · have n' : xs = [] ∨ ys = [] := by
      by_cases h : xs = []
      · exact .inl h
      · right
        by_cases h' : ys = []
        · exact h'
        · exact absurd ⟨h, h'⟩ n
    rw [(met_void r1 r2 n').1]
    refine ⟨r1, r2, rfl, .inl rfl, .inl rfl, fun us _ s1 s2 => ?_⟩
    rcases n' with rfl | rfl
    · exact s1
    · exact s2
theorem kp_facts {rs : List H3} (b : kpB zs q bx cy lo hi ps qs rs = true) : rokB rs = true ∧ rokB (kpL zs q bx cy lo hi ps qs rs) = true ∧ Sub (kpL zs q bx cy lo hi ps qs rs) rs ∧ Sub (kpL zs q bx cy lo hi ps qs rs) (prL zs q bx cy lo hi ps qs rs) ∧
    ∀ us, rokB us = true → Sub us rs → Sub us (prL zs q bx cy lo hi ps qs rs) → Sub us (kpL zs q bx cy lo hi ps qs rs) := by
  obtain ⟨_, m, e⟩ := kp_parts b
  obtain ⟨r1, _, r3, s1, s2, s3⟩ := met_parts m
  rw [e]
  exact ⟨r1, r3, s1, s2, s3⟩
/-- what rounds leave -/
theorem rrF_facts (n : Nat) : ∀ (rs : List H3) (k : Nat), rokB rs = true → ∀ L N S, rrF zs q bx cy lo hi ps qs n rs k = some (L, N, S) → rokB L = true ∧ Sub L rs ∧ k ≤ N ∧ N ≤ k + n ∧ (S = true → kpB zs q bx cy lo hi ps qs L = true ∧ kpL zs q bx cy lo hi ps qs L = L) ∧
    ∀ us, rokB us = true → Sub us rs → (∀ rs', kpB zs q bx cy lo hi ps qs rs' = true → Sub us rs' → Sub us (prL zs q bx cy lo hi ps qs rs')) → Sub us L := by
  induction n with
  | zero =>
    intro rs k r L N S e
    unfold rrF at e
    simp only [Option.some.injEq, Prod.mk.injEq] at e
    obtain ⟨rfl, rfl, rfl⟩ := e
    exact ⟨r, Sub.refl _, by omega, by omega, fun h => (by cases h), fun us _ s _ => s⟩
  | succ n ih =>
    intro rs k r L N S e
    by_cases b : kpB zs q bx cy lo hi ps qs rs = true
    · by_cases c : kpL zs q bx cy lo hi ps qs rs = rs
      · rw [rrF_stop b c] at e
        simp only [Option.some.injEq, Prod.mk.injEq] at e
        obtain ⟨rfl, rfl, rfl⟩ := e
        exact ⟨r, Sub.refl _, by omega, by omega, fun _ => ⟨b, c⟩, fun us _ s _ => s⟩
      · rw [rrF_next b c] at e
        obtain ⟨_, r2, s1, _, s3⟩ := kp_facts b
        obtain ⟨i1, i2, i3, i4, i5, i6⟩ := ih _ _ r2 L N S e
        exact ⟨i1, i2.trans s1, by omega, by omega, i5, fun us ru s h => i6 us ru (s3 us ru s (h rs b s)) h⟩
    · rw [rrF_no (by simpa using b)] at e
      cases e
/-- more rounds go on where fewer have ended -/
theorem rrF_add (n m : Nat) : ∀ (rs : List H3) (k : Nat), (rrF zs q bx cy lo hi ps qs n rs k = none → rrF zs q bx cy lo hi ps qs (n + m) rs k = none) ∧
    ∀ L N S, rrF zs q bx cy lo hi ps qs n rs k = some (L, N, S) → rrF zs q bx cy lo hi ps qs (n + m) rs k = if S = true then some (L, N, S) else rrF zs q bx cy lo hi ps qs m L N := by
  induction n with
  | zero =>
    intro rs k
    refine ⟨fun h => (by unfold rrF at h; cases h), fun L N S e => ?_⟩
    unfold rrF at e
    simp only [Option.some.injEq, Prod.mk.injEq] at e
    obtain ⟨rfl, rfl, rfl⟩ := e
    rw [Nat.zero_add]
    rfl
  | succ n ih =>
    intro rs k
    rw [show n + 1 + m = (n + m) + 1 by omega]
    by_cases b : kpB zs q bx cy lo hi ps qs rs = true
    · by_cases c : kpL zs q bx cy lo hi ps qs rs = rs
      · rw [rrF_stop b c, rrF_stop b c]
        refine ⟨fun h => (by cases h), fun L N S e => ?_⟩
        simp only [Option.some.injEq, Prod.mk.injEq] at e
        obtain ⟨rfl, rfl, rfl⟩ := e
        rfl
      · rw [rrF_next b c, rrF_next b c]
        exact ih _ _
    · rw [rrF_no (by simpa using b), rrF_no (by simpa using b)]
      exact ⟨fun _ => rfl, fun L N S e => (by cases e)⟩
/-- the region at which the rounds stop is kept and lies within the limits -/
theorem stop_kept {L : List H3} (b : kpB zs q bx cy lo hi ps qs L = true) (e : kpL zs q bx cy lo hi ps qs L = L) : prB zs q bx cy lo hi ps qs L = true ∧ Sub L (prL zs q bx cy lo hi ps qs L) := by
  obtain ⟨_, _, _, s, _⟩ := kp_facts b
  rw [e] at s
  exact ⟨(kp_parts b).1, s⟩
theorem ik_of {rs : List H3} (b : prB zs q bx cy lo hi ps qs rs = true) (r : rokB qs = true) (s : Sub rs qs) (t : Sub rs (prL zs q bx cy lo hi ps qs rs)) : ikB zs q bx cy lo hi ps qs rs = true := by
  obtain ⟨r1, r2⟩ := pr_rok b
  unfold ikB
  rw [b, s.wi r1 r, t.wi r1 r2]
  rfl
end
end Go.Proofs.YtibkmhmeoelpdaaGreat
