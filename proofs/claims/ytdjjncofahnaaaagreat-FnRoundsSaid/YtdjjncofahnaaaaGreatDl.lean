/- How far a region reaches beyond the edges of another (no calls). LossOf of the program, over the translation. LossOf of the program, over the translation: the loop over the edges. -/
import Derived.Test.YtdjjncofahnaaaaGreatDt
import Derived.Test.YtdjjncofahnaaaaGreatMo
import Derived.Test.YtdjjncofahnaaaaGreatYz
import Derived.Test.YtdjjncofahnaaaaGreatFg
import Derived.Test.YtdjjncofahnaaaaGreatHq
namespace Go.Proofs.YtdjjncofahnaaaaGreat
open Go.RowKit
open Geo (H3)

/-- the farthest value of a region in an edge's direction -/
noncomputable def lxA (rs : List H3) (h : H3) : Int := (farS h.a h.b rs rs.length).2.1
noncomputable def lxB (rs : List H3) (h : H3) : Int := (farS h.a h.b rs rs.length).2.2
noncomputable def lxN (rs : List H3) (h : H3) : Int := ofN (lxA rs h - h.c * lxB rs h) (lxB rs h * lenH h.a h.b)
noncomputable def lxD (rs : List H3) (h : H3) : Int := ofD (lxA rs h - h.c * lxB rs h) (lxB rs h * lenH h.a h.b)
noncomputable def lxM (rs : List H3) : List H3 → Int × Int := List.foldl (fun s h => maxP s.1 s.2 (lxN rs h) (lxD rs h)) (0, 1)
theorem lxM_next (rs pre : List H3) (h : H3) : lxM rs (pre ++ [h]) = maxP (lxM rs pre).1 (lxM rs pre).2 (lxN rs h) (lxD rs h) := by simp [lxM]
theorem okR_01 : okR 0 1 = true := by rw [okR_iff]; simp
theorem lx_parts {rs : List H3} {h : H3} (r : rokB rs = true) (n : rs ≠ []) (k : okB h = true) :
    okR (lxA rs h) (lxB rs h) = true ∧ (-500000000000000000 ≤ lxA rs h ∧ lxA rs h ≤ 500000000000000000) ∧ (1 ≤ lxB rs h ∧ lxB rs h ≤ 5000000000) ∧ supB h.a h.b rs = true ∧ (supR h.a h.b rs).2.1 = lxA rs h ∧ (supR h.a h.b rs).2.2 = lxB rs h ∧ In5 h.a ∧ In5 h.b ∧ (-100000000 ≤ h.c ∧ h.c ≤ 100000000) ∧ (h.a ≠ 0 ∨ h.b ≠ 0) := by
  obtain ⟨iA, iB, c, nz, i1, i2⟩ := ok_in k
  obtain ⟨s1, s2, s3, s4⟩ := sup_of rfl r n i1 i2
  have p := (okR_iff _ _).1 s3
  unfold FarI at s4
  refine ⟨s3, s4.2.1, ⟨p.1, s4.2.2.2⟩, s1, by rw [s2]; rfl, by rw [s2]; rfl, iA, iB, c, nz⟩
theorem lxl_in {a b : Int} (ha : In5 a) (hb : In5 b) (n : a ≠ 0 ∨ b ≠ 0) : 1 ≤ lenH a b ∧ lenH a b ≤ 100000 := by
  unfold lenH
  unfold In5 at ha hb
  omega
theorem lx_in {A B c l : Int} (hA : -500000000000000000 ≤ A ∧ A ≤ 500000000000000000) (hB : 1 ≤ B ∧ B ≤ 5000000000) (hc : -100000000 ≤ c ∧ c ≤ 100000000) (hl : 1 ≤ l ∧ l ≤ 100000) :
    (-500000000000000000 ≤ c * B ∧ c * B ≤ 500000000000000000) ∧ (-1000000000000000000 ≤ A - c * B ∧ A - c * B ≤ 1000000000000000000) ∧ (1 ≤ B * l ∧ B * l ≤ 500000000000000) := by
  have m := mul_in c B 100000000 5000000000 hc.1 hc.2 (by omega) hB.2
  have m2 := mul_in B l 5000000000 100000 (by omega) hB.2 (by omega) hl.2
  have m3 : 1 * 1 ≤ B * l := Int.mul_le_mul hB.1 hl.1 (by omega) (by omega)
  omega
theorem lxo_ok {n d : Int} (h1 : -1000000000000000000 ≤ n ∧ n ≤ 1000000000000000000) (h2 : 1 ≤ d ∧ d ≤ 1000000000000000) : hasR n d = true ∧ okR (ofN n d) (ofD n d) = true ∧ ofN n d * d = n * ofD n d := by
  have hg : 0 < Int.gcd n d := Nat.gcd_pos_of_pos_right _ (by omega)
  have hh : hasR n d = true := by
    rw [hasR_iff]
    refine ⟨by omega, ?_, ?_⟩
    · exact Nat.le_trans (Nat.div_le_self _ _) (by omega)
    · exact Nat.le_trans (Nat.div_le_self _ _) (by omega)
  obtain ⟨o1, o2⟩ := of_num (n := n) (d := d) h2.1
  have oh := of_has (n := n) (d := d) h2.1
  have e1 : ofN n d = n.tdiv (Int.gcd n d) := by unfold ofN; rw [if_pos hh, o1]
  have e2 : ofD n d = d.tdiv (Int.gcd n d) := by unfold ofD; rw [if_pos hh, o2]
  refine ⟨hh, by rw [e1, e2, oh, hh], ?_⟩
  rw [e1, e2]
  have q1 : n.tdiv (Int.gcd n d) * (Int.gcd n d : Int) = n := Int.tdiv_mul_cancel (Int.gcd_dvd_left ..)
  have q2 : d.tdiv (Int.gcd n d) * (Int.gcd n d : Int) = d := Int.tdiv_mul_cancel (Int.gcd_dvd_right ..)
  generalize n.tdiv (Int.gcd n d) = x at *
  generalize d.tdiv (Int.gcd n d) = y at *
  generalize (Int.gcd n d : Int) = g at *
  rw [← q1, ← q2]
  grind
theorem lx_ok {rs : List H3} {h : H3} (r : rokB rs = true) (n : rs ≠ []) (k : okB h = true) : okR (lxN rs h) (lxD rs h) = true ∧ lxN rs h * (lxB rs h * lenH h.a h.b) = (lxA rs h - h.c * lxB rs h) * lxD rs h := by
  obtain ⟨_, pA, pB, _, _, _, iA, iB, c, nz⟩ := lx_parts r n k
  obtain ⟨_, i2, i3⟩ := lx_in pA pB c (lxl_in iA iB nz)
  exact (lxo_ok i2 ⟨i3.1, by omega⟩).2
theorem max_ok {a b c d : Int} (h : okR a b = true) (k : okR c d = true) : okR (maxP a b c d).1 (maxP a b c d).2 = true := by
  unfold maxP
  rw [if_pos ⟨h, k⟩]
  split
  · exact h
  · exact k
theorem lxF_ok {rs : List H3} (r : rokB rs = true) (n : rs ≠ []) (hs : List H3) : ∀ s : Int × Int, okR s.1 s.2 = true → (∀ h ∈ hs, okB h = true) → okR (hs.foldl (fun s h => maxP s.1 s.2 (lxN rs h) (lxD rs h)) s).1 (hs.foldl (fun s h => maxP s.1 s.2 (lxN rs h) (lxD rs h)) s).2 = true := by
  induction hs with
  | nil => intro s h _; exact h
  | cons h t ih =>
    intro s hs k
    rw [List.foldl_cons]
    exact ih _ (max_ok hs (lx_ok r n (k h (by simp))).1) (fun x hx => k x (List.mem_cons_of_mem _ hx))
theorem lxM_ok {rs : List H3} (r : rokB rs = true) (n : rs ≠ []) (hs : List H3) (k : ∀ h ∈ hs, okB h = true) : okR (lxM rs hs).1 (lxM rs hs).2 = true := lxF_ok r n hs (0, 1) okR_01 k
theorem lxM_take (rs : List H3) {hs : List H3} {k : Nat} {h : H3} (e : hs[k]? = some h) : lxM rs (hs.take (k + 1)) = maxP (lxM rs (hs.take k)).1 (lxM rs (hs.take k)).2 (lxN rs h) (lxD rs h) := by
  rw [List.take_add_one, e]
  exact lxM_next rs _ h
/-- what LossOf answers -/
noncomputable def loB (zs : List Int) (q bx cy lo hi : Int) (ps qs : List H3) (m : Int) : Bool := rrB zs q bx cy lo hi ps qs m && kpB zs q bx cy lo hi ps qs (rrL zs q bx cy lo hi ps qs m) && !decide (kpL zs q bx cy lo hi ps qs (rrL zs q bx cy lo hi ps qs m) = [])
noncomputable def loP (zs : List Int) (q bx cy lo hi : Int) (ps qs : List H3) (m : Int) : Int × Int := if loB zs q bx cy lo hi ps qs m = true then lxM (rrL zs q bx cy lo hi ps qs m) (kpL zs q bx cy lo hi ps qs (rrL zs q bx cy lo hi ps qs m)) else (0, 0)
section
variable {zs : List Int} {q bx cy lo hi : Int} {ps qs : List H3}
theorem lo_no {m : Int} (h : loB zs q bx cy lo hi ps qs m = false) : loP zs q bx cy lo hi ps qs m = (0, 0) ∧ loB zs q bx cy lo hi ps qs m = false := by
  unfold loP; rw [h]; exact ⟨rfl, rfl⟩
theorem lo_1 {m : Int} (h : rrB zs q bx cy lo hi ps qs m = false) : loB zs q bx cy lo hi ps qs m = false := by unfold loB; rw [h]; rfl
theorem lo_2 {m : Int} (h : kpB zs q bx cy lo hi ps qs (rrL zs q bx cy lo hi ps qs m) = false) : loB zs q bx cy lo hi ps qs m = false := by unfold loB; rw [h]; simp
theorem lo_3 {m : Int} (h : kpL zs q bx cy lo hi ps qs (rrL zs q bx cy lo hi ps qs m) = []) : loB zs q bx cy lo hi ps qs m = false := by unfold loB; rw [h]; simp
theorem lo_yes {m : Int} (h1 : rrB zs q bx cy lo hi ps qs m = true) (h2 : kpB zs q bx cy lo hi ps qs (rrL zs q bx cy lo hi ps qs m) = true) (h3 : kpL zs q bx cy lo hi ps qs (rrL zs q bx cy lo hi ps qs m) ≠ []) :
    loP zs q bx cy lo hi ps qs m = lxM (rrL zs q bx cy lo hi ps qs m) (kpL zs q bx cy lo hi ps qs (rrL zs q bx cy lo hi ps qs m)) ∧ loB zs q bx cy lo hi ps qs m = true := by
  have e : loB zs q bx cy lo hi ps qs m = true := by unfold loB; rw [h1, h2, decide_eq_false h3]; rfl
  exact ⟨by unfold loP; rw [if_pos e], e⟩
theorem kp_nil : kpL zs q bx cy lo hi ps qs [] = [] := by
  unfold kpL
  split
  · unfold metL
    rw [if_neg (by simp)]
  · rfl
/-- a kept region and the region that it is taken of are valid -/
theorem kp_rok {rs : List H3} (h : kpB zs q bx cy lo hi ps qs rs = true) : rokB rs = true ∧ ∀ x ∈ kpL zs q bx cy lo hi ps qs rs, okB x = true := by
  have e := h
  unfold kpB at h
  rw [Bool.and_eq_true] at h
  have m := h.2
  unfold metB at m
  simp only [Bool.and_eq_true] at m
  refine ⟨m.1.1, ?_⟩
  rw [(kp_yes h.1).1]
  unfold metL
  split
  · intro x hx
    exact regL_ok (by rw [List.all_append, rok_allB m.1.1, rok_allB m.1.2]; rfl) x hx
  · intro x hx
    simp at hx
end

theorem lx_five {V X : World} {B C : Nat} {a0 a1 b0 b1 b2 : Value} {T U : TypeId} (h : Blk V B #[a0, a1] T) (k : Blk V C #[b0, b1, b2] U) (hb : Below V.heap.size V X) :
    X.cell? ⟨B, 0, none⟩ = some a0 ∧ X.cell? ⟨B, 1, none⟩ = some a1 ∧ X.cell? ⟨C, 0, none⟩ = some b0 ∧ X.cell? ⟨C, 1, none⟩ = some b1 ∧ X.cell? ⟨C, 2, none⟩ = some b2 :=
  ⟨(h.to hb).cell0 rfl, (h.to hb).cell0 rfl, (k.to hb).cell0 rfl, (k.to hb).cell0 rfl, (k.to hb).cell0 rfl⟩
theorem lx_put {V X : World} {B C E : Nat} {a0 a1 b0 b1 b2 u v : Value} {T U : TypeId} (n1 : E ≠ B) (n2 : E ≠ C) (h : Blk V B #[a0, a1] T) (k : Blk V C #[b0, b1, b2] U) (hb : Below V.heap.size V X) :
    ((X.setCell ⟨E, 0, none⟩ u).setCell ⟨E, 1, none⟩ v).cell? ⟨B, 0, none⟩ = some a0 ∧ ((X.setCell ⟨E, 0, none⟩ u).setCell ⟨E, 1, none⟩ v).cell? ⟨B, 1, none⟩ = some a1 ∧ ((X.setCell ⟨E, 0, none⟩ u).setCell ⟨E, 1, none⟩ v).cell? ⟨C, 0, none⟩ = some b0 ∧ ((X.setCell ⟨E, 0, none⟩ u).setCell ⟨E, 1, none⟩ v).cell? ⟨C, 1, none⟩ = some b1 ∧ ((X.setCell ⟨E, 0, none⟩ u).setCell ⟨E, 1, none⟩ v).cell? ⟨C, 2, none⟩ = some b2 := by
  have h1 := blk_far (blk_far (h.to hb) (p := ⟨E, 0, none⟩) u n1) (p := ⟨E, 1, none⟩) v n1
  have k1 := blk_far (blk_far (k.to hb) (p := ⟨E, 0, none⟩) u n2) (p := ⟨E, 1, none⟩) v n2
  exact ⟨h1.cell0 rfl, h1.cell0 rfl, k1.cell0 rfl, k1.cell0 rfl, k1.cell0 rfl⟩
set_option maxRecDepth 100000 in
set_option maxHeartbeats 3200000 in
theorem impl_lsa (a : Option Addr) (n ca : Nat) (rs : List H3) (h : H3) (w : World) (hl : rs.length = n) (hn : n ≤ 1048576) (h64 : ∀ h ∈ rs, In64 h) (hr : rokB rs = true) (ne : rs ≠ []) (hk : okB h = true) (hG : HsAt w a rs) :
    Calls Tryz.prog 67 #[.agg #[.slice a n ca], .agg #[.int .i64 h.a, .int .i64 h.b, .int .i64 h.c]] w fun e w' => e = .returned (.agg #[.int .i64 (lxN rs h), .int .i64 (lxD rs h)]) ∧ Below w.heap.size w w' := by
  obtain ⟨_, pA, pB, hsb, hsA, hsB, iA, iB, ic, nz⟩ := lx_parts hr ne hk
  obtain ⟨i1, i2, i3⟩ := lx_in pA pB ic (lxl_in iA iB nz)
  have hll := lxl_in iA iB nz
  have HSU := Lib.hid (fun V (q : Below w.heap.size w V) => impl_sup a n ca rs h.a h.b V hl hn h64 (hG.below q))
  rw [hsA, hsB, hsb] at HSU
  have HLE := Lib.hid (fun V => impl_len h.a h.b h.c V iA.1 iA.2 iB.1 iB.2)
  have HOF := Lib.hid (fun V => impl_ofA (lxA rs h - h.c * lxB rs h) (lxB rs h * lenH h.a h.b) V (by omega) (by omega) (by omega) (by omega))
  unfold lxN lxD
  clear hl hn h64 hr ne hk hG hsb hsA hsB nz
  obtain ⟨ha, hb, hc⟩ := h
  simp only at *
  generalize ofN (lxA rs ⟨ha, hb, hc⟩ - hc * lxB rs ⟨ha, hb, hc⟩) (lxB rs ⟨ha, hb, hc⟩ * lenH ha hb) = RN at *
  generalize ofD (lxA rs ⟨ha, hb, hc⟩ - hc * lxB rs ⟨ha, hb, hc⟩) (lxB rs ⟨ha, hb, hc⟩ * lenH ha hb) = RD at *
  generalize lxA rs ⟨ha, hb, hc⟩ = N at *
  generalize lxB rs ⟨ha, hb, hc⟩ = D at *
  generalize lenH ha hb = l at *
  generalize eu : hc * D = u at *
  generalize ep : D * l = p at *
  have v1 : IntKind.i64.wrap u = u := IntWalk.i64_in _ (by omega)
  have v2 : IntKind.i64.wrap (N - u) = N - u := IntWalk.i64_in _ (by omega)
  have v3 : IntKind.i64.wrap p = p := IntWalk.i64_in _ (by omega)
  have bV := below_bx2 (below_bx2 (below_one w (.cells #[.slice a n ca] 26)) (.cells #[.int .i64 ha, .int .i64 hb, .int .i64 hc] 39)) (.cells #[.int .i64 0, .int .i64 0] 50)
  have K0 := ((blk_new w #[.slice a n ca] 26 (b := w.heap.size) (by simp)).to (below_one _ (.cells #[.int .i64 ha, .int .i64 hb, .int .i64 hc] 39))).to (below_one _ (.cells #[.int .i64 0, .int .i64 0] 50))
  have K1 := (blk_new (w.alloc (.cells #[.slice a n ca] 26)) #[.int .i64 ha, .int .i64 hb, .int .i64 hc] 39 (b := w.heap.size + 1) (by simp)).to (below_one _ (.cells #[.int .i64 0, .int .i64 0] 50))
  have K2 := blk_new ((w.alloc (.cells #[.slice a n ca] 26)).alloc (.cells #[.int .i64 ha, .int .i64 hb, .int .i64 hc] 39)) #[.int .i64 0, .int .i64 0] 50 (b := w.heap.size + 1 + 1) (by simp)
  have c0 := K0.cell0 (i := 0) (v := .slice a n ca) rfl
  have d0 := K1.cell0 (i := 0) (v := .int .i64 ha) rfl
  have d1 := K1.cell0 (i := 1) (v := .int .i64 hb) rfl
  have d2 := K1.cell0 (i := 2) (v := .int .i64 hc) rfl
  go_enter Tryz.func67, Tryz.ntmps67
  go_wp2_with fail
  clear c0 d0 d1 d2
  generalize (((w.alloc (.cells #[.slice a n ca] 26)).alloc (.cells #[.int .i64 ha, .int .i64 hb, .int .i64 hc] 39)).alloc (.cells #[.int .i64 0, .int .i64 0] 50)) = V at *
  refine (HSU.out _ bV).mono ?_
  rintro e w1 ⟨rfl, bl1⟩
  have bY := below_to bl1 (below_one w1 (.cells #[.int .i64 N, .int .i64 D] 50))
  have b1 := below_to bV bY
  have L1 := K1.to bY
  have L2 := K2.to bY
  have zg := (K2.to bl1).lt
  have N3 := blk_new w1 #[.int .i64 N, .int .i64 D] 50 rfl
  clear bl1 bY bV K0 K1 K2 HSU
  go_wp2_with fail
  generalize w1.alloc (.cells #[.int .i64 N, .int .i64 D] 50) = U at *
  obtain ⟨g, hg⟩ : ∃ b, w1.heap.size = b := ⟨_, rfl⟩
  rw [hg] at N3 zg ⊢
  clear hg
  have hn1 : w.heap.size + 1 + 1 ≠ g := by have := zg; omega
  have hn2 : w.heap.size + 1 + 1 ≠ w.heap.size + 1 := by omega
  have x0 := N3.cell0 (i := 0) rfl
  have x1 := N3.cell0 (i := 1) rfl
  have d0 := L1.cell0 (i := 0) (v := .int .i64 ha) rfl
  have d1 := L1.cell0 (i := 1) (v := .int .i64 hb) rfl
  have d2 := L1.cell0 (i := 2) (v := .int .i64 hc) rfl
  go_region_held3 (fun w' => w'.cell? ⟨g, 0, none⟩ = some (.int .i64 N) ∧ w'.cell? ⟨g, 1, none⟩ = some (.int .i64 D) ∧ w'.cell? ⟨w.heap.size + 1, 0, none⟩ = some (.int .i64 ha) ∧ w'.cell? ⟨w.heap.size + 1, 1, none⟩ = some (.int .i64 hb) ∧ w'.cell? ⟨w.heap.size + 1, 2, none⟩ = some (.int .i64 hc))
    (first | (refine lx_put hn1 hn2 N3 L1 ?_; repeat (first | exact Below.refl _ _ | refine below_bx2 ?_ _ | refine below_drw ?_ | refine below_to ?_ (by assumption))) | (refine lx_five N3 L1 ?_; repeat (first | exact Below.refl _ _ | refine below_bx2 ?_ _ | refine below_drw ?_ | refine below_to ?_ (by assumption))))
    (first | (go_at_call 118; (with_reducible refine (HLE.out _).mono ?_); rintro e w6 ⟨rfl, bl6⟩) | (go_at_call 65; (with_reducible refine (HOF.out _).mono ?_); rintro e w7 ⟨rfl, bl7⟩; have E1 : Blk w7 _ _ _ := L2.to (by repeat (first | exact Below.refl _ _ | refine below_bx2 ?_ _ | refine below_drw ?_ | refine below_to ?_ (by assumption))); have q0 := E1.cell0 (i := 0) (v := .int .i64 0) rfl; have q1 := E1.cell0 (i := 1) (v := .int .i64 0) rfl; have f0 := E1.free 0; have f1 := E1.free 1))
  all_goals
    have b7 : Below w.heap.size w w7 := below_to b1 (by repeat (first | exact Below.refl _ _ | refine below_bx2 ?_ _ | refine below_drw ?_ | refine below_to ?_ (by assumption)))
    go_wp2_with fail
    exact bodyPost_ret (v := .agg #[.int .i64 RN, .int .i64 RD]) (by simp [results, Tryz.results67, go_sem, q0, q1]) rfl ⟨rfl, (b7.setCell (p := ⟨w.heap.size + 1 + 1, 0, none⟩) (Nat.le_add_right _ 2) _).setCell (p := ⟨w.heap.size + 1 + 1, 1, none⟩) (Nat.le_add_right _ 2) _⟩

theorem of_01 : ofN 0 1 = 0 ∧ ofD 0 1 = 1 := by
  have h := (lxo_ok (n := 0) (d := 1) (by omega) (by omega))
  have h2 := (okR_iff _ _).1 h.2.1
  have h3 := h.2.2
  have e : ofN 0 1 = 0 := by omega
  rw [e] at h2
  have g := h2.2.2.2.2
  rw [Int.gcd_zero_left] at g
  exact ⟨e, by omega⟩
set_option maxRecDepth 100000 in
set_option maxHeartbeats 6400000 in
theorem impl_lo (am : Option Addr) (nm cm : Nat) (zs : List Int) (q bx cy lo hi : Int) (an : Option Addr) (nn cn : Nat) (ps : List H3) (al : Option Addr) (nl cl : Nat) (qs : List H3) (m : Int) (hm : -9223372036854775808 ≤ m ∧ m ≤ 9223372036854775807) (w : World) (hA : RAt w am nm zs an nn ps al nl qs) (h64 : R64 q bx cy lo hi ps qs) (hle : nm + nn + nl ≤ 1048576) :
    Calls Tryz.prog 23 #[.agg #[.slice am nm cm, .int .i64 q, .int .i64 bx, .int .i64 cy, .int .i64 lo, .int .i64 hi, .slice an nn cn, .slice al nl cl], .int .i64 m] w fun e w' => e = .returned (.tuple #[.agg #[.int .i64 (loP zs q bx cy lo hi ps qs m).1, .int .i64 (loP zs q bx cy lo hi ps qs m).2], .bool (loB zs q bx cy lo hi ps qs m)]) ∧ Below w.heap.size w w' := by
  have bV := below_bx2 (below_one w (.cells #[.slice am nm cm, .int .i64 q, .int .i64 bx, .int .i64 cy, .int .i64 lo, .int .i64 hi, .slice an nn cn, .slice al nl cl] 28)) (.cells #[.int .i64 0, .int .i64 0] 50)
  have K0 := (blk_new w #[.slice am nm cm, .int .i64 q, .int .i64 bx, .int .i64 cy, .int .i64 lo, .int .i64 hi, .slice an nn cn, .slice al nl cl] 28 (b := w.heap.size) (by simp)).to (below_one _ (.cells #[.int .i64 0, .int .i64 0] 50))
  have K1 := blk_new (w.alloc (.cells #[.slice am nm cm, .int .i64 q, .int .i64 bx, .int .i64 cy, .int .i64 lo, .int .i64 hi, .slice an nn cn, .slice al nl cl] 28)) #[.int .i64 0, .int .i64 0] 50 (b := w.heap.size + 1) (by simp)
  have HC := Lib.hid (fun V (h : Below w.heap.size w V) => impl_rr am nm cm zs q bx cy lo hi an nn cn ps al nl cl qs m hm V (hA.below h) h64 hle)
  have HKP := Lib.hid (fun V a1 c1 rs (h : Below w.heap.size w V) (hn : rs.length ≤ 40) (h6 : ∀ h ∈ rs, In64 h) (k0 : a1 = none → rs.length = 0 ∧ c1 = 0) (k : HsAt V a1 rs) => impl_kp am nm cm zs q bx cy lo hi an nn cn ps al nl cl qs a1 rs.length c1 rs V (hA.below h) h64 hle rfl (Nat.le_trans hn (by omega)) h6 k0 k)
  have HLN := Lib.hid (rr_len (zs := zs) (q := q) (bx := bx) (cy := cy) (lo := lo) (hi := hi) (ps := ps) (qs := qs) m)
  have HO1 := Lib.hid (fun V => impl_ofA 0 1 V (by omega) (by omega) (by omega) (by omega))
  rw [of_01.1, of_01.2] at HO1
  clear hA h64 hle hm
  have c0_0 := K0.c8_0
  have c0_1 := K0.c8_1
  have c0_2 := K0.c8_2
  have c0_3 := K0.c8_3
  have c0_4 := K0.c8_4
  have c0_5 := K0.c8_5
  have c0_6 := K0.c8_6
  have c0_7 := K0.c8_7
  go_enter Tryz.func23, Tryz.ntmps23
  go_wp2_with fail
  clear c0_0 c0_1 c0_2 c0_3 c0_4 c0_5 c0_6 c0_7
  generalize ((w.alloc (.cells #[.slice am nm cm, .int .i64 q, .int .i64 bx, .int .i64 cy, .int .i64 lo, .int .i64 hi, .slice an nn cn, .slice al nl cl] 28)).alloc (.cells #[.int .i64 0, .int .i64 0] 50)) = V at *
  refine (HC.out _ bV).mono ?_
  rintro e w1 ⟨ag, cg, rfl, ho, bl1⟩
  clear HC
  generalize hb : rrB zs q bx cy lo hi ps qs m = bb at *
  generalize hS : rrS zs q bx cy lo hi ps qs m = sS at *
  generalize (rrN zs q bx cy lo hi ps qs m : Int) = NN at *
  generalize hL : rrL zs q bx cy lo hi ps qs m = L at *
  have b1 := below_to bV bl1
  have bY := below_one w1 (.cells #[.slice ag L.length cg, .int .i64 NN, .bool sS] 43)
  have b2 := below_to b1 bY
  have L0 := (K0.to bl1).to bY
  have L1 := (K1.to bl1).to bY
  have N2 := blk_new w1 #[.slice ag L.length cg, .int .i64 NN, .bool sS] 43 rfl
  have HO := Lib.hid (own_below ho bY)
  clear ho b1 bY bV bl1 K0 K1
  cases bb with
  | false =>
    have HN := Lib.hid (lo_no (lo_1 hb))
    have q0 := L1.cell0 (i := 0) (v := .int .i64 0) rfl
    have q1 := L1.cell0 (i := 1) (v := .int .i64 0) rfl
    have f0 := L1.free 0
    have f1 := L1.free 1
    clear HO N2 L0 HKP HO1
    go_wp2_with fail
    exact bodyPost_ret (v := .tuple #[.agg #[.int .i64 0, .int .i64 0], .bool false]) (by simp [results, Tryz.results23, go_sem, q0, q1]) rfl ⟨by rw [HN.out.1, HN.out.2], ((b2.setCell (p := ⟨w.heap.size + 1, 0, none⟩) (Nat.le_add_right _ _) _).setCell (p := ⟨w.heap.size + 1, 1, none⟩) (Nat.le_add_right _ _) _)⟩
  | true =>
    have c0 := L0.c8_0
    have c1 := L0.c8_1
    have c2 := L0.c8_2
    have c3 := L0.c8_3
    have c4 := L0.c8_4
    have c5 := L0.c8_5
    have c6 := L0.c8_6
    have c7 := L0.c8_7
    have e0 := N2.cell0 (i := 0) rfl
    go_wp2_with fail
    clear e0 c0 c1 c2 c3 c4 c5 c6 c7
    generalize w1.alloc (.cells #[.slice ag L.length cg, .int .i64 NN, .bool sS] 43) = U at *
    obtain ⟨C, hC⟩ : ∃ b, w1.heap.size = b := ⟨_, rfl⟩
    rw [hC] at N2 ⊢
    clear hC
    have HL40 := Lib.hid (show L.length ≤ 40 ∧ ∀ x ∈ L, In64 x from ⟨HLN.out.1, HLN.out.2.1⟩)
    refine (HKP.out U _ _ L b2 HL40.out.1 HL40.out.2 (own_nil HO.out) (own_hs HO.out)).mono ?_
    rintro e w3 ⟨ah, ch, rfl, ho, bl3⟩
    have hK40 : (kpL zs q bx cy lo hi ps qs L).length ≤ 40 := kpL_len _ _ _ _ _ _ _ _ _
    generalize hK : kpL zs q bx cy lo hi ps qs L = K at *
    generalize hKB : kpB zs q bx cy lo hi ps qs L = kb at *
    have bY := below_to bl3 (below_one w3 (.cells #[.slice ah K.length ch] 26))
    have x1 := below_to b2 bY
    have X1 := L1.to bY
    have X2 := N2.to bY
    have X3 := blk_new w3 #[.slice ah K.length ch] 26 rfl
    have HOL := Lib.hid (own_below HO.out bY)
    have HOK := Lib.hid (own_below ho (below_one w3 (.cells #[.slice ah K.length ch] 26)))
    clear ho bl3 bY b2 L0 L1 N2 HO HKP
    cases kb with
    | false =>
      have HN := Lib.hid (lo_no (lo_2 (by rw [hL, hKB])))
      have q0 := X1.cell0 (i := 0) (v := .int .i64 0) rfl
      have q1 := X1.cell0 (i := 1) (v := .int .i64 0) rfl
      have f0 := X1.free 0
      have f1 := X1.free 1
      clear HOL HOK X2 X3 HO1
      go_wp2_with fail
      exact bodyPost_ret (v := .tuple #[.agg #[.int .i64 0, .int .i64 0], .bool false]) (by simp [results, Tryz.results23, go_sem, q0, q1]) rfl ⟨by rw [HN.out.1, HN.out.2], ((x1.setCell (p := ⟨w.heap.size + 1, 0, none⟩) (Nat.le_add_right _ _) _).setCell (p := ⟨w.heap.size + 1, 1, none⟩) (Nat.le_add_right _ _) _)⟩
    | true =>
      have HV := Lib.hid (fun a1 n1 c1 V => impl_void a1 n1 c1 V)
      have n0 := X3.cell0 (i := 0) rfl
      go_wp2_with fail
      clear n0
      generalize w3.alloc (.cells #[.slice ah K.length ch] 26) = Y at *
      obtain ⟨B8, hB8⟩ : ∃ b, w3.heap.size = b := ⟨_, rfl⟩
      rw [hB8] at X3 ⊢
      clear hB8
      refine (HV.out _ _ _ _).mono ?_
      rintro e w4 ⟨rfl, bl4⟩
      have y1 := below_to x1 bl4
      have Y1 := X1.to bl4
      have Y2 := X2.to bl4
      have Y3 := X3.to bl4
      have HPL := Lib.hid (own_below HOL.out bl4)
      have HPK := Lib.hid (own_below HOK.out bl4)
      clear x1 bl4 X1 X2 X3 HOL HOK HV
      by_cases hKn : K = []
      · have hz : ((K.length : Int) == 0) = true := by rw [hKn]; rfl
        have HN := Lib.hid (lo_no (lo_3 (by rw [hL, hK, hKn])))
        have q0 := Y1.cell0 (i := 0) (v := .int .i64 0) rfl
        have q1 := Y1.cell0 (i := 1) (v := .int .i64 0) rfl
        have f0 := Y1.free 0
        have f1 := Y1.free 1
        clear HPL HPK Y2 Y3 HO1
        go_wp2_with fail
        exact bodyPost_ret (v := .tuple #[.agg #[.int .i64 0, .int .i64 0], .bool false]) (by simp [results, Tryz.results23, go_sem, q0, q1]) rfl ⟨by rw [HN.out.1, HN.out.2], ((y1.setCell (p := ⟨w.heap.size + 1, 0, none⟩) (Nat.le_add_right _ _) _).setCell (p := ⟨w.heap.size + 1, 1, none⟩) (Nat.le_add_right _ _) _)⟩
      · have hz : ((K.length : Int) == 0) = false := eq_b (by have := List.length_pos_iff.2 hKn; omega)
        have HYES := Lib.hid (lo_yes (zs := zs) (q := q) (bx := bx) (cy := cy) (lo := lo) (hi := hi) (ps := ps) (qs := qs) (m := m) hb (by rw [hL]; exact hKB) (by rw [hL, hK]; exact hKn))
        rw [hL, hK] at HYES
        have HLR := Lib.hid (kp_rok hKB)
        rw [hK] at HLR
        have HLn := Lib.hid (show L ≠ [] by intro e; rw [e, kp_nil] at hK; exact hKn hK.symm)
        clear hKn hb hS hL hK hKB HLN
        go_wp2_with fail
        clear hz
        refine (HO1.out _).mono ?_
        rintro e w5 ⟨rfl, bl5⟩
        have z1 := below_to y1 bl5
        have Z1 := Y1.to bl5
        have Z2 := Y2.to bl5
        have Z3 := Y3.to bl5
        skip
        have HHL := Lib.hid (own_hs (own_below HPL.out bl5))
        have HHK := Lib.hid (own_hs (own_below HPK.out bl5))
        clear y1 bl5 Y1 Y2 Y3 HPL HPK HO1
        have bY := below_one w5 (.cells #[.int .i64 0, .int .i64 1] 50)
        have N9 := blk_new w5 #[.int .i64 0, .int .i64 1] 50 rfl
        have n0 := (Z3.to bY).cell0 (i := 0) rfl
        go_wp2_with fail
        clear n0
        generalize w5.alloc (.cells #[.int .i64 0, .int .i64 1] 50) = U9 at *
        have HZ1 := Lib.hid Z1
        have HZ2 := Lib.hid Z2
        have HB := Lib.hid z1
        clear Z1 Z2 Z3 z1
        have hsz := N9.lt
        have HBY := Lib.hid bY
        have HN9 := Lib.hid N9
        clear bY N9
        go_loopw [39] (fun i wr => ∃ k : Nat, k ≤ K.length ∧ i = .int .i64 (k : Int) ∧ Below w5.heap.size w5 wr ∧ Blk wr w5.heap.size #[.int .i64 (lxM L (K.take k)).1, .int .i64 (lxM L (K.take k)).2] 50) (fun i _ => K.length - (intOf i).toNat)
        case atStart => exact ⟨0, Nat.zero_le _, rfl, HBY.out, HN9.out⟩
        case round =>
          obtain ⟨k, hk, rfl, hbel, h9⟩ := hrel
          clear HN9 HBY hsz
          by_cases hlt : k < K.length
          · obtain ⟨h, hx⟩ : ∃ h, K[k]? = some h := ⟨_, List.getElem?_eq_getElem hlt⟩
            have HLT := Lib.hid (show k + 1 ≤ K.length by omega)
            have hkk := HLR.out.2 h (List.mem_of_getElem? hx)
            have HTK := Lib.hid (lxM_take L hx)
            obtain ⟨g, o, rfl, hc⟩ := HHK.out k _ hx
            obtain ⟨t1, t2, t3⟩ := hc.to hbel
            (try simp only at t1 t2 t3)
            have l1 := block_lt_of_cell t1
            have hmo := (okR_iff _ _).1 (lxM_ok HLR.out.1 HLn.out (K.take k) (fun x hx => HLR.out.2 x (List.mem_of_mem_take hx)))
            have hlo := (okR_iff _ _).1 (lx_ok HLR.out.1 HLn.out hkk).1
            have HLS := Lib.hid (fun V (q : Below w5.heap.size w5 V) => impl_lsa ag L.length cg L h V rfl (by have := HL40.out.1; omega) HL40.out.2 HLR.out.1 HLn.out hkk (HHL.out.below q))
            have HMX := Lib.hid (fun V => impl_max (lxM L (K.take k)).1 (lxM L (K.take k)).2 (lxN L h) (lxD L h) V (by omega) (by omega) (by omega) (by omega) (by omega) (by omega) (by omega) (by omega))
            rw [← HTK.out] at HMX
            clear hmo hlo hx hc hkk
            generalize lxN L h = xN at *
            generalize lxD L h = xD at *
            generalize (lxM L (K.take k)).1 = mN at *
            generalize (lxM L (K.take k)).2 = mD at *
            generalize hM1 : (lxM L (K.take (k + 1))).1 = M1 at *
            generalize hM2 : (lxM L (K.take (k + 1))).2 = M2 at *
            obtain ⟨ha, hb, hc⟩ := h
            have bX := below_to hbel (below_one wr (.cells #[.int .i64 ha, .int .i64 hb, .int .i64 hc] 39))
            have N11 := blk_new wr #[.int .i64 ha, .int .i64 hb, .int .i64 hc] 39 rfl
            have X9 := h9.to (below_one wr (.cells #[.int .i64 ha, .int .i64 hb, .int .i64 hc] 39))
            have l9 := X9.lt
            have X2 := (HZ2.out.to hbel).to (below_one wr (.cells #[.int .i64 ha, .int .i64 hb, .int .i64 hc] 39))
            have e0 := X2.cell0 (i := 0) rfl
            have m0 := X9.cell0 (i := 0) rfl
            have m1 := X9.cell0 (i := 1) rfl
            have fm0 := X9.free 0
            have fm1 := X9.free 1
            have d0 := N11.cell0 (i := 0) rfl
            have d1 := N11.cell0 (i := 1) rfl
            have d2 := N11.cell0 (i := 2) rfl
            go_wp2_with fail
            generalize wr.alloc (.cells #[.int .i64 ha, .int .i64 hb, .int .i64 hc] 39) = X at *
            go_region_with (first | (go_at_call 67; (with_reducible refine (HLS.out _ ?_).mono ?_); (focus (repeat (first | exact bX | refine below_drw ?_ | refine below_to ?_ (by assumption)))); rintro e w7 ⟨rfl, bl7⟩; have E9 : Blk w7 _ _ _ := X9.to (by repeat (first | exact Below.refl _ _ | refine below_bx2 ?_ _ | refine below_drw ?_ | refine below_to ?_ (by assumption))); have m0' := E9.cell0 (i := 0) rfl; have m1' := E9.cell0 (i := 1) rfl) | (go_at_call 66; (with_reducible refine (HMX.out _).mono ?_); rintro e w8 ⟨rfl, bl8⟩; have F9 : Blk w8 _ _ _ := X9.to (by repeat (first | exact Below.refl _ _ | refine below_bx2 ?_ _ | refine below_drw ?_ | refine below_to ?_ (by assumption))); have fm0' := F9.free 0; have fm1' := F9.free 1; have n0' := F9.cell0 (i := 0) rfl; have n1' := F9.cell0 (i := 1) rfl))
            all_goals
              have b8 : Below w5.heap.size w5 w8 := below_to bX (by repeat (first | exact Below.refl _ _ | refine below_bx2 ?_ _ | refine below_drw ?_ | refine below_to ?_ (by assumption)))
              have HF9 := Lib.hid (blk_set2 F9 (.int .i64 M1) (.int .i64 M2))
              have HB8 := Lib.hid ((b8.setCell (p := ⟨w5.heap.size, 0, none⟩) (Nat.le_refl _) (.int .i64 M1)).setCell (p := ⟨w5.heap.size, 1, none⟩) (Nat.le_refl _) (.int .i64 M2))
              clear b8 F9
              (try clear E9)
              go_wp2_with fail
              go_roundw
              case rel => exact ⟨k + 1, HLT.out, by go_num, HB8.out, by rw [hM1, hM2]; exact HF9.out⟩
              case measure => (have := HLT.out; simp [intOf]; omega)
          · have hkn : k = K.length := by omega
            subst hkn
            rw [List.take_length] at h9
            have hbw := below_to HB.out hbel
            have X1 := HZ1.out.to hbel
            have q0 := X1.cell0 (i := 0) (v := .int .i64 0) rfl
            have q1 := X1.cell0 (i := 1) (v := .int .i64 0) rfl
            have f0 := X1.free 0
            have f1 := X1.free 1
            have r0 := h9.cell0 (i := 0) rfl
            have r1 := h9.cell0 (i := 1) rfl
            have HBF := Lib.hid ((hbw.setCell (p := ⟨w.heap.size + 1, 0, none⟩) (Nat.le_add_right _ _) (.int .i64 (lxM L K).1)).setCell (p := ⟨w.heap.size + 1, 1, none⟩) (Nat.le_add_right _ _) (.int .i64 (lxM L K).2))
            clear h9 X1 HZ1 HZ2 hbw hbel
            go_wp2_with fail
            exact bodyPost_ret (v := .tuple #[.agg #[.int .i64 (lxM L K).1, .int .i64 (lxM L K).2], .bool true]) (by simp [results, Tryz.results23, go_sem, q0, q1]) rfl ⟨by rw [HYES.out.1, HYES.out.2], HBF.out⟩
end Go.Proofs.YtdjjncofahnaaaaGreat
