/- The contract of the model's l05Sorted over the translation. -/
import Derived.Test.YtobmaajfdpcfmaaSc
namespace Go.Proofs.Ytobmaajfdpcfmaa
open Go.RowKit
open Geo (H3)

theorem srt_ok {hs : List H3} (h : hs.all okB = true) : ∀ x ∈ Geo.srt hs, okB x = true := by
  have s := Geo.srt_srt hs fun x hx => okB_nz (List.all_eq_true.1 h x hx)
  exact fun x hx => List.all_eq_true.1 h x (s.2.1 x hx)
theorem srt_next {hs : List H3} {k : Nat} {x : H3} (h : hs[k]? = some x) : Geo.srt (hs.take (k + 1)) = Geo.insS (Geo.srt (hs.take k)) x := by
  unfold Geo.srt; rw [List.take_add_one, h, List.foldl_append]; rfl
theorem insS_len (L : List H3) (h : H3) : (Geo.insS L h).length ≤ L.length + 1 := by
  induction L with
  | nil => simp [Geo.insS]
  | cons x L ih => unfold Geo.insS; split
                   · simp only [List.length_cons]; omega
                   · split <;> simp
theorem srt_len (hs : List H3) : (Geo.srt hs).length ≤ hs.length := by
  have key : ∀ (l E : List H3), (l.foldl Geo.insS E).length ≤ E.length + l.length := by
    intro l
    induction l with
    | nil => intro E; simp
    | cons h l ih => intro E; have := ih (Geo.insS E h); have := insS_len E h; simp only [List.foldl_cons, List.length_cons]; omega
  have := key hs []; simpa [Geo.srt] using this
theorem own3_empty (w : World) (B : Nat) (hB : B ≤ w.heap.size) : (w.alloc (.cells #[] 34)).ownsRow B 34 3 (.slice (some ⟨w.heap.size, 0, none⟩) 0 0) 0 (flat []) :=
  own3_new w B 34 [] 0 #[] rfl rfl (Nat.zero_le _) hB
set_option maxRecDepth 100000 in
set_option maxHeartbeats 8000000 in
theorem spec_sorted (a : Option Addr) (n cap : Nat) (hs : List H3) (w : World) (hl : hs.length = n) (hn : n ≤ 900) (hok : hs.all okB = true) (hA : HsAt w a hs) :
    Calls Try.prog 126 #[.slice a n cap] w (CutW w w.heap.size (Geo.srt hs)) := by
  obtain ⟨i0, hi, hz0, hz1, hz2⟩ := info_parts Try.info34
  have HL := Lib.hid hl
  have HA := Lib.hid hA
  have HOK := Lib.hid hok
  clear hl hA hok
  go_enter Try.func126, Try.ntmps126
  go_wp2
  have bV := below_one w (.cells #[] 34)
  have HV := Lib.hid (own3_empty w w.heap.size (Nat.le_refl _))
  generalize w.alloc (.cells #[] 34) = V at *
  go_loopw [3, 11] (fun v i wr => ∃ (k m g cp : Nat), k ≤ n ∧ i = .int .i64 k ∧ v = .slice (some ⟨g, 0, none⟩) m cp ∧ wr.ownsRow w.heap.size 34 3 (.slice (some ⟨g, 0, none⟩) m cp) m (flat (Geo.srt (hs.take k))) ∧ Below w.heap.size w wr) (fun _ i _ => n - (intOf i).toNat)
  case atStart => exact ⟨0, 0, w.heap.size, 0, Nat.zero_le _, rfl, rfl, HV.out, bV⟩
  case round =>
    obtain ⟨k, m, g, cp, hk, rfl, rfl, hov, hbel⟩ := hrel
    have H0 := Lib.hid hov
    have hm := (own3_view hov).1
    have hm2 := srt_len (hs.take k)
    rw [hm, List.length_take] at hm2
    have hgl := (own_free hov 0).2
    clear hov
    by_cases hlt : k < n
    · obtain ⟨⟨xa, xb, xc⟩, hx⟩ : ∃ x, hs[k]? = some x := ⟨_, List.getElem?_eq_getElem (by rw [HL.out]; exact hlt)⟩
      have hox : okH xa xb xc = true := List.all_eq_true.1 HOK.out _ (List.mem_of_getElem? hx)
      have HX := Lib.hid (srt_next hx)
      have hLok := srt_ok (take_ok HOK.out k)
      obtain ⟨g', o', rfl, hcx⟩ := HA.out k _ hx
      obtain ⟨t1, t2, t3⟩ := hcx.to hbel
      have l1 := block_lt_of_cell t1
      simp only at t1 t2 t3 l1
      generalize hLe : Geo.srt (hs.take k) = L at *
      have HM := Lib.hid hm
      have HLO := Lib.hid hLok
      have HOX := Lib.hid hox
      have hpl := pos_le L ⟨xa, xb, xc⟩
      rw [hm] at hpl
      obtain ⟨p, hp⟩ : ∃ p, posS L ⟨xa, xb, xc⟩ = p := ⟨_, rfl⟩
      rw [hp] at hpl
      have HPS := Lib.hid hp
      clear hx hcx hm hLok hox hLe hp
      go_wp2
      have r5 := tri_new wr (.int .i64 xa) (.int .i64 xb) (.int .i64 xc) 34
      have bX := below_bx2 hbel (.cells #[.int .i64 xa, .int .i64 xb, .int .i64 xc] 34)
      have H1 := Lib.hid (own_below H0.out (below_one wr (.cells #[.int .i64 xa, .int .i64 xb, .int .i64 xc] 34)))
      clear t1 t2 t3 H0
      generalize wr.alloc (.cells #[.int .i64 xa, .int .i64 xb, .int .i64 xc] 34) = X at *
      obtain ⟨b5, hb5⟩ : ∃ b, wr.heap.size = b := ⟨_, rfl⟩
      rw [hb5] at r5 hgl ⊢
      clear hb5
      go_loopw [6] (fun t wy => ∃ q : Nat, q ≤ p ∧ t = .int .i64 q ∧ Below X.heap.size X wy) (fun t _ => p - (intOf t).toNat)
      case atStart => exact ⟨0, Nat.zero_le _, rfl, Below.refl _ _⟩
      case round =>
        obtain ⟨q, hq, rfl, hby⟩ := hrel
        have H2 := Lib.hid (own_below H1.out hby)
        have r6 := r5.to hby
        have bw := below_to bX hby
        by_cases hqp : q < p
        · have hqm : q < m := by omega
          have hqi : (q : Int) < (m : Int) := by omega
          obtain ⟨⟨ya, yb, yc⟩, hy, c1, c2, c3, f1, f2, f3, _, _⟩ := own3_at H2.out hqm
          have hbf : befV ya yb xa xb = true := by
            have := pos_lt (h := ⟨xa, xb, xc⟩) (by rw [HPS.out]; exact hqp) hy
            rwa [bef_V] at this
          have HB := Lib.hid (fun W => sbef_call (HLO.out _ (List.mem_of_getElem? hy)) HOX.out hbf W)
          have ry : Tri wr g (q * 3) (.int .i64 ya) (.int .i64 yb) (.int .i64 yc) := ⟨c1, c2, c3⟩
          obtain ⟨d1, d2, d3⟩ := id r6
          simp only at c1 c2 c3 HB
          clear hy hbf f1 f2 f3
          go_wp2_with fail
          go_region_held3 (fun w' => w'.cell? ⟨g, q * 3, none⟩ = some (.int .i64 ya) ∧ w'.cell? ⟨g, q * 3 + 1, none⟩ = some (.int .i64 yb) ∧ w'.cell? ⟨g, q * 3 + 2, none⟩ = some (.int .i64 yc) ∧ w'.cell? ⟨b5, 0, none⟩ = some (.int .i64 xa) ∧ w'.cell? ⟨b5, 1, none⟩ = some (.int .i64 xb) ∧ w'.cell? ⟨b5, 2, none⟩ = some (.int .i64 xc))
            ((refine Tri.six ?_ ry r6; repeat (first | exact Below.refl _ _ | refine below_drw ?_ | refine below_to ?_ (by assumption))))
            ((go_at_call 140; (with_reducible refine (HB.out _).mono ?_); rintro e w3 ⟨rfl, bl3⟩))
          all_goals
            go_wp2
            go_roundw
            case rel => exact ⟨q + 1, by omega, by go_num, below_to (below_to (below_drw hby) bl3) (Below.refl _ _)⟩
            case measure => simp [intOf]; omega
        · have hqe : q = p := by omega
          subst hqe
          by_cases hqm : q < m
          · have hqi : (q : Int) < (m : Int) := by omega
            obtain ⟨⟨ya, yb, yc⟩, hy, c1, c2, c3, f1, f2, f3, _, _⟩ := own3_at H2.out hqm
            have hbf : befV ya yb xa xb = false := by
              have := pos_at (L := L) (h := ⟨xa, xb, xc⟩) (x := ⟨ya, yb, yc⟩) (by rw [HPS.out]; exact hy)
              rwa [bef_V] at this
            have hyo : okH ya yb yc = true := HLO.out _ (List.mem_of_getElem? hy)
            have HB := Lib.hid (fun W => sbef_call hyo HOX.out hbf W)
            have HYO := Lib.hid hyo
            have HY := Lib.hid hy
            have ry : Tri wr g (q * 3) (.int .i64 ya) (.int .i64 yb) (.int .i64 yc) := ⟨c1, c2, c3⟩
            obtain ⟨d1, d2, d3⟩ := id r6
            simp only at c1 c2 c3
            clear hy hbf f1 f2 f3 hyo
            go_wp2_with fail
            go_region_held3 (fun w' => w'.cell? ⟨g, q * 3, none⟩ = some (.int .i64 ya) ∧ w'.cell? ⟨g, q * 3 + 1, none⟩ = some (.int .i64 yb) ∧ w'.cell? ⟨g, q * 3 + 2, none⟩ = some (.int .i64 yc) ∧ w'.cell? ⟨b5, 0, none⟩ = some (.int .i64 xa) ∧ w'.cell? ⟨b5, 1, none⟩ = some (.int .i64 xb) ∧ w'.cell? ⟨b5, 2, none⟩ = some (.int .i64 xc))
              ((refine Tri.six ?_ ry r6; repeat (first | exact Below.refl _ _ | refine below_drw ?_ | refine below_to ?_ (by assumption))))
              ((go_at_call 140; (with_reducible refine (HB.out _).mono ?_); rintro e w3 ⟨rfl, bl3⟩))
            have bl4 := below_to (below_drw (Below.refl _ _)) bl3
            have ry' := ry.to bl4
            have r7 := r6.to bl4
            have H3 := Lib.hid (own_below H2.out bl4)
            have bw4 := below_to bw bl4
            clear bl3 bl4 ry r6 H2 c1 c2 c3 d1 d2 d3 bw HB
            obtain ⟨c1, c2, c3⟩ := id ry'
            obtain ⟨d1, d2, d3⟩ := id r7
            go_wp2_with fail
            cases hsd : sdV ya yb xa xb with
            | true =>
              have HS := Lib.hid (fun W => ssd_call HYO.out HOX.out hsd W)
              have HT := Lib.hid (fun W => stig_call HYO.out HOX.out hsd W)
              have HE := Lib.hid (ins_set (L := L) (h := ⟨xa, xb, xc⟩) (x := ⟨ya, yb, yc⟩) (by rw [HPS.out]; exact HY.out) (by rw [sd_V]; exact hsd))
              rw [HPS.out] at HE
              clear hsd
              go_region_held3 (fun w' => w'.cell? ⟨g, q * 3, none⟩ = some (.int .i64 ya) ∧ w'.cell? ⟨g, q * 3 + 1, none⟩ = some (.int .i64 yb) ∧ w'.cell? ⟨g, q * 3 + 2, none⟩ = some (.int .i64 yc) ∧ w'.cell? ⟨b5, 0, none⟩ = some (.int .i64 xa) ∧ w'.cell? ⟨b5, 1, none⟩ = some (.int .i64 xb) ∧ w'.cell? ⟨b5, 2, none⟩ = some (.int .i64 xc))
                ((refine Tri.six ?_ ry' r7; repeat (first | exact Below.refl _ _ | refine below_drw ?_ | refine below_to ?_ (by assumption))))
                ((go_at_call 141; (with_reducible refine (HS.out _).mono ?_); rintro e w5 ⟨rfl, bl5⟩))
              have bl6 := below_to (below_drw (Below.refl _ _)) bl5
              have ry6 := ry'.to bl6
              have r8 := r7.to bl6
              have H5 := Lib.hid (own_below H3.out bl6)
              have bw5 := below_to bw4 bl6
              obtain ⟨c1, c2, c3⟩ := id ry6
              obtain ⟨d1, d2, d3⟩ := id r8
              generalize Geo.tig ⟨ya, yb, yc⟩ ⟨xa, xb, xc⟩ = tg at *
              clear HS bl5 bl6 ry' r7 H3 bw4
              go_wp2_with fail
              go_region_law (first | (go_simp; go_at_call 142; (with_reducible refine (HT.out _).mono ?_); rintro e w6 ⟨rfl, bl6⟩; have H6 := Lib.hid (own_below H5.out (below_to (below_drw (Below.refl _ _)) bl6)); obtain ⟨v6, _, e1, e2, e3, f1, f2, f3, hgB, hgl6⟩ := own3_at H6.out hqm))
              all_goals
                have HQ := Lib.hid (own3_put H6.out q tg)
                have bw6 := below_to (below_drw bw5) bl6
                clear e1 e2 e3 f1 f2 f3 H6 H5 bw5 bl6 c1 c2 c3 d1 d2 d3 ry6 r8
                go_wp2
                go_roundw
                case rel => exact ⟨k + 1, m, g, cp, by omega, by go_num, rfl, by rw [HX.out, HE.out]; exact HQ.out, below_row (below_row (below_row bw6 hgB _) hgB _) hgB _⟩
                case measure => simp [intOf]; omega
            | false =>
              have HS := Lib.hid (fun W => ssd_call HYO.out HOX.out hsd W)
              have HEI := Lib.hid (ins_ins (L := L) (h := ⟨xa, xb, xc⟩) (by rw [HPS.out, HY.out]; intro x hx; rw [← Option.some.inj hx, sd_V]; exact hsd))
              rw [HPS.out] at HEI
              clear hsd
              go_region_held3 (fun w' => w'.cell? ⟨g, q * 3, none⟩ = some (.int .i64 ya) ∧ w'.cell? ⟨g, q * 3 + 1, none⟩ = some (.int .i64 yb) ∧ w'.cell? ⟨g, q * 3 + 2, none⟩ = some (.int .i64 yc) ∧ w'.cell? ⟨b5, 0, none⟩ = some (.int .i64 xa) ∧ w'.cell? ⟨b5, 1, none⟩ = some (.int .i64 xb) ∧ w'.cell? ⟨b5, 2, none⟩ = some (.int .i64 xc))
                ((refine Tri.six ?_ ry' r7; repeat (first | exact Below.refl _ _ | refine below_drw ?_ | refine below_to ?_ (by assumption))))
                ((go_at_call 141; (with_reducible refine (HS.out _).mono ?_); rintro e W ⟨rfl, bl5⟩))
              have bl6 := below_to (below_drw (Below.refl _ _)) bl5
              have rW := r7.to bl6
              have HW := Lib.hid (own_below H3.out bl6)
              have bwW := below_to bw4 bl6
              clear HS bl5 bl6 ry' r7 H3 bw4 c1 c2 c3 d1 d2 d3 HYO HY
              have lb5 := block_lt_of_cell rW.1
              simp only at lb5
              have RW := Lib.hid rW
              obtain ⟨d1, d2, d3⟩ := rW
              have n5 : some b5 ≠ (Value.slice (some ⟨g, 0, none⟩) m cp).ownBlock := by simp [Value.ownBlock]; omega
              go_wp2_with (at_builtin; refine wpList_append_lies _ rfl _ _ 23 rfl w.heap.size 34 i0 (.agg #[.int .i64 0, .int .i64 0, .int .i64 0]) 3 24 Try.underlying23 hi hz0 hz1 hz2 rfl (by decide) (.slice (some ⟨g, 0, none⟩) m cp) m _ rfl (own_below HW.out (below_one _ _)) ⟨W.heap.size, 0, none⟩ 1 1 [.int .i64 0, .int .i64 0, .int .i64 0] rfl rfl (World.news_of_block (cs := #[.int .i64 0, .int .i64 0, .int .i64 0]) (t := 34) (fr := (0, 0)) (heap_alloc_new W _)) (by simp [Value.oneCell']) (by omega) (by unfold maxLen; omega) (by omega) (by have := bwW.size; simp; omega) _ rfl ?_; intro gg cap' w7 hown7 hgrow hat hlt7; have r8 := (RW.out.to (below_one _ _)).far hgrow n5; have b7 : Below w.heap.size w w7 := (Below.grown (below_bx2 bwW _) hgrow (by have := bwW.size; simp; omega) (fun p hp => own_base_le HW.out hp)); have H7 := Lib.hid hown7; have hgn : gg ≠ b5 := (by rcases hat with h | h <;> simp [Value.ownBlock] at h <;> omega); have R8 := Lib.hid r8; clear hown7 hgrow hat r8 d1 d2 d3)
              have H8 := Lib.hid (show w7.ownsRow w.heap.size 34 3 (.slice (some ⟨gg, 0, none⟩) (m + 1) cap') (m + 1) (flat (upT L m)) by
                rw [upT_start L m HM.out, flat_app]; exact H7.out)
              clear H7 HW RW n5
              go_loopw [7] (fun t wz => ∃ j : Nat, q ≤ j ∧ j ≤ m ∧ t = .int .i64 j ∧ wz.ownsRow w.heap.size 34 3 (.slice (some ⟨gg, 0, none⟩) (m + 1) cap') (m + 1) (flat (upT L j)) ∧ Tri wz b5 0 (.int .i64 xa) (.int .i64 xb) (.int .i64 xc) ∧ Below w.heap.size w wz) (fun t _ => (intOf t).toNat)
              case atStart => exact ⟨m, hpl, Nat.le_refl _, by go_num, H8.out, R8.out, b7⟩
              case round =>
                obtain ⟨j, hj1, hj2, rfl, hoz, rz, hbz⟩ := hrel
                have HZ := Lib.hid hoz
                have hgB := (own_free hoz 0).2.1
                clear hoz
                by_cases hqj : q < j
                · obtain ⟨i, rfl⟩ : ∃ i, j = i + 1 := ⟨j - 1, by omega⟩
                  have hil : i < L.length := by rw [HM.out]; omega
                  obtain ⟨v1, hv1, c1, c2, c3, _, _, _, _, _⟩ := own3_at HZ.out (show i < m + 1 by omega)
                  obtain ⟨v2, _, e1, e2, e3, f1, f2, f3, _, hgl2⟩ := own3_at HZ.out (show i + 1 < m + 1 by omega)
                  rw [(upT_at hil).1] at hv1
                  obtain rfl := Option.some.inj hv1
                  have HU := Lib.hid (upT_at hil).2
                  have HQ := Lib.hid (own3_put HZ.out (i + 1) L[i])
                  have s1 : ((i : Int) + 1 - 1) = (i : Int) := by omega
                  have s2 : ((i + 1 : Nat) : Int) - 1 = (i : Int) := by omega
                  generalize L[i] = u at *
                  clear hv1
                  go_wp2
                  go_roundw
                  case rel => exact ⟨i, by omega, by omega, by go_num, by rw [← HU.out]; exact HQ.out, tri_far (tri_far (tri_far rz hgn _) hgn _) hgn _, below_row (below_row (below_row hbz hgB _) hgB _) hgB _⟩
                  case measure => simp [intOf]
                · obtain rfl : j = q := by omega
                  obtain ⟨v2, _, e1, e2, e3, f1, f2, f3, _, hgl2⟩ := own3_at HZ.out (show j < m + 1 by omega)
                  have HU := Lib.hid (upT_end (p := j) (⟨xa, xb, xc⟩ : Geo.H3) (show j ≤ L.length by rw [HM.out]; exact hpl))
                  have HQ := Lib.hid (own3_put HZ.out j ⟨xa, xb, xc⟩)
                  obtain ⟨d1, d2, d3⟩ := id rz
                  go_wp2
                  go_roundw
                  case rel => exact ⟨k + 1, m + 1, gg, cap', by omega, by go_num, rfl, by rw [HX.out, HEI.out, ← HU.out]; exact HQ.out, below_row (below_row (below_row hbz hgB _) hgB _) hgB _⟩
                  case measure => simp [intOf]; omega
          · obtain rfl : q = m := by omega
            have HEI := Lib.hid (ins_ins (L := L) (h := ⟨xa, xb, xc⟩) (by rw [HPS.out, List.getElem?_eq_none (by rw [HM.out]; omega)]; intro x hx; cases hx))
            rw [HPS.out] at HEI
            have hgf : decide (q < q) = false := by simp
            go_wp2_with fail
            go_quiet (fail)
            have r7 : Tri (wr.drewN nq) b5 0 (.int .i64 xa) (.int .i64 xb) (.int .i64 xc) := r6
            have H3 := Lib.hid (own_drewN H2.out nq)
            have bw4 : Below w.heap.size w (wr.drewN nq) := below_drew bw _
            generalize wr.drewN nq = W1 at *
            clear r6 H2 bw hby
            go_wp2_with fail
            go_quiet (fail)
            have rW : Tri (W1.drewN nq) b5 0 (.int .i64 xa) (.int .i64 xb) (.int .i64 xc) := r7
            have HW := Lib.hid (own_drewN H3.out nq)
            have bwW : Below w.heap.size w (W1.drewN nq) := below_drew bw4 _
            generalize W1.drewN nq = W at *
            clear r7 H3 bw4 hgf
            have lb5 := block_lt_of_cell rW.1
            simp only at lb5
            have RW := Lib.hid rW
            obtain ⟨d1, d2, d3⟩ := rW
            have n5 : some b5 ≠ (Value.slice (some ⟨g, 0, none⟩) q cp).ownBlock := by simp [Value.ownBlock]; omega
            go_wp2_with (at_builtin; refine wpList_append_lies _ rfl _ _ 23 rfl w.heap.size 34 i0 (.agg #[.int .i64 0, .int .i64 0, .int .i64 0]) 3 24 Try.underlying23 hi hz0 hz1 hz2 rfl (by decide) (.slice (some ⟨g, 0, none⟩) q cp) q _ rfl (own_below HW.out (below_one _ _)) ⟨W.heap.size, 0, none⟩ 1 1 [.int .i64 0, .int .i64 0, .int .i64 0] rfl rfl (World.news_of_block (cs := #[.int .i64 0, .int .i64 0, .int .i64 0]) (t := 34) (fr := (0, 0)) (heap_alloc_new W _)) (by simp [Value.oneCell']) (by omega) (by unfold maxLen; omega) (by omega) (by have := bwW.size; simp; omega) _ rfl ?_; intro gg cap' w7 hown7 hgrow hat hlt7; have r8 := (RW.out.to (below_one _ _)).far hgrow n5; have b7 : Below w.heap.size w w7 := (Below.grown (below_bx2 bwW _) hgrow (by have := bwW.size; simp; omega) (fun p hp => own_base_le HW.out hp)); have H7 := Lib.hid hown7; have hgn : gg ≠ b5 := (by rcases hat with h | h <;> simp [Value.ownBlock] at h <;> omega); have R8 := Lib.hid r8; clear hown7 hgrow hat r8 d1 d2 d3)
            have H8 := Lib.hid (show w7.ownsRow w.heap.size 34 3 (.slice (some ⟨gg, 0, none⟩) (q + 1) cap') (q + 1) (flat (upT L q)) by
              rw [upT_start L q HM.out, flat_app]; exact H7.out)
            clear H7 HW RW n5
            go_loopw [7] (fun t wz => ∃ j : Nat, q ≤ j ∧ j ≤ q ∧ t = .int .i64 j ∧ wz.ownsRow w.heap.size 34 3 (.slice (some ⟨gg, 0, none⟩) (q + 1) cap') (q + 1) (flat (upT L j)) ∧ Tri wz b5 0 (.int .i64 xa) (.int .i64 xb) (.int .i64 xc) ∧ Below w.heap.size w wz) (fun t _ => (intOf t).toNat)
            case atStart => exact ⟨q, hpl, Nat.le_refl _, by go_num, H8.out, R8.out, b7⟩
            case round =>
              obtain ⟨j, hj1, hj2, rfl, hoz, rz, hbz⟩ := hrel
              have HZ := Lib.hid hoz
              have hgB := (own_free hoz 0).2.1
              clear hoz
              by_cases hqj : q < j
              · exact absurd hqj (by omega)
              · obtain rfl : j = q := by omega
                obtain ⟨v2, _, e1, e2, e3, f1, f2, f3, _, hgl2⟩ := own3_at HZ.out (show j < j + 1 by omega)
                have HU := Lib.hid (upT_end (p := j) (⟨xa, xb, xc⟩ : Geo.H3) (show j ≤ L.length by rw [HM.out]; exact hpl))
                have HQ := Lib.hid (own3_put HZ.out j ⟨xa, xb, xc⟩)
                obtain ⟨d1, d2, d3⟩ := id rz
                go_wp2
                go_roundw
                case rel => exact ⟨k + 1, j + 1, gg, cap', by omega, by go_num, rfl, by rw [HX.out, HEI.out, ← HU.out]; exact HQ.out, below_row (below_row (below_row hbz hgB _) hgB _) hgB _⟩
                case measure => simp [intOf]; omega
    · have hkn : k = n := by omega
      subst hkn
      clear hm
      go_wp2
      go_ret
      have := H0.out
      rw [List.take_of_length_le (by rw [HL.out]; omega)] at this
      exact CutW.same this hbel
end Go.Proofs.Ytobmaajfdpcfmaa
