/- GrowAlong of the model over the translation. -/
import Derived.Test.YtefafkainfhhkaaGt
namespace Go.Proofs.Ytefafkainfhhkaa
open Go.RowKit Go.Shelf
open Geo (H3)

theorem regL_swap {fu xs : List H3} (hok : (xs ++ fu).all okB = true) : regL (fu ++ xs) = regL (xs ++ fu) := by
  have h2 : (fu ++ xs).all okB = true := by rw [List.all_append, Bool.and_comm, ← List.all_append]; exact hok
  rw [← mod_reg hok]
  exact (mod_of hok (Inv_swap (regL_inv h2) fun x => by
    simp only [List.mem_append]
    constructor
    · rintro (h | h | h) <;> simp [h]
    · rintro ((h | h) | h) <;> simp [h])).symm
theorem okF_swap (fu xs : List H3) : okF (xs ++ fu) = okF (fu ++ xs) ∧ regE (xs ++ fu) = regE (fu ++ xs) := by
  by_cases hok : (xs ++ fu).all okB = true
  · have h2 : (fu ++ xs).all okB = true := by rw [List.all_append, Bool.and_comm, ← List.all_append]; exact hok
    have e : okF (xs ++ fu) = okF (fu ++ xs) := by
      unfold okF
      rw [hok, h2, regL_swap hok, List.length_append, List.length_append, Nat.add_comm]
    refine ⟨e, ?_⟩
    unfold regE
    rw [e, regL_swap hok]
  · have h2 : ¬ (fu ++ xs).all okB = true := by rw [List.all_append, Bool.and_comm, ← List.all_append]; exact hok
    have e1 : okF (xs ++ fu) = false := by unfold okF; simp [hok]
    have e2 : okF (fu ++ xs) = false := by unfold okF; simp [h2]
    exact ⟨by rw [e1, e2], by unfold regE; rw [e1, e2]; simp⟩
/-- the model's list gives the program's answer -/
theorem grn_yes {ps : List H3} {bx cy lo hi : Int} (h : gwC ps bx cy lo hi = true) (n : ps ≠ []) (z : ¬ (bx = 0 ∧ cy = 0)) (t : (ps.all (grB bx cy lo hi) && (gwD bx cy).all (tcT ps)) = true) :
    gwL ps bx cy lo hi = regE (ps.map (grM bx cy lo hi) ++ (gwD bx cy).map (tcU ps)) ∧ gwB ps bx cy lo hi = okF (ps.map (grM bx cy lo hi) ++ (gwD bx cy).map (tcU ps)) ∧ (ps.map (grM bx cy lo hi) ++ (gwD bx cy).map (tcU ps)).all okB = true := by
  rw [Bool.and_eq_true] at t
  obtain ⟨t1, t2⟩ := t
  rw [(gw_DU ps bx cy).2] at t2
  rw [(gw_DU ps bx cy).1]
  obtain ⟨y1, y2⟩ := gw_yes (lo := lo) (hi := hi) h n z t2
  obtain ⟨m1, m2⟩ := mv_yes (M := grM bx cy lo hi) (fu := gwU ps bx cy) n t1
  obtain ⟨s1, s2⟩ := okF_swap (gwU ps bx cy) (ps.map (grM bx cy lo hi))
  refine ⟨by rw [y1, m1, s2], by rw [y2, m2, s1], ?_⟩
  rw [List.all_append, map_ok (gr_ok bx cy lo hi) t1, Bool.true_and, List.all_eq_true]
  intro x hx
  unfold gwT at t2
  rw [Bool.and_eq_true] at t2
  unfold gwU at hx
  simp only [List.mem_cons, List.not_mem_nil, or_false] at hx
  rcases hx with rfl | rfl
  · exact red_ok t2.1
  · exact red_ok t2.2
theorem grn_no {ps : List H3} {bx cy lo hi : Int} (n : ps ≠ []) (z : ¬ (bx = 0 ∧ cy = 0)) (t : (ps.all (grB bx cy lo hi) && (gwD bx cy).all (tcT ps)) = false) : gwL ps bx cy lo hi = [] ∧ gwB ps bx cy lo hi = false := by
  rw [(gw_DU ps bx cy).2] at t
  cases t2 : gwT ps bx cy with
  | false => exact gw_tno n z t2
  | true =>
    rw [t2, Bool.and_true] at t
    have mb : mvB (grB bx cy lo hi) (grM bx cy lo hi) (gwU ps bx cy) ps = false := by unfold mvB; rw [t]; simp [n]
    cases h : gwC ps bx cy lo hi with
    | false => exact gw_no h
    | true =>
      obtain ⟨y1, y2⟩ := gw_yes (lo := lo) (hi := hi) h n z t2
      refine ⟨by rw [y1]; unfold mvL; rw [if_neg (by rw [mb]; simp)], by rw [y2, mb]⟩

set_option maxRecDepth 100000 in
set_option maxHeartbeats 3200000 in
theorem spec_grw (a : Option Addr) (n ca : Nat) (ps : List H3) (bx cy lo hi : Int) (w : World) (hl : ps.length = n) (hn : n ≤ 1048576) (h64 : ∀ h ∈ ps, In64 h) (hz : a = none → n = 0 ∧ ca = 0) (hA : HsAt w a ps) :
    Calls Try.prog 19 #[.agg #[.slice a n ca], .int .i64 bx, .int .i64 cy, .int .i64 lo, .int .i64 hi] w (AnsR w (gwL ps bx cy lo hi) (gwB ps bx cy lo hi)) := by
  obtain ⟨i0, hi0, hz0, hz1, hz2⟩ := info_parts Try.info34
  have bV := below_bx2 (below_one w (.cells #[.slice a n ca] 32)) (.cells #[.slice none 0 0] 32)
  have K0 := (blk_new w #[.slice a n ca] 32 rfl).to (below_one _ (.cells #[.slice none 0 0] 32))
  have K1 := blk_new (w.alloc (.cells #[.slice a n ca] 32)) #[.slice none 0 0] 32 (b := w.heap.size + 1) (by simp)
  have HR := Lib.hid (fun V (h : Below w.heap.size w V) => spec_rok a n ca ps V hl hn h64 hz (hA.below h))
  have HG := Lib.hid (fun V (h : Below w.heap.size w V) (n38 : n ≤ 38) (hp : rokB ps = true) (ne : ps ≠ []) (hx : In100 bx) (hy : In100 cy) (hlo : In1k lo) (hhi : In1k hi) (z : ¬ (bx = 0 ∧ cy = 0)) => spec_grn a n ca ps bx cy lo hi V hl n38 hp ne hx hy hlo hhi z (hA.below h))
  have HV := Lib.hid (fun V => spec_void a n ca V)
  have HA := Lib.hid hA
  have HL := Lib.hid hl
  have HNIL := Lib.hid hz
  clear hl hA h64 hz
  have q0 := K0.cell0 (i := 0) (v := .slice a n ca) rfl
  go_enter Try.func19, Try.ntmps19
  go_wp2_with fail
  generalize ((w.alloc (.cells #[.slice a n ca] 32)).alloc (.cells #[.slice none 0 0] 32)) = V at *
  refine (HR.out _ bV).mono ?_
  rintro e w1 ⟨rfl, bl1⟩
  have b1 := below_to bV bl1
  have L0 := K0.to bl1
  have L1 := K1.to bl1
  clear bV bl1 q0 K0 K1 HR
  have q0 := L0.cell0 (i := 0) (v := .slice a n ca) rfl
  have q1 := L1.cell0 (i := 0) (v := .slice none 0 0) rfl
  have f1 := L1.free 0
  cases hk : rokB ps with
  | false =>
    have HN := Lib.hid (gw_no (ps := ps) (bx := bx) (cy := cy) (lo := lo) (hi := hi) (by unfold gwC; rw [hk]; simp))
    clear hk
    go_wp2_with fail
    exact bodyPost_ret (v := .tuple #[.agg #[.slice none 0 0], .bool false]) (by simp [results, Try.results19, go_sem, q1]) rfl (AnsR.no HN.out.1 HN.out.2 (b1.setCell (p := ⟨w.heap.size + 1, 0, none⟩) (Nat.le_add_right _ _) _))
  | true =>
    by_cases h38 : (38 : Int) < (n : Int)
    · have HN := Lib.hid (gw_no (ps := ps) (bx := bx) (cy := cy) (lo := lo) (hi := hi) (by unfold gwC; rw [HL.out, decide_eq_false (show ¬ n ≤ 38 by omega)]; simp))
      have hdd : decide ((38 : Int) < (n : Int)) = true := decide_eq_true h38
      clear hk
      go_wp2_with fail
      exact bodyPost_ret (v := .tuple #[.agg #[.slice none 0 0], .bool false]) (by simp [results, Try.results19, go_sem, q1]) rfl (AnsR.no HN.out.1 HN.out.2 (b1.setCell (p := ⟨w.heap.size + 1, 0, none⟩) (Nat.le_add_right _ _) _))
    have hdd : decide ((38 : Int) < (n : Int)) = false := decide_eq_false h38
    have HC0 := Lib.hid (show gwC ps bx cy lo hi = (inB bx (-100) 100 && inB cy (-100) 100 && inB lo (-1000) 1000 && inB hi lo 1000) by unfold gwC; rw [hk, HL.out, decide_eq_true (show n ≤ 38 by omega)]; simp)
    have HKK := Lib.hid hk
    clear hk
    rcases inB_cases bx (-100) 100 with ⟨c0, s0, t0⟩ | ⟨c0, _⟩
    rotate_left
    · have HN := Lib.hid (gw_no (ps := ps) (bx := bx) (cy := cy) (lo := lo) (hi := hi) (by rw [HC0.out, c0]; simp))
      have HI0 := Lib.hid (fun W => in_spec_is bx (-100) 100 W _ c0)
      go_wp2_with fail
      refine (HI0.out _).mono ?_
      rintro e ww0 ⟨rfl, hww0⟩
      subst hww0
      go_wp2_with fail
      exact bodyPost_ret (v := .tuple #[.agg #[.slice none 0 0], .bool false]) (by simp [results, Try.results19, go_sem, q1]) rfl (AnsR.no HN.out.1 HN.out.2 (b1.setCell (p := ⟨w.heap.size + 1, 0, none⟩) (Nat.le_add_right _ _) _))
    rcases inB_cases cy (-100) 100 with ⟨c1, s1, t1⟩ | ⟨c1, _⟩
    rotate_left
    · have HN := Lib.hid (gw_no (ps := ps) (bx := bx) (cy := cy) (lo := lo) (hi := hi) (by rw [HC0.out, c1]; simp))
      have HI0 := Lib.hid (fun W => in_spec_is bx (-100) 100 W _ c0)
      have HI1 := Lib.hid (fun W => in_spec_is cy (-100) 100 W _ c1)
      go_wp2_with fail
      refine (HI0.out _).mono ?_
      rintro e ww0 ⟨rfl, hww0⟩
      subst hww0
      go_wp2_with fail
      refine (HI1.out _).mono ?_
      rintro e ww1 ⟨rfl, hww1⟩
      subst hww1
      go_wp2_with fail
      exact bodyPost_ret (v := .tuple #[.agg #[.slice none 0 0], .bool false]) (by simp [results, Try.results19, go_sem, q1]) rfl (AnsR.no HN.out.1 HN.out.2 (b1.setCell (p := ⟨w.heap.size + 1, 0, none⟩) (Nat.le_add_right _ _) _))
    rcases inB_cases lo (-1000) 1000 with ⟨c2, s2, t2⟩ | ⟨c2, _⟩
    rotate_left
    · have HN := Lib.hid (gw_no (ps := ps) (bx := bx) (cy := cy) (lo := lo) (hi := hi) (by rw [HC0.out, c2]; simp))
      have HI0 := Lib.hid (fun W => in_spec_is bx (-100) 100 W _ c0)
      have HI1 := Lib.hid (fun W => in_spec_is cy (-100) 100 W _ c1)
      have HI2 := Lib.hid (fun W => in_spec_is lo (-1000) 1000 W _ c2)
      go_wp2_with fail
      refine (HI0.out _).mono ?_
      rintro e ww0 ⟨rfl, hww0⟩
      subst hww0
      go_wp2_with fail
      refine (HI1.out _).mono ?_
      rintro e ww1 ⟨rfl, hww1⟩
      subst hww1
      go_wp2_with fail
      refine (HI2.out _).mono ?_
      rintro e ww2 ⟨rfl, hww2⟩
      subst hww2
      go_wp2_with fail
      exact bodyPost_ret (v := .tuple #[.agg #[.slice none 0 0], .bool false]) (by simp [results, Try.results19, go_sem, q1]) rfl (AnsR.no HN.out.1 HN.out.2 (b1.setCell (p := ⟨w.heap.size + 1, 0, none⟩) (Nat.le_add_right _ _) _))
    rcases inB_cases hi lo 1000 with ⟨c3, s3, t3⟩ | ⟨c3, _⟩
    rotate_left
    · have HN := Lib.hid (gw_no (ps := ps) (bx := bx) (cy := cy) (lo := lo) (hi := hi) (by rw [HC0.out, c3]; simp))
      have HI0 := Lib.hid (fun W => in_spec_is bx (-100) 100 W _ c0)
      have HI1 := Lib.hid (fun W => in_spec_is cy (-100) 100 W _ c1)
      have HI2 := Lib.hid (fun W => in_spec_is lo (-1000) 1000 W _ c2)
      have HI3 := Lib.hid (fun W => in_spec_is hi lo 1000 W _ c3)
      go_wp2_with fail
      refine (HI0.out _).mono ?_
      rintro e ww0 ⟨rfl, hww0⟩
      subst hww0
      go_wp2_with fail
      refine (HI1.out _).mono ?_
      rintro e ww1 ⟨rfl, hww1⟩
      subst hww1
      go_wp2_with fail
      refine (HI2.out _).mono ?_
      rintro e ww2 ⟨rfl, hww2⟩
      subst hww2
      go_wp2_with fail
      refine (HI3.out _).mono ?_
      rintro e ww3 ⟨rfl, hww3⟩
      subst hww3
      go_wp2_with fail
      exact bodyPost_ret (v := .tuple #[.agg #[.slice none 0 0], .bool false]) (by simp [results, Try.results19, go_sem, q1]) rfl (AnsR.no HN.out.1 HN.out.2 (b1.setCell (p := ⟨w.heap.size + 1, 0, none⟩) (Nat.le_add_right _ _) _))
    have HI0 := Lib.hid (fun W => in_spec_is bx (-100) 100 W _ c0)
    have HI1 := Lib.hid (fun W => in_spec_is cy (-100) 100 W _ c1)
    have HI2 := Lib.hid (fun W => in_spec_is lo (-1000) 1000 W _ c2)
    have HI3 := Lib.hid (fun W => in_spec_is hi lo 1000 W _ c3)
    have HCC := Lib.hid (show gwC ps bx cy lo hi = true by rw [HC0.out, c0, c1, c2, c3]; rfl)
    clear c0 c1 c2 c3 HC0
    go_wp2_with fail
    refine (HI0.out _).mono ?_
    rintro e ww0 ⟨rfl, hww0⟩
    subst hww0
    go_wp2_with fail
    refine (HI1.out _).mono ?_
    rintro e ww1 ⟨rfl, hww1⟩
    subst hww1
    go_wp2_with fail
    refine (HI2.out _).mono ?_
    rintro e ww2 ⟨rfl, hww2⟩
    subst hww2
    go_wp2_with fail
    refine (HI3.out _).mono ?_
    rintro e ww3 ⟨rfl, hww3⟩
    subst hww3
    clear HI0 HI1 HI2 HI3
    go_upto_region 3 with fail
    go_cut [54] from 45 to 54 (fun s54 wx => s54 = .bool (decide (n = 0 ∨ (bx = 0 ∧ cy = 0))) ∧ Below ww3.heap.size ww3 wx)
    case first =>
      go_wp2_with fail
      refine (HV.out _).mono ?_
      rintro e w2 ⟨rfl, bl2⟩
      by_cases h0 : n = 0
      · have e0 : ((n : Int) == 0) = true := by subst h0; rfl
        have HS := Lib.hid (show decide (n = 0 ∨ (bx = 0 ∧ cy = 0)) = true from decide_eq_true (.inl h0))
        clear h0
        go_wp2_with fail
        go_meet
        exact ⟨by rw [HS.out], bl2⟩
      · have e0 : ((n : Int) == 0) = false := eq_b (by omega)
        by_cases hb : bx = 0
        · have e1 : (bx == 0) = true := by simpa using hb
          by_cases hc : cy = 0
          · have HS := Lib.hid (show decide (n = 0 ∨ (bx = 0 ∧ cy = 0)) = true from decide_eq_true (.inr ⟨hb, hc⟩))
            have e2 : (cy == 0) = true := by simpa using hc
            clear hb hc
            go_wp2_with fail
            go_meet
            exact ⟨by rw [HS.out], bl2⟩
          · have HS := Lib.hid (show decide (n = 0 ∨ (bx = 0 ∧ cy = 0)) = false from decide_eq_false (by rintro (h | h); exact h0 h; exact hc h.2))
            have e2 : (cy == 0) = false := eq_b hc
            clear hb hc
            go_wp2_with fail
            go_meet
            exact ⟨by rw [HS.out], bl2⟩
        · have e1 : (bx == 0) = false := eq_b hb
          have HS := Lib.hid (show decide (n = 0 ∨ (bx = 0 ∧ cy = 0)) = false from decide_eq_false (by rintro (h | h); exact h0 h; exact hb h.1))
          go_wp2_with fail
          go_meet
          exact ⟨by rw [HS.out], bl2⟩
    case rest =>
      obtain ⟨rfl, bl2⟩ := hcut
      rename World => w2
      have b2 := below_to b1 bl2
      have M0 := L0.to bl2
      have M1 := L1.to bl2
      clear b1 bl2 q0 q1 f1 L0 L1 HV
      have q0 := M0.cell0 (i := 0) (v := .slice a n ca) rfl
      have q1 := M1.cell0 (i := 0) (v := .slice none 0 0) rfl
      have f1 := M1.free 0
      have lq1 := M1.lt
      by_cases hsame : n = 0 ∨ (bx = 0 ∧ cy = 0)
      · have HN := Lib.hid (gw_same HCC.out (hsame.imp (fun h => len_nil HL.out h) id))
        rw [decide_eq_true hsame]
        clear hsame
        cases a with
        | none =>
          obtain ⟨rfl, rfl⟩ := HNIL.out rfl
          have HP0 := Lib.hid (len_nil HL.out rfl)
          have q2 := cell_to q1 (below_one w2 (.cells #[] 88))
          have r0 := cell_to q0 (below_one w2 (.cells #[] 88))
          have f2 := ((below_one w2 (.cells #[] 88)).frozen lq1).trans f1
          have HO := Lib.hid (own3_empty' (B := w2.heap.size) (w2.setCell ⟨w.heap.size + 1, 0, none⟩ (.slice (some ⟨w2.heap.size, 0, none⟩) 0 0)) (b := w2.heap.size) (by simp) (Nat.le_refl _))
          have qq := (blk_set M1 (.slice (some ⟨w2.heap.size, 0, none⟩) 0 0)).to (below_one _ (.cells #[] 88))
          have qv := qq.cell0 (i := 0) (v := (.slice (some ⟨w2.heap.size, 0, none⟩) 0 0)) rfl
          have HFF := Lib.hid (AnsR.yes (w := w) (L := gwL ps bx cy lo hi) (b := gwB ps bx cy lo hi) (M := []) (by rw [HN.out.1, HP0.out]) HN.out.2 (own_base HO.out b2.size) (below_bx2 (b2.setCell (p := ⟨w.heap.size + 1, 0, none⟩) (Nat.le_add_right _ _) (.slice (some ⟨w2.heap.size, 0, none⟩) 0 0)) (.cells #[] 88)))
          clear HO
          go_wp2_with fail
          exact bodyPost_ret (v := .tuple #[.agg #[.slice (some ⟨w2.heap.size, 0, none⟩) 0 0], .bool true]) (by simp [results, Try.results19, go_sem, qv]) rfl HFF.out
        | some ad =>
          have HO := Lib.hid (own3_empty' (B := w2.heap.size) w2 rfl (Nat.le_refl _))
          have HC := Lib.hid (hs_cells (HA.out.below (below_bx2 b2 (.cells #[] 88))))
          have q2 := cell_to q1 (below_one w2 (.cells #[] 88))
          have f2 := ((below_one w2 (.cells #[] 88)).frozen lq1).trans f1
          have r0 := cell_to q0 (below_one w2 (.cells #[] 88))
          go_wp2_with (at_builtin; refine wpList_append_own_at _ rfl _ _ 30 rfl w2.heap.size 88 i0 (.agg #[.int .i64 0, .int .i64 0, .int .i64 0]) 3 24 Try.underlying30 hi0 hz0 hz1 hz2 rfl (by decide) (.slice (some ⟨w2.heap.size, 0, none⟩) 0 0) 0 _ rfl HO.out ad n ca (flat ps) rfl (by rw [flat_len, HL.out]) HC.out (flat_one _) (by unfold maxLen; omega) (by omega) (by simp) ?_; intro v3 w3 ho3 hg3 hn3 _; have b3 : Below w2.heap.size w2 w3 := (below_one w2 _).grown hg3 (by simp) (fun p hp => own_base_le HO.out hp); rw [Nat.zero_add, show flat [] ++ flat ps = flat ps from List.nil_append _] at ho3; obtain ⟨a3, c3, e3⟩ := own_slice ho3; subst e3; have hne3 : some (w.heap.size + 1) ≠ (Value.slice (some ⟨w2.heap.size, 0, none⟩) 0 0).ownBlock := (by simp only [Value.ownBlock, ne_eq, Option.some.injEq]; omega); have q3 := cell_far q2 hg3 hne3; have f3 : w3.frozen? ⟨w.heap.size + 1, 0, none⟩ = false := (World.frozen?_of_block (hg3.block _ (block_lt_of_cell q2) hne3)).trans f2; have HQ3 := Lib.hid ho3; have HB3 := Lib.hid b3; clear ho3 hg3 hn3 b3 q2 f2 r0 hne3)
          have HFF := Lib.hid (AnsR.put (p := ⟨w.heap.size + 1, 0, none⟩) (w := w) HQ3.out HN.out.1 HN.out.2 b2 HB3.out lq1 (Nat.le_add_right _ _))
          exact bodyPost_ret (v := .tuple #[.agg #[.slice a3 n c3], .bool true]) (by simp [results, Try.results19, go_sem, q3]) rfl HFF.out
      · rw [decide_eq_false hsame]
        have h0 : n ≠ 0 := fun h => hsame (.inl h)
        have z : ¬ (bx = 0 ∧ cy = 0) := fun h => hsame (.inr h)
        have hne := len_ne HL.out h0
        have HGG := Lib.hid (HG.out w2 b2 (by omega) HKK.out hne ⟨s0, t0⟩ ⟨s1, t1⟩ ⟨s2, t2⟩ ⟨by omega, t3⟩ z)
        have HY := Lib.hid (fun t => grn_yes HCC.out hne z t)
        have HN0 := Lib.hid (fun t => grn_no (lo := lo) (hi := hi) hne z t)
        have HLL := Lib.hid (show (ps.map (grM bx cy lo hi) ++ (gwD bx cy).map (tcU ps)).length = n + 2 by rw [List.length_append, List.length_map, List.length_map, HL.out]; rfl)
        generalize (ps.map (grM bx cy lo hi) ++ (gwD bx cy).map (tcU ps)) = L at *
        generalize (ps.all (grB bx cy lo hi) && (gwD bx cy).all (tcT ps)) = rB at *
        clear hsame h0 z hne HG
        go_wp2_with fail
        refine HGG.out.mono ?_
        rintro e w3 (⟨hb, ao, cp, rfl, ho, hbl⟩ | ⟨hb, rfl, hbl⟩)
        · obtain ⟨y1, y2, y3⟩ := HY.out hb
          have b3 := below_to b2 hbl
          have q3 := cell_to q1 hbl
          have f3 := (hbl.frozen lq1).trans f1
          have lq3 := block_lt_of_cell q3
          have HO := Lib.hid ho
          have Y1 := Lib.hid y1
          have Y2 := Lib.hid y2
          have HFT := Lib.hid (spec_fit ao L.length cp L w3 rfl (by rw [HLL.out]; omega) y3 (own_nil ho) (own_hs ho))
          clear ho hbl q0 q1 f1 y1 y2 y3 hb HY HN0 HGG
          go_wp2_with fail
          refine HFT.out.mono ?_
          rintro e w4 ⟨ad, cd, rfl, ho4, bl4⟩
          have q4 := cell_to q3 bl4
          have f4 := (bl4.frozen lq3).trans f3
          have HFF := Lib.hid (AnsR.put (p := ⟨w.heap.size + 1, 0, none⟩) (w := w) ho4 Y1.out Y2.out b3 bl4 lq3 (Nat.le_add_right _ _))
          clear ho4 bl4
          generalize (regE L).length = len at *
          go_wp2_with fail
          exact bodyPost_ret (v := .tuple #[.agg #[.slice ad len cd], .bool (okF L)]) (by simp [results, Try.results19, go_sem, q4]) rfl HFF.out
        · have HN := Lib.hid (HN0.out hb)
          have b3 := below_to b2 hbl
          have q3 := cell_to q1 hbl
          have f3 := (hbl.frozen lq1).trans f1
          clear hbl q0 q1 f1 hb HY HN0 HGG
          go_wp2_with fail
          exact bodyPost_ret (v := .tuple #[.agg #[.slice none 0 0], .bool false]) (by simp [results, Try.results19, go_sem, q3]) rfl (AnsR.no HN.out.1 HN.out.2 (b3.setCell (p := ⟨w.heap.size + 1, 0, none⟩) (Nat.le_add_right _ _) _))
end Go.Proofs.Ytefafkainfhhkaa
