/- The contract of the model's l05IsEdge over the translation: two crossings of a border with the others lie inside and differ. -/
import Derived.Test.YtobmaajfdpcfmaaSa
namespace Go.Proofs.Ytobmaajfdpcfmaa
open Go.RowKit
open Geo (H3)

def atI (L : List H3) (i : Nat) : H3 := (L[i]?).getD zeroH
theorem atI_of {L : List H3} {i : Nat} {x : H3} (h : L[i]? = some x) : atI L i = x := by unfold atI; rw [h]; rfl
/-- the crossing of border k with border i, and whether it is another one's and lies inside -/
def ptI (L : List H3) (k i : Nat) : H3 := crP (atI L k) (atI L i)
def gdI (L : List H3) (k i : Nat) : Bool := decide (i ≠ k) && insB L (ptI L k i)
def edgB (L : List H3) (k : Nat) : Bool := (List.range L.length).any fun i => gdI L k i && (List.range L.length).any fun j => gdI L k j && difB (ptI L k i) (ptI L k j)
/-- what the loop knows: no crossing inside so far, or the first one and that no other so far differs from it -/
def Fst (L : List H3) (k i : Nat) (p : H3) : Prop := (p = zeroH ∧ ∀ j, j < i → gdI L k j = false) ∨ (∃ i0, i0 < i ∧ gdI L k i0 = true ∧ p = ptI L k i0 ∧ ∀ j, j < i → gdI L k j = true → difB p (ptI L k j) = false)
theorem gd_frm {L : List H3} {k i : Nat} (h : gdI L k i = true) : (ptI L k i).c ≠ 0 := by
  unfold gdI insB frmB at h
  simp only [Bool.and_eq_true, decide_eq_true_eq] at h
  exact h.2.1.1.1.1.1
theorem Fst.start (L : List H3) (k : Nat) : Fst L k 0 zeroH := Or.inl ⟨rfl, fun j h => by omega⟩
theorem Fst.skip {L : List H3} {k i : Nat} {p : H3} (h : Fst L k i p) (n : gdI L k i = false) : Fst L k (i + 1) p := by
  rcases h with ⟨e, h⟩ | ⟨i0, h0, g0, e, h⟩
  · refine Or.inl ⟨e, fun j hj => ?_⟩
    rcases Nat.lt_or_ge j i with k1 | k1
    · exact h j k1
    · rw [show j = i by omega]; exact n
  · refine Or.inr ⟨i0, by omega, g0, e, fun j hj gj => ?_⟩
    rcases Nat.lt_or_ge j i with k1 | k1
    · exact h j k1 gj
    · rw [show j = i by omega, n] at gj; cases gj
theorem Fst.first {L : List H3} {k i : Nat} {p : H3} (h : Fst L k i p) (z : p.c = 0) (y : gdI L k i = true) : Fst L k (i + 1) (ptI L k i) := by
  rcases h with ⟨e, h⟩ | ⟨i0, h0, g0, e, h⟩
  · refine Or.inr ⟨i, by omega, y, rfl, fun j hj gj => ?_⟩
    rcases Nat.lt_or_ge j i with k1 | k1
    · rw [h j k1] at gj; cases gj
    · rw [show j = i by omega]; unfold difB; simp
  · exact absurd z (by rw [e]; exact gd_frm g0)
theorem Fst.next {L : List H3} {k i : Nat} {p : H3} (h : Fst L k i p) (z : p.c ≠ 0) (d : difB p (ptI L k i) = false) : Fst L k (i + 1) p := by
  rcases h with ⟨e, h⟩ | ⟨i0, h0, g0, e, h⟩
  · exact absurd (by rw [e]; rfl) z
  · refine Or.inr ⟨i0, by omega, g0, e, fun j hj gj => ?_⟩
    rcases Nat.lt_or_ge j i with k1 | k1
    · exact h j k1 gj
    · rw [show j = i by omega]; exact d
theorem Fst.found {L : List H3} {k i n : Nat} {p : H3} (hl : L.length = n) (hi : i < n) (h : Fst L k i p) (z : p.c ≠ 0) (y : gdI L k i = true) (d : difB p (ptI L k i) = true) : edgB L k = true := by
  rcases h with ⟨e, h⟩ | ⟨i0, h0, g0, e, h⟩
  · exact absurd (by rw [e]; rfl) z
  · subst e
    unfold edgB
    rw [List.any_eq_true]
    refine ⟨i0, List.mem_range.2 (by omega), ?_⟩
    rw [Bool.and_eq_true, List.any_eq_true]
    exact ⟨g0, i, List.mem_range.2 (by omega), by rw [y, d]; rfl⟩
theorem Fst.none {L : List H3} {k n : Nat} {p : H3} (hl : L.length = n) (h : Fst L k n p) : edgB L k = false := by
  unfold edgB
  rw [List.any_eq_false]
  intro i hi hh
  rw [Bool.and_eq_true, List.any_eq_true] at hh
  obtain ⟨gi, j, hj, hh⟩ := hh
  rw [Bool.and_eq_true] at hh
  rw [List.mem_range, hl] at hi hj
  rcases h with ⟨e, h⟩ | ⟨i0, h0, g0, e, h⟩
  · rw [h i hi] at gi; cases gi
  · have d1 := h i hi gi
    have d2 := h j hj hh.1
    have d3 := hh.2
    unfold difB at d1 d2 d3
    simp only [decide_eq_false_iff_not, decide_eq_true_eq, ne_eq, Classical.not_not] at d1 d2 d3
    exact d3 (d1.symm.trans d2)
theorem has3_put {W : World} {g : Nat} {a b c : Value} (h : Has3 W g a b c) (x y z : Value) : Has3 (((W.setCell ⟨g, 0, none⟩ x).setCell ⟨g, 1, none⟩ y).setCell ⟨g, 2, none⟩ z) g x y z := by
  obtain ⟨h1, h2, h3, f1, f2, f3⟩ := h
  have n01 : (⟨g, 0, none⟩ : Addr) ≠ ⟨g, 1, none⟩ := by simp
  have n02 : (⟨g, 0, none⟩ : Addr) ≠ ⟨g, 2, none⟩ := by simp
  have n12 : (⟨g, 1, none⟩ : Addr) ≠ ⟨g, 2, none⟩ := by simp
  have k2 : (W.setCell ⟨g, 0, none⟩ x).cell? ⟨g, 1, none⟩ = some b := by rw [World.cell?_setCell_other _ _ _ _ n01]; exact h2
  have k3 : ((W.setCell ⟨g, 0, none⟩ x).setCell ⟨g, 1, none⟩ y).cell? ⟨g, 2, none⟩ = some c := by rw [World.cell?_setCell_other _ _ _ _ n12, World.cell?_setCell_other _ _ _ _ n02]; exact h3
  refine ⟨?_, ?_, ?_, ?_, ?_, ?_⟩
  · rw [World.cell?_setCell_other _ _ _ _ n02.symm, World.cell?_setCell_other _ _ _ _ n01.symm]; exact World.cell?_setCell_same _ _ _ h1
  · rw [World.cell?_setCell_other _ _ _ _ n12.symm]; exact World.cell?_setCell_same _ _ _ k2
  · exact World.cell?_setCell_same _ _ _ k3
  all_goals simp only [World.frozen?_setCell]; assumption
set_option maxRecDepth 100000 in
set_option maxHeartbeats 4000000 in
theorem spec_edge (a : Option Addr) (n cap k : Nat) (L : List H3) (w : World) (hl : L.length = n) (hn : n ≤ 1000) (hk : k < n) (hL : ∀ h ∈ L, okB h = true) (hA : HsAt w a L) :
    Calls Try.prog 128 #[.slice a n cap, .int .i64 k] w fun e w' => e = .returned (.bool (edgB L k)) ∧ Below w.heap.size w w' := by
  obtain ⟨⟨ka, kb, kc⟩, hx⟩ : ∃ x, L[k]? = some x := ⟨_, List.getElem?_eq_getElem (by rw [hl]; exact hk)⟩
  have hok : okH ka kb kc = true := hL _ (List.mem_of_getElem? hx)
  have HK := Lib.hid (atI_of hx)
  obtain ⟨gk, ok, rfl, hck⟩ := hA k _ hx
  simp only at hck
  have HL := Lib.hid hl
  have HA := Lib.hid hA
  have HO := Lib.hid hL
  have HOK := Lib.hid hok
  clear hl hA hL hx hok
  go_enter Try.func128, Try.ntmps128
  go_wp2
  have bV := below_one w (.cells #[.int .i64 0, .int .i64 0, .int .i64 0] 144)
  have h5 := has3_new w (.int .i64 0) (.int .i64 0) (.int .i64 0) 144
  generalize w.alloc (.cells #[.int .i64 0, .int .i64 0, .int .i64 0] 144) = V at *
  go_loopw [12] (fun i wr => ∃ (m : Nat) (p : H3), m ≤ n ∧ i = .int .i64 m ∧ Fst L k m p ∧ PtB p ∧ Has3 wr w.heap.size (.int .i64 p.a) (.int .i64 p.b) (.int .i64 p.c) ∧ Below w.heap.size w wr) (fun i _ => n - (intOf i).toNat)
  case atStart => exact ⟨0, zeroH, Nat.zero_le _, rfl, Fst.start L k, by unfold PtB zeroH; simp, h5, bV⟩
  case round =>
    obtain ⟨m, ⟨pa, pb, pc⟩, hm, rfl, hf, hpt, h3, hbel⟩ := hrel
    have HF := Lib.hid hf
    have HP := Lib.hid hpt
    have H3 := Lib.hid h3
    simp only at h3
    obtain ⟨p1, p2, p3, f1, f2, f3⟩ := h3
    have lz := block_lt_of_cell p1
    simp only at lz
    clear hf hpt
    by_cases hlt : m < n
    · obtain ⟨⟨xa, xb, xc⟩, hx⟩ : ∃ x, L[m]? = some x := ⟨_, List.getElem?_eq_getElem (by rw [HL.out]; exact hlt)⟩
      have hox : okH xa xb xc = true := HO.out _ (List.mem_of_getElem? hx)
      have HXM := Lib.hid (atI_of hx)
      obtain ⟨g', o', e, hcx⟩ := HA.out m _ hx
      simp only [Option.some.injEq, Addr.mk.injEq, and_true] at e
      obtain ⟨rfl, rfl⟩ := e
      obtain ⟨t1, t2, t3⟩ := hcx.to hbel
      have l1 := block_lt_of_cell t1
      simp only at t1 t2 t3 l1
      by_cases hmk : m = k
      · have HS := Lib.hid (Fst.skip HF.out (show gdI L k m = false by unfold gdI; simp [hmk]))
        clear hx hcx hox
        subst hmk
        go_wp2
        go_roundw
        case rel => exact ⟨m + 1, ⟨pa, pb, pc⟩, by omega, by go_num, HS.out, HP.out, has3_to (below_one _ _) H3.out, below_bx2 hbel _⟩
        case measure => simp [intOf]; omega
      · have hb : ((m : Int) == (k : Int)) = false := eq_b (by omega)
        have HC := Lib.hid (fun W => spec_cross ka kb kc xa xb xc W HOK.out hox)
        have hpm : ptI L k m = crP ⟨ka, kb, kc⟩ ⟨xa, xb, xc⟩ := by unfold ptI; rw [HK.out, HXM.out]
        have hpb : PtB (crP ⟨ka, kb, kc⟩ ⟨xa, xb, xc⟩) := cr_pt (f := ⟨ka, kb, kc⟩) (g := ⟨xa, xb, xc⟩) HOK.out hox
        have hgd : gdI L k m = insB L (ptI L k m) := by unfold gdI; simp [hmk]
        rw [hpm] at hgd
        generalize crP ⟨ka, kb, kc⟩ ⟨xa, xb, xc⟩ = q at *
        obtain ⟨qa, qb, qc⟩ := q
        simp only at HC
        have HPM := Lib.hid hpm
        have HPB := Lib.hid hpb
        have HGD := Lib.hid hgd
        have HI := Lib.hid (fun W (h : Below w.heap.size w W) => spec_inside (some ⟨gk, ok, none⟩) n cap L qa qb qc W HL.out hn HO.out hpb (HA.out.below h))
        clear hx hcx hox hpm hpb hgd hmk
        go_wp2_with fail
        have r7 := tri_new wr (.int .i64 xa) (.int .i64 xb) (.int .i64 xc) 34
        have bX := below_bx2 hbel (.cells #[.int .i64 xa, .int .i64 xb, .int .i64 xc] 34)
        have rk := hck.to bX
        have H5 := Lib.hid (has3_to (below_one wr (.cells #[.int .i64 xa, .int .i64 xb, .int .i64 xc] 34)) H3.out)
        clear t1 t2 t3 p1 p2 p3 f1 f2 f3 l1 H3
        generalize wr.alloc (.cells #[.int .i64 xa, .int .i64 xb, .int .i64 xc] 34) = X at *
        generalize wr.heap.size = b7 at *
        go_cut [8] from 20 to 25 (fun s8 wx => LiesT 144 X qa qb qc s8 wx)
        case first =>
          obtain ⟨c1, c2, c3, c4, c5, c6⟩ := Tri.six (Below.refl _ _) rk r7
          go_region_held3 (fun w' => w'.cell? ⟨gk, ok + k * 3, none⟩ = some (.int .i64 ka) ∧ w'.cell? ⟨gk, ok + k * 3 + 1, none⟩ = some (.int .i64 kb) ∧ w'.cell? ⟨gk, ok + k * 3 + 2, none⟩ = some (.int .i64 kc) ∧ w'.cell? ⟨b7, 0, none⟩ = some (.int .i64 xa) ∧ w'.cell? ⟨b7, 1, none⟩ = some (.int .i64 xb) ∧ w'.cell? ⟨b7, 2, none⟩ = some (.int .i64 xc))
            ((refine Tri.six ?_ rk r7; repeat (first | exact Below.refl _ _ | refine Below.setCell ?_ (by first | (simp; done) | (simp; omega)) _ | refine below_bx2 ?_ _ | refine below_drw ?_ | refine below_to ?_ (by assumption))))
            ((go_at_call 143; (with_reducible refine (HC.out _).mono ?_); rintro e w3 ⟨rfl, bl3⟩; obtain ⟨hc3, hf3⟩ := bcl3 bl3; have hs3 := bl3.size; (try simp at hs3)))
          all_goals
            go_wp2_with fail
            go_meet
            refine ⟨_, rfl, ?_, ?_, ?_⟩
            · first | exact Nat.le_refl _ | omega | (simp; omega)
            · first
                | exact heap_alloc_new _ _
                | (refine heap_set3 (x := .int .i64 0) (y := .int .i64 0) (z := .int .i64 0) _ _ _ ?_
                   apply at_new3 (Z := .cells #[.int .i64 0, .int .i64 0, .int .i64 0] 144)
                   · repeat (first | exact Below.refl _ _ | refine below_bx2 ?_ _ | refine below_drw ?_ | refine below_to ?_ (by assumption))
                   · first | rfl | (simp; done))
            · repeat (first | exact Below.refl _ _ | refine Below.setCell ?_ (by first | (simp; done) | (simp; omega)) _ | refine below_bx2 ?_ _ | refine below_drw ?_ | refine below_to ?_ (by assumption))
        case rest =>
          obtain ⟨g8, rfl, hg8, hh8, hb8⟩ := hcut
          have bw := below_to bX hb8
          have h6 := has3_to hb8 H5.out
          have q8 : Tri wc g8 0 (.int .i64 qa) (.int .i64 qb) (.int .i64 qc) := ⟨cell_of_row _ _ _ _ _ _ hh8, cell_of_row _ _ _ _ _ _ hh8, cell_of_row _ _ _ _ _ _ hh8⟩
          have lw : w.heap.size < X.heap.size := block_lt_of_cell H5.out.1
          have hne8 : g8 ≠ w.heap.size := by omega
          have hne9 : w.heap.size ≠ g8 := by omega
          obtain ⟨s1, s2, s3⟩ := id q8
          clear hh8 hb8 bX rk r7 H5 hck
          go_wp2_with fail
          refine (HI.out _ bw).mono ?_
          rintro e w4 ⟨rfl, bl4⟩
          have b4 := below_to bw bl4
          have h4 := has3_to bl4 h6
          have q4 := q8.to bl4
          obtain ⟨p1, p2, p3, f1, f2, f3⟩ := id h4
          have H4 := Lib.hid h4
          obtain ⟨s4, s5, s6⟩ := q4
          clear bl4 bw h6 q8 s1 s2 s3 h4
          cases hin : insB L ⟨qa, qb, qc⟩ with
          | false =>
            have HS := Lib.hid (Fst.skip HF.out (show gdI L k m = false by rw [HGD.out, hin]))
            clear hin
            go_wp2
            go_roundw
            case rel => exact ⟨m + 1, ⟨pa, pb, pc⟩, by omega, by go_num, HS.out, HP.out, H4.out, b4⟩
            case measure => simp [intOf]; omega
          | true =>
            have HY := Lib.hid (show gdI L k m = true by rw [HGD.out, hin])
            clear hin
            by_cases hz : pc = 0
            · have HS := Lib.hid (Fst.first HF.out hz HY.out)
              rw [HPM.out] at HS
              subst hz
              go_wp2
              go_roundw
              case rel => exact ⟨m + 1, ⟨qa, qb, qc⟩, by omega, by go_num, HS.out, HPB.out, has3_put H4.out _ _ _, below_set3 _ _ _ b4 (Nat.le_refl _)⟩
              case measure => simp [intOf]; omega
            · have hzb : (pc == 0) = false := eq_b hz
              have HD := Lib.hid (fun W => spec_differ pa pb pc qa qb qc W HP.out HPB.out)
              cases hdf : difB ⟨pa, pb, pc⟩ ⟨qa, qb, qc⟩ with
              | true =>
                rw [hdf] at HD
                have HS := Lib.hid (Fst.found HL.out hlt HF.out hz HY.out (by rw [HPM.out]; exact hdf))
                clear hdf hz
                go_wp2_with (go_at_call 145; (with_reducible refine (HD.out _).mono ?_); rintro e w5 ⟨rfl, bl5⟩)
                go_ret
                exact ⟨ret_bool HS.out.symm, below_to b4 bl5⟩
              | false =>
                rw [hdf] at HD
                have HS := Lib.hid (Fst.next HF.out hz (by rw [HPM.out]; exact hdf))
                clear hdf hz
                go_wp2_with (go_at_call 145; (with_reducible refine (HD.out _).mono ?_); rintro e w5 ⟨rfl, bl5⟩)
                go_roundw
                case rel => exact ⟨m + 1, ⟨pa, pb, pc⟩, by omega, by go_num, HS.out, HP.out, has3_to bl5 H4.out, below_to b4 bl5⟩
                case measure => simp [intOf]; omega
    · have hkn : m = n := by omega
      subst hkn
      have HN := Lib.hid (Fst.none HL.out HF.out)
      go_wp2
      go_ret
      exact ⟨ret_bool HN.out.symm, hbel⟩
end Go.Proofs.Ytobmaajfdpcfmaa
