/- PullBack of the program over the translation. -/
import Derived.Test.YtibkmhmeoelpdaaGreatMx
namespace Go.Proofs.YtibkmhmeoelpdaaGreat
open Go.RowKit Go.Shelf
open Geo (H3)

/-- what PullBack answers -/
def pbkC (ps : List H3) (zs : List Int) (q : Int) : Bool := mapB zs q && !decide (detI zs = 0) && rokB ps
def pbkB (ps : List H3) (zs : List Int) (q : Int) : Bool := pbkC ps zs q && mvB (pbB zs q) (pbM zs q) [] ps
def pbkL (ps : List H3) (zs : List Int) (q : Int) : List H3 := if pbkC ps zs q = true then mvL (pbB zs q) (pbM zs q) [] ps else []
theorem pbk_no {ps : List H3} {zs : List Int} {q : Int} (h : pbkC ps zs q = false) : pbkL ps zs q = [] ∧ pbkB ps zs q = false := by
  refine ⟨?_, ?_⟩
  · unfold pbkL; rw [if_neg]; rw [h]; simp
  · unfold pbkB; rw [h]; rfl
theorem pbk_yes {ps : List H3} {zs : List Int} {q : Int} (h : pbkC ps zs q = true) : pbkL ps zs q = mvL (pbB zs q) (pbM zs q) [] ps ∧ pbkB ps zs q = mvB (pbB zs q) (pbM zs q) [] ps :=
  ⟨if_pos h, by unfold pbkB; rw [h]; simp⟩
theorem pbk_len (ps : List H3) (zs : List Int) (q : Int) : (pbkL ps zs q).length ≤ 40 := by
  unfold pbkL; split
  · exact mvL_len _ _ _ _
  · simp
set_option maxRecDepth 100000 in
set_option maxHeartbeats 1600000 in
theorem impl_pb (a : Option Addr) (n ca : Nat) (ps : List H3) (am : Option Addr) (nm cm : Nat) (zs : List Int) (q : Int) (w : World) (hl : ps.length = n) (hn : n ≤ 1048576) (h64 : ∀ h ∈ ps, In64 h) (hlm : zs.length = nm) (hA : HsAt w a ps) (hM : IsAt w am zs) :
    Calls Tryz.prog 113 #[.agg #[.slice a n ca], .slice am nm cm, .int .i64 q] w (AnsR w (pbkL ps zs q) (pbkB ps zs q)) := by
  have bV := below_bx2 (below_bx2 (below_bx2 (below_one w (.cells #[.slice a n ca] 40)) (.cells #[.slice am nm cm] 22)) (.cells #[.int .i64 q] 3)) (.cells #[.slice none 0 0] 40)
  have q0 := cell_to (show (w.alloc (.cells #[.slice a n ca] 40)).cell? ⟨w.heap.size, 0, none⟩ = some (.slice a n ca) by simp) (below_bx2 (below_bx2 (below_one _ (.cells #[.slice am nm cm] 22)) (.cells #[.int .i64 q] 3)) (.cells #[.slice none 0 0] 40))
  have q1 := cell_to (box_one (U := (w.alloc (.cells #[.slice a n ca] 40))) (b := w.heap.size + 1) (by simp) (.slice am nm cm) 22).1 (below_bx2 (below_one _ (.cells #[.int .i64 q] 3)) (.cells #[.slice none 0 0] 40))
  have q2 := cell_to (box_one (U := ((w.alloc (.cells #[.slice a n ca] 40)).alloc (.cells #[.slice am nm cm] 22))) (b := w.heap.size + 2) (by simp) (.int .i64 q) 3).1 (below_one _ (.cells #[.slice none 0 0] 40))
  obtain ⟨q3, f3⟩ := box_one (U := (((w.alloc (.cells #[.slice a n ca] 40)).alloc (.cells #[.slice am nm cm] 22)).alloc (.cells #[.int .i64 q] 3))) (b := w.heap.size + 3) (by simp) (.slice none 0 0) 40
  have HR := Lib.hid (fun V (h : Below w.heap.size w V) => impl_rok a n ca ps V hl hn h64 (hA.below h))
  have HI := Lib.hid (fun V (h : Below w.heap.size w V) => impl_map am nm cm zs q V hlm (hM.below h))
  have HD := Lib.hid (fun V (h : Below w.heap.size w V) (m : mapB zs q = true) => impl_det am nm cm zs q V hlm m (hM.below h))
  have HA := Lib.hid hA
  have HZ := Lib.hid hM
  have HL := Lib.hid hl
  have HLM := Lib.hid hlm
  clear hl hA h64 hlm hM
  go_enter Tryz.func113, Tryz.ntmps113
  go_wp2_with fail
  generalize ((((w.alloc (.cells #[.slice a n ca] 40)).alloc (.cells #[.slice am nm cm] 22)).alloc (.cells #[.int .i64 q] 3)).alloc (.cells #[.slice none 0 0] 40)) = V at *
  refine (HI.out _ bV).mono ?_
  rintro e w1 ⟨rfl, hw1⟩
  subst hw1
  cases hm : mapB zs q with
  | false =>
    have HN := Lib.hid (pbk_no (ps := ps) (zs := zs) (q := q) (by unfold pbkC; rw [hm]; rfl))
    clear hm
    go_wp2_with fail
    exact bodyPost_ret (v := .tuple #[.agg #[.slice none 0 0], .bool false]) (by simp [results, Tryz.results113, go_sem, q3]) rfl (AnsR.no HN.out.1 HN.out.2 (bV.setCell (p := ⟨w.heap.size + 3, 0, none⟩) (Nat.le_add_right _ _) _))
  | true =>
    have HMM := Lib.hid hm
    clear hm
    go_wp2_with fail
    refine (HD.out _ bV HMM.out).mono ?_
    rintro e w2 ⟨rfl, bl2⟩
    have b2 := below_to bV bl2
    have p0 := cell_to q0 bl2
    have p1 := cell_to q1 bl2
    have p2 := cell_to q2 bl2
    have p3 := cell_to q3 bl2
    have g3 : w2.frozen? ⟨w.heap.size + 3, 0, none⟩ = false := by rw [bl2.frozen (block_lt_of_cell q3)]; exact f3
    clear bV bl2 q0 q1 q2 q3 f3 HI HD
    by_cases hd : detI zs = 0
    · have HN := Lib.hid (pbk_no (ps := ps) (zs := zs) (q := q) (by unfold pbkC; rw [hd]; simp))
      go_wp2_with fail
      exact bodyPost_ret (v := .tuple #[.agg #[.slice none 0 0], .bool false]) (by simp [results, Tryz.results113, go_sem, p3]) rfl (AnsR.no HN.out.1 HN.out.2 (b2.setCell (p := ⟨w.heap.size + 3, 0, none⟩) (Nat.le_add_right _ _) _))
    · have HDD := Lib.hid hd
      have hd0 : (detI zs == 0) = false := eq_b hd
      clear hd
      go_wp2_with fail
      refine (HR.out _ b2).mono ?_
      rintro e w3 ⟨rfl, bl3⟩
      have b3 := below_to b2 bl3
      have q0 := cell_to p0 bl3
      have q1 := cell_to p1 bl3
      have q2 := cell_to p2 bl3
      have q3 := cell_to p3 bl3
      have f3 : w3.frozen? ⟨w.heap.size + 3, 0, none⟩ = false := by rw [bl3.frozen (block_lt_of_cell p3)]; exact g3
      clear b2 bl3 p0 p1 p2 p3 g3 HR hd0
      cases hr : rokB ps with
      | false =>
        have HN := Lib.hid (pbk_no (ps := ps) (zs := zs) (q := q) (by unfold pbkC; rw [hr]; simp))
        clear hr
        go_wp2_with fail
        exact bodyPost_ret (v := .tuple #[.agg #[.slice none 0 0], .bool false]) (by simp [results, Tryz.results113, go_sem, q3]) rfl (AnsR.no HN.out.1 HN.out.2 (b3.setCell (p := ⟨w.heap.size + 3, 0, none⟩) (Nat.le_add_right _ _) _))
      | true =>
        have HN := Lib.hid (pbk_yes (ps := ps) (zs := zs) (q := q) (by unfold pbkC; rw [hr, HMM.out]; simpa using HDD.out))
        have h40 := rok_len hr
        have HM := Lib.hid (fun (e1 : w.heap.size + 1 + 1 = w.heap.size + 2) => impl_move 144 [.pointer (some ⟨w.heap.size + 1, 0, none⟩), .pointer (some ⟨w.heap.size + 1 + 1, 0, none⟩)] (enters_of Tryz.func144 (by kernel_rfl) rfl) (pbB zs q) (pbM zs q) a none n ca 0 0 ps [] w3 HL.out (by rw [← HL.out]; exact h40) (HA.out.below b3) rfl (by omega) (.inl ⟨rfl, rfl, rfl⟩) (fun i x hx => by simp at hx) (by simp) (fun h _ hb => ok_in64 (pb_ok zs q h hb))
          (fun h X hh hX => ⟨pbM zs q h, fun _ => rfl, pb_call (w.heap.size + 1) (w.heap.size + 1 + 1) am nm cm zs q h X HLM.out HMM.out (rok_all hr h hh) (cell_to q1 hX) (cell_to q2 hX) ((HZ.out.below b3).below hX)⟩))
        have HM2 := Lib.hid (HM.out rfl)
        clear hr h40 HM
        go_wp2_with fail
        refine HM2.out.mono ?_
        rintro e w4 ⟨ad, cd, rfl, ho4, bl4⟩
        have l3 := block_lt_of_cell q3
        simp only at l3
        have r3 := cell_to q3 bl4
        have k3 : w4.frozen? ⟨w.heap.size + 3, 0, none⟩ = false := by rw [bl4.frozen l3]; exact f3
        have HO := Lib.hid ho4
        have HB := Lib.hid bl4
        clear ho4 bl4 HM2
        obtain ⟨LL, hLL⟩ : ∃ LL, mvL (pbB zs q) (pbM zs q) [] ps = LL := ⟨_, rfl⟩
        obtain ⟨len, hlen⟩ : ∃ len, LL.length = len := ⟨_, rfl⟩
        rw [hLL] at HO HN ⊢
        rw [hlen] at HO ⊢
        generalize mvB (pbB zs q) (pbM zs q) [] ps = r at *
        have HF := Lib.hid (AnsR.put (p := ⟨w.heap.size + 3, 0, none⟩) (w := w) HO.out HN.out.1 HN.out.2 b3 HB.out l3 (Nat.le_add_right _ _))
        go_wp2_with fail
        exact bodyPost_ret (v := .tuple #[.agg #[.slice ad len cd], .bool r]) (by simp [results, Tryz.results113, go_sem, r3]) rfl HF.out
end Go.Proofs.YtibkmhmeoelpdaaGreat
