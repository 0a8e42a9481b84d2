/- The model's copies of regions and rooms, over the translation. -/
import Derived.Test.YtdjjncofahnaaaaGreatGv
import Derived.Test.YtdjjncofahnaaaaGreatKz
namespace Go.Proofs.YtdjjncofahnaaaaGreat
open Go.RowKit
open Geo (H3)

set_option maxRecDepth 100000 in
set_option maxHeartbeats 1600000 in
theorem spec_lrg (a : Option Addr) (n ca : Nat) (rs : List H3) (w : World) (hl : rs.length = n) (hn : n ≤ 1048576) (hz : a = none → n = 0 ∧ ca = 0) (hA : HsAt w a rs) :
    Calls Tryz.prog 74 #[.agg #[.slice a n ca]] w fun e w' => ∃ ao cp, e = .returned (.agg #[.slice ao n cp]) ∧ w'.ownsRow w.heap.size 39 3 (.slice ao n cp) n (flat rs) ∧ Below w.heap.size w w' := by
  obtain ⟨i0, hi0, hz0, hz1, hz2⟩ := info_parts Tryz.info34
  have bV := below_bx2 (below_one w (.cells #[.slice a n ca] 26)) (.cells #[.slice none 0 0] 26)
  have K0 := (blk_new w #[.slice a n ca] 26 (b := w.heap.size) (by simp)).to (below_one _ (.cells #[.slice none 0 0] 26))
  have K1 := blk_new (w.alloc (.cells #[.slice a n ca] 26)) #[.slice none 0 0] 26 (b := w.heap.size + 1) (by simp)
  have HL := Lib.hid hl
  have HC0 := Lib.hid hA
  have HNIL := Lib.hid hz
  clear hl hA hz
  have k0 := K0.cell0 (i := 0) (v := .slice a n ca) rfl
  go_enter Tryz.func74, Tryz.ntmps74
  go_upto_region 1 with fail
  clear k0
  generalize ((w.alloc (.cells #[.slice a n ca] 26)).alloc (.cells #[.slice none 0 0] 26)) = w2 at *
  have q0 := K0.cell0 (i := 0) (v := .slice a n ca) rfl
  have q1 := K1.cell0 (i := 0) (v := .slice none 0 0) rfl
  have f1 := K1.free 0
  have lq1 := K1.lt
  cases a with
  | none =>
    obtain ⟨rfl, rfl⟩ := HNIL.out rfl
    obtain rfl := List.eq_nil_of_length_eq_zero HL.out
    have q2 := cell_to q1 (below_one w2 (.cells #[] 39))
    have r0 := cell_to q0 (below_one w2 (.cells #[] 39))
    have f2 := ((below_one w2 (.cells #[] 39)).frozen lq1).trans f1
    have HO := Lib.hid (own3_empty' (B := w2.heap.size) (w2.setCell ⟨w.heap.size + 1, 0, none⟩ (.slice (some ⟨w2.heap.size, 0, none⟩) 0 0)) (b := w2.heap.size) (by simp) (Nat.le_refl _))
    have qq := (blk_set K1 (.slice (some ⟨w2.heap.size, 0, none⟩) 0 0)).to (below_one _ (.cells #[] 39))
    have qv := qq.cell0 (i := 0) (v := (.slice (some ⟨w2.heap.size, 0, none⟩) 0 0)) rfl
    have HB := Lib.hid (own_base HO.out bV.size)
    have HBB := Lib.hid (below_bx2 (bV.setCell (p := ⟨w.heap.size + 1, 0, none⟩) (Nat.le_add_right _ _) (.slice (some ⟨w2.heap.size, 0, none⟩) 0 0)) (.cells #[] 39))
    clear HO K0 K1 qq
    go_wp2_with fail
    exact bodyPost_ret (v := .agg #[.slice (some ⟨w2.heap.size, 0, none⟩) 0 0]) (by simp [results, Tryz.results74, go_sem, qv]) rfl ⟨_, _, rfl, HB.out, HBB.out⟩
  | some ad =>
    have HO := Lib.hid (own3_empty' (B := w2.heap.size) w2 rfl (Nat.le_refl _))
    have HC := Lib.hid (hs_cells (HC0.out.below (below_bx2 bV (.cells #[] 39))))
    have q2 := cell_to q1 (below_one w2 (.cells #[] 39))
    have f2 := ((below_one w2 (.cells #[] 39)).frozen lq1).trans f1
    have r0 := cell_to q0 (below_one w2 (.cells #[] 39))
    go_wp2_with (at_builtin; refine wpList_append_own_at _ rfl _ _ 24 rfl w2.heap.size 39 i0 (.agg #[.int .i64 0, .int .i64 0, .int .i64 0]) 3 24 Tryz.underlying24 hi0 hz0 hz1 hz2 rfl (by decide) (.slice (some ⟨w2.heap.size, 0, none⟩) 0 0) 0 _ rfl HO.out ad n ca (flat rs) rfl (by rw [flat_len, HL.out]) HC.out (flat_one _) (by unfold maxLen; omega) (by omega) (by simp) ?_; intro v3 w3 ho3 hg3 hn3 _; have b3 : Below w2.heap.size w2 w3 := (below_one w2 _).grown hg3 (by simp) (fun p hp => own_base_le HO.out hp); rw [Nat.zero_add, show flat [] ++ flat rs = flat rs from List.nil_append _] at ho3; obtain ⟨a3, c3, e3⟩ := own_slice ho3; subst e3; have hne3 : some (w.heap.size + 1) ≠ (Value.slice (some ⟨w2.heap.size, 0, none⟩) 0 0).ownBlock := (by simp only [Value.ownBlock, ne_eq, Option.some.injEq]; omega); have q3 := cell_far q2 hg3 hne3; have f3 : w3.frozen? ⟨w.heap.size + 1, 0, none⟩ = false := (World.frozen?_of_block (hg3.block _ (block_lt_of_cell q2) hne3)).trans f2; have HQ3 := Lib.hid ho3; have HB3 := Lib.hid b3; clear ho3 hg3 hn3 b3 q2 f2 r0 hne3)
    have HFF := Lib.hid (own_base (own_far (p := ⟨w.heap.size + 1, 0, none⟩) HQ3.out lq1 (.slice a3 n c3)) bV.size)
    have HBB := Lib.hid ((below_to bV HB3.out).setCell (p := ⟨w.heap.size + 1, 0, none⟩) (Nat.le_add_right _ _) (.slice a3 n c3))
    exact bodyPost_ret (v := .agg #[.slice a3 n c3]) (by simp [results, Tryz.results74, go_sem, q3]) rfl ⟨_, _, rfl, HFF.out, HBB.out⟩
end Go.Proofs.YtdjjncofahnaaaaGreat
