/- The laws' MakeArea and MakeMap over the translation. -/
import Derived.Test.YtfndkapjclhflaaAb
import Derived.Test.YtfndkapjclhflaaIz
import Derived.Test.YtfndkapjclhflaaPc
namespace Go.Proofs.Ytfndkapjclhflaa
open Go.RowKit
open Geo (H3)

set_option maxHeartbeats 1600000 in
theorem make_area (w : World) (a : Option Addr) (len cap n : Nat) (hn : n ≤ 1000000) (hl : len ≤ 1048576) (hB : BytesAt w a len) : Calls Try.prog 10 #[.slice a len cap, .int .i64 n] w (AreaW w) := by
  have hb0 := below_one w (.cells #[.slice none 0 0] 25)
  have K0 := blk_new w #[.slice none 0 0] 25 rfl
  have HB := Lib.hid (hB.below hb0)
  clear hB
  go_enter Try.func10, Try.ntmps10
  go_wp2_with fail
  have hz : (w.alloc (.cells #[.slice none 0 0] 25)).heap.size = w.heap.size + 1 := by simp
  generalize w.alloc (.cells #[.slice none 0 0] 25) = U at *
  refine (new26 _ a len cap n hn hl HB.out).mono ?_
  rintro e w1 ⟨g, rfl, hg, hs, hb⟩
  have HS := Lib.hid hs
  have HD := Lib.hid (draw_area U w1 hb hg HB.out hs)
  have KU := K0
  clear hs K0
  go_wp2_with fail
  refine HD.out.mono ?_
  rintro e w2 ⟨ps, x, y, u, v, ao, cp, hA, rfl, ho, hb2⟩
  have HO := Lib.hid ho
  have HA := Lib.hid hA
  have K2 := KU.to hb2
  have c0 := K2.cell0 (i := 0) rfl
  have f0 := K2.free 0
  have y0 := K2.lt
  have hfin := below_to hb0 hb2
  clear ho hA hb hb2 KU HD
  go_wp2_with fail
  refine bodyPost_ret (v := .agg #[.slice ao ps.length cp]) (by simp [results, Try.results10, go_sem, c0]) rfl ⟨ps, x, y, u, v, ao, cp, HA.out, rfl, ?_, ?_⟩
  · exact own_base (own_far HO.out (by simp; omega) _) (by omega)
  · exact hfin.setCell (Nat.le_refl _) _
set_option maxHeartbeats 800000 in
theorem pick_four {w : World} {g len cap r : Nat} {a : Option Addr} (h : Src w g a len cap) (hr : Blk w r #[.int .i64 1, .int .i64 2, .int .i64 4, .int .i64 5] 3) (hg : r ≠ g) :
    Calls Try.prog 102 #[.pointer (some ⟨g, 0, none⟩), .slice (some ⟨r, 0, none⟩) 4 4] w (Gave 1 5 g a len cap w) := by
  have H := Lib.hid h
  have HR := Lib.hid hr
  have HG := Lib.hid hg
  clear h hr hg
  go_enter Try.func102, Try.ntmps102
  go_wp2_with fail
  refine (below_cur 4 H.out (by omega) (by omega)).mono ?_
  rintro e w1 ⟨x, ⟨hx0, hx1⟩, rfl, hd⟩
  have hh : Blk w1 r #[.int .i64 1, .int .i64 2, .int .i64 4, .int .i64 5] 3 := (hd.1.block r HR.out.lt (by simpa using HG.out)).trans HR.out
  have c0 := hh.cell0 (i := 0) rfl
  have c1 := hh.cell0 (i := 1) rfl
  have c2 := hh.cell0 (i := 2) rfl
  have c3 := hh.cell0 (i := 3) rfl
  simp at c0 c1 c2 c3
  clear hh
  have HD := Lib.hid hd
  clear hd
  have hx : x = 0 ∨ x = 1 ∨ x = 2 ∨ x = 3 := by omega
  clear hx0 hx1
  rcases hx with rfl | rfl | rfl | rfl
  all_goals
    go_wp2_with fail
    go_ret
    exact ⟨_, ⟨by omega, by omega⟩, rfl, HD.out⟩
def MapF (zs : List Int) (q : Int) : Prop := mapB zs q = true ∧ (∃ z0 z1 z2 z3, zs = [z0, z1, z2, z3] ∧ (-5 ≤ z0 ∧ z0 ≤ 5) ∧ (-5 ≤ z1 ∧ z1 ≤ 5) ∧ (-5 ≤ z2 ∧ z2 ≤ 5) ∧ (-5 ≤ z3 ∧ z3 ≤ 5)) ∧ 1 ≤ q ∧ q ≤ 5
theorem mapF_of {z0 z1 z2 z3 q : Int} (h0 : -5 ≤ z0 ∧ z0 ≤ 5) (h1 : -5 ≤ z1 ∧ z1 ≤ 5) (h2 : -5 ≤ z2 ∧ z2 ≤ 5) (h3 : -5 ≤ z3 ∧ z3 ≤ 5) (hq : 1 ≤ q ∧ q ≤ 5) : MapF [z0, z1, z2, z3] q := by
  refine ⟨?_, ⟨z0, z1, z2, z3, rfl, h0, h1, h2, h3⟩, hq.1, hq.2⟩
  unfold mapB
  simp only [List.length_cons, List.length_nil, List.all_cons, List.all_nil, Bool.and_true, Bool.and_eq_true, decide_eq_true_eq]
  refine ⟨⟨trivial, inB_of (by omega) (by omega)⟩, inB_of (by omega) (by omega), inB_of (by omega) (by omega), inB_of (by omega) (by omega), inB_of (by omega) (by omega)⟩
/-- a drawn matrix in new memory -/
def MapW (w0 : World) (e : Ending) (w' : World) : Prop := ∃ (zs : List Int) (q : Int) (ao : Option Addr) (cp : Nat), MapF zs q ∧ e = .returned (.tuple #[.slice ao 4 cp, .int .i64 q]) ∧ IsAt w' ao zs ∧ Below w0.heap.size w0 w'
theorem is_blk {W : World} {g : Nat} {z0 z1 z2 z3 : Int} {t : TypeId} (h : Blk W g #[.int .i64 z0, .int .i64 z1, .int .i64 z2, .int .i64 z3] t) : IsAt W (some ⟨g, 0, none⟩) [z0, z1, z2, z3] := by
  intro i z hz
  refine ⟨g, 0, rfl, ?_⟩
  have hi : i < 4 := (List.getElem?_eq_some_iff.1 hz).1
  rcases (by omega : i = 0 ∨ i = 1 ∨ i = 2 ∨ i = 3) with rfl | rfl | rfl | rfl
  all_goals
    cases hz
    exact h.cell0 rfl
theorem det_in {z0 z1 z2 z3 : Int} (h0 : -5 ≤ z0 ∧ z0 ≤ 5) (h1 : -5 ≤ z1 ∧ z1 ≤ 5) (h2 : -5 ≤ z2 ∧ z2 ≤ 5) (h3 : -5 ≤ z3 ∧ z3 ≤ 5) : (-25 ≤ z0 * z3 ∧ z0 * z3 ≤ 25) ∧ -25 ≤ z1 * z2 ∧ z1 * z2 ≤ 25 := by
  have k : ∀ a b : Int, (-5 ≤ a ∧ a ≤ 5) → (-5 ≤ b ∧ b ≤ 5) → -25 ≤ a * b ∧ a * b ≤ 25 := by
    intro a b ha hb
    rcases (by omega : a = -5 ∨ a = -4 ∨ a = -3 ∨ a = -2 ∨ a = -1 ∨ a = 0 ∨ a = 1 ∨ a = 2 ∨ a = 3 ∨ a = 4 ∨ a = 5) with rfl | rfl | rfl | rfl | rfl | rfl | rfl | rfl | rfl | rfl | rfl <;> omega
  exact ⟨k _ _ h0 h3, k _ _ h1 h2⟩
set_option maxRecDepth 100000 in
set_option maxHeartbeats 3200000 in
theorem draw_map (w0 w : World) {g len cap : Nat} {a : Option Addr} (hb : Below w0.heap.size w0 w) (hg : w0.heap.size ≤ g) (h : Src w g a len cap) : Calls Try.prog 81 #[.pointer (some ⟨g, 0, none⟩)] w (MapW w0) := by
  have hgs := h.lt
  have h0w := hb.size
  have H0 := Lib.hid (h.alloc (.cells #[.int .i64 1, .int .i64 2, .int .i64 4, .int .i64 5] 3))
  have b0 := below_bx2 hb (.cells #[.int .i64 1, .int .i64 2, .int .i64 4, .int .i64 5] 3)
  have K0 := Lib.hid (blk_new w #[.int .i64 1, .int .i64 2, .int .i64 4, .int .i64 5] 3 rfl)
  clear h hb
  go_enter Try.func81, Try.ntmps81
  go_wp2_with fail
  refine (pick_four H0.out K0.out (by omega)).mono ?_
  rintro e w1 ⟨q, hq, rfl, hd⟩
  have H1 := Lib.hid (H0.out.drawn hd)
  have b1 := b0.grown hd.1 b0.size (fun p hp => by cases hp; exact hg)
  clear hd b0 H0 K0
  go_wp2_with fail
  refine (below_cur 2 H1.out (by omega) (by omega)).mono ?_
  rintro e w2 ⟨r0, hr0, rfl, hd⟩
  have H2 := Lib.hid (H1.out.drawn hd)
  have b2 := b1.grown hd.1 b1.size (fun p hp => by cases hp; exact hg)
  clear hd b1 H1
  go_wp2_with fail
  refine (below_cur 3 H2.out (by omega) (by omega)).mono ?_
  rintro e w3 ⟨r1, hr1, rfl, hd⟩
  have H3 := Lib.hid (H2.out.drawn hd)
  have b3 := b2.grown hd.1 b2.size (fun p hp => by cases hp; exact hg)
  clear hd b2 H2
  go_wp2_with fail
  refine (below_cur 3 H3.out (by omega) (by omega)).mono ?_
  rintro e w4 ⟨r2, hr2, rfl, hd⟩
  have H4 := Lib.hid (H3.out.drawn hd)
  have b4 := b3.grown hd.1 b3.size (fun p hp => by cases hp; exact hg)
  clear hd b3 H3
  go_wp2_with fail
  refine (below_cur 2 H4.out (by omega) (by omega)).mono ?_
  rintro e w5 ⟨r3, hr3, rfl, hd⟩
  have H5 := Lib.hid (H4.out.drawn hd)
  have b5 := b4.grown hd.1 b4.size (fun p hp => by cases hp; exact hg)
  clear hd b4 H4
  have f0 : -5 ≤ q - r0 ∧ q - r0 ≤ 5 := by omega
  have f1 : -5 ≤ r1 - 1 ∧ r1 - 1 ≤ 5 := by omega
  have f2 : -5 ≤ r2 - 1 ∧ r2 - 1 ≤ 5 := by omega
  have f3 : -5 ≤ q - r3 ∧ q - r3 ≤ 5 := by omega
  go_wp2_with fail
  generalize q - r0 = z0 at *
  generalize r1 - 1 = z1 at *
  generalize r2 - 1 = z2 at *
  generalize q - r3 = z3 at *
  have KM := blk_new w5 #[.int .i64 z0, .int .i64 z1, .int .i64 z2, .int .i64 z3] 3 rfl
  have bM := below_one w5 (.cells #[.int .i64 z0, .int .i64 z1, .int .i64 z2, .int .i64 z3] 3)
  have b6 := below_to b5 bM
  have c0 := KM.cell0 (i := 0) rfl
  have c1 := KM.cell0 (i := 1) rfl
  have c2 := KM.cell0 (i := 2) rfl
  have c3 := KM.cell0 (i := 3) rfl
  obtain ⟨d1, d2⟩ := det_in f0 f1 f2 f3
  obtain ⟨u, hu⟩ : ∃ u, z0 * z3 = u := ⟨_, rfl⟩
  obtain ⟨v, hv⟩ : ∃ u, z1 * z2 = u := ⟨_, rfl⟩
  rw [hu] at d1
  rw [hv] at d2
  clear b5 bM H5 hr0 hr1 hr2 hr3
  have hz : (w5.alloc (.cells #[.int .i64 z0, .int .i64 z1, .int .i64 z2, .int .i64 z3] 3)).heap.size = w5.heap.size + 1 := by simp
  generalize w5.alloc (.cells #[.int .i64 z0, .int .i64 z1, .int .i64 z2, .int .i64 z3] 3) = V at *
  generalize w5.heap.size = mb at *
  by_cases hd : u - v = 0
  · have HF := Lib.hid (mapF_of (q := q) (show -5 ≤ q ∧ q ≤ 5 by omega) (show (-5 : Int) ≤ 0 ∧ (0 : Int) ≤ 5 by omega) (show (-5 : Int) ≤ 0 ∧ (0 : Int) ≤ 5 by omega) (show -5 ≤ q ∧ q ≤ 5 by omega) hq)
    have hdb : (u - v == 0) = true := by simpa using hd
    go_region
    go_wp2
    exact bodyPost_ret (v := .tuple #[.slice (some ⟨V.heap.size, 0, none⟩) 4 4, .int .i64 q]) (by simp [results, Try.results81, go_sem]) rfl ⟨[q, 0, 0, q], q, _, _, HF.out, rfl, is_blk (blk_new V #[.int .i64 q, .int .i64 0, .int .i64 0, .int .i64 q] 3 rfl), below_drw (below_bx2 b6 _)⟩
  · have HF := Lib.hid (mapF_of f0 f1 f2 f3 hq)
    have hdb : (u - v == 0) = false := by simpa using hd
    go_region
    go_wp2
    exact bodyPost_ret (v := .tuple #[.slice (some ⟨mb, 0, none⟩) 4 4, .int .i64 q]) (by simp [results, Try.results81, go_sem]) rfl ⟨[z0, z1, z2, z3], q, _, _, HF.out, rfl, is_blk KM, below_drw b6⟩
set_option maxHeartbeats 1600000 in
theorem make_map (w : World) (a : Option Addr) (len cap n : Nat) (hn : n ≤ 1000000) (hl : len ≤ 1048576) (hB : BytesAt w a len) : Calls Try.prog 36 #[.slice a len cap, .int .i64 n] w (MapW w) := by
  have HB := Lib.hid hB
  clear hB
  go_enter Try.func36, Try.ntmps36
  go_wp2_with fail
  refine (new26 _ a len cap n hn hl HB.out).mono ?_
  rintro e w1 ⟨g, rfl, hg, hs, hb⟩
  have HD := Lib.hid (draw_map w w1 hb hg hs)
  clear hs hb
  go_wp2_with fail
  refine HD.out.mono ?_
  rintro e w2 ⟨zs, q, ao, cp, hF, rfl, hA, hb2⟩
  have HF := Lib.hid hF
  have HA := Lib.hid hA
  clear hF hA HD
  go_wp2
  exact bodyPost_ret (v := .tuple #[.slice ao 4 cp, .int .i64 q]) (by simp [results, Try.results36, go_sem]) rfl ⟨zs, q, ao, cp, HF.out, rfl, HA.out, hb2⟩
end Go.Proofs.Ytfndkapjclhflaa
