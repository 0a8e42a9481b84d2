/- The laws' MakeArea and MakeMap over the translation. -/
import Derived.Test.YtfndkapjclhflaaAa
import Derived.Test.YtfndkapjclhflaaGv
import Derived.Test.YtfndkapjclhflaaHq
import Derived.Test.YtfndkapjclhflaaIz
namespace Go.Proofs.Ytfndkapjclhflaa
open Go.RowKit
open Geo (H3)

theorem Src.lt {w : World} {g len cap : Nat} {a : Option Addr} (h : Src w g a len cap) : g < w.heap.size := by
  obtain ⟨⟨_, _, hq, _⟩, _⟩ := h
  exact lt_of_block hq
/-- a drawn area in new memory -/
def AreaW (w0 : World) (e : Ending) (w' : World) : Prop := ∃ (ps : List H3) (x y u v : Int) (ao : Option Addr) (cp : Nat), AreaF ps x y u v ∧ e = .returned (.agg #[.slice ao ps.length cp]) ∧ w'.ownsRow w0.heap.size 35 3 (.slice ao ps.length cp) ps.length (flat ps) ∧ Below w0.heap.size w0 w'
theorem six_in {i s : Int} (hi : 0 ≤ i ∧ i ≤ 3) (hs : 40 ≤ s ∧ s ≤ 158) : (0 ≤ (3 + i) * s ∧ (3 + i) * s ≤ 1000) ∧ 20 ≤ ((3 + i) * s).tdiv 6 ∧ ((3 + i) * s).tdiv 6 ≤ 200 := by
  have e : ((3 + i) * s).tdiv 6 = (3 + i) * s / 6 := Int.tdiv_eq_ediv_of_nonneg (Int.mul_nonneg (by omega) (by omega))
  rw [e]
  rcases (by omega : i = 0 ∨ i = 1 ∨ i = 2 ∨ i = 3) with rfl | rfl | rfl | rfl <;> omega
theorem ab_in {a b x y : Int} (ha : -3 ≤ a ∧ a ≤ 3) (hb : 1 ≤ b ∧ b ≤ 3) (hx : -40 ≤ x ∧ x ≤ 19) (hy : -40 ≤ y ∧ y ≤ 19) : (-120 ≤ a * x ∧ a * x ≤ 120) ∧ -120 ≤ b * y ∧ b * y ≤ 120 := by
  constructor
  · rcases (by omega : a = -3 ∨ a = -2 ∨ a = -1 ∨ a = 0 ∨ a = 1 ∨ a = 2 ∨ a = 3) with rfl | rfl | rfl | rfl | rfl | rfl | rfl <;> omega
  · rcases (by omega : b = 1 ∨ b = 2 ∨ b = 3) with rfl | rfl | rfl <;> omega
set_option maxRecDepth 100000 in
set_option maxHeartbeats 3200000 in
theorem draw_area (w0 w : World) {g len cap : Nat} {a : Option Addr} (hb : Below w0.heap.size w0 w) (hg : w0.heap.size ≤ g) (hB : BytesAt w0 a len) (h : Src w g a len cap) : Calls Try.prog 43 #[.pointer (some ⟨g, 0, none⟩)] w (AreaW w0) := by
  obtain ⟨i0, hi, hz0, hz1, hz2⟩ := info_parts Try.info34
  have hgs := h.lt
  have hl := h.2.1
  have h0w := hb.size
  have H0 := Lib.hid (h.alloc (.cells #[.slice none 0 0] 25))
  have b0 := below_bx2 hb (.cells #[.slice none 0 0] 25)
  have K0 := blk_new w #[.slice none 0 0] 25 rfl
  have zU : (w.alloc (.cells #[.slice none 0 0] 25)).heap.size = w.heap.size + 1 := by simp
  have HB := Lib.hid hB
  clear h hb hB
  go_enter Try.func43, Try.ntmps43
  go_wp2_with fail
  generalize w.alloc (.cells #[.slice none 0 0] 25) = U at *
  generalize w.heap.size = rb at *
  have B0 := K0
  clear K0
  refine (below_cur 60 H0.out (by omega) (by omega)).mono ?_
  rintro e w1 ⟨x, hx, rfl, hd⟩
  have H1 := Lib.hid (H0.out.drawn hd)
  have B1 : Blk w1 rb #[.slice none 0 0] 25 := (hd.1.block rb (by omega) (fun e => by cases e; omega)).trans B0
  have b1 := b0.grown hd.1 b0.size (fun p hp => by cases hp; exact hg)
  have z1 := hd.1.size
  clear hd B0 b0 H0
  go_wp2_with fail
  refine (below_cur 60 H1.out (by omega) (by omega)).mono ?_
  rintro e w2 ⟨y, hy, rfl, hd⟩
  have H2 := Lib.hid (H1.out.drawn hd)
  have B2 : Blk w2 rb #[.slice none 0 0] 25 := (hd.1.block rb (by omega) (fun e => by cases e; omega)).trans B1
  have b2 := b1.grown hd.1 b1.size (fun p hp => by cases hp; exact hg)
  have z2 := hd.1.size
  clear hd B1 b1 H1
  go_wp2_with fail
  refine (below_cur 60 H2.out (by omega) (by omega)).mono ?_
  rintro e w3 ⟨z, hz, rfl, hd⟩
  have H3 := Lib.hid (H2.out.drawn hd)
  have B3 : Blk w3 rb #[.slice none 0 0] 25 := (hd.1.block rb (by omega) (fun e => by cases e; omega)).trans B2
  have b3 := b2.grown hd.1 b2.size (fun p hp => by cases hp; exact hg)
  have z3 := hd.1.size
  clear hd B2 b2 H2
  go_wp2_with fail
  refine (below_cur 60 H3.out (by omega) (by omega)).mono ?_
  rintro e w4 ⟨t, ht, rfl, hd⟩
  have H4 := Lib.hid (H3.out.drawn hd)
  have B4 : Blk w4 rb #[.slice none 0 0] 25 := (hd.1.block rb (by omega) (fun e => by cases e; omega)).trans B3
  have b4 := b3.grown hd.1 b3.size (fun p hp => by cases hp; exact hg)
  have z4 := hd.1.size
  clear hd B3 b3 H3
  go_wp2_with fail
  have hp : -40 ≤ x - 40 ∧ x - 40 ≤ 19 := by omega
  have hq : -40 ≤ y - 40 ∧ y - 40 ≤ 19 := by omega
  have hW : 20 ≤ 20 + z ∧ 20 + z ≤ 79 := by omega
  have hH : 20 ≤ 20 + t ∧ 20 + t ≤ 79 := by omega
  generalize x - 40 = p at *
  generalize y - 40 = q at *
  generalize 20 + z = W at *
  generalize 20 + t = Hh at *
  clear hx hy hz ht
  have HN := Lib.hid H4.out.2.2.2
  have HO := Lib.hid (own3_new w4 (rb + 1) 35 (boxL p q (p + W) (q + Hh)) 4 #[.int .i64 1, .int .i64 0, .int .i64 (p + W), .int .i64 0, .int .i64 1, .int .i64 (q + Hh), .int .i64 (-1), .int .i64 0, .int .i64 (-p), .int .i64 0, .int .i64 (-1), .int .i64 (-q)] rfl rfl (by unfold maxLen; omega) (by omega))
  have bA := below_bx2 b4 (.cells #[.int .i64 1, .int .i64 0, .int .i64 (p + W), .int .i64 0, .int .i64 1, .int .i64 (q + Hh), .int .i64 (-1), .int .i64 0, .int .i64 (-p), .int .i64 0, .int .i64 (-1), .int .i64 (-q)] 35)
  have HA := Lib.hid (H4.out.alloc (.cells #[.int .i64 1, .int .i64 0, .int .i64 (p + W), .int .i64 0, .int .i64 1, .int .i64 (q + Hh), .int .i64 (-1), .int .i64 0, .int .i64 (-p), .int .i64 0, .int .i64 (-1), .int .i64 (-q)] 35))
  have BA : Blk (w4.alloc (.cells #[.int .i64 1, .int .i64 0, .int .i64 (p + W), .int .i64 0, .int .i64 1, .int .i64 (q + Hh), .int .i64 (-1), .int .i64 0, .int .i64 (-p), .int .i64 0, .int .i64 (-1), .int .i64 (-q)] 35)) rb #[.slice none 0 0] 25 := B4.to (below_one w4 _)
  have zA : (w4.alloc (.cells #[.int .i64 1, .int .i64 0, .int .i64 (p + W), .int .i64 0, .int .i64 1, .int .i64 (q + Hh), .int .i64 (-1), .int .i64 0, .int .i64 (-p), .int .i64 0, .int .i64 (-1), .int .i64 (-q)] 35)).heap.size = w4.heap.size + 1 := by simp
  have hgl : g < w4.heap.size := by omega
  have hrl : rb < w4.heap.size := by omega
  clear H4 B4 b4
  generalize w4.alloc (.cells #[.int .i64 1, .int .i64 0, .int .i64 (p + W), .int .i64 0, .int .i64 1, .int .i64 (q + Hh), .int .i64 (-1), .int .i64 0, .int .i64 (-p), .int .i64 0, .int .i64 (-1), .int .i64 (-q)] 35) = V at *
  generalize w4.heap.size = lb at *
  refine (below_cur 3 HA.out (by omega) (by omega)).mono ?_
  rintro e w5 ⟨m0, hm0, rfl, hd⟩
  obtain ⟨k0, rfl⟩ : ∃ k : Nat, m0 = (k : Int) := ⟨m0.toNat, by omega⟩
  have HO2 := Lib.hid (own_grow HO.out hd.1 (fun p hp e => by have : p = lb := Option.some.inj hp.symm; have : p = g := Option.some.inj e; omega))
  have b5 : Below w0.heap.size w0 w5 := bA.grown hd.1 bA.size (fun p hp => by cases hp; exact hg)
  have B5 : Blk w5 rb #[.slice none 0 0] 25 := (hd.1.block rb (by omega) (fun e => by cases e; omega)).trans BA
  have HC5 := Lib.hid hd.2
  have z5 := hd.1.size
  have hk2 : k0 ≤ 2 := by omega
  clear hd HA BA bA HO hm0
  go_wp2
  go_loopw [7, 8] (fun v i wr => ∃ (k m : Nat) (ext : List H3) (ao : Option Addr) (cp : Nat), v = .slice ao (4 + m) cp ∧ ext.length = m ∧ i = .int .i64 k ∧ m + k ≤ 2 ∧ (∀ h ∈ ext, ExtH p q h) ∧ wr.ownsRow (rb + 1) 35 3 (.slice ao (4 + m) cp) (4 + m) (flat (boxL p q (p + W) (q + Hh) ++ ext)) ∧ Below w0.heap.size w0 wr ∧ Cur wr g a len cap ∧ Blk wr rb #[.slice none 0 0] 25) (fun _ i _ => (intOf i).toNat)
  case atStart => exact ⟨k0, 0, [], some ⟨lb, 0, none⟩, 4, rfl, rfl, rfl, by omega, by simp, by rw [List.append_nil]; exact HO2.out, b5, HC5.out, B5⟩
  case round =>
    obtain ⟨k, m, ext, ao, cp, rfl, hm, rfl, hk, hall, hown, hbw, hcur, hblk⟩ := hrel
    have H0 := Lib.hid hown
    have HA := Lib.hid hall
    have HCU := Lib.hid hcur
    have HBW := Lib.hid hbw
    have HBK := Lib.hid hblk
    have hrw := hblk.lt
    clear hown hall hcur hbw hblk
    have HM := Lib.hid hm
    clear hm
    by_cases h0 : 0 < k
    · go_wp2_with fail
      have S0 := Lib.hid (show Src wr g a len cap from ⟨HCU.out, hl, HB.out.below HBW.out, HN.out⟩)
      refine (below_cur 7 S0.out (by omega) (by omega)).mono ?_
      rintro e w6 ⟨ra, hra, rfl, hd6⟩
      have S6 := Lib.hid (S0.out.drawn hd6)
      go_wp2_with fail
      refine (below_cur 3 S6.out (by omega) (by omega)).mono ?_
      rintro e w7 ⟨rb2, hrb2, rfl, hd7⟩
      have S7 := Lib.hid (S6.out.drawn hd7)
      have D7 := Lib.hid (hd6.trans hd7)
      have ha : -3 ≤ ra - 3 ∧ ra - 3 ≤ 3 := by omega
      have hb2 : 1 ≤ 1 + rb2 ∧ 1 + rb2 ≤ 3 := by omega
      obtain ⟨ab1, ab2⟩ := ab_in ha hb2 hp hq
      generalize hra3 : ra - 3 = aa at *
      generalize hrb1 : 1 + rb2 = bb at *
      obtain ⟨uu, hu⟩ : ∃ u, aa * p = u := ⟨_, rfl⟩
      obtain ⟨vv, hv⟩ : ∃ u, bb * q = u := ⟨_, rfl⟩
      rw [hu] at ab1
      rw [hv] at ab2
      clear hd6 hd7 S0 S6
      go_wp2_with fail
      refine (below_cur 4 S7.out (by omega) (by omega)).mono ?_
      rintro e w8 ⟨ri, hri, rfl, hd8⟩
      have hri3 : 0 ≤ ri ∧ ri ≤ 3 := by omega
      have D8 := Lib.hid (D7.out.trans hd8)
      have S8 := Lib.hid (S7.out.drawn hd8)
      obtain ⟨sx1, sx2⟩ := six_in hri3 (show 40 ≤ W + Hh ∧ W + Hh ≤ 158 by omega)
      obtain ⟨A, B, C, hA, hE⟩ := ext_of (t := ((3 + ri) * (W + Hh)).tdiv 6) ha hb2 hp hq sx2
      rw [hu, hv] at hA
      have HE := Lib.hid hE
      have HF := Lib.hid (fun V => spec_hof aa bb (uu + vv + ((3 + ri) * (W + Hh)).tdiv 6) V (by omega) (by omega) (by omega) (by omega) (by omega) (by omega))
      rw [hA] at HF
      unfold spotS at HF
      clear hA hE hd8 D7 S7
      obtain ⟨ww, hw⟩ : ∃ u, (3 + ri) * (W + Hh) = u := ⟨_, rfl⟩
      rw [hw] at sx1 sx2 HF
      have wr6 : IntKind.i64.wrap (ww.tdiv 6) = ww.tdiv 6 := IntWalk.i64_in _ (by omega)
      have wr7 : IntKind.i64.wrap (uu + vv + ww.tdiv 6) = uu + vv + ww.tdiv 6 := IntWalk.i64_in _ (by omega)
      go_wp2_with fail
      refine (HF.out _).mono ?_
      rintro e w9 ⟨rfl, bl9⟩
      have D9 := Lib.hid (D8.out.trans (drawn_below S8.out.1 bl9))
      have zw9 : wr.heap.size ≤ w9.heap.size := D9.out.1.size
      have bX := below_one w9 (.cells #[.int .i64 A, .int .i64 B, .int .i64 C] 35)
      have N1 := blk_new w9 #[.int .i64 A, .int .i64 B, .int .i64 C] 35 rfl
      have n0 := N1.cell0 (i := 0) rfl
      have n1 := N1.cell0 (i := 1) rfl
      have n2 := N1.cell0 (i := 2) rfl
      have bXX := below_bx2 bX (.cells #[.int .i64 A, .int .i64 B, .int .i64 C] 35)
      have H3o := Lib.hid (own_below (own_grow H0.out D9.out.1 (fun p hp e => by have := own_base_le H0.out hp; simp only [Option.some.injEq] at e; omega)) bXX)
      have b9 := Lib.hid (below_to (HBW.out.grown D9.out.1 HBW.out.size (fun p hp => by cases hp; exact hg)) bXX)
      have hg9 : g < w9.heap.size := by omega
      have HC9 := Lib.hid (D9.out.2.kept (bXX.block g hg9))
      have BK9 : Blk ((w9.alloc (.cells #[.int .i64 A, .int .i64 B, .int .i64 C] 35)).alloc (.cells #[.int .i64 A, .int .i64 B, .int .i64 C] 35)) rb #[.slice none 0 0] 25 := (show Blk w9 rb #[.slice none 0 0] 25 from (D9.out.1.block rb hrw (fun e => by cases e; omega)).trans HBK.out).to bXX
      have HN1 := blk_new (w9.alloc (.cells #[.int .i64 A, .int .i64 B, .int .i64 C] 35)) #[.int .i64 A, .int .i64 B, .int .i64 C] 35 (b := w9.heap.size + 1) (by simp)
      have zs : ((w9.alloc (.cells #[.int .i64 A, .int .i64 B, .int .i64 C] 35)).alloc (.cells #[.int .i64 A, .int .i64 B, .int .i64 C] 35)).heap.size = w9.heap.size + 1 + 1 := by simp
      clear bX bXX bl9 D9 D8 S8 H0 HCU HBW HBK wr6 wr7 HF N1
      have hne : some g ≠ (Value.slice ao (4 + m) cp).ownBlock := fun e => by have := own_base_le H3o.out e.symm; omega
      have hne2 : some rb ≠ (Value.slice ao (4 + m) cp).ownBlock := fun e => by have := own_base_le H3o.out e.symm; omega
      go_wp2_with (at_builtin; refine wpList_append_lies _ rfl _ _ 23 rfl (rb + 1) 35 i0 (.agg #[.int .i64 0, .int .i64 0, .int .i64 0]) 3 24 Try.underlying23 hi hz0 hz1 hz2 rfl (by decide) (.slice ao (4 + m) cp) (4 + m) _ rfl H3o.out ⟨w9.heap.size + 1, 0, none⟩ 1 1 [.int .i64 A, .int .i64 B, .int .i64 C] rfl rfl (World.news_of_block (cs := #[.int .i64 A, .int .i64 B, .int .i64 C]) (t := 35) (fr := (0, 0)) HN1) (by simp [Value.oneCell']) (by omega) (by unfold maxLen; omega) (by omega) (by simp; omega) _ rfl ?_; intro gg cap' wa hown7 hgrow hat hlt7; have H7 := Lib.hid hown7; have HG := Lib.hid hgrow; clear hown7 hgrow hat)
      have b7 : Below w0.heap.size w0 wa := b9.out.grown HG.out b9.out.size (fun p hp => by have := own_base_le H3o.out hp; omega)
      have HC7 := Lib.hid (HC9.out.kept (HG.out.block g (by omega) hne))
      have BK7 : Blk wa rb #[.slice none 0 0] 25 := (HG.out.block rb (by omega) hne2).trans BK9
      have HL := Lib.hid (show (ext ++ [(⟨A, B, C⟩ : H3)]).length = m + 1 by rw [List.length_append, HM.out]; rfl)
      go_roundw
      case rel =>
        refine ⟨k - 1, m + 1, ext ++ [⟨A, B, C⟩], _, _, rfl, HL.out, by go_num, by omega, ?_, ?_, b7, HC7.out, BK7⟩
        · intro h hh
          rcases List.mem_append.1 hh with k | k
          · exact HA.out h k
          · rw [List.mem_singleton.1 k]; exact HE.out
        · rw [← List.append_assoc, flat_app]; exact H7.out
      case measure => simp [intOf]; omega
    · obtain rfl : k = 0 := by omega
      obtain ⟨hok, hAF⟩ := area_of (ext := ext) hp hq (u := p + W) (v := q + Hh) (by omega) (by omega) (by rw [HM.out]; omega) HA.out
      have HAF := Lib.hid hAF
      have hlen : (boxL p q (p + W) (q + Hh) ++ ext).length = 4 + m := by rw [List.length_append, HM.out]; rfl
      have HSM := Lib.hid (spec_make ao (4 + m) cp (boxL p q (p + W) (q + Hh) ++ ext) wr hlen (by omega) hok (own_nil H0.out) (own_hs H0.out))
      rw [mod_reg hok] at HSM
      clear hok hAF hlen
      generalize regL (boxL p q (p + W) (q + Hh) ++ ext) = ps at *
      unfold MakW at HSM
      go_wp2_with fail
      refine HSM.out.mono ?_
      rintro e wz ⟨az, cz, rfl, hoz, blz⟩
      have HZ := Lib.hid (own_base hoz (show rb + 1 ≤ wr.heap.size by omega))
      have BKz := HBK.out.to blz
      have bz := below_to HBW.out blz
      have c0 := BKz.cell0 (i := 0) rfl
      have f0 := BKz.free 0
      have y0 := BKz.lt
      clear hoz blz HBK HBW H0 HCU HSM
      go_wp2_with fail
      refine bodyPost_ret (v := .agg #[.slice az ps.length cz]) (by simp [results, Try.results43, go_sem, c0]) rfl ⟨ps, p, q, p + W, q + Hh, az, cz, HAF.out, rfl, ?_, ?_⟩
      · exact own_base (own_far HZ.out (by simp) _) (by omega)
      · exact bz.setCell (by omega) _
end Go.Proofs.Ytfndkapjclhflaa
