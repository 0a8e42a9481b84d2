/- ErodeRegion of the program over the translation. GrowAlong: the half planes that touch a region, and the move of an edge, of the program over the translation. ErodeRegion of the program over the translation. -/
import Derived.Test.YtibkmhmeoelpdaaGreatMz
import Derived.Test.YtibkmhmeoelpdaaGreatMw
import Derived.Test.YtibkmhmeoelpdaaGreatFg
namespace Go.Proofs.YtibkmhmeoelpdaaGreat
open Go.RowKit Go.Shelf
open Geo (H3)
/-- the greatest value of the other region in an edge's direction -/
noncomputable def erN (qs : List H3) (h : H3) : Int := (farS h.a h.b qs qs.length).2.1
noncomputable def erD (qs : List H3) (h : H3) : Int := (farS h.a h.b qs qs.length).2.2
noncomputable def erB (qs : List H3) (h : H3) : Bool := hasH (h.a * erD qs h) (h.b * erD qs h) (h.c * erD qs h - erN qs h)
noncomputable def erM (qs : List H3) (h : H3) : H3 := redH (h.a * erD qs h) (h.b * erD qs h) (h.c * erD qs h - erN qs h)
theorem er_ok (qs : List H3) (h : H3) (k : erB qs h = true) : okB (erM qs h) = true := red_ok k
theorem ok_in {h : H3} (k : okB h = true) : In5 h.a ∧ In5 h.b ∧ (-100000000 ≤ h.c ∧ h.c ≤ 100000000) ∧ (h.a ≠ 0 ∨ h.b ≠ 0) ∧ inB h.a (-50000) 50000 = true ∧ inB h.b (-50000) 50000 = true := by
  obtain ⟨a1, a2, b1, b2, n, c1, c2, _⟩ := (okH_iff _ _ _).1 k
  exact ⟨⟨a1, a2⟩, ⟨b1, b2⟩, ⟨c1, c2⟩, n, by unfold inB; simp [a1, a2], by unfold inB; simp [b1, b2]⟩
theorem er_in {qs : List H3} {h : H3} (hq : rokB qs = true) (ne : qs ≠ []) (k : okB h = true) :
    (-250000000000000 ≤ h.a * erD qs h ∧ h.a * erD qs h ≤ 250000000000000) ∧ (-250000000000000 ≤ h.b * erD qs h ∧ h.b * erD qs h ≤ 250000000000000) ∧ (-500000000000000000 ≤ h.c * erD qs h ∧ h.c * erD qs h ≤ 500000000000000000) ∧ (-500000000000000000 ≤ erN qs h ∧ erN qs h ≤ 500000000000000000) ∧ (1 ≤ erD qs h ∧ erD qs h ≤ 5000000000) ∧ Int.gcd (erN qs h) (erD qs h) = 1 ∧ supR h.a h.b qs = farS h.a h.b qs qs.length := by
  obtain ⟨⟨a1, a2⟩, ⟨b1, b2⟩, ⟨c1, c2⟩, _, i1, i2⟩ := ok_in k
  obtain ⟨_, e, q, _, ⟨n1, n2⟩, d1, d2⟩ := sup_of rfl hq ne i1 i2
  obtain ⟨o1, _, _, _, o5⟩ := (okR_iff _ _).1 q
  have m1 := mul_in h.a (erD qs h) 50000 5000000000 a1 a2 (by unfold erD; omega) d2
  have m2 := mul_in h.b (erD qs h) 50000 5000000000 b1 b2 (by unfold erD; omega) d2
  have m3 := mul_in h.c (erD qs h) 100000000 5000000000 c1 c2 (by unfold erD; omega) d2
  exact ⟨by omega, by omega, by omega, ⟨n1, n2⟩, ⟨o1, d2⟩, o5, e⟩
set_option maxHeartbeats 1600000 in
/-- the program's move of an edge -/
theorem er_call (p : Nat) (b : Option Addr) (m cb : Nat) (qs : List H3) (h : H3) (w : World) (hl : qs.length = m) (hm : m ≤ 1048576) (h64 : ∀ h ∈ qs, In64 h) (hq : rokB qs = true) (ne : qs ≠ []) (k : okB h = true) (hA : HsAt w b qs) (c1 : w.cell? ⟨p, 0, none⟩ = some (.slice b m cb)) :
    Calls Tryz.prog 138 #[.agg #[.int .i64 h.a, .int .i64 h.b, .int .i64 h.c], .pointer (some ⟨p, 0, none⟩)] w fun e w' => e = .returned (.tuple #[.agg #[.int .i64 (erM qs h).a, .int .i64 (erM qs h).b, .int .i64 (erM qs h).c], .bool (erB qs h)]) ∧ Below w.heap.size w w' := by
  obtain ⟨⟨m1, m2⟩, ⟨m3, m4⟩, ⟨m5, m6⟩, ⟨n1, n2⟩, ⟨d1, d2⟩, _, es⟩ := er_in hq ne k
  have HH := Lib.hid (fun W => impl_hof (h.a * erD qs h) (h.b * erD qs h) (h.c * erD qs h - erN qs h) W (by omega) (by omega) (by omega) (by omega) (by omega) (by omega))
  rw [ans_red, show hasH (h.a * erD qs h) (h.b * erD qs h) (h.c * erD qs h - erN qs h) = erB qs h from rfl, show redH (h.a * erD qs h) (h.b * erD qs h) (h.c * erD qs h - erN qs h) = erM qs h from rfl] at HH
  have HS := Lib.hid (fun V (hb : Below w.heap.size w V) => impl_sup b m cb qs h.a h.b V hl hm h64 (hA.below hb))
  rw [es, show (farS h.a h.b qs qs.length).2.1 = erN qs h from rfl, show (farS h.a h.b qs qs.length).2.2 = erD qs h from rfl] at HS
  clear es hl hA h64 hq ne k
  generalize supB h.a h.b qs = r0 at *
  generalize erB qs h = r at *
  generalize erM qs h = s at *
  generalize erN qs h = N at *
  generalize erD qs h = D at *
  obtain ⟨xa, xb, xc⟩ := h
  obtain ⟨sa, sb, sc⟩ := s
  simp only at HH HS m1 m2 m3 m4 m5 m6 ⊢
  have l1 := block_lt_of_cell c1
  simp only at l1
  have bV := below_bx2 (below_one w (.cells #[.int .i64 xa, .int .i64 xb, .int .i64 xc] 104)) (.cells #[.int .i64 0, .int .i64 0, .int .i64 0] 104)
  have e1 := cell_to c1 bV
  have T0 := has3_new (w.alloc (.cells #[.int .i64 xa, .int .i64 xb, .int .i64 xc] 104)) (.int .i64 0) (.int .i64 0) (.int .i64 0) 104
  rw [show (w.alloc (.cells #[.int .i64 xa, .int .i64 xb, .int .i64 xc] 104)).heap.size = w.heap.size + 1 by simp] at T0
  have T1 := has3_to (below_one (w.alloc (.cells #[.int .i64 xa, .int .i64 xb, .int .i64 xc] 104)) (.cells #[.int .i64 0, .int .i64 0, .int .i64 0] 104)) (has3_new w (.int .i64 xa) (.int .i64 xb) (.int .i64 xc) 104)
  go_enter Tryz.func138, Tryz.ntmps138
  go_wp2_with fail
  generalize (w.alloc (.cells #[.int .i64 xa, .int .i64 xb, .int .i64 xc] 104)).alloc (.cells #[.int .i64 0, .int .i64 0, .int .i64 0] 104) = V at *
  refine (HS.out _ bV).mono ?_
  rintro e w1 ⟨rfl, bl1⟩
  have b1 := below_to bV bl1
  have bX := below_bx2 b1 (.cells #[.int .i64 N, .int .i64 D] 33)
  obtain ⟨t1, t2, t3, f1, f2, f3⟩ := has3_to (below_one w1 (.cells #[.int .i64 N, .int .i64 D] 33)) (has3_to bl1 T1)
  have T2 := has3_to (below_one w1 (.cells #[.int .i64 N, .int .i64 D] 33)) (has3_to bl1 T0)
  obtain ⟨v1, v2, _, _⟩ := two_new w1 (.int .i64 N) (.int .i64 D) 33
  clear bl1 HS e1 T0 T1 bV b1
  generalize eu1 : xa * D = u1 at *
  generalize eu2 : xb * D = u2 at *
  generalize eu3 : xc * D = u3 at *
  go_wp2_with fail
  refine (HH.out _).mono ?_
  rintro e w2 ⟨rfl, bl2⟩
  have b3 := below_to bX bl2
  obtain ⟨t1, t2, t3, f1, f2, f3⟩ := has3_to bl2 T2
  clear bl2 HH T2
  go_wp2_with fail
  exact bodyPost_ret (v := .tuple #[.agg #[.int .i64 sa, .int .i64 sb, .int .i64 sc], .bool r]) (by simp [results, Tryz.results138, go_sem, t1, t2, t3]) rfl ⟨rfl, ((b3.setCell (p := ⟨w.heap.size + 1, 0, none⟩) (by simp) _).setCell (p := ⟨w.heap.size + 1, 1, none⟩) (by simp) _).setCell (p := ⟨w.heap.size + 1, 2, none⟩) (by simp) _⟩
/-- what ErodeRegion answers -/
noncomputable def eroB (ps qs : List H3) : Bool := rokB ps && rokB qs && decide (qs ≠ []) && mvB (erB qs) (erM qs) [] ps
noncomputable def eroL (ps qs : List H3) : List H3 := if rokB ps = true ∧ rokB qs = true ∧ qs ≠ [] then mvL (erB qs) (erM qs) [] ps else []
theorem ero_no {ps qs : List H3} (h : rokB ps = false ∨ rokB qs = false ∨ qs = []) : eroL ps qs = [] ∧ eroB ps qs = false := by
  refine ⟨?_, ?_⟩
  · unfold eroL; rw [if_neg]; rintro ⟨a, b, c⟩; rcases h with h | h | h <;> simp_all
  · unfold eroB; rcases h with h | h | h <;> simp [h]
theorem ero_yes {ps qs : List H3} (h1 : rokB ps = true) (h2 : rokB qs = true) (h3 : qs ≠ []) : eroL ps qs = mvL (erB qs) (erM qs) [] ps ∧ eroB ps qs = mvB (erB qs) (erM qs) [] ps :=
  ⟨if_pos ⟨h1, h2, h3⟩, by unfold eroB; rw [h1, h2, decide_eq_true h3]; simp⟩

/-- the half plane of a direction that touches a region -/
noncomputable def tcB (A B : Int) (ps : List H3) : Bool := hasH (A * (farS A B ps ps.length).2.2) (B * (farS A B ps ps.length).2.2) (farS A B ps ps.length).2.1
noncomputable def tcH (A B : Int) (ps : List H3) : H3 := redH (A * (farS A B ps ps.length).2.2) (B * (farS A B ps ps.length).2.2) (farS A B ps ps.length).2.1
set_option maxHeartbeats 1600000 in
theorem impl_touch (a : Option Addr) (n ca : Nat) (ps : List H3) (A B : Int) (w : World) (hl : ps.length = n) (hn : n ≤ 1048576) (h64 : ∀ h ∈ ps, In64 h) (hp : rokB ps = true) (ne : ps ≠ []) (i1 : inB A (-50000) 50000 = true) (i2 : inB B (-50000) 50000 = true) (hA : HsAt w a ps) :
    Calls Tryz.prog 142 #[.agg #[.slice a n ca], .int .i64 A, .int .i64 B] w fun e w' => e = .returned (.tuple #[.agg #[.int .i64 (tcH A B ps).a, .int .i64 (tcH A B ps).b, .int .i64 (tcH A B ps).c], .bool (tcB A B ps)]) ∧ Below w.heap.size w w' := by
  obtain ⟨sy, e, q, _, ⟨n1, n2⟩, _, d2⟩ := sup_of rfl hp ne i1 i2
  obtain ⟨o1, _, _, _, _⟩ := (okR_iff _ _).1 q
  obtain ⟨a1, a2⟩ := in5_of i1
  obtain ⟨b1, b2⟩ := in5_of i2
  have m1 := mul_in A (farS A B ps ps.length).2.2 50000 5000000000 a1 a2 (by omega) d2
  have m2 := mul_in B (farS A B ps ps.length).2.2 50000 5000000000 b1 b2 (by omega) d2
  have HH := Lib.hid (fun W => impl_hof (A * (farS A B ps ps.length).2.2) (B * (farS A B ps ps.length).2.2) (farS A B ps ps.length).2.1 W (by omega) (by omega) (by omega) (by omega) (by omega) (by omega))
  rw [ans_red, show hasH (A * (farS A B ps ps.length).2.2) (B * (farS A B ps ps.length).2.2) (farS A B ps ps.length).2.1 = tcB A B ps from rfl, show redH (A * (farS A B ps ps.length).2.2) (B * (farS A B ps ps.length).2.2) (farS A B ps ps.length).2.1 = tcH A B ps from rfl] at HH
  have HS := Lib.hid (fun V (hb : Below w.heap.size w V) => impl_sup a n ca ps A B V hl hn h64 (hA.below hb))
  rw [e, sy] at HS
  clear e sy q hl hA h64 hp ne i1 i2
  generalize tcB A B ps = r at *
  generalize tcH A B ps = s at *
  generalize farS A B ps ps.length = f at *
  obtain ⟨_, N, D⟩ := f
  obtain ⟨sa, sb, sc⟩ := s
  simp only at HH HS m1 m2 n1 n2 d2 o1 ⊢
  have bV := below_bx2 (below_one w (.cells #[.slice a n ca] 40)) (.cells #[.int .i64 0, .int .i64 0, .int .i64 0] 104)
  have T0 := has3_new (w.alloc (.cells #[.slice a n ca] 40)) (.int .i64 0) (.int .i64 0) (.int .i64 0) 104
  rw [show (w.alloc (.cells #[.slice a n ca] 40)).heap.size = w.heap.size + 1 by simp] at T0
  go_enter Tryz.func142, Tryz.ntmps142
  go_wp2_with fail
  generalize (w.alloc (.cells #[.slice a n ca] 40)).alloc (.cells #[.int .i64 0, .int .i64 0, .int .i64 0] 104) = V at *
  refine (HS.out _ bV).mono ?_
  rintro e w1 ⟨rfl, bl1⟩
  have b1 := below_to bV bl1
  have bX := below_bx2 b1 (.cells #[.int .i64 N, .int .i64 D] 33)
  have T2 := has3_to (below_one w1 (.cells #[.int .i64 N, .int .i64 D] 33)) (has3_to bl1 T0)
  obtain ⟨v1, v2, _, _⟩ := two_new w1 (.int .i64 N) (.int .i64 D) 33
  clear bl1 HS T0 bV b1
  generalize eu1 : A * D = u1 at *
  generalize eu2 : B * D = u2 at *
  go_wp2_with fail
  refine (HH.out _).mono ?_
  rintro e w2 ⟨rfl, bl2⟩
  have b3 := below_to bX bl2
  obtain ⟨t1, t2, t3, f1, f2, f3⟩ := has3_to bl2 T2
  clear bl2 HH T2
  go_wp2_with fail
  exact bodyPost_ret (v := .tuple #[.agg #[.int .i64 sa, .int .i64 sb, .int .i64 sc], .bool r]) (by simp [results, Tryz.results142, go_sem, t1, t2, t3]) rfl ⟨rfl, ((b3.setCell (p := ⟨w.heap.size + 1, 0, none⟩) (by simp) _).setCell (p := ⟨w.heap.size + 1, 1, none⟩) (by simp) _).setCell (p := ⟨w.heap.size + 1, 2, none⟩) (by simp) _⟩
/-- an edge that is grown along a way -/
def slp (bx by' : Int) (h : H3) : Int := h.a * bx + h.b * by'
def grB (bx by' lo hi : Int) (h : H3) : Bool := hasH h.a h.b (h.c + max (-lo * slp bx by' h) (-hi * slp bx by' h))
def grM (bx by' lo hi : Int) (h : H3) : H3 := redH h.a h.b (h.c + max (-lo * slp bx by' h) (-hi * slp bx by' h))
theorem gr_ok (bx by' lo hi : Int) (h : H3) (k : grB bx by' lo hi h = true) : okB (grM bx by' lo hi h) = true := red_ok k
def In100 (d : Int) : Prop := -100 ≤ d ∧ d ≤ 100
def In1k (d : Int) : Prop := -1000 ≤ d ∧ d ≤ 1000
theorem gr_in {bx by' lo hi : Int} (hx : In100 bx) (hy : In100 by') (hlo : In1k lo) (hhi : In1k hi) {h : H3} (k : okB h = true) : (-5000000 ≤ h.a * bx ∧ h.a * bx ≤ 5000000) ∧ (-5000000 ≤ h.b * by' ∧ h.b * by' ≤ 5000000) ∧ (-10000000000 ≤ -lo * slp bx by' h ∧ -lo * slp bx by' h ≤ 10000000000) ∧ (-10000000000 ≤ -hi * slp bx by' h ∧ -hi * slp bx by' h ≤ 10000000000) ∧ (-50000 ≤ h.a ∧ h.a ≤ 50000) ∧ (-50000 ≤ h.b ∧ h.b ≤ 50000) ∧ (-100000000 ≤ h.c ∧ h.c ≤ 100000000) := by
  obtain ⟨a1, a2, b1, b2, _, c1, c2, _⟩ := (okH_iff _ _ _).1 k
  have m1 := mul_in h.a bx 50000 100 a1 a2 hx.1 hx.2
  have m2 := mul_in h.b by' 50000 100 b1 b2 hy.1 hy.2
  have s1 : -10000000 ≤ slp bx by' h ∧ slp bx by' h ≤ 10000000 := by unfold slp; omega
  have m3 := mul_in (-lo) (slp bx by' h) 1000 10000000 (by have := hlo.2; omega) (by have := hlo.1; omega) s1.1 s1.2
  have m4 := mul_in (-hi) (slp bx by' h) 1000 10000000 (by have := hhi.2; omega) (by have := hhi.1; omega) s1.1 s1.2
  omega
set_option maxHeartbeats 1600000 in
theorem gr_call (p q r' s' : Nat) (bx by' lo hi : Int) (h : H3) (w : World) (hx : In100 bx) (hy : In100 by') (hlo : In1k lo) (hhi : In1k hi) (k : okB h = true) (c1 : w.cell? ⟨p, 0, none⟩ = some (.int .i64 bx)) (c2 : w.cell? ⟨q, 0, none⟩ = some (.int .i64 by')) (c3 : w.cell? ⟨r', 0, none⟩ = some (.int .i64 lo)) (c4 : w.cell? ⟨s', 0, none⟩ = some (.int .i64 hi)) :
    Calls Tryz.prog 143 #[.agg #[.int .i64 h.a, .int .i64 h.b, .int .i64 h.c], .pointer (some ⟨p, 0, none⟩), .pointer (some ⟨q, 0, none⟩), .pointer (some ⟨r', 0, none⟩), .pointer (some ⟨s', 0, none⟩)] w fun e w' => e = .returned (.tuple #[.agg #[.int .i64 (grM bx by' lo hi h).a, .int .i64 (grM bx by' lo hi h).b, .int .i64 (grM bx by' lo hi h).c], .bool (grB bx by' lo hi h)]) ∧ Below w.heap.size w w' := by
  obtain ⟨⟨m1, m2⟩, ⟨m3, m4⟩, ⟨m5, m6⟩, ⟨m7, m8⟩, ⟨a1, a2⟩, ⟨b1, b2⟩, d1, d2⟩ := gr_in hx hy hlo hhi k
  have HH := Lib.hid (fun W => impl_hof h.a h.b (h.c + max (-lo * slp bx by' h) (-hi * slp bx by' h)) W (by omega) (by omega) (by omega) (by omega) (by omega) (by omega))
  rw [ans_red, show hasH h.a h.b (h.c + max (-lo * slp bx by' h) (-hi * slp bx by' h)) = grB bx by' lo hi h from rfl, show redH h.a h.b (h.c + max (-lo * slp bx by' h) (-hi * slp bx by' h)) = grM bx by' lo hi h from rfl] at HH
  obtain ⟨hlo1, hlo2⟩ := hlo
  obtain ⟨hhi1, hhi2⟩ := hhi
  unfold slp at HH m5 m6 m7 m8
  generalize grB bx by' lo hi h = r at *
  generalize grM bx by' lo hi h = s at *
  obtain ⟨xa, xb, xc⟩ := h
  obtain ⟨sa, sb, sc⟩ := s
  simp only at HH m1 m2 m3 m4 m5 m6 m7 m8 a1 a2 b1 b2 d1 d2 ⊢
  have l1 := block_lt_of_cell c1
  have l2 := block_lt_of_cell c2
  have l3 := block_lt_of_cell c3
  have l4 := block_lt_of_cell c4
  simp only at l1 l2 l3 l4
  have bV := below_bx2 (below_one w (.cells #[.int .i64 xa, .int .i64 xb, .int .i64 xc] 104)) (.cells #[.int .i64 0, .int .i64 0, .int .i64 0] 104)
  have e1 := cell_to c1 bV
  have e2 := cell_to c2 bV
  have e3 := cell_to c3 bV
  have e4 := cell_to c4 bV
  have T0 := has3_new (w.alloc (.cells #[.int .i64 xa, .int .i64 xb, .int .i64 xc] 104)) (.int .i64 0) (.int .i64 0) (.int .i64 0) 104
  rw [show (w.alloc (.cells #[.int .i64 xa, .int .i64 xb, .int .i64 xc] 104)).heap.size = w.heap.size + 1 by simp] at T0
  generalize eu1 : xa * bx = u1 at *
  generalize eu2 : xb * by' = u2 at *
  generalize eu3 : u1 + u2 = u3 at *
  have w3 : -9223372036854775808 ≤ u3 ∧ u3 ≤ 9223372036854775807 := by omega
  generalize eu4 : -lo * u3 = u4 at *
  generalize eu5 : -hi * u3 = u5 at *
  have v6 : IntKind.i64.wrap (xc + max u4 u5) = xc + max u4 u5 := IntWalk.i64_in _ (by omega)
  have v7 : IntKind.i64.wrap (-lo) = -lo := IntWalk.i64_in _ (by omega)
  have v8 : IntKind.i64.wrap (-hi) = -hi := IntWalk.i64_in _ (by omega)
  clear k
  go_enter Tryz.func143, Tryz.ntmps143
  go_wp2_with fail
  refine (HH.out _).mono ?_
  rintro e w1 ⟨rfl, bl1⟩
  have b3 := below_to bV bl1
  obtain ⟨t1, t2, t3, f1, f2, f3⟩ := has3_to bl1 T0
  clear bl1 HH e1 e2 T0
  go_wp2_with fail
  exact bodyPost_ret (v := .tuple #[.agg #[.int .i64 sa, .int .i64 sb, .int .i64 sc], .bool r]) (by simp [results, Tryz.results143, go_sem, t1, t2, t3]) rfl ⟨rfl, ((b3.setCell (p := ⟨w.heap.size + 1, 0, none⟩) (by simp) _).setCell (p := ⟨w.heap.size + 1, 1, none⟩) (by simp) _).setCell (p := ⟨w.heap.size + 1, 2, none⟩) (by simp) _⟩
open Go.RowKit Go.Shelf
open Geo (H3)

set_option maxRecDepth 100000 in
set_option maxHeartbeats 1600000 in
theorem impl_ero (a b : Option Addr) (n m ca cb : Nat) (ps qs : List H3) (w : World) (hl : ps.length = n) (hk : qs.length = m) (hn : n ≤ 1048576) (hm : m ≤ 1048576) (h64 : ∀ h ∈ ps, In64 h) (k64 : ∀ h ∈ qs, In64 h) (hA : HsAt w a ps) (hB : HsAt w b qs) :
    Calls Tryz.prog 111 #[.agg #[.slice a n ca], .agg #[.slice b m cb]] w (AnsR w (eroL ps qs) (eroB ps qs)) := by
  have bV := below_bx2 (below_bx2 (below_one w (.cells #[.slice a n ca] 40)) (.cells #[.slice b m cb] 40)) (.cells #[.slice none 0 0] 40)
  have q0 := cell_to (show (w.alloc (.cells #[.slice a n ca] 40)).cell? ⟨w.heap.size, 0, none⟩ = some (.slice a n ca) by simp) (below_bx2 (below_one _ (.cells #[.slice b m cb] 40)) (.cells #[.slice none 0 0] 40))
  have q1 := cell_to (box_one (U := w.alloc (.cells #[.slice a n ca] 40)) (b := w.heap.size + 1) (by simp) (.slice b m cb) 40).1 (below_one _ (.cells #[.slice none 0 0] 40))
  obtain ⟨q3, f3⟩ := box_one (U := (w.alloc (.cells #[.slice a n ca] 40)).alloc (.cells #[.slice b m cb] 40)) (b := w.heap.size + 1 + 1) (by simp) (.slice none 0 0) 40
  have HR := Lib.hid (fun V (h : Below w.heap.size w V) => impl_rok a n ca ps V hl hn h64 (hA.below h))
  have HQ := Lib.hid (fun V (h : Below w.heap.size w V) => impl_rok b m cb qs V hk hm k64 (hB.below h))
  have HV := Lib.hid (fun V => impl_void b m cb V)
  have HA := Lib.hid hA
  have HL := Lib.hid hl
  have HB := Lib.hid hB
  have HK := Lib.hid hk
  have H64 := Lib.hid k64
  clear hl hA h64 hk hB k64
  go_enter Tryz.func111, Tryz.ntmps111
  go_wp2_with fail
  generalize ((w.alloc (.cells #[.slice a n ca] 40)).alloc (.cells #[.slice b m cb] 40)).alloc (.cells #[.slice none 0 0] 40) = V at *
  refine (HV.out _).mono ?_
  rintro e w1 ⟨rfl, bl1⟩
  have b1 := below_to bV bl1
  have p0 := cell_to q0 bl1
  have p1 := cell_to q1 bl1
  have p3 := cell_to q3 bl1
  have g3 : w1.frozen? ⟨w.heap.size + 1 + 1, 0, none⟩ = false := by rw [bl1.frozen (block_lt_of_cell q3)]; exact f3
  clear bV bl1 q0 q1 q3 f3 HV
  by_cases h0 : m = 0
  · have HN := Lib.hid (ero_no (ps := ps) (.inr (.inr (len_nil HK.out h0))))
    have hb0 : ((m : Int) == 0) = true := by subst h0; rfl
    go_wp2_with fail
    exact bodyPost_ret (v := .tuple #[.agg #[.slice none 0 0], .bool false]) (by simp [results, Tryz.results111, go_sem, p3]) rfl (AnsR.no HN.out.1 HN.out.2 (b1.setCell (p := ⟨w.heap.size + 1 + 1, 0, none⟩) (Nat.le_add_right _ 2) _))
  · have hb0 : ((m : Int) == 0) = false := eq_b (by omega)
    have HE := Lib.hid (len_ne HK.out h0)
    clear h0
    go_wp2_with fail
    refine (HQ.out _ b1).mono ?_
    rintro e w2 ⟨rfl, bl2⟩
    have b2 := below_to b1 bl2
    have q0 := cell_to p0 bl2
    have q1 := cell_to p1 bl2
    have q3 := cell_to p3 bl2
    have f3 : w2.frozen? ⟨w.heap.size + 1 + 1, 0, none⟩ = false := by rw [bl2.frozen (block_lt_of_cell p3)]; exact g3
    clear b1 bl2 p0 p1 p3 g3 HQ
    cases hq : rokB qs with
    | false =>
      have HN := Lib.hid (ero_no (ps := ps) (.inr (.inl hq)))
      clear hq
      go_wp2_with fail
      exact bodyPost_ret (v := .tuple #[.agg #[.slice none 0 0], .bool false]) (by simp [results, Tryz.results111, go_sem, q3]) rfl (AnsR.no HN.out.1 HN.out.2 (b2.setCell (p := ⟨w.heap.size + 1 + 1, 0, none⟩) (Nat.le_add_right _ 2) _))
    | true =>
      have HO := Lib.hid hq
      clear hq
      go_wp2_with fail
      refine (HR.out _ b2).mono ?_
      rintro e w3 ⟨rfl, bl3⟩
      have b3 := below_to b2 bl3
      have p0 := cell_to q0 bl3
      have p1 := cell_to q1 bl3
      have p3 := cell_to q3 bl3
      have g3 : w3.frozen? ⟨w.heap.size + 1 + 1, 0, none⟩ = false := by rw [bl3.frozen (block_lt_of_cell q3)]; exact f3
      clear b2 bl3 q0 q1 q3 f3 HR
      cases hr : rokB ps with
      | false =>
        have HN := Lib.hid (ero_no (qs := qs) (.inl hr))
        clear hr
        go_wp2_with fail
        exact bodyPost_ret (v := .tuple #[.agg #[.slice none 0 0], .bool false]) (by simp [results, Tryz.results111, go_sem, p3]) rfl (AnsR.no HN.out.1 HN.out.2 (b3.setCell (p := ⟨w.heap.size + 1 + 1, 0, none⟩) (Nat.le_add_right _ 2) _))
      | true =>
        have HN := Lib.hid (ero_yes hr HO.out HE.out)
        have h40 := rok_len hr
        have HM := Lib.hid (impl_move 138 [.pointer (some ⟨w.heap.size + 1, 0, none⟩)] (enters_of Tryz.func138 (by kernel_rfl) rfl) (erB qs) (erM qs) a none n ca 0 0 ps [] w3 HL.out (by rw [← HL.out]; exact h40) (HA.out.below b3) rfl (by omega) (.inl ⟨rfl, rfl, rfl⟩) (fun i x hx => by simp at hx) (by simp) (fun h _ hb => ok_in64 (er_ok qs h hb))
          (fun h X hh hX => ⟨erM qs h, fun _ => rfl, er_call (w.heap.size + 1) b m cb qs h X HK.out hm H64.out HO.out HE.out (rok_all hr h hh) ((HB.out.below b3).below hX) (cell_to p1 hX)⟩))
        clear hr h40
        go_wp2_with fail
        refine HM.out.mono ?_
        rintro e w4 ⟨ad, cd, rfl, ho3, bl3⟩
        have l3 := block_lt_of_cell p3
        simp only at l3
        have r3 := cell_to p3 bl3
        have k3 : w4.frozen? ⟨w.heap.size + 1 + 1, 0, none⟩ = false := by rw [bl3.frozen l3]; exact g3
        have HO3 := Lib.hid ho3
        have HB3 := Lib.hid bl3
        clear ho3 bl3 HM
        obtain ⟨LL, hLL⟩ : ∃ LL, mvL (erB qs) (erM qs) [] ps = LL := ⟨_, rfl⟩
        obtain ⟨len, hlen⟩ : ∃ len, LL.length = len := ⟨_, rfl⟩
        rw [hLL] at HO3 HN ⊢
        rw [hlen] at HO3 ⊢
        generalize mvB (erB qs) (erM qs) [] ps = r at *
        have HF := Lib.hid (AnsR.put (p := ⟨w.heap.size + 1 + 1, 0, none⟩) (w := w) HO3.out HN.out.1 HN.out.2 b3 HB3.out l3 (Nat.le_add_right _ 2))
        go_wp2_with fail
        exact bodyPost_ret (v := .tuple #[.agg #[.slice ad len cd], .bool r]) (by simp [results, Tryz.results111, go_sem, r3]) rfl HF.out
end Go.Proofs.YtibkmhmeoelpdaaGreat
