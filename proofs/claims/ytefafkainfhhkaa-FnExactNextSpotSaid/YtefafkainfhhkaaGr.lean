/- GrowAlong: the half planes that touch a region, and the move of an edge, of the program over the translation. -/
import Derived.Test.YtefafkainfhhkaaEr
namespace Go.Proofs.Ytefafkainfhhkaa
open Go.RowKit Go.Shelf
open Geo (H3)

/-- the half plane of a direction that touches a region -/
noncomputable def tcB (A B : Int) (ps : List H3) : Bool := hasH (A * (farS A B ps ps.length).2.2) (B * (farS A B ps ps.length).2.2) (farS A B ps ps.length).2.1
noncomputable def tcH (A B : Int) (ps : List H3) : H3 := redH (A * (farS A B ps ps.length).2.2) (B * (farS A B ps ps.length).2.2) (farS A B ps ps.length).2.1
set_option maxHeartbeats 1600000 in
theorem impl_touch (a : Option Addr) (n ca : Nat) (ps : List H3) (A B : Int) (w : World) (hl : ps.length = n) (hn : n ≤ 1048576) (h64 : ∀ h ∈ ps, In64 h) (hp : rokB ps = true) (ne : ps ≠ []) (i1 : inB A (-50000) 50000 = true) (i2 : inB B (-50000) 50000 = true) (hA : HsAt w a ps) :
    Calls Try.prog 68 #[.agg #[.slice a n ca], .int .i64 A, .int .i64 B] w fun e w' => e = .returned (.tuple #[.agg #[.int .i64 (tcH A B ps).a, .int .i64 (tcH A B ps).b, .int .i64 (tcH A B ps).c], .bool (tcB A B ps)]) ∧ Below w.heap.size w w' := by
  obtain ⟨sy, e, q, _, ⟨n1, n2⟩, _, d2⟩ := sup_of rfl hp ne i1 i2
  obtain ⟨o1, _, _, _, _⟩ := (okR_iff _ _).1 q
  obtain ⟨a1, a2⟩ := in5_of i1
  obtain ⟨b1, b2⟩ := in5_of i2
  have m1 := mul_in A (farS A B ps ps.length).2.2 50000 5000000000 a1 a2 (by omega) d2
  have m2 := mul_in B (farS A B ps ps.length).2.2 50000 5000000000 b1 b2 (by omega) d2
  have HH := Lib.hid (fun W => impl_hof (A * (farS A B ps ps.length).2.2) (B * (farS A B ps ps.length).2.2) (farS A B ps ps.length).2.1 W (by omega) (by omega) (by omega) (by omega) (by omega) (by omega))
  rw [ans_red, show hasH (A * (farS A B ps ps.length).2.2) (B * (farS A B ps ps.length).2.2) (farS A B ps ps.length).2.1 = tcB A B ps from rfl, show redH (A * (farS A B ps ps.length).2.2) (B * (farS A B ps ps.length).2.2) (farS A B ps ps.length).2.1 = tcH A B ps from rfl] at HH
  have HS := Lib.hid (fun V (hb : Below w.heap.size w V) => impl_sup a n ca ps A B V hl hn h64 (hA.below hb))
  rw [e, sy] at HS
  clear e sy q hl hA h64 hp ne i1 i2
  generalize tcB A B ps = r at *
  generalize tcH A B ps = s at *
  generalize farS A B ps ps.length = f at *
  obtain ⟨_, N, D⟩ := f
  obtain ⟨sa, sb, sc⟩ := s
  simp only at HH HS m1 m2 n1 n2 d2 o1 ⊢
  have bV := below_bx2 (below_one w (.cells #[.slice a n ca] 32)) (.cells #[.int .i64 0, .int .i64 0, .int .i64 0] 88)
  have T0 := has3_new (w.alloc (.cells #[.slice a n ca] 32)) (.int .i64 0) (.int .i64 0) (.int .i64 0) 88
  rw [show (w.alloc (.cells #[.slice a n ca] 32)).heap.size = w.heap.size + 1 by simp] at T0
  go_enter Try.func68, Try.ntmps68
  go_wp2_with fail
  generalize (w.alloc (.cells #[.slice a n ca] 32)).alloc (.cells #[.int .i64 0, .int .i64 0, .int .i64 0] 88) = V at *
  refine (HS.out _ bV).mono ?_
  rintro e w1 ⟨rfl, bl1⟩
  have b1 := below_to bV bl1
  have bX := below_bx2 b1 (.cells #[.int .i64 N, .int .i64 D] 27)
  have T2 := has3_to (below_one w1 (.cells #[.int .i64 N, .int .i64 D] 27)) (has3_to bl1 T0)
  obtain ⟨v1, v2, _, _⟩ := two_new w1 (.int .i64 N) (.int .i64 D) 27
  clear bl1 HS T0 bV b1
  generalize eu1 : A * D = u1 at *
  generalize eu2 : B * D = u2 at *
  go_wp2_with fail
  refine (HH.out _).mono ?_
  rintro e w2 ⟨rfl, bl2⟩
  have b3 := below_to bX bl2
  obtain ⟨t1, t2, t3, f1, f2, f3⟩ := has3_to bl2 T2
  clear bl2 HH T2
  go_wp2_with fail
  exact bodyPost_ret (v := .tuple #[.agg #[.int .i64 sa, .int .i64 sb, .int .i64 sc], .bool r]) (by simp [results, Try.results68, go_sem, t1, t2, t3]) rfl ⟨rfl, ((b3.setCell (p := ⟨w.heap.size + 1, 0, none⟩) (by simp) _).setCell (p := ⟨w.heap.size + 1, 1, none⟩) (by simp) _).setCell (p := ⟨w.heap.size + 1, 2, none⟩) (by simp) _⟩
/-- an edge that is grown along a way -/
def slp (bx by' : Int) (h : H3) : Int := h.a * bx + h.b * by'
def grB (bx by' lo hi : Int) (h : H3) : Bool := hasH h.a h.b (h.c + max (-lo * slp bx by' h) (-hi * slp bx by' h))
def grM (bx by' lo hi : Int) (h : H3) : H3 := redH h.a h.b (h.c + max (-lo * slp bx by' h) (-hi * slp bx by' h))
theorem gr_ok (bx by' lo hi : Int) (h : H3) (k : grB bx by' lo hi h = true) : okB (grM bx by' lo hi h) = true := red_ok k
def In100 (d : Int) : Prop := -100 ≤ d ∧ d ≤ 100
def In1k (d : Int) : Prop := -1000 ≤ d ∧ d ≤ 1000
theorem gr_in {bx by' lo hi : Int} (hx : In100 bx) (hy : In100 by') (hlo : In1k lo) (hhi : In1k hi) {h : H3} (k : okB h = true) : (-5000000 ≤ h.a * bx ∧ h.a * bx ≤ 5000000) ∧ (-5000000 ≤ h.b * by' ∧ h.b * by' ≤ 5000000) ∧ (-10000000000 ≤ -lo * slp bx by' h ∧ -lo * slp bx by' h ≤ 10000000000) ∧ (-10000000000 ≤ -hi * slp bx by' h ∧ -hi * slp bx by' h ≤ 10000000000) ∧ (-50000 ≤ h.a ∧ h.a ≤ 50000) ∧ (-50000 ≤ h.b ∧ h.b ≤ 50000) ∧ (-100000000 ≤ h.c ∧ h.c ≤ 100000000) := by
  obtain ⟨a1, a2, b1, b2, _, c1, c2, _⟩ := (okH_iff _ _ _).1 k
  have m1 := mul_in h.a bx 50000 100 a1 a2 hx.1 hx.2
  have m2 := mul_in h.b by' 50000 100 b1 b2 hy.1 hy.2
  have s1 : -10000000 ≤ slp bx by' h ∧ slp bx by' h ≤ 10000000 := by unfold slp; omega
  have m3 := mul_in (-lo) (slp bx by' h) 1000 10000000 (by have := hlo.2; omega) (by have := hlo.1; omega) s1.1 s1.2
  have m4 := mul_in (-hi) (slp bx by' h) 1000 10000000 (by have := hhi.2; omega) (by have := hhi.1; omega) s1.1 s1.2
  omega
set_option maxHeartbeats 1600000 in
theorem gr_call (p q r' s' : Nat) (bx by' lo hi : Int) (h : H3) (w : World) (hx : In100 bx) (hy : In100 by') (hlo : In1k lo) (hhi : In1k hi) (k : okB h = true) (c1 : w.cell? ⟨p, 0, none⟩ = some (.int .i64 bx)) (c2 : w.cell? ⟨q, 0, none⟩ = some (.int .i64 by')) (c3 : w.cell? ⟨r', 0, none⟩ = some (.int .i64 lo)) (c4 : w.cell? ⟨s', 0, none⟩ = some (.int .i64 hi)) :
    Calls Try.prog 69 #[.agg #[.int .i64 h.a, .int .i64 h.b, .int .i64 h.c], .pointer (some ⟨p, 0, none⟩), .pointer (some ⟨q, 0, none⟩), .pointer (some ⟨r', 0, none⟩), .pointer (some ⟨s', 0, none⟩)] w fun e w' => e = .returned (.tuple #[.agg #[.int .i64 (grM bx by' lo hi h).a, .int .i64 (grM bx by' lo hi h).b, .int .i64 (grM bx by' lo hi h).c], .bool (grB bx by' lo hi h)]) ∧ Below w.heap.size w w' := by
  obtain ⟨⟨m1, m2⟩, ⟨m3, m4⟩, ⟨m5, m6⟩, ⟨m7, m8⟩, ⟨a1, a2⟩, ⟨b1, b2⟩, d1, d2⟩ := gr_in hx hy hlo hhi k
  have HH := Lib.hid (fun W => impl_hof h.a h.b (h.c + max (-lo * slp bx by' h) (-hi * slp bx by' h)) W (by omega) (by omega) (by omega) (by omega) (by omega) (by omega))
  rw [ans_red, show hasH h.a h.b (h.c + max (-lo * slp bx by' h) (-hi * slp bx by' h)) = grB bx by' lo hi h from rfl, show redH h.a h.b (h.c + max (-lo * slp bx by' h) (-hi * slp bx by' h)) = grM bx by' lo hi h from rfl] at HH
  obtain ⟨hlo1, hlo2⟩ := hlo
  obtain ⟨hhi1, hhi2⟩ := hhi
  unfold slp at HH m5 m6 m7 m8
  generalize grB bx by' lo hi h = r at *
  generalize grM bx by' lo hi h = s at *
  obtain ⟨xa, xb, xc⟩ := h
  obtain ⟨sa, sb, sc⟩ := s
  simp only at HH m1 m2 m3 m4 m5 m6 m7 m8 a1 a2 b1 b2 d1 d2 ⊢
  have l1 := block_lt_of_cell c1
  have l2 := block_lt_of_cell c2
  have l3 := block_lt_of_cell c3
  have l4 := block_lt_of_cell c4
  simp only at l1 l2 l3 l4
  have bV := below_bx2 (below_one w (.cells #[.int .i64 xa, .int .i64 xb, .int .i64 xc] 88)) (.cells #[.int .i64 0, .int .i64 0, .int .i64 0] 88)
  have e1 := cell_to c1 bV
  have e2 := cell_to c2 bV
  have e3 := cell_to c3 bV
  have e4 := cell_to c4 bV
  have T0 := has3_new (w.alloc (.cells #[.int .i64 xa, .int .i64 xb, .int .i64 xc] 88)) (.int .i64 0) (.int .i64 0) (.int .i64 0) 88
  rw [show (w.alloc (.cells #[.int .i64 xa, .int .i64 xb, .int .i64 xc] 88)).heap.size = w.heap.size + 1 by simp] at T0
  generalize eu1 : xa * bx = u1 at *
  generalize eu2 : xb * by' = u2 at *
  generalize eu3 : u1 + u2 = u3 at *
  have w3 : -9223372036854775808 ≤ u3 ∧ u3 ≤ 9223372036854775807 := by omega
  generalize eu4 : -lo * u3 = u4 at *
  generalize eu5 : -hi * u3 = u5 at *
  have v6 : IntKind.i64.wrap (xc + max u4 u5) = xc + max u4 u5 := IntWalk.i64_in _ (by omega)
  have v7 : IntKind.i64.wrap (-lo) = -lo := IntWalk.i64_in _ (by omega)
  have v8 : IntKind.i64.wrap (-hi) = -hi := IntWalk.i64_in _ (by omega)
  clear k
  go_enter Try.func69, Try.ntmps69
  go_wp2_with fail
  refine (HH.out _).mono ?_
  rintro e w1 ⟨rfl, bl1⟩
  have b3 := below_to bV bl1
  obtain ⟨t1, t2, t3, f1, f2, f3⟩ := has3_to bl1 T0
  clear bl1 HH e1 e2 T0
  go_wp2_with fail
  exact bodyPost_ret (v := .tuple #[.agg #[.int .i64 sa, .int .i64 sb, .int .i64 sc], .bool r]) (by simp [results, Try.results69, go_sem, t1, t2, t3]) rfl ⟨rfl, ((b3.setCell (p := ⟨w.heap.size + 1, 0, none⟩) (by simp) _).setCell (p := ⟨w.heap.size + 1, 1, none⟩) (by simp) _).setCell (p := ⟨w.heap.size + 1, 2, none⟩) (by simp) _⟩
end Go.Proofs.Ytefafkainfhhkaa
