/- The contract of the program's sidesOfCorners over the translation: for each edge the side of h on which its crossing with the next one lies. -/
import Derived.Test.YtobmaajfdpcfmaaIa
namespace Go.Proofs.Ytobmaajfdpcfmaa
open Go.RowKit
open Geo (H3)

/-- the side of h on which the crossing of two borders lies -/
def sgP (h : H3) (p : H3 × H3) : Int := sideV h.a h.b h.c (p.1.c * p.2.b - p.1.b * p.2.c) (p.1.a * p.2.c - p.1.c * p.2.a) (p.1.a * p.2.b - p.1.b * p.2.a)
def sideL (E : List H3) (h : H3) : List Int := (Geo.cyc E).map (sgP h)
def ints (zs : List Int) : List Value := zs.map (Value.int .i64)
theorem prs_at (l : List H3) (z : H3) (k : Nat) (x : H3) (h : l[k]? = some x) : (Geo.prs l z)[k]? = some (x, (l[k + 1]?).getD z) := by
  induction l generalizing k with
  | nil => simp at h
  | cons y l ih =>
    cases k with
    | zero => simp at h; subst h; cases l <;> simp [Geo.prs]
    | succ k => rw [List.getElem?_cons_succ] at h; simp only [Geo.prs, List.getElem?_cons_succ]; exact ih k h
theorem prs_len (l : List H3) (z : H3) : (Geo.prs l z).length = l.length := by
  have := congrArg List.length (Geo.prs_fst l z); simpa using this
theorem cyc_len (l : List H3) : (Geo.cyc l).length = l.length := prs_len _ _
theorem cyc_at {E : List H3} {n k : Nat} {x y : H3} (hl : E.length = n) (h : E[k]? = some x) (h2 : E[(k + 1) % n]? = some y) : (Geo.cyc E)[k]? = some (x, y) := by
  unfold Geo.cyc
  rw [prs_at _ _ _ _ h]
  have hk : k < n := by have := (List.getElem?_eq_some_iff.1 h).1; omega
  rcases Nat.lt_or_ge (k + 1) n with h3 | h3
  · rw [Nat.mod_eq_of_lt h3] at h2; rw [h2]; rfl
  · have : k + 1 = n := by omega
    rw [this, Nat.mod_self] at h2
    rw [List.getElem?_eq_none (by omega)]
    cases E with
    | nil => simp at h2
    | cons z E => simp at h2; subst h2; rfl
theorem sideL_at {E : List H3} {h : H3} {n k : Nat} {x y : H3} (hl : E.length = n) (h1 : E[k]? = some x) (h2 : E[(k + 1) % n]? = some y) : (sideL E h).take (k + 1) = (sideL E h).take k ++ [sgP h (x, y)] := by
  rw [List.take_add_one]
  unfold sideL
  rw [List.getElem?_map, cyc_at hl h1 h2]; rfl
theorem Try.info74 : (Try.prog.info? 86).map (fun i => (i.zero, i.size, i.bytes)) = some (some (.int .i64 0), 1, 8) := by kernel_rfl
/-- a slice of numbers of the call's own is handed back -/
def IntW (w : World) (e : TypeId) (zs : List Int) (n : Nat) (r : Ending) (w' : World) : Prop := ∃ ao cp, r = .returned (.slice ao n cp) ∧ w'.ownsRow w.heap.size e 1 (.slice ao n cp) n (ints zs) ∧ Below w.heap.size w w'
theorem nine {V X : World} {p q r : Nat} {a b c x y d u v t : Value} (hb : Below V.heap.size V X) (h1 : Tri V p 0 a b c) (h2 : Tri V q 0 x y d) (h3 : Tri V r 0 u v t) :
    X.cell? ⟨p, 0, none⟩ = some a ∧ X.cell? ⟨p, 1, none⟩ = some b ∧ X.cell? ⟨p, 2, none⟩ = some c ∧ X.cell? ⟨q, 0, none⟩ = some x ∧ X.cell? ⟨q, 1, none⟩ = some y ∧ X.cell? ⟨q, 2, none⟩ = some d ∧ X.cell? ⟨r, 0, none⟩ = some u ∧ X.cell? ⟨r, 1, none⟩ = some v ∧ X.cell? ⟨r, 2, none⟩ = some t :=
  ⟨(h1.to hb).1, (h1.to hb).2.1, (h1.to hb).2.2, (h2.to hb).1, (h2.to hb).2.1, (h2.to hb).2.2, (h3.to hb).1, (h3.to hb).2.1, (h3.to hb).2.2⟩
theorem tri_new (w : World) (a b c : Value) (T : TypeId) : Tri (w.alloc (.cells #[a, b, c] T)) w.heap.size 0 a b c := box3 w a b c T
theorem Tri.far {w w' : World} {row : Option Nat} {p o : Nat} {a b c : Value} (h : Tri w p o a b c) (hg : w.grownBy w' row) (hne : some p ≠ row) : Tri w' p o a b c :=
  ⟨by rw [hg.cell_far _ (block_lt_of_cell h.1) hne]; exact h.1, by rw [hg.cell_far _ (block_lt_of_cell h.2.1) hne]; exact h.2.1, by rw [hg.cell_far _ (block_lt_of_cell h.2.2) hne]; exact h.2.2⟩
set_option maxRecDepth 100000 in
set_option maxHeartbeats 4000000 in
theorem sides_of (a : Option Addr) (n cap : Nat) (E : List H3) (ha hb hc : Int) (w : World) (hl : E.length = n) (hn : n ≤ 1000) (hE : ∀ h ∈ E, okB h = true) (hh : okH ha hb hc = true) (hA : HsAt w a E) :
    Calls Try.prog 110 #[.slice a n cap, .agg #[.int .i64 ha, .int .i64 hb, .int .i64 hc]] w (IntW w 86 (sideL E ⟨ha, hb, hc⟩) n) := by
  obtain ⟨i0, hi, hz0, hz1, hz2⟩ := info_parts Try.info74
  have HL := Lib.hid hl
  have HA := Lib.hid hA
  have HE := Lib.hid hE
  have HH := Lib.hid hh
  clear hl hA hE hh
  go_enter Try.func110, Try.ntmps110
  go_wp2
  have hw := below_one w (.cells #[.int .i64 ha, .int .i64 hb, .int .i64 hc] 34)
  have q0 := tri_new w (.int .i64 ha) (.int .i64 hb) (.int .i64 hc) 34
  have hz : w.heap.size + 1 = (w.alloc (.cells #[.int .i64 ha, .int .i64 hb, .int .i64 hc] 34)).heap.size := by simp
  generalize w.alloc (.cells #[.int .i64 ha, .int .i64 hb, .int .i64 hc] 34) = V at *
  have HZ := Lib.hid hz
  clear hz
  go_loopw [5, 13] (fun v i wr => ∃ k : Nat, k ≤ n ∧ i = .int .i64 k ∧ wr.ownsRow V.heap.size 86 1 v k (ints ((sideL E ⟨ha, hb, hc⟩).take k)) ∧ Below V.heap.size V wr) (fun _ i _ => n - (intOf i).toNat)
  case atStart => exact ⟨0, Nat.zero_le _, rfl, ⟨by simp [ints], .inl ⟨rfl, rfl⟩⟩, Below.refl _ _⟩
  case round =>
    obtain ⟨k, hk, rfl, ho, hbel⟩ := hrel
    obtain ⟨av, cv, rfl⟩ := own_slice ho
    have H0 := Lib.hid ho
    clear ho
    by_cases hlt : k < n
    · obtain ⟨⟨xa, xb, xc⟩, hx⟩ : ∃ x, E[k]? = some x := ⟨_, List.getElem?_eq_getElem (by rw [HL.out]; exact hlt)⟩
      obtain ⟨⟨ya, yb, yc⟩, hy⟩ : ∃ x, E[(k + 1) % n]? = some x := ⟨_, List.getElem?_eq_getElem (by rw [HL.out]; exact Nat.mod_lt _ (by omega))⟩
      have kx : okH xa xb xc = true := HE.out _ (List.mem_of_getElem? hx)
      have ky : okH ya yb yc = true := HE.out _ (List.mem_of_getElem? hy)
      have hbw := below_to hw hbel
      have HN := Lib.hid (fun W (h : Below wr.heap.size wr W) => next_edge a n cap k E _ W hlt (by omega) hy (HA.out.below (below_to hbw h)))
      have HS := Lib.hid (sideL_at (h := ⟨ha, hb, hc⟩) HL.out hx hy)
      obtain ⟨g, o, rfl, hcx⟩ := HA.out k _ hx
      obtain ⟨t1, t2, t3⟩ := hcx.to hbw
      obtain ⟨⟨m0, m1⟩, ⟨n0, n1⟩, _, _⟩ := turn_in kx ky
      obtain ⟨⟨s0, s1⟩, ⟨r0, r1⟩, ⟨u0, u1⟩, ⟨v0, v1⟩⟩ := crs_in kx ky
      have HT := Lib.hid (fun W => impl_turn xa xb xc ya yb yc W kx ky)
      have HP := Lib.hid (fun W => impl_side_w ha hb hc (xc * yb - xb * yc) (xa * yc - xc * ya) (xa * yb - xb * ya) W HH.out (by omega) (by omega) (by omega) (by omega) (by omega) (by omega))
      rw [show sideV ha hb hc (xc * yb - xb * yc) (xa * yc - xc * ya) (xa * yb - xb * ya) = sgP ⟨ha, hb, hc⟩ (⟨xa, xb, xc⟩, ⟨ya, yb, yc⟩) from rfl] at HP
      simp only at t1 t2 t3 HN
      clear hx hy kx ky hcx
      generalize sgP ⟨ha, hb, hc⟩ (⟨xa, xb, xc⟩, ⟨ya, yb, yc⟩) = sv at *
      generalize e1 : xa * yb = p1 at *
      generalize e2 : xb * ya = p2 at *
      generalize e3 : xc * yb = p3 at *
      generalize e4 : xb * yc = p4 at *
      generalize e5 : xa * yc = p5 at *
      generalize e6 : xc * ya = p6 at *
      go_wp2_with (go_at_call 75; (with_reducible refine (HN.out _ (below_one _ _)).mono ?_); rintro e w1 ⟨rfl, bl1⟩)
      have d7 := ((tri_new wr (.int .i64 xa) (.int .i64 xb) (.int .i64 xc) 34).to bl1).to (below_one w1 (.cells #[.int .i64 ya, .int .i64 yb, .int .i64 yc] 34))
      have d8 := tri_new w1 (.int .i64 ya) (.int .i64 yb) (.int .i64 yc) 34
      have d3 := (((q0.to hbel).to (below_one wr (.cells #[.int .i64 xa, .int .i64 xb, .int .i64 xc] 34))).to bl1).to (below_one w1 (.cells #[.int .i64 ya, .int .i64 yb, .int .i64 yc] 34))
      have bX := below_to (below_to (below_one wr (.cells #[.int .i64 xa, .int .i64 xb, .int .i64 xc] 34)) bl1) (below_one w1 (.cells #[.int .i64 ya, .int .i64 yb, .int .i64 yc] 34))
      have H1 := Lib.hid (own_below H0.out bX)
      have hbX := hbel.trans (bX.mono hbel.size)
      have sz1 := bl1.size
      simp at sz1
      have far : ∀ p, (Value.slice av k cv).ownBlock = some p → p < wr.heap.size ∧ w.heap.size < p := by
        intro p hp
        rcases H0.out.2 with ⟨h1, _⟩ | ⟨g', cap', cur, h1, h2, h3, _⟩
        · rw [h1] at hp; simp [Value.ownBlock] at hp
        · rw [h1] at hp
          simp [Value.ownBlock] at hp
          subst hp
          exact ⟨lt_of_block h3, by have := HZ.out; omega⟩
      have n7 : some wr.heap.size ≠ (Value.slice av k cv).ownBlock := fun h => by have := far _ h.symm; omega
      have n8 : some w1.heap.size ≠ (Value.slice av k cv).ownBlock := fun h => by have := far _ h.symm; omega
      have n3 : some w.heap.size ≠ (Value.slice av k cv).ownBlock := fun h => by have := far _ h.symm; omega
      have HB := Lib.hid (show ∀ g, (Value.slice av k cv).ownBlock = some g → V.heap.size ≤ g from fun p hp => by have := (far p hp).2; have := HZ.out; omega)
      clear bX bl1 hbw t1 t2 t3 hbel far sz1
      generalize w1.alloc (.cells #[.int .i64 ya, .int .i64 yb, .int .i64 yc] 34) = X at *
      generalize wr.heap.size = b7 at *
      generalize w1.heap.size = b8 at *
      obtain ⟨c1, c2, c3, c4, c5, c6, c7, c8, c9⟩ := nine (Below.refl _ _) d7 d8 d3
      go_quiet (fail)
      clear c1 c2 c3 c4 c5 c6 c7 c8 c9
      have e7 : Tri (X.drewN nq) b7 0 _ _ _ := d7
      have e8 : Tri (X.drewN nq) b8 0 _ _ _ := d8
      have e3' : Tri (X.drewN nq) w.heap.size 0 _ _ _ := d3
      have H2 := Lib.hid (own_drewN H1.out nq)
      have hbY : Below V.heap.size V (X.drewN nq) := hbX.trans ((below_drewN X nq).mono hbX.size)
      clear d7 d8 d3 hbX H1 H0
      generalize X.drewN nq = Y at *
      go_wp2_with fail
      obtain ⟨c1, c2, c3, c4, c5, c6, c7, c8, c9⟩ := nine (Below.refl _ _) e7 e8 e3'
      go_region_held3 (fun w' => w'.cell? ⟨b7, 0, none⟩ = some (.int .i64 xa) ∧ w'.cell? ⟨b7, 1, none⟩ = some (.int .i64 xb) ∧ w'.cell? ⟨b7, 2, none⟩ = some (.int .i64 xc) ∧ w'.cell? ⟨b8, 0, none⟩ = some (.int .i64 ya) ∧ w'.cell? ⟨b8, 1, none⟩ = some (.int .i64 yb) ∧ w'.cell? ⟨b8, 2, none⟩ = some (.int .i64 yc) ∧ w'.cell? ⟨w.heap.size, 0, none⟩ = some (.int .i64 ha) ∧ w'.cell? ⟨w.heap.size, 1, none⟩ = some (.int .i64 hb) ∧ w'.cell? ⟨w.heap.size, 2, none⟩ = some (.int .i64 hc))
        (first | (refine nine ?_ e7 e8 e3'; (repeat (first | exact Below.refl _ _ | refine below_drw ?_ | refine below_bx2 ?_ _ | refine below_to ?_ (by assumption))); done) | (refine nine (Below.refl _ _) ((e7.to ?_).far hgrow n7) ((e8.to ?_).far hgrow n8) ((e3'.to ?_).far hgrow n3) <;> (repeat (first | exact Below.refl _ _ | refine below_drw ?_ | refine below_bx2 ?_ _ | refine below_to ?_ (by assumption))); done))
        (first | (go_at_call 79; (with_reducible refine (HT.out _).mono ?_); rintro e w2 ⟨rfl, bl2⟩) | (go_at_call 71; (with_reducible refine (HP.out _).mono ?_); rintro e w3 ⟨rfl, bl3⟩) | (refine step_append_lies _ (by rfl) _ _ _ (by rfl) V.heap.size 86 i0 _ 1 8 Try.underlying123 hi hz0 hz1 hz2 rfl (by omega) (.slice av k cv) k _ (by rfl) (own_below H2.out (below_to (below_to (below_to (below_drw (Below.refl _ _)) bl2) bl3) (below_one _ _))) ⟨w3.heap.size, 0, none⟩ 1 1 [.int .i64 sv] (by rfl) (by rfl) (World.news_of_block (cs := #[.int .i64 sv]) (t := 86) (fr := (0, 0)) (heap_alloc_new w3 _)) (by simp [Value.oneCell']) (by omega) (by unfold maxLen; omega) (by omega) (by have z1 := hbY.size; have z2 := bl2.size; have z3 := bl3.size; simp at z2 z3 ⊢; omega) _ rfl ?_; intro gg cap' w4 hown4 hgrow hat hlt4))
      have bZ : Below V.heap.size V (w3.alloc (.cells #[.int .i64 sv] 86)) := hbY.trans ((below_to (below_to (below_to (below_drw (Below.refl _ _)) bl2) bl3) (below_one _ _)).mono hbY.size)
      have b4 : Below V.heap.size V w4 := bZ.grown hgrow bZ.size (fun g hg => HB.out g hg)
      have H4 := Lib.hid hown4
      clear hown4 hgrow hat bZ bl2 bl3 c1 c2 c3 c4 c5 c6 c7 c8 c9 e7 e8 e3' hbY
      clear ‹w4.cell? _ = _ ∧ _›
      go_wp2
      go_roundw
      case rel => exact ⟨k + 1, by omega, by go_num, by rw [HS.out]; simpa [ints] using H4.out, b4⟩
      case measure => simp [intOf]; omega
    · have hkn : k = n := by omega
      subst hkn
      go_wp2
      go_ret
      refine ⟨av, cv, rfl, ?_, below_to hw hbel⟩
      have := H0.out
      rw [List.take_of_length_le (by simp [sideL, cyc_len, HL.out])] at this
      exact own_base this (by rw [← HZ.out]; omega)
end Go.Proofs.Ytobmaajfdpcfmaa
