/- The walk of the law FnAngles. -/
import Derived.Test.YtkodoedkdgldnaaAgf
namespace Go.Proofs.Ytkodoedkdgldnaa
open Go.RowKit

theorem ninec {V X : World} {g h k : Nat} {a b c x y d p q r : Value} (hb : Below V.heap.size V X) (H1 : V.cell? ⟨g, 0, none⟩ = some a ∧ V.cell? ⟨g, 1, none⟩ = some b ∧ V.cell? ⟨g, 2, none⟩ = some c) (H2 : V.cell? ⟨h, 0, none⟩ = some x ∧ V.cell? ⟨h, 1, none⟩ = some y ∧ V.cell? ⟨h, 2, none⟩ = some d) (H3 : V.cell? ⟨k, 0, none⟩ = some p ∧ V.cell? ⟨k, 1, none⟩ = some q ∧ V.cell? ⟨k, 2, none⟩ = some r) :
    X.cell? ⟨g, 0, none⟩ = some a ∧ X.cell? ⟨g, 1, none⟩ = some b ∧ X.cell? ⟨g, 2, none⟩ = some c ∧ X.cell? ⟨h, 0, none⟩ = some x ∧ X.cell? ⟨h, 1, none⟩ = some y ∧ X.cell? ⟨h, 2, none⟩ = some d ∧ X.cell? ⟨k, 0, none⟩ = some p ∧ X.cell? ⟨k, 1, none⟩ = some q ∧ X.cell? ⟨k, 2, none⟩ = some r :=
  ⟨(three hb H1).1, (three hb H1).2.1, (three hb H1).2.2, (three hb H2).1, (three hb H2).2.1, (three hb H2).2.2, three hb H3⟩
theorem cells_of {W : World} {g : Nat} {a b c : Value} (h : Has3 W g a b c) : W.cell? ⟨g, 0, none⟩ = some a ∧ W.cell? ⟨g, 1, none⟩ = some b ∧ W.cell? ⟨g, 2, none⟩ = some c := ⟨h.1, h.2.1, h.2.2.1⟩

set_option maxRecDepth 5000 in
set_option maxHeartbeats 12800000 in
theorem law_angles (a0 : Option Addr) (len cap : Nat) (w : World) (hm : len ≤ maxLen) (hB : BytesAt w a0 len) :
    Calls Try.prog 5 #[.slice a0 len cap] w fun e w' => e = .returned (.bool true) ∧ Below w.heap.size w w' := by
  have HB := Lib.hid hB
  clear hB
  unfold maxLen at hm
  by_cases hb : (1048576 : Int) < (len : Int)
  · go_enter Try.func5, Try.ntmps5
    go_wp2_with fail
    go_ret
    exact ⟨rfl, Below.refl _ _⟩
  · have hl : len ≤ 1048576 := by omega
    go_enter Try.func5, Try.ntmps5
    go_wp2_with fail
    refine (make_half w a0 len cap 1 (by omega) hl HB.out).mono ?_
    rintro e w1 ⟨a, b, c, hG, rfl, hb1⟩
    have ha1 := below_bx2 hb1 (.cells #[.int .i64 a, .int .i64 b, .int .i64 c] 24)
    have H0 := has3_new w1 (.int .i64 a) (.int .i64 b) (.int .i64 c) 24
    have HG := Lib.hid hG
    clear hG
    go_wp2_with fail
    refine (make_half _ a0 len cap 20 (by omega) hl (HB.out.below ha1)).mono ?_
    rintro e w2 ⟨x, y, d, hH, rfl, hb2⟩
    have hG := HG.out
    clear HG
    have G1 := has3_to hb2 H0
    have hc2 := below_to ha1 hb2
    clear H0 ha1 hb1 hb2
    obtain ⟨A, B, C, hA, hok, ht1, ht2⟩ := moved_in hG
    obtain ⟨gok, a1, a2, b1, b2, c1, c2⟩ := id hG
    obtain ⟨hhok, x1, x2, y1, y2, d1, d2⟩ := id hH
    have HK := Lib.hid (fun W => impl_hof a b (c - 1) W (by omega) (by omega) (by omega) (by omega) (by omega) (by omega))
    rw [hA] at HK
    unfold spotS at HK
    have SS := Lib.hid (sd_call gok gok (sd_self a b))
    have OK := Lib.hid (hok_call hok)
    have T1 := Lib.hid (tig_call gok hok ht1)
    have T2 := Lib.hid (tig_call hok gok ht2)
    obtain ⟨tt, tf⟩ := tig_cases gok hhok
    clear hG hH hA ht1 ht2
    rcases bef_one a b x y with ⟨e1, e2, e3⟩ | ⟨e1, e2, e3⟩ | ⟨e1, e2, e3⟩
    · have B1 := Lib.hid (bef_call gok hhok e1)
      have B2 := Lib.hid (bef_call hhok gok e2)
      have SD := Lib.hid (sd_call gok hhok e3)
      have T3 := Lib.hid (tig_call gok hhok (tf e3))
      clear e1 e2 e3 tt tf gok hok hhok
      obtain ⟨Gc0, Gc1, Gc2, _, _, _⟩ := id G1
      have Gz := has3_lt G1
      go_wp2_with fail
      clear Gc0 Gc1 Gc2 Gz
      refine (B1.out _).mono ?_
      rintro e w3 ⟨rfl, bl⟩
      have Gm1 := has3_to (below_to (below_box w2 (.cells #[.int .i64 x, .int .i64 y, .int .i64 d] 24)) bl) G1
      have Tm1 := has3_to bl (has3_new w2 (.int .i64 x) (.int .i64 y) (.int .i64 d) 24)
      have ha1 := below_to (below_bx2 hc2 (.cells #[.int .i64 x, .int .i64 y, .int .i64 d] 24)) bl
      clear bl G1 hc2
      obtain ⟨Gc0, Gc1, Gc2, _, _, _⟩ := id Gm1
      have Gz := has3_lt Gm1
      obtain ⟨Tc0, Tc1, Tc2, _, _, _⟩ := id Tm1
      have Tz := has3_lt Tm1
      go_wp2_with fail
      clear Gc0 Gc1 Gc2 Gz Tc0 Tc1 Tc2 Tz
      refine (B2.out _).mono ?_
      rintro e w4 ⟨rfl, bl⟩
      have Gm2 := has3_to bl Gm1
      have Tm2 := has3_to bl Tm1
      have ha2 := below_to ha1 bl
      clear bl Gm1 Tm1 ha1
      obtain ⟨Gc0, Gc1, Gc2, _, _, _⟩ := id Gm2
      have Gz := has3_lt Gm2
      obtain ⟨Tc0, Tc1, Tc2, _, _, _⟩ := id Tm2
      have Tz := has3_lt Tm2
      go_wp2_with fail
      clear Gc0 Gc1 Gc2 Gz Tc0 Tc1 Tc2 Tz
      refine (SD.out _).mono ?_
      rintro e w5 ⟨rfl, bl⟩
      have Gm3 := has3_to bl Gm2
      have Tm3 := has3_to bl Tm2
      have ha3 := below_to ha2 bl
      clear bl Gm2 Tm2 ha2
      obtain ⟨Gc0, Gc1, Gc2, _, _, _⟩ := id Gm3
      have Gz := has3_lt Gm3
      obtain ⟨Tc0, Tc1, Tc2, _, _, _⟩ := id Tm3
      have Tz := has3_lt Tm3
      go_wp2_with fail
      clear Gc0 Gc1 Gc2 Gz Tc0 Tc1 Tc2 Tz
      refine (HK.out _).mono ?_
      rintro e w6 ⟨rfl, bl⟩
      have Gm4 := has3_to bl Gm3
      have Tm4 := has3_to bl Tm3
      have ha4 := below_to ha3 bl
      clear bl Gm3 Tm3 ha3
      have hq := cells_of (has3_to (below_box w6 (.cells #[.int .i64 A, .int .i64 B, .int .i64 C] 24)) Gm4)
      have hp := cells_of (has3_to (below_box w6 (.cells #[.int .i64 A, .int .i64 B, .int .i64 C] 24)) Tm4)
      have hk := cells_of (has3_new w6 (.int .i64 A) (.int .i64 B) (.int .i64 C) 24)
      have hfin := below_bx2 ha4 (.cells #[.int .i64 A, .int .i64 B, .int .i64 C] 24)
      clear Gm4 Tm4 ha4 HK B1 B2 SD
      go_wp2_with fail
      generalize w6.alloc (.cells #[.int .i64 A, .int .i64 B, .int .i64 C] 24) = V at *
      generalize w1.heap.size = ga at *
      generalize w2.heap.size = gb at *
      generalize w6.heap.size = gk at *
      as_aux_lemma =>
        go_region_held3 (fun w' => w'.cell? ⟨ga, 0, none⟩ = some (.int .i64 a) ∧ w'.cell? ⟨ga, 1, none⟩ = some (.int .i64 b) ∧ w'.cell? ⟨ga, 2, none⟩ = some (.int .i64 c) ∧ w'.cell? ⟨gb, 0, none⟩ = some (.int .i64 x) ∧ w'.cell? ⟨gb, 1, none⟩ = some (.int .i64 y) ∧ w'.cell? ⟨gb, 2, none⟩ = some (.int .i64 d) ∧ w'.cell? ⟨gk, 0, none⟩ = some (.int .i64 A) ∧ w'.cell? ⟨gk, 1, none⟩ = some (.int .i64 B) ∧ w'.cell? ⟨gk, 2, none⟩ = some (.int .i64 C))
          ((refine ninec ?_ hq hp hk; repeat (first | exact Below.refl _ _ | refine below_drw ?_ | refine below_to ?_ (by assumption))))
          (first
            | (go_at_call 27; refine (SS.out _).mono ?_; rintro e v1 ⟨rfl, bl1⟩)
            | (go_at_call 19; refine (OK.out _).mono ?_; rintro e v2 ⟨rfl, bl2⟩)
            | (go_at_call 29; first | (with_reducible refine (T1.out _).mono ?_; rintro e v3 ⟨rfl, bl3⟩) | (with_reducible refine (T2.out _).mono ?_; rintro e v4 ⟨rfl, bl4⟩) | (with_reducible refine (T3.out _).mono ?_; rintro e v5 ⟨rfl, bl5⟩)))
        all_goals
          go_wp2_with fail
          go_ret
          refine ⟨rfl, ?_⟩
          refine below_to hfin ?_
          repeat (first | exact Below.refl _ _ | refine below_drw ?_ | refine below_to ?_ (by assumption))
    · have B1 := Lib.hid (bef_call gok hhok e1)
      have B2 := Lib.hid (bef_call hhok gok e2)
      have SD := Lib.hid (sd_call gok hhok e3)
      have T3 := Lib.hid (tig_call gok hhok (tf e3))
      clear e1 e2 e3 tt tf gok hok hhok
      obtain ⟨Gc0, Gc1, Gc2, _, _, _⟩ := id G1
      have Gz := has3_lt G1
      go_wp2_with fail
      clear Gc0 Gc1 Gc2 Gz
      refine (B1.out _).mono ?_
      rintro e w3 ⟨rfl, bl⟩
      have Gm1 := has3_to (below_to (below_box w2 (.cells #[.int .i64 x, .int .i64 y, .int .i64 d] 24)) bl) G1
      have Tm1 := has3_to bl (has3_new w2 (.int .i64 x) (.int .i64 y) (.int .i64 d) 24)
      have ha1 := below_to (below_bx2 hc2 (.cells #[.int .i64 x, .int .i64 y, .int .i64 d] 24)) bl
      clear bl G1 hc2
      obtain ⟨Gc0, Gc1, Gc2, _, _, _⟩ := id Gm1
      have Gz := has3_lt Gm1
      obtain ⟨Tc0, Tc1, Tc2, _, _, _⟩ := id Tm1
      have Tz := has3_lt Tm1
      go_wp2_with fail
      clear Gc0 Gc1 Gc2 Gz Tc0 Tc1 Tc2 Tz
      refine (B2.out _).mono ?_
      rintro e w4 ⟨rfl, bl⟩
      have Gm2 := has3_to bl Gm1
      have Tm2 := has3_to bl Tm1
      have ha2 := below_to ha1 bl
      clear bl Gm1 Tm1 ha1
      obtain ⟨Gc0, Gc1, Gc2, _, _, _⟩ := id Gm2
      have Gz := has3_lt Gm2
      obtain ⟨Tc0, Tc1, Tc2, _, _, _⟩ := id Tm2
      have Tz := has3_lt Tm2
      go_wp2_with fail
      clear Gc0 Gc1 Gc2 Gz Tc0 Tc1 Tc2 Tz
      refine (SD.out _).mono ?_
      rintro e w5 ⟨rfl, bl⟩
      have Gm3 := has3_to bl Gm2
      have Tm3 := has3_to bl Tm2
      have ha3 := below_to ha2 bl
      clear bl Gm2 Tm2 ha2
      obtain ⟨Gc0, Gc1, Gc2, _, _, _⟩ := id Gm3
      have Gz := has3_lt Gm3
      obtain ⟨Tc0, Tc1, Tc2, _, _, _⟩ := id Tm3
      have Tz := has3_lt Tm3
      go_wp2_with fail
      clear Gc0 Gc1 Gc2 Gz Tc0 Tc1 Tc2 Tz
      refine (HK.out _).mono ?_
      rintro e w6 ⟨rfl, bl⟩
      have Gm4 := has3_to bl Gm3
      have Tm4 := has3_to bl Tm3
      have ha4 := below_to ha3 bl
      clear bl Gm3 Tm3 ha3
      have hq := cells_of (has3_to (below_box w6 (.cells #[.int .i64 A, .int .i64 B, .int .i64 C] 24)) Gm4)
      have hp := cells_of (has3_to (below_box w6 (.cells #[.int .i64 A, .int .i64 B, .int .i64 C] 24)) Tm4)
      have hk := cells_of (has3_new w6 (.int .i64 A) (.int .i64 B) (.int .i64 C) 24)
      have hfin := below_bx2 ha4 (.cells #[.int .i64 A, .int .i64 B, .int .i64 C] 24)
      clear Gm4 Tm4 ha4 HK B1 B2 SD
      go_wp2_with fail
      generalize w6.alloc (.cells #[.int .i64 A, .int .i64 B, .int .i64 C] 24) = V at *
      generalize w1.heap.size = ga at *
      generalize w2.heap.size = gb at *
      generalize w6.heap.size = gk at *
      as_aux_lemma =>
        go_region_held3 (fun w' => w'.cell? ⟨ga, 0, none⟩ = some (.int .i64 a) ∧ w'.cell? ⟨ga, 1, none⟩ = some (.int .i64 b) ∧ w'.cell? ⟨ga, 2, none⟩ = some (.int .i64 c) ∧ w'.cell? ⟨gb, 0, none⟩ = some (.int .i64 x) ∧ w'.cell? ⟨gb, 1, none⟩ = some (.int .i64 y) ∧ w'.cell? ⟨gb, 2, none⟩ = some (.int .i64 d) ∧ w'.cell? ⟨gk, 0, none⟩ = some (.int .i64 A) ∧ w'.cell? ⟨gk, 1, none⟩ = some (.int .i64 B) ∧ w'.cell? ⟨gk, 2, none⟩ = some (.int .i64 C))
          ((refine ninec ?_ hq hp hk; repeat (first | exact Below.refl _ _ | refine below_drw ?_ | refine below_to ?_ (by assumption))))
          (first
            | (go_at_call 27; refine (SS.out _).mono ?_; rintro e v1 ⟨rfl, bl1⟩)
            | (go_at_call 19; refine (OK.out _).mono ?_; rintro e v2 ⟨rfl, bl2⟩)
            | (go_at_call 29; first | (with_reducible refine (T1.out _).mono ?_; rintro e v3 ⟨rfl, bl3⟩) | (with_reducible refine (T2.out _).mono ?_; rintro e v4 ⟨rfl, bl4⟩) | (with_reducible refine (T3.out _).mono ?_; rintro e v5 ⟨rfl, bl5⟩)))
        all_goals
          go_wp2_with fail
          go_ret
          refine ⟨rfl, ?_⟩
          refine below_to hfin ?_
          repeat (first | exact Below.refl _ _ | refine below_drw ?_ | refine below_to ?_ (by assumption))
    · have B1 := Lib.hid (bef_call gok hhok e1)
      have B2 := Lib.hid (bef_call hhok gok e2)
      have SD := Lib.hid (sd_call gok hhok e3)
      obtain ⟨X, Y, D, hT, nz⟩ := tt e3
      have T3 := Lib.hid (tig_call gok hhok hT)
      clear e1 e2 e3 tt tf gok hok hhok hT
      by_cases hX : X = 0
      · subst hX
        have hz : (Y == 0) = false := by simp; omega
        clear nz
        obtain ⟨Gc0, Gc1, Gc2, _, _, _⟩ := id G1
        have Gz := has3_lt G1
        go_wp2_with fail
        clear Gc0 Gc1 Gc2 Gz
        refine (B1.out _).mono ?_
        rintro e w3 ⟨rfl, bl⟩
        have Gm1 := has3_to (below_to (below_box w2 (.cells #[.int .i64 x, .int .i64 y, .int .i64 d] 24)) bl) G1
        have Tm1 := has3_to bl (has3_new w2 (.int .i64 x) (.int .i64 y) (.int .i64 d) 24)
        have ha1 := below_to (below_bx2 hc2 (.cells #[.int .i64 x, .int .i64 y, .int .i64 d] 24)) bl
        clear bl G1 hc2
        obtain ⟨Gc0, Gc1, Gc2, _, _, _⟩ := id Gm1
        have Gz := has3_lt Gm1
        obtain ⟨Tc0, Tc1, Tc2, _, _, _⟩ := id Tm1
        have Tz := has3_lt Tm1
        go_wp2_with fail
        clear Gc0 Gc1 Gc2 Gz Tc0 Tc1 Tc2 Tz
        refine (B2.out _).mono ?_
        rintro e w4 ⟨rfl, bl⟩
        have Gm2 := has3_to bl Gm1
        have Tm2 := has3_to bl Tm1
        have ha2 := below_to ha1 bl
        clear bl Gm1 Tm1 ha1
        obtain ⟨Gc0, Gc1, Gc2, _, _, _⟩ := id Gm2
        have Gz := has3_lt Gm2
        obtain ⟨Tc0, Tc1, Tc2, _, _, _⟩ := id Tm2
        have Tz := has3_lt Tm2
        go_wp2_with fail
        clear Gc0 Gc1 Gc2 Gz Tc0 Tc1 Tc2 Tz
        refine (SD.out _).mono ?_
        rintro e w5 ⟨rfl, bl⟩
        have Gm3 := has3_to bl Gm2
        have Tm3 := has3_to bl Tm2
        have ha3 := below_to ha2 bl
        clear bl Gm2 Tm2 ha2
        obtain ⟨Gc0, Gc1, Gc2, _, _, _⟩ := id Gm3
        have Gz := has3_lt Gm3
        obtain ⟨Tc0, Tc1, Tc2, _, _, _⟩ := id Tm3
        have Tz := has3_lt Tm3
        go_wp2_with fail
        clear Gc0 Gc1 Gc2 Gz Tc0 Tc1 Tc2 Tz
        refine (HK.out _).mono ?_
        rintro e w6 ⟨rfl, bl⟩
        have Gm4 := has3_to bl Gm3
        have Tm4 := has3_to bl Tm3
        have ha4 := below_to ha3 bl
        clear bl Gm3 Tm3 ha3
        have hq := cells_of (has3_to (below_box w6 (.cells #[.int .i64 A, .int .i64 B, .int .i64 C] 24)) Gm4)
        have hp := cells_of (has3_to (below_box w6 (.cells #[.int .i64 A, .int .i64 B, .int .i64 C] 24)) Tm4)
        have hk := cells_of (has3_new w6 (.int .i64 A) (.int .i64 B) (.int .i64 C) 24)
        have hfin := below_bx2 ha4 (.cells #[.int .i64 A, .int .i64 B, .int .i64 C] 24)
        clear Gm4 Tm4 ha4 HK B1 B2 SD
        go_wp2_with fail
        generalize w6.alloc (.cells #[.int .i64 A, .int .i64 B, .int .i64 C] 24) = V at *
        generalize w1.heap.size = ga at *
        generalize w2.heap.size = gb at *
        generalize w6.heap.size = gk at *
        as_aux_lemma =>
          go_region_held3 (fun w' => w'.cell? ⟨ga, 0, none⟩ = some (.int .i64 a) ∧ w'.cell? ⟨ga, 1, none⟩ = some (.int .i64 b) ∧ w'.cell? ⟨ga, 2, none⟩ = some (.int .i64 c) ∧ w'.cell? ⟨gb, 0, none⟩ = some (.int .i64 x) ∧ w'.cell? ⟨gb, 1, none⟩ = some (.int .i64 y) ∧ w'.cell? ⟨gb, 2, none⟩ = some (.int .i64 d) ∧ w'.cell? ⟨gk, 0, none⟩ = some (.int .i64 A) ∧ w'.cell? ⟨gk, 1, none⟩ = some (.int .i64 B) ∧ w'.cell? ⟨gk, 2, none⟩ = some (.int .i64 C))
            ((refine ninec ?_ hq hp hk; repeat (first | exact Below.refl _ _ | refine below_drw ?_ | refine below_to ?_ (by assumption))))
            (first
              | (go_at_call 27; refine (SS.out _).mono ?_; rintro e v1 ⟨rfl, bl1⟩)
              | (go_at_call 19; refine (OK.out _).mono ?_; rintro e v2 ⟨rfl, bl2⟩)
              | (go_at_call 29; first | (with_reducible refine (T1.out _).mono ?_; rintro e v3 ⟨rfl, bl3⟩) | (with_reducible refine (T2.out _).mono ?_; rintro e v4 ⟨rfl, bl4⟩) | (with_reducible refine (T3.out _).mono ?_; rintro e v5 ⟨rfl, bl5⟩)))
          all_goals
            go_wp2_with fail
            go_ret
            refine ⟨rfl, ?_⟩
            refine below_to hfin ?_
            repeat (first | exact Below.refl _ _ | refine below_drw ?_ | refine below_to ?_ (by assumption))
      · have hz : (X == 0) = false := by simpa using hX
        clear nz hX
        obtain ⟨Gc0, Gc1, Gc2, _, _, _⟩ := id G1
        have Gz := has3_lt G1
        go_wp2_with fail
        clear Gc0 Gc1 Gc2 Gz
        refine (B1.out _).mono ?_
        rintro e w3 ⟨rfl, bl⟩
        have Gm1 := has3_to (below_to (below_box w2 (.cells #[.int .i64 x, .int .i64 y, .int .i64 d] 24)) bl) G1
        have Tm1 := has3_to bl (has3_new w2 (.int .i64 x) (.int .i64 y) (.int .i64 d) 24)
        have ha1 := below_to (below_bx2 hc2 (.cells #[.int .i64 x, .int .i64 y, .int .i64 d] 24)) bl
        clear bl G1 hc2
        obtain ⟨Gc0, Gc1, Gc2, _, _, _⟩ := id Gm1
        have Gz := has3_lt Gm1
        obtain ⟨Tc0, Tc1, Tc2, _, _, _⟩ := id Tm1
        have Tz := has3_lt Tm1
        go_wp2_with fail
        clear Gc0 Gc1 Gc2 Gz Tc0 Tc1 Tc2 Tz
        refine (B2.out _).mono ?_
        rintro e w4 ⟨rfl, bl⟩
        have Gm2 := has3_to bl Gm1
        have Tm2 := has3_to bl Tm1
        have ha2 := below_to ha1 bl
        clear bl Gm1 Tm1 ha1
        obtain ⟨Gc0, Gc1, Gc2, _, _, _⟩ := id Gm2
        have Gz := has3_lt Gm2
        obtain ⟨Tc0, Tc1, Tc2, _, _, _⟩ := id Tm2
        have Tz := has3_lt Tm2
        go_wp2_with fail
        clear Gc0 Gc1 Gc2 Gz Tc0 Tc1 Tc2 Tz
        refine (SD.out _).mono ?_
        rintro e w5 ⟨rfl, bl⟩
        have Gm3 := has3_to bl Gm2
        have Tm3 := has3_to bl Tm2
        have ha3 := below_to ha2 bl
        clear bl Gm2 Tm2 ha2
        obtain ⟨Gc0, Gc1, Gc2, _, _, _⟩ := id Gm3
        have Gz := has3_lt Gm3
        obtain ⟨Tc0, Tc1, Tc2, _, _, _⟩ := id Tm3
        have Tz := has3_lt Tm3
        go_wp2_with fail
        clear Gc0 Gc1 Gc2 Gz Tc0 Tc1 Tc2 Tz
        refine (HK.out _).mono ?_
        rintro e w6 ⟨rfl, bl⟩
        have Gm4 := has3_to bl Gm3
        have Tm4 := has3_to bl Tm3
        have ha4 := below_to ha3 bl
        clear bl Gm3 Tm3 ha3
        have hq := cells_of (has3_to (below_box w6 (.cells #[.int .i64 A, .int .i64 B, .int .i64 C] 24)) Gm4)
        have hp := cells_of (has3_to (below_box w6 (.cells #[.int .i64 A, .int .i64 B, .int .i64 C] 24)) Tm4)
        have hk := cells_of (has3_new w6 (.int .i64 A) (.int .i64 B) (.int .i64 C) 24)
        have hfin := below_bx2 ha4 (.cells #[.int .i64 A, .int .i64 B, .int .i64 C] 24)
        clear Gm4 Tm4 ha4 HK B1 B2 SD
        go_wp2_with fail
        generalize w6.alloc (.cells #[.int .i64 A, .int .i64 B, .int .i64 C] 24) = V at *
        generalize w1.heap.size = ga at *
        generalize w2.heap.size = gb at *
        generalize w6.heap.size = gk at *
        as_aux_lemma =>
          go_region_held3 (fun w' => w'.cell? ⟨ga, 0, none⟩ = some (.int .i64 a) ∧ w'.cell? ⟨ga, 1, none⟩ = some (.int .i64 b) ∧ w'.cell? ⟨ga, 2, none⟩ = some (.int .i64 c) ∧ w'.cell? ⟨gb, 0, none⟩ = some (.int .i64 x) ∧ w'.cell? ⟨gb, 1, none⟩ = some (.int .i64 y) ∧ w'.cell? ⟨gb, 2, none⟩ = some (.int .i64 d) ∧ w'.cell? ⟨gk, 0, none⟩ = some (.int .i64 A) ∧ w'.cell? ⟨gk, 1, none⟩ = some (.int .i64 B) ∧ w'.cell? ⟨gk, 2, none⟩ = some (.int .i64 C))
            ((refine ninec ?_ hq hp hk; repeat (first | exact Below.refl _ _ | refine below_drw ?_ | refine below_to ?_ (by assumption))))
            (first
              | (go_at_call 27; refine (SS.out _).mono ?_; rintro e v1 ⟨rfl, bl1⟩)
              | (go_at_call 19; refine (OK.out _).mono ?_; rintro e v2 ⟨rfl, bl2⟩)
              | (go_at_call 29; first | (with_reducible refine (T1.out _).mono ?_; rintro e v3 ⟨rfl, bl3⟩) | (with_reducible refine (T2.out _).mono ?_; rintro e v4 ⟨rfl, bl4⟩) | (with_reducible refine (T3.out _).mono ?_; rintro e v5 ⟨rfl, bl5⟩)))
          all_goals
            go_wp2_with fail
            go_ret
            refine ⟨rfl, ?_⟩
            refine below_to hfin ?_
            repeat (first | exact Below.refl _ _ | refine below_drw ?_ | refine below_to ?_ (by assumption))
end Go.Proofs.Ytkodoedkdgldnaa
