/- The contracts of the laws' helpers on slices of half planes over the translation. The contracts of the laws' helpers on regions over the translation. -/
import Derived.Test.YtefafkainfhhkaaRw
namespace Go.Proofs.Ytefafkainfhhkaa
open Go.RowKit
open Geo (H3)

set_option maxHeartbeats 1600000 in
theorem eq_halves (a b : Option Addr) (n ca cb : Nat) (xs : List H3) (w : World) (hl : xs.length = n) (hn : n ≤ 4194304) (hA : HsAt w a xs) (hB : HsAt w b xs) :
    Calls Try.prog 56 #[.slice a n ca, .slice b n cb] w fun e w' => e = .returned (.bool true) ∧ Below w.heap.size w w' := by
  have HL := Lib.hid hl
  have HA := Lib.hid hA
  have HB := Lib.hid hB
  clear hl hA hB
  go_enter Try.func56, Try.ntmps56
  go_wp2
  go_loopw [5] (fun i wr => ∃ k : Nat, k ≤ n ∧ i = .int .i64 k ∧ Below w.heap.size w wr) (fun i _ => n - (intOf i).toNat)
  case atStart => exact ⟨0, Nat.zero_le _, rfl, Below.refl _ _⟩
  case round =>
    obtain ⟨k, hk, rfl, hbel⟩ := hrel
    by_cases hlt : k < n
    · obtain ⟨⟨xa, xb, xc⟩, hx⟩ : ∃ x, xs[k]? = some x := ⟨_, List.getElem?_eq_getElem (by rw [HL.out]; exact hlt)⟩
      obtain ⟨g, o, rfl, hc⟩ := HA.out k _ hx
      obtain ⟨g2, o2, rfl, hc2⟩ := HB.out k _ hx
      have hp := hc.to hbel
      have hq := hc2.to hbel
      simp only at hp hq
      clear hx hc hc2
      go_wp2
      obtain ⟨q1, q2, q3, q4, q5, q6⟩ := Tri.six (Below.refl _ _) hp hq
      go_region_held3 (fun w' => w'.cell? ⟨g, o + k * 3, none⟩ = some (.int .i64 xa) ∧ w'.cell? ⟨g, o + k * 3 + 1, none⟩ = some (.int .i64 xb) ∧ w'.cell? ⟨g, o + k * 3 + 2, none⟩ = some (.int .i64 xc) ∧ w'.cell? ⟨g2, o2 + k * 3, none⟩ = some (.int .i64 xa) ∧ w'.cell? ⟨g2, o2 + k * 3 + 1, none⟩ = some (.int .i64 xb) ∧ w'.cell? ⟨g2, o2 + k * 3 + 2, none⟩ = some (.int .i64 xc))
        ((refine Tri.six ?_ hp hq; repeat (first | exact Below.refl _ _ | refine below_drw ?_ | refine below_to ?_ (by assumption))))
        ((go_at_call 106; (with_reducible refine (eq_half _ _ _ _).mono ?_); rintro e w1 ⟨rfl, bl1⟩))
      all_goals go_wp2
      go_roundw
      case rel => exact ⟨k + 1, by omega, by go_num, below_to hbel (below_to (below_drw (Below.refl _ _)) bl1)⟩
      case measure => simp [intOf]; omega
    · go_wp2
      go_ret
      exact ⟨rfl, hbel⟩

/-- the marks -/
def mkH (i : Nat) : H3 := ⟨3 * i + 1, 3 * i + 2, 3 * i + 3⟩
def marksH (n : Nat) : List H3 := (List.range n).map mkH
def markedH (k : Nat) (hs : List H3) : List H3 := marksH k ++ hs.drop k
theorem markedH_zero (hs : List H3) : markedH 0 hs = hs := by simp [markedH, marksH]
theorem markedH_step (k : Nat) (hs : List H3) (h : k < hs.length) : (markedH k hs).set k (mkH k) = markedH (k + 1) hs := by
  unfold markedH marksH
  rw [List.set_append_right _ _ (by simp), List.drop_eq_getElem_cons h, List.range_succ]
  simp only [List.length_map, List.length_range, Nat.sub_self, List.set_cons_zero, List.map_append, List.map_cons, List.map_nil, List.append_assoc, List.cons_append, List.nil_append]
theorem markedH_all (n : Nat) (hs : List H3) (h : hs.length = n) : markedH n hs = marksH n := by
  unfold markedH; rw [List.drop_of_length_le (by omega)]; simp
theorem marksH_at (n k : Nat) (h : k < n) : (marksH n)[k]? = some (mkH k) := by simp [marksH, h]
theorem marksH_len (n : Nat) : (marksH n).length = n := by simp [marksH]
/-- writing into an owned row changes nothing below it -/
theorem below_row {w w' : World} {B g o : Nat} (h : Below B w w') (hg : B ≤ g) (u : Value) : Below B w (w'.setCell ⟨g, o, none⟩ u) := h.setCell hg u
set_option maxHeartbeats 1600000 in
theorem mark_halves (v : Value) (n B : Nat) (hs : List H3) (w : World) (hn : n ≤ 4194000) (hown : w.ownsRow B 88 3 v n (flat hs)) :
    Calls Try.prog 72 #[v, .int .i64 1] w fun e w' => e = .returned (.int .i64 (3 * n + 1)) ∧ w'.ownsRow B 88 3 v n (flat (marksH n)) ∧ Below B w w' := by
  have HX := Lib.hid (own3_view hown).1
  obtain ⟨ao, cap, rfl⟩ := own_slice hown
  have HO := Lib.hid hown
  clear hown
  go_enter Try.func72, Try.ntmps72
  go_wp2
  go_loopw [1, 5] (fun x i wr => ∃ k : Nat, k ≤ n ∧ x = .int .i64 (3 * k + 1) ∧ i = .int .i64 k ∧ wr.ownsRow B 88 3 (.slice ao n cap) n (flat (markedH k hs)) ∧ Below B w wr) (fun _ i _ => n - (intOf i).toNat)
  case atStart => exact ⟨0, Nat.zero_le _, rfl, rfl, by rw [markedH_zero]; exact HO.out, Below.refl _ _⟩
  case round =>
    obtain ⟨k, hk, rfl, rfl, ho, hbel⟩ := hrel
    have HW := Lib.hid ho
    by_cases hlt : k < n
    · obtain ⟨g, cap', e⟩ := own_row ho (by omega)
      simp only [Value.slice.injEq, true_and] at e
      obtain ⟨rfl, rfl⟩ := e
      have HS := Lib.hid (markedH_step k hs (by rw [HX.out]; exact hlt))
      obtain ⟨z, _, t1, t2, t3, f1, f2, f3, hg, hgl⟩ := own3_at ho hlt
      clear ho
      go_wp2
      go_roundw
      case rel =>
        have hp := own3_put HW.out k (mkH k)
        rw [HS.out] at hp
        refine ⟨k + 1, by omega, by go_num, by go_num, ?_, ?_⟩
        · simpa [mkH, Int.add_assoc] using hp
        · exact below_row (below_row (below_row hbel hg _) hg _) hg _
      case measure => simp [intOf]; omega
    · have : k = n := by omega
      subst this
      clear ho
      go_wp2
      go_ret
      exact ⟨rfl, by rw [← markedH_all k hs HX.out]; exact HW.out, hbel⟩
set_option maxHeartbeats 1600000 in
theorem held_halves (ao : Option Addr) (n cap : Nat) (w : World) (hn : n ≤ 4194000) (hA : HsAt w ao (marksH n)) :
    Calls Try.prog 73 #[.slice ao n cap, .int .i64 1] w fun e w' => e = .returned (.int .i64 (3 * n + 1)) ∧ w = w' := by
  have HA := Lib.hid hA
  clear hA
  go_enter Try.func73, Try.ntmps73
  go_wp2
  go_loop [1, 5] (fun x i => ∃ k : Nat, k ≤ n ∧ x = .int .i64 (3 * k + 1) ∧ i = .int .i64 k) (fun _ i => n - (intOf i).toNat)
  case atStart => exact ⟨0, Nat.zero_le _, rfl, rfl⟩
  case round =>
    obtain ⟨k, hk, rfl, rfl⟩ := hrel
    by_cases hlt : k < n
    · obtain ⟨g, o, rfl, t1, t2, t3⟩ := HA.out k _ (marksH_at n k hlt)
      simp only [mkH] at t1 t2 t3
      go_wp2
      go_round
      case rel => exact ⟨k + 1, by omega, by go_num, by go_num⟩
      case measure => simp [intOf]; omega
    · have : k = n := by omega
      subst this
      go_wp2
      go_ret
      exact ⟨rfl, rfl⟩
theorem sz_halves (a : Option Addr) (n cap : Nat) (w : World) (hn : n ≤ maxLen) (s : Int) (hs : 0 ≤ s) (hs2 : s ≤ 1048576) (r : Int) (hr : r = if (n : Int) ≤ s then s - n else -1) :
    Calls Try.prog 50 #[.slice a n cap, .int .i64 s] w fun e w' => e = .returned (.int .i64 r) ∧ w = w' := by
  unfold maxLen at hn
  by_cases h : (n : Int) ≤ s
  · rw [if_pos h] at hr
    subst hr
    go_enter Try.func50, Try.ntmps50
    go_wp2
    go_ret
    exact ⟨rfl, rfl⟩
  · rw [if_neg h] at hr
    subst hr
    go_enter Try.func50, Try.ntmps50
    go_wp2
    go_ret
    exact ⟨rfl, rfl⟩
theorem Try.info34 : (Try.prog.info? 88).map (fun i => (i.zero, i.size, i.bytes)) = some (some (.agg #[.int .i64 0, .int .i64 0, .int .i64 0]), 3, 24) := by kernel_rfl
/-- a new row of triples is handed back -/
def GivesH (w : World) (hs : List H3) (e : Ending) (w' : World) : Prop := ∃ v, e = .returned v ∧ w'.ownsRow w.heap.size 88 3 v hs.length (flat hs) ∧ Below w.heap.size w w'
theorem GivesH.mk' {w w' : World} {hs : List H3} {v : Value} {n : Nat} {ys : List Value} (h : w'.ownsRow w.heap.size 88 3 v n ys) (hn : n = hs.length) (hy : ys = flat hs) (hb : Below w.heap.size w w') : GivesH w hs (.returned v) w' := by
  subst hn; subst hy; exact ⟨v, rfl, h, hb⟩
def zeroH : H3 := ⟨0, 0, 0⟩
theorem made3 (n : Nat) : (madeCells (#[.int .i64 0, .int .i64 0, .int .i64 0] : Array Value) (n * 3)).toList = flat (List.replicate n zeroH) := by
  induction n with
  | zero => simp [madeCells, flat]
  | succ n ih =>
    unfold madeCells at ih ⊢
    have e : (n + 1) * 3 = n * 3 + 1 + 1 + 1 := by omega
    rw [List.replicate_succ', flat_app, ← ih, e, Array.range_succ, Array.range_succ, Array.range_succ]
    simp [flat, trip, zeroH, show (n * 3 + 1) % 3 = 1 by omega, show (n * 3 + 2) % 3 = 2 by omega]
set_option maxHeartbeats 1600000 in
theorem to_halves (a : Option Addr) (n cap : Nat) (hs : List H3) (w : World) (hl : hs.length = n) (hn : n ≤ 1048576) (hA : HsAt w a hs) :
    Calls Try.prog 53 #[.slice a n cap] w (GivesH w hs) := by
  obtain ⟨i0, hi, hz0, hz1, hz2⟩ := info_parts Try.info34
  have HL := Lib.hid hl
  have HA := Lib.hid hA
  clear hl hA
  go_enter Try.func53, Try.ntmps53
  go_wp2_with (at_make; refine wpList_make_full _ rfl _ _ 30 rfl w.heap.size 88 i0 (.agg #[.int .i64 0, .int .i64 0, .int .i64 0]) 3 Try.underlying30 hi hz0 hz1 .i64 .i64 _ _ n rfl rfl rfl rfl (by rw [hz2]; omega) (by unfold maxLen; omega) (Nat.le_refl _) ?_)
  intro w1 hown hgrow
  have hb1 : Below w.heap.size w w1 := (Below.refl _ _).grown hgrow (Nat.le_refl _) (fun g hg => by cases hg)
  rw [made3] at hown
  have HO := Lib.hid hown
  clear hown hgrow
  go_wp2
  go_loopw [4] (fun i wr => ∃ (k : Nat) (ys : List H3), k ≤ n ∧ i = .int .i64 k ∧ ys.length = n ∧ ys.take k = hs.take k ∧ wr.ownsRow w.heap.size 88 3 (.slice (some ⟨w.heap.size, 0, none⟩) n n) n (flat ys) ∧ Below w.heap.size w wr) (fun i _ => n - (intOf i).toNat)
  case atStart => exact ⟨0, List.replicate n zeroH, Nat.zero_le _, rfl, by simp, by simp, HO.out, hb1⟩
  case round =>
    obtain ⟨k, ys, hk, rfl, hyl, hyt, ho, hbel⟩ := hrel
    have H1 := Lib.hid hyl
    have H2 := Lib.hid hyt
    have H3 := Lib.hid ho
    clear hyl hyt ho
    by_cases hlt : k < n
    · obtain ⟨⟨xa, xb, xc⟩, hx⟩ : ∃ x, hs[k]? = some x := ⟨_, List.getElem?_eq_getElem (by rw [HL.out]; exact hlt)⟩
      obtain ⟨g, o, rfl, hc⟩ := HA.out k _ hx
      obtain ⟨t1, t2, t3⟩ := hc.to hbel
      simp only at t1 t2 t3
      have H5 := Lib.hid hx
      clear hc hx
      go_wp2_with (go_at_call 102; (with_reducible refine (to_half _ _ _ _).mono ?_); rintro e w1 ⟨rfl, bl1⟩; have H4 := Lib.hid (own_below H3.out bl1); obtain ⟨y, _, c1, c2, c3, f1, f2, f3, _, hgl⟩ := own3_at H4.out hlt)
      go_roundw
      case rel =>
        refine ⟨k + 1, ys.set k ⟨xa, xb, xc⟩, by omega, by go_num, by rw [List.length_set]; exact H1.out, ?_, ?_, ?_⟩
        · rw [List.take_add_one, List.take_add_one, H5.out, List.getElem?_set_self (by rw [H1.out]; exact hlt), List.take_set_of_le (Nat.le_refl _), H2.out]
        · exact own3_put H4.out k ⟨xa, xb, xc⟩
        · exact below_row (below_row (below_row (hbel.trans (bl1.mono hbel.size)) (Nat.le_refl _) _) (Nat.le_refl _) _) (Nat.le_refl _) _
      case measure => simp [intOf]; omega
    · have hkn : k = n := by omega
      subst hkn
      go_wp2
      go_ret
      exact GivesH.mk' H3.out HL.out.symm (by
        have := H2.out
        rw [List.take_of_length_le (by rw [H1.out]; omega), List.take_of_length_le (by rw [HL.out]; omega)] at this
        rw [this]) hbel

theorem below_one (w : World) (o : Obj) : Below w.heap.size w (w.alloc o) := (Below.refl _ _).alloc (Nat.le_refl _) _
theorem sz_region (a : Option Addr) (n cap : Nat) (w : World) (hn : n ≤ maxLen) (s : Int) (hs : 0 ≤ s) (hs2 : s ≤ 1048576) (r : Int) (hr : r = if (n : Int) ≤ s then s - n else -1) :
    Calls Try.prog 13 #[.agg #[.slice a n cap], .int .i64 s] w fun e w' => e = .returned (.int .i64 r) ∧ Below w.heap.size w w' := by
  have HR := Lib.hid hr
  have h3 : r < 0 ∨ 0 ≤ r := by omega
  have h4 : r < 0 → r = -1 := by intro h; by_cases k : (n : Int) ≤ s <;> simp [k] at hr <;> omega
  clear hr
  rcases h3 with h3 | h3
  · obtain rfl := h4 h3
    clear h4
    go_enter Try.func13, Try.ntmps13
    go_wp2_with (go_at_call 50; (with_reducible refine (sz_halves _ _ _ _ hn _ hs hs2 _ HR.out).mono ?_); rintro e w1 ⟨rfl, rfl⟩)
    go_ret
    exact ⟨rfl, below_one _ _⟩
  · clear h4
    go_enter Try.func13, Try.ntmps13
    go_wp2_with (go_at_call 50; (with_reducible refine (sz_halves _ _ _ _ hn _ hs hs2 _ HR.out).mono ?_); rintro e w1 ⟨rfl, rfl⟩)
    go_ret
    exact ⟨rfl, below_one _ _⟩
theorem bcellr {W w1 : World} (hb : Below W.heap.size W w1) : (∀ b o, b < W.heap.size → w1.cell? ⟨b, o, none⟩ = W.cell? ⟨b, o, none⟩) ∧ (∀ b o, b < W.heap.size → w1.frozen? ⟨b, o, none⟩ = W.frozen? ⟨b, o, none⟩) :=
  ⟨fun b o h => hb.cell (p := ⟨b, o, none⟩) h, fun b o h => hb.frozen (p := ⟨b, o, none⟩) h⟩
/-- a new region is handed back -/
def GivesR (w : World) (hs : List H3) (e : Ending) (w' : World) : Prop := ∃ v, e = .returned (.agg #[v]) ∧ w'.ownsRow w.heap.size 88 3 v hs.length (flat hs) ∧ Below w.heap.size w w'
theorem own_base {w : World} {B B' n s : Nat} {e : TypeId} {v : Value} {xs : List Value} (h : w.ownsRow B e s v n xs) (hB : B' ≤ B) : w.ownsRow B' e s v n xs := by
  refine ⟨h.1, ?_⟩
  rcases h.2 with h2 | ⟨g, cap, cur, hv, hg, r⟩
  · exact .inl h2
  · exact .inr ⟨g, cap, cur, hv, by omega, r⟩
theorem own_far {w : World} {B n s : Nat} {e : TypeId} {v : Value} {xs : List Value} (h : w.ownsRow B e s v n xs) {p : Addr} (hp : p.block < B) (u : Value) : (w.setCell p u).ownsRow B e s v n xs := by
  refine ⟨h.1, ?_⟩
  rcases h.2 with h2 | ⟨g, cap, cur, hv, hg, hh, r⟩
  · exact .inl h2
  · exact .inr ⟨g, cap, cur, hv, hg, (Below.heap_setCell w p u g (by omega)).trans hh, r⟩
set_option maxHeartbeats 1600000 in
theorem to_region (a : Option Addr) (n cap : Nat) (hs : List H3) (w : World) (hl : hs.length = n) (hn : n ≤ 1048576) (hA : HsAt w a hs) :
    Calls Try.prog 15 #[.agg #[.slice a n cap]] w (GivesR w hs) := by
  have HL := Lib.hid hl
  have HA := Lib.hid hA
  clear hl hA
  go_enter Try.func15, Try.ntmps15
  go_wp2_with fail
  refine (to_halves a n cap hs _ HL.out hn (HA.out.below ?_)).mono ?_
  · exact below_bx2 (below_bx2 (below_one _ _) _) _
  rintro e w1 ⟨v, rfl, ho, bl1⟩
  obtain ⟨ao, cp, rfl⟩ := own_slice ho
  have HO := Lib.hid ho
  have hz := bl1.size
  simp at hz
  have HB := Lib.hid bl1
  obtain ⟨hc1, hf1⟩ := bcellr bl1
  clear ho bl1
  generalize hs.length = m at *
  go_wp2
  refine bodyPost_ret (v := .agg #[.slice ao m cp]) (by simp [results, Try.results15, go_sem, hc1]) rfl ?_
  refine ⟨_, rfl, ?_, ?_⟩
  · have h1 : hs.length = m := (own3_view HO.out).1
    rw [h1]
    exact own_base (own_far (own_far HO.out (by simp) _) (by simp) _) (by simp; omega)
  · exact ((below_to (below_bx2 (below_bx2 (below_one _ _) _) _) HB.out).setCell (by simp; omega) _).setCell (by simp) _
set_option maxHeartbeats 1600000 in
theorem eq_region (a b : Option Addr) (n ca cb : Nat) (xs : List H3) (w : World) (hl : xs.length = n) (hn : n ≤ 4194304) (hA : HsAt w a xs) (hB : HsAt w b xs) :
    Calls Try.prog 18 #[.agg #[.slice a n ca], .agg #[.slice b n cb]] w fun e w' => e = .returned (.bool true) ∧ Below w.heap.size w w' := by
  have HL := Lib.hid hl
  have HA := Lib.hid hA
  have HB := Lib.hid hB
  clear hl hA hB
  go_enter Try.func18, Try.ntmps18
  go_wp2_with fail
  refine (eq_halves a b n ca cb xs _ HL.out hn (HA.out.below (below_bx2 (below_one _ _) _)) (HB.out.below (below_bx2 (below_one _ _) _))).mono ?_
  rintro e w1 ⟨rfl, bl1⟩
  go_wp2
  go_ret
  exact ⟨rfl, below_to (below_bx2 (below_one _ _) _) bl1⟩
theorem mark_region (v : Value) (n B : Nat) (hs : List H3) (w : World) (hn : n ≤ 4194000) (hB : B ≤ w.heap.size) (hown : w.ownsRow B 88 3 v n (flat hs)) :
    Calls Try.prog 21 #[.agg #[v], .int .i64 1] w fun e w' => e = .returned (.int .i64 (3 * n + 1)) ∧ w'.ownsRow B 88 3 v n (flat (marksH n)) ∧ Below B w w' := by
  obtain ⟨ao, cap, rfl⟩ := own_slice hown
  have HO := Lib.hid hown
  clear hown
  go_enter Try.func21, Try.ntmps21
  go_wp2_with fail
  refine (mark_halves _ n B hs _ hn (own_below HO.out (below_one _ _))).mono ?_
  rintro e w1 ⟨rfl, ho, hb⟩
  have H1 := Lib.hid ho
  clear ho
  go_wp2
  go_ret
  exact ⟨rfl, H1.out, ((below_one _ _).mono hB).trans hb⟩
theorem held_region (ao : Option Addr) (n cap : Nat) (w : World) (hn : n ≤ 4194000) (hA : HsAt w ao (marksH n)) :
    Calls Try.prog 22 #[.agg #[.slice ao n cap], .int .i64 1] w fun e w' => e = .returned (.int .i64 (3 * n + 1)) ∧ Below w.heap.size w w' := by
  have HA := Lib.hid hA
  clear hA
  go_enter Try.func22, Try.ntmps22
  go_wp2_with fail
  refine (held_halves _ n cap _ hn (HA.out.below (below_one _ _))).mono ?_
  rintro e w1 ⟨rfl, rfl⟩
  go_wp2
  go_ret
  exact ⟨rfl, below_one _ _⟩
end Go.Proofs.Ytefafkainfhhkaa
