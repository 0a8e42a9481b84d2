/- GrowAlong's half planes of the model over the translation. GrowAlong of the model over the translation. -/
import Derived.Test.YtfndkapjclhflaaGs
import Derived.Test.YtfndkapjclhflaaEz
namespace Go.Proofs.Ytfndkapjclhflaa
open Go.RowKit Go.Shelf
open Geo (H3)

/-- what the model's list of grown half planes is -/
def GrnW (w : World) (L : List H3) (b : Bool) (e : Ending) (w' : World) : Prop :=
  (b = true ∧ ∃ ao cp, e = .returned (.tuple #[.slice ao L.length cp, .bool true]) ∧ w'.ownsRow w.heap.size 35 3 (.slice ao L.length cp) L.length (flat L) ∧ Below w.heap.size w w') ∨ (b = false ∧ e = .returned (.tuple #[.slice none 0 0, .bool false]) ∧ Below w.heap.size w w')
theorem GrnW.yes {w w' : World} {L : List H3} {b : Bool} {ao : Option Addr} {m cp : Nat} (hb : b = true) (hm : L.length = m) (ho : w'.ownsRow w.heap.size 35 3 (.slice ao m cp) m (flat L)) (hbl : Below w.heap.size w w') : GrnW w L b (.returned (.tuple #[.slice ao m cp, .bool true])) w' := by
  subst hm; exact .inl ⟨hb, ao, cp, rfl, ho, hbl⟩
theorem hs_blk {W : World} {g : Nat} {a b c p q r : Int} {T : TypeId} (K : Blk W g #[.int .i64 a, .int .i64 b, .int .i64 c, .int .i64 p, .int .i64 q, .int .i64 r] T) : HsAt W (some ⟨g, 0, none⟩) [⟨a, b, c⟩, ⟨p, q, r⟩] := by
  intro i z hz
  match i with
  | 0 =>
    simp at hz; subst hz
    exact ⟨_, _, rfl, K.cell0 (i := 0) rfl, K.cell0 (i := 1) rfl, K.cell0 (i := 2) rfl⟩
  | 1 =>
    simp at hz; subst hz
    exact ⟨_, _, rfl, K.cell0 (i := 3) rfl, K.cell0 (i := 4) rfl, K.cell0 (i := 5) rfl⟩
  | i + 2 => simp at hz
theorem top_tc {A B : Int} {ps : List H3} (hp : rokB ps = true) (ne : ps ≠ []) (i1 : inB A (-50000) 50000 = true) (i2 : inB B (-50000) 50000 = true) (nz : A ≠ 0 ∨ B ≠ 0) :
    topB A B (farS A B ps ps.length).2.1 (farS A B ps ps.length).2.2 = tcB A B ps ∧ (tcB A B ps = true → topH A B (farS A B ps ps.length).2.1 (farS A B ps ps.length).2.2 = tcH A B ps) := by
  obtain ⟨_, _, q, _, _, _, _⟩ := sup_of rfl hp ne i1 i2
  obtain ⟨_, _, _, _, o5⟩ := (okR_iff _ _).1 q
  by_cases hD : (farS A B ps ps.length).2.2 ≤ 50000
  · exact ⟨(top_yes hD).2, fun _ => (top_yes hD).1⟩
  · have e : tcB A B ps = false := by
      unfold tcB
      generalize farS A B ps ps.length = f at *
      have h := er_big (A := A) (B := B) (C := 0) (N := -f.2.1) (D := f.2.2) (by rw [Int.neg_gcd]; exact o5) (by omega) nz
      rwa [show (0 : Int) * f.2.2 - -f.2.1 = f.2.1 by omega] at h
    rw [e, (top_no hD).2]
    exact ⟨rfl, by simp⟩
theorem gcd_callS (a b : Int) (w : World) (ha : -100 ≤ a) (ha2 : a ≤ 100) (hb : -100 ≤ b) (hb2 : b ≤ 100) :
    Calls Try.prog 103 #[.int .i64 a, .int .i64 b] w fun e w' => e = .returned (.int .i64 (Int.gcd a b)) ∧ Below w.heap.size w w' := by
  refine (spec_gcd a b w (by omega) (by omega) (by omega) (by omega)).mono ?_
  rintro e w' ⟨rfl, k, rfl⟩
  exact ⟨by rw [gcdR_of a b (by omega) (by omega)], below_drewN w k⟩
/-- the two directions in which a region does not grow -/
def gwD (bx cy : Int) : List H3 := [⟨-gwa bx cy, gwb bx cy, 0⟩, ⟨gwa bx cy, -gwb bx cy, 0⟩]
noncomputable def tcT (ps : List H3) (x : H3) : Bool := tcB x.a x.b ps
noncomputable def tcU (ps : List H3) (x : H3) : H3 := tcH x.a x.b ps
theorem gw_div {x : Int} {g : Nat} (h : (g : Int) ∣ x) : x.tdiv g = 0 ↔ x = 0 := by
  constructor
  · intro e
    have := Int.tdiv_mul_cancel h
    rw [e] at this
    omega
  · rintro rfl; simp
theorem gw_nz {bx cy : Int} (h : ¬ (bx = 0 ∧ cy = 0)) : ∀ x ∈ gwD bx cy, x.a ≠ 0 ∨ x.b ≠ 0 := by
  have e1 := gw_div (Int.gcd_dvd_left (a := bx) (b := cy))
  have e2 := gw_div (Int.gcd_dvd_right (a := bx) (b := cy))
  intro x hx
  unfold gwD at hx
  simp only [List.mem_cons, List.not_mem_nil, or_false] at hx
  rcases hx with rfl | rfl <;> simp only [gwa, gwb] <;> omega
theorem gw_in5 {bx cy : Int} (hx : In100 bx) (hy : In100 cy) : ∀ x ∈ gwD bx cy, (-100 ≤ x.a ∧ x.a ≤ 100) ∧ (-100 ≤ x.b ∧ x.b ≤ 100) := by
  obtain ⟨t1, t2⟩ := td_in (g := Int.gcd bx cy) hx.1 hx.2
  obtain ⟨t3, t4⟩ := td_in (g := Int.gcd bx cy) hy.1 hy.2
  intro x hx
  unfold gwD at hx
  simp only [List.mem_cons, List.not_mem_nil, or_false] at hx
  rcases hx with rfl | rfl <;> simp only [gwa, gwb] <;> omega
theorem gw_DU (ps : List H3) (bx cy : Int) : (gwD bx cy).map (tcU ps) = gwU ps bx cy ∧ (gwD bx cy).all (tcT ps) = gwT ps bx cy := by
  refine ⟨rfl, ?_⟩
  simp [gwD, tcT, gwT]
theorem take_ne {α : Type} {l : List α} {k : Nat} {x : α} (h : l[k]? = some x) : k < l.length := (List.getElem?_eq_some_iff.1 h).1
theorem all_no1 {α : Type} {B : α → Bool} {l : List α} {k : Nat} {x : α} (h : l[k]? = some x) (n : B x = false) : l.all B = false := by
  rw [List.all_eq_false]; exact ⟨x, List.mem_of_getElem? h, by simp [n]⟩
theorem map_tk1 {α β : Type} {M : α → β} {l : List α} {k : Nat} {x : α} (h : l[k]? = some x) : (l.take (k + 1)).map M = (l.take k).map M ++ [M x] := by
  rw [List.take_add_one, h]; simp
theorem regL_swap {fu xs : List H3} (hok : (xs ++ fu).all okB = true) : regL (fu ++ xs) = regL (xs ++ fu) := by
  have h2 : (fu ++ xs).all okB = true := by rw [List.all_append, Bool.and_comm, ← List.all_append]; exact hok
  rw [← mod_reg hok]
  exact (mod_of hok (Inv_swap (regL_inv h2) fun x => by
    simp only [List.mem_append]
    constructor
    · rintro (h | h | h) <;> simp [h]
    · rintro ((h | h) | h) <;> simp [h])).symm
theorem okF_swap (fu xs : List H3) : okF (xs ++ fu) = okF (fu ++ xs) ∧ regE (xs ++ fu) = regE (fu ++ xs) := by
  by_cases hok : (xs ++ fu).all okB = true
  · have h2 : (fu ++ xs).all okB = true := by rw [List.all_append, Bool.and_comm, ← List.all_append]; exact hok
    have e : okF (xs ++ fu) = okF (fu ++ xs) := by
      unfold okF
      rw [hok, h2, regL_swap hok, List.length_append, List.length_append, Nat.add_comm]
    refine ⟨e, ?_⟩
    unfold regE
    rw [e, regL_swap hok]
  · have h2 : ¬ (fu ++ xs).all okB = true := by rw [List.all_append, Bool.and_comm, ← List.all_append]; exact hok
    have e1 : okF (xs ++ fu) = false := by unfold okF; simp [hok]
    have e2 : okF (fu ++ xs) = false := by unfold okF; simp [h2]
    exact ⟨by rw [e1, e2], by unfold regE; rw [e1, e2]; simp⟩
/-- the model's list gives the program's answer -/
theorem grn_yes {ps : List H3} {bx cy lo hi : Int} (h : gwC ps bx cy lo hi = true) (n : ps ≠ []) (z : ¬ (bx = 0 ∧ cy = 0)) (t : (ps.all (grB bx cy lo hi) && (gwD bx cy).all (tcT ps)) = true) :
    gwL ps bx cy lo hi = regE (ps.map (grM bx cy lo hi) ++ (gwD bx cy).map (tcU ps)) ∧ gwB ps bx cy lo hi = okF (ps.map (grM bx cy lo hi) ++ (gwD bx cy).map (tcU ps)) ∧ (ps.map (grM bx cy lo hi) ++ (gwD bx cy).map (tcU ps)).all okB = true := by
  rw [Bool.and_eq_true] at t
  obtain ⟨t1, t2⟩ := t
  rw [(gw_DU ps bx cy).2] at t2
  rw [(gw_DU ps bx cy).1]
  obtain ⟨y1, y2⟩ := gw_yes (lo := lo) (hi := hi) h n z t2
  obtain ⟨m1, m2⟩ := mv_yes (M := grM bx cy lo hi) (fu := gwU ps bx cy) n t1
  obtain ⟨s1, s2⟩ := okF_swap (gwU ps bx cy) (ps.map (grM bx cy lo hi))
  refine ⟨by rw [y1, m1, s2], by rw [y2, m2, s1], ?_⟩
  rw [List.all_append, map_ok (gr_ok bx cy lo hi) t1, Bool.true_and, List.all_eq_true]
  intro x hx
  unfold gwT at t2
  rw [Bool.and_eq_true] at t2
  unfold gwU at hx
  simp only [List.mem_cons, List.not_mem_nil, or_false] at hx
  rcases hx with rfl | rfl
  · exact red_ok t2.1
  · exact red_ok t2.2
theorem grn_no {ps : List H3} {bx cy lo hi : Int} (n : ps ≠ []) (z : ¬ (bx = 0 ∧ cy = 0)) (t : (ps.all (grB bx cy lo hi) && (gwD bx cy).all (tcT ps)) = false) : gwL ps bx cy lo hi = [] ∧ gwB ps bx cy lo hi = false := by
  rw [(gw_DU ps bx cy).2] at t
  cases t2 : gwT ps bx cy with
  | false => exact gw_tno n z t2
  | true =>
    rw [t2, Bool.and_true] at t
    have mb : mvB (grB bx cy lo hi) (grM bx cy lo hi) (gwU ps bx cy) ps = false := by unfold mvB; rw [t]; simp [n]
    cases h : gwC ps bx cy lo hi with
    | false => exact gw_no h
    | true =>
      obtain ⟨y1, y2⟩ := gw_yes (lo := lo) (hi := hi) h n z t2
      refine ⟨by rw [y1]; unfold mvL; rw [if_neg (by rw [mb]; simp)], by rw [y2, mb]⟩

end Go.Proofs.Ytfndkapjclhflaa
