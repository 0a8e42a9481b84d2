/- The laws' MakeRoom over the translation: what is known of a drawn room. The laws' MakeState over the translation: a drawn room and a state. A drawn room's noise and limits: what erosion leaves of the limits, and which states have an admitted input (no calls). -/
import Derived.Test.YtibkmhmeoelpdaaGreatAu
import Derived.Test.YtibkmhmeoelpdaaGreatCc
import Derived.Test.YtibkmhmeoelpdaaGreatHq
import Derived.Test.YtibkmhmeoelpdaaGreatKz
import Derived.Test.YtibkmhmeoelpdaaGreatKc
import Derived.Test.YtibkmhmeoelpdaaGreatBg
import Derived.Test.YtibkmhmeoelpdaaGreatEs
import Derived.Test.YtibkmhmeoelpdaaGreatFy
import Derived.Test.YtibkmhmeoelpdaaGreatUk
namespace Go.Proofs.YtibkmhmeoelpdaaGreat
open Go.RowKit
open Geo (H3)

theorem Src.lt {w : World} {g len cap : Nat} {a : Option Addr} (h : Src w g a len cap) : g < w.heap.size := by
  obtain ⟨⟨_, _, hq, _⟩, _⟩ := h
  exact lt_of_block hq
theorem is_blk {W : World} {g : Nat} {z0 z1 z2 z3 : Int} {t : TypeId} (h : Blk W g #[.int .i64 z0, .int .i64 z1, .int .i64 z2, .int .i64 z3] t) : IsAt W (some ⟨g, 0, none⟩) [z0, z1, z2, z3] := by
  intro i z hz
  refine ⟨g, 0, rfl, ?_⟩
  have hi : i < 4 := (List.getElem?_eq_some_iff.1 hz).1
  rcases (by omega : i = 0 ∨ i = 1 ∨ i = 2 ∨ i = 3) with rfl | rfl | rfl | rfl
  all_goals
    cases hz
    exact h.cell0 rfl
/-- what is known of a drawn room's map, noise and limits -/
def RoomG (zs : List Int) (ps qs : List H3) : Prop :=
  (∃ z0 z1 z2 z3 aa : Int, zs = [z0, z1, z2, z3] ∧ (1 ≤ z0 ∧ z0 ≤ 10) ∧ (0 ≤ z1 ∧ z1 ≤ 1) ∧ (-1 ≤ z2 ∧ z2 ≤ 0) ∧ (1 ≤ z3 ∧ z3 ≤ 9) ∧ (1 ≤ aa ∧ aa ≤ 2) ∧ ps = boxL (-aa) (-1) aa 1) ∧ (∀ e ∈ qs, ∀ x y : Int, -2 ≤ x ∧ x ≤ 2 → -1 ≤ y ∧ y ≤ 1 → Geo.val e x y 1 < 0) ∧ ∀ e ∈ qs, (-3 ≤ e.a ∧ e.a ≤ 3) ∧ (-3 ≤ e.b ∧ e.b ≤ 3) ∧ -1000 ≤ e.c ∧ e.c ≤ 1000
/-- what is known of a drawn room -/
def RoomF (zs : List Int) (q bx cy lo hi : Int) (ps qs : List H3) : Prop :=
  mapB zs q = true ∧ detI zs ≠ 0 ∧ (1 ≤ bx ∧ bx ≤ 3) ∧ (-1 ≤ cy ∧ cy ≤ 2) ∧ (-14 ≤ lo ∧ lo ≤ -3) ∧ (3 ≤ hi ∧ hi ≤ 14) ∧ (2 ≤ q ∧ q ≤ 10) ∧ rokB ps = true ∧ ps ≠ [] ∧ rokB qs = true ∧ qs ≠ [] ∧ qs.length ≤ 9 ∧ RoomG zs ps qs
theorem RoomF.rm {zs : List Int} {q bx cy lo hi lo' hi' : Int} {ps qs : List H3} (h : RoomF zs q bx cy lo hi ps qs) (h1 : -1000 ≤ lo' ∧ lo' ≤ lo) (h2 : hi ≤ hi' ∧ hi' ≤ 1000) : rmB zs q bx cy lo' hi' ps qs = true := by
  obtain ⟨m, d, b, c, l, hh, _, r1, n1, r2, n2, _⟩ := h
  unfold rmB rmM solB
  rw [m, r1, r2, decide_eq_false d, decide_eq_false n1, decide_eq_false n2, inB_of (by omega) (by omega), inB_of (by omega) (by omega), inB_of (by omega) (by omega), inB_of (by omega) (by omega)]
  rfl
theorem RoomF.r64 {zs : List Int} {q bx cy lo hi : Int} {ps qs : List H3} (h : RoomF zs q bx cy lo hi ps qs) : R64 q bx cy lo hi ps qs := by
  obtain ⟨_, _, b, c, l, hh, hq, r1, _, r2, _⟩ := h
  exact ⟨⟨by omega, by omega⟩, ⟨by omega, by omega⟩, ⟨by omega, by omega⟩, ⟨by omega, by omega⟩, ⟨by omega, by omega⟩, fun x hx => ok_in64 (rok_all r1 x hx), fun x hx => ok_in64 (rok_all r2 x hx)⟩
theorem box_rok {x y : Int} (hx : 1 ≤ x ∧ x ≤ 100) (hy : 1 ≤ y ∧ y ≤ 100) : bxB (-x) (-y) x y = true ∧ rokB (boxL (-x) (-y) x y) = true ∧ (∀ e ∈ boxL (-x) (-y) x y, Geo.val e 0 0 1 < 0) ∧ (boxL (-x) (-y) x y).all okB = true := by
  have bb : bxB (-x) (-y) x y = true := (bx_iff _ _ _ _).2 ⟨by omega, by omega, by omega, by omega, by omega, by omega⟩
  have e : regL (boxL (-x) (-y) x y) = boxL (-x) (-y) x y := by rw [← mod_reg (box_ok bb)]; exact box_mod bb
  refine ⟨bb, ?_, ?_, box_ok bb⟩
  · have := rok_regL (box_ok bb) (by rw [e]; show 4 ≤ 40; omega)
    rwa [e] at this
  · intro e he
    unfold boxL at he
    simp only [List.mem_cons, List.not_mem_nil, or_false] at he
    rcases he with rfl | rfl | rfl | rfl <;> unfold Geo.val <;> simp only <;> omega
theorem box_in {x y : Int} (hx : 4 ≤ x ∧ x ≤ 100) (hy : 4 ≤ y ∧ y ≤ 100) : (∀ e ∈ boxL (-x) (-y) x y, ∀ u v : Int, -2 ≤ u ∧ u ≤ 2 → -1 ≤ v ∧ v ≤ 1 → Geo.val e u v 1 < 0) ∧ ∀ e ∈ boxL (-x) (-y) x y, (-3 ≤ e.a ∧ e.a ≤ 3) ∧ (-3 ≤ e.b ∧ e.b ≤ 3) ∧ -1000 ≤ e.c ∧ e.c ≤ 1000 := by
  refine ⟨fun e he u v hu hv => ?_, fun e he => ?_⟩
  all_goals
    unfold boxL at he
    simp only [List.mem_cons, List.not_mem_nil, or_false] at he
  · rcases he with rfl | rfl | rfl | rfl <;> unfold Geo.val <;> simp only <;> omega
  · rcases he with rfl | rfl | rfl | rfl <;> simp only <;> omega
/-- the drawn limits with a corner cut off -/
theorem lim_cut {x y C : Int} (hx4 : 4 ≤ x ∧ x ≤ 100) (hy4 : 4 ≤ y ∧ y ≤ 100) (hC4 : 4 ≤ C ∧ C ≤ 1000) :
    ∃ A' B' C' : Int, ansH 1 1 C = spotS A' B' C' ∧ In64 ⟨A', B', C'⟩ ∧ cutB (boxL (-x) (-y) x y) ⟨A', B', C'⟩ = true ∧ rokB (cutA (boxL (-x) (-y) x y) ⟨A', B', C'⟩) = true ∧ cutA (boxL (-x) (-y) x y) ⟨A', B', C'⟩ ≠ [] ∧ (cutA (boxL (-x) (-y) x y) ⟨A', B', C'⟩).length ≤ 9 ∧ ((∀ e ∈ cutA (boxL (-x) (-y) x y) ⟨A', B', C'⟩, ∀ u v : Int, -2 ≤ u ∧ u ≤ 2 → -1 ≤ v ∧ v ≤ 1 → Geo.val e u v 1 < 0) ∧ ∀ e ∈ cutA (boxL (-x) (-y) x y) ⟨A', B', C'⟩, (-3 ≤ e.a ∧ e.a ≤ 3) ∧ (-3 ≤ e.b ∧ e.b ≤ 3) ∧ -1000 ≤ e.c ∧ e.c ≤ 1000) := by
  have hx : 1 ≤ x ∧ x ≤ 100 := by omega
  have hy : 1 ≤ y ∧ y ≤ 100 := by omega
  have hC : 1 ≤ C ∧ C ≤ 1000 := by omega
  obtain ⟨bb, r, st, ok⟩ := box_rok hx hy
  obtain ⟨A', B', C', g, hA, okh, hg, ea, eb, ec⟩ := has_half (a := 1) (b := 1) (c := C) (by omega) (by omega) (by omega) (by omega) (by omega) (by omega) (by omega)
  have hk : okB ⟨A', B', C'⟩ = true := okh
  have hb : cutB (boxL (-x) (-y) x y) ⟨A', B', C'⟩ = true := by unfold cutB; rw [r, hk]; rfl
  have n0 : boxL (-x) (-y) x y ≠ [] := by simp [boxL]
  have he : cutA (boxL (-x) (-y) x y) ⟨A', B', C'⟩ = regL (boxL (-x) (-y) x y ++ [⟨A', B', C'⟩]) := by unfold cutA; rw [if_pos ⟨hb, n0⟩]
  have okc : (boxL (-x) (-y) x y ++ [(⟨A', B', C'⟩ : H3)]).all okB = true := all_app (ks := [(⟨A', B', C'⟩ : H3)]) ok (by simp [hk])
  have ln := regL_len (boxL (-x) (-y) x y ++ [⟨A', B', C'⟩])
  have l5 : (boxL (-x) (-y) x y ++ [(⟨A', B', C'⟩ : H3)]).length = 5 := by simp [boxL]
  rw [l5] at ln
  have hC' : 0 < C' := by
    rcases Int.lt_or_le 0 C' with q | q
    · exact q
    · have := Int.mul_le_mul_of_nonneg_right q (show 0 ≤ g by omega)
      omega
  refine ⟨A', B', C', hA, ok_in64 hk, hb, ?_, ?_, ?_, ?_⟩
  · rw [he]; exact rok_regL okc (by omega)
  · rw [he]
    refine strict_some okc (x := 0) (y := 0) (by omega) (by omega) (fun g hg => ?_)
    rcases List.mem_append.1 hg with m | m
    · exact st g m
    · rw [List.mem_singleton.1 m]
      unfold Geo.val
      simp only
      omega
  · rw [he]; omega
  · rw [he]
    have key : ∀ e ∈ regL (boxL (-x) (-y) x y ++ [(⟨A', B', C'⟩ : H3)]), (∃ M : Int, (e = ⟨1, 0, 1000⟩ ∨ e = ⟨0, 1, 1000⟩ ∨ e = ⟨-1, 0, 1000⟩ ∨ e = ⟨0, -1, 1000⟩)) ∨ e ∈ boxL (-x) (-y) x y ∨ e = ⟨A', B', C'⟩ := by
      intro e hm
      rcases List.mem_append.1 (reg_sub okc e hm) with m | m
      · unfold Geo.frame at m
        simp only [List.mem_cons, List.not_mem_nil, or_false] at m
        exact .inl ⟨0, by rcases m with rfl | rfl | rfl | rfl <;> simp⟩
      · rcases List.mem_append.1 m with m | m
        · exact .inr (.inl m)
        · exact .inr (.inr (List.mem_singleton.1 m))
    have g1 : g = 1 := by
      have d : g ∣ 1 := ⟨A', by rw [ea, Int.mul_comm]⟩
      have := Int.le_of_dvd (by omega) d
      omega
    subst g1
    refine ⟨fun e hm u v hu hv => ?_, fun e hm => ?_⟩
    · rcases key e hm with ⟨_, m⟩ | m | rfl
      · rcases m with rfl | rfl | rfl | rfl <;> unfold Geo.val <;> simp only <;> omega
      · exact (box_in hx4 hy4).1 e m u v hu hv
      · unfold Geo.val
        simp only
        rw [show A' = 1 by omega, show B' = 1 by omega]
        omega
    · rcases key e hm with ⟨_, m⟩ | m | rfl
      · rcases m with rfl | rfl | rfl | rfl <;> simp only <;> omega
      · exact (box_in hx4 hy4).2 e m
      · simp only
        omega
theorem map_okr {q e f g : Int} (hq : 2 ≤ q ∧ q ≤ 10) (he : 0 ≤ e ∧ e ≤ 1) (hf : 0 ≤ f ∧ f ≤ 1) (hg : 0 ≤ g ∧ g ≤ 1) : mapB [q - 1 + e, f, -g, q - 1] q = true ∧ detI [q - 1 + e, f, -g, q - 1] ≠ 0 := by
  constructor
  · unfold mapB
    simp only [List.length_cons, List.length_nil, List.all_cons, List.all_nil, Bool.and_true, Bool.and_eq_true, decide_eq_true_eq]
    exact ⟨⟨trivial, inB_of (by omega) (by omega)⟩, inB_of (by omega) (by omega), inB_of (by omega) (by omega), inB_of (by omega) (by omega), inB_of (by omega) (by omega)⟩
  · show (q - 1 + e) * (q - 1) - f * -g ≠ 0
    have h1 : 1 * 1 ≤ (q - 1 + e) * (q - 1) := Int.mul_le_mul (by omega) (by omega) (by omega) (by omega)
    have h2 := Int.mul_nonneg hf.1 hg.1
    have h3 : f * -g = -(f * g) := Int.mul_neg _ _
    omega
theorem Blk.drawn {W X : World} {B g len cap : Nat} {a : Option Addr} {cs : Array Value} {t : TypeId} (h : Blk W B cs t) (hd : Drawn g a len cap W X) (n : B ≠ g) : Blk X B cs t := (hd.1.block B h.lt (fun e => n (by cases e; rfl))).trans h
theorem Blk.put' {W : World} {B C : Nat} {cs : Array Value} {t : TypeId} (h : Blk W B cs t) (n : C ≠ B) (i : Nat) (u : Value) : Blk (W.setCell ⟨C, i, none⟩ u) B cs t := blk_far h u n
theorem Src.put {w0 W : World} {g len cap b : Nat} {a : Option Addr} (h : Src W g a len cap) (hB : BytesAt w0 a len) (hb : Below w0.heap.size w0 W) (hw : w0.heap.size ≤ b) (n : b ≠ g) (i : Nat) (v : Value) : Src (W.setCell ⟨b, i, none⟩ v) g a len cap := by
  obtain ⟨⟨x, k, h1, h2⟩, hl, _, hn⟩ := h
  exact ⟨⟨x, k, by rw [Below.heap_setCell W ⟨b, i, none⟩ v g (fun e => n e.symm)]; exact h1, h2⟩, hl, hB.below (hb.setCell hw v), hn⟩
theorem heap_far {W : World} {g b : Nat} (n : b ≠ g) (i : Nat) (v : Value) : (W.setCell ⟨b, i, none⟩ v).heap[g]? = W.heap[g]? := Below.heap_setCell W ⟨b, i, none⟩ v g (fun e => n e.symm)
theorem Src.of_heap {w0 W X : World} {g len cap : Nat} {a : Option Addr} (h : Src W g a len cap) (hB : BytesAt w0 a len) (hb : Below w0.heap.size w0 X) (e : X.heap[g]? = W.heap[g]?) : Src X g a len cap := by
  obtain ⟨⟨x, k, h1, h2⟩, hl, _, hn⟩ := h
  exact ⟨⟨x, k, by rw [e]; exact h1, h2⟩, hl, hB.below hb, hn⟩
theorem bel_drawn {w0 W X : World} {g len cap : Nat} {a : Option Addr} (b : Below w0.heap.size w0 W) (hg : w0.heap.size ≤ g) (hd : Drawn g a len cap W X) : Below w0.heap.size w0 X := b.grown hd.1 b.size (fun p hp => by cases hp; exact hg)
theorem own_ne' {w : World} {B n s : Nat} {e : TypeId} {v : Value} {xs : List Value} (h : w.ownsRow B e s v n xs) {p : Addr} (hp : ∀ g, v.ownBlock = some g → g ≠ p.block) (u : Value) : (w.setCell p u).ownsRow B e s v n xs := by
  refine ⟨h.1, ?_⟩
  rcases h.2 with h2 | ⟨g, cap, cur, hv, hg, hh, r⟩
  · exact .inl h2
  · subst hv
    exact .inr ⟨g, cap, cur, rfl, hg, (Below.heap_setCell w p u g (hp g (by simp [Value.ownBlock]))).trans hh, r⟩
/-- a bool is drawn -/
def GaveB (g : Nat) (a : Option Addr) (len cap : Nat) (w : World) (e : Ending) (w' : World) : Prop := ∃ x : Bool, e = .returned (.bool x) ∧ Drawn g a len cap w w'
set_option maxHeartbeats 800000 in
theorem once_cur {w : World} {g len cap : Nat} {a : Option Addr} (n : Int) (h : Src w g a len cap) (h0 : 0 < n) (h1 : n ≤ 1000000000000) :
    Calls Tryz.prog 108 #[.pointer (some ⟨g, 0, none⟩), .int .i64 n] w (GaveB g a len cap w) := by
  have H := Lib.hid h
  clear h
  go_enter Tryz.func108, Tryz.ntmps108
  go_wp2_with fail
  refine (below_cur n H.out h0 h1).mono ?_
  rintro e w1 ⟨x, _, rfl, hd⟩
  go_wp2_with fail
  go_ret
  exact ⟨_, rfl, hd⟩
set_option maxHeartbeats 800000 in
theorem pick_room {w : World} {g len cap r : Nat} {a : Option Addr} (h : Src w g a len cap) (hr : Blk w r #[.int .i64 2, .int .i64 4, .int .i64 5, .int .i64 10] 3) (hg : r ≠ g) :
    Calls Tryz.prog 106 #[.pointer (some ⟨g, 0, none⟩), .slice (some ⟨r, 0, none⟩) 4 4] w (Gave 2 10 g a len cap w) := by
  have H := Lib.hid h
  have HR := Lib.hid hr
  have HG := Lib.hid hg
  clear h hr hg
  go_enter Tryz.func106, Tryz.ntmps106
  go_wp2_with fail
  refine (below_cur 4 H.out (by omega) (by omega)).mono ?_
  rintro e w1 ⟨x, ⟨hx0, hx1⟩, rfl, hd⟩
  have hh : Blk w1 r #[.int .i64 2, .int .i64 4, .int .i64 5, .int .i64 10] 3 := HR.out.drawn hd HG.out
  have c0 := hh.cell0 (i := 0) rfl
  have c1 := hh.cell0 (i := 1) rfl
  have c2 := hh.cell0 (i := 2) rfl
  have c3 := hh.cell0 (i := 3) rfl
  simp at c0 c1 c2 c3
  clear hh
  have HD := Lib.hid hd
  clear hd
  have hx : x = 0 ∨ x = 1 ∨ x = 2 ∨ x = 3 := by omega
  clear hx0 hx1
  rcases hx with rfl | rfl | rfl | rfl
  all_goals
    go_wp2_with fail
    go_ret
    exact ⟨_, ⟨by omega, by omega⟩, rfl, HD.out⟩
/-- a drawn room whose rows are new -/
def RoomV (w0 : World) (g : Nat) (a : Option Addr) (len cap : Nat) (e : Ending) (w' : World) : Prop := ∃ (z0 z1 z2 z3 q bx cy lo hi : Int) (ps qs : List H3) (mb : Nat) (an : Option Addr) (nn cn : Nat) (al : Option Addr) (nl cl : Nat), RoomF [z0, z1, z2, z3] q bx cy lo hi ps qs ∧ 4 + nn + nl ≤ 100 ∧ e = .returned (.agg #[.slice (some ⟨mb, 0, none⟩) 4 4, .int .i64 q, .int .i64 bx, .int .i64 cy, .int .i64 lo, .int .i64 hi, .slice an nn cn, .slice al nl cl]) ∧ (w0.heap.size ≤ mb ∧ g < mb) ∧ Blk w' mb #[.int .i64 z0, .int .i64 z1, .int .i64 z2, .int .i64 z3] 3 ∧ w'.ownsRow (g + 1) 104 3 (.slice an nn cn) nn (flat ps) ∧ w'.ownsRow (g + 1) 104 3 (.slice al nl cl) nl (flat qs) ∧ Below w0.heap.size w0 w' ∧ Src w' g a len cap
set_option maxRecDepth 100000 in
set_option maxHeartbeats 3200000 in
theorem draw_room (w0 w : World) {g len cap : Nat} {a : Option Addr} (hb : Below w0.heap.size w0 w) (hg : w0.heap.size ≤ g) (hB : BytesAt w0 a len) (h : Src w g a len cap) : Calls Tryz.prog 54 #[.pointer (some ⟨g, 0, none⟩)] w (RoomV w0 g a len cap) := by
  have hgs := h.lt
  have h0w := hb.size
  have HBY := Lib.hid hB
  have R0 := (blk_new w #[.slice none 0 0, .int .i64 0, .int .i64 0, .int .i64 0, .int .i64 0, .int .i64 0, .slice none 0 0, .slice none 0 0] 42 rfl).to (below_one _ (.cells #[.int .i64 2, .int .i64 4, .int .i64 5, .int .i64 10] 3))
  have H0 := Lib.hid ((h.alloc (.cells #[.slice none 0 0, .int .i64 0, .int .i64 0, .int .i64 0, .int .i64 0, .int .i64 0, .slice none 0 0, .slice none 0 0] 42)).alloc (.cells #[.int .i64 2, .int .i64 4, .int .i64 5, .int .i64 10] 3))
  have b0 := below_bx2 (below_bx2 hb (.cells #[.slice none 0 0, .int .i64 0, .int .i64 0, .int .i64 0, .int .i64 0, .int .i64 0, .slice none 0 0, .slice none 0 0] 42)) (.cells #[.int .i64 2, .int .i64 4, .int .i64 5, .int .i64 10] 3)
  have C0 := blk_new (w.alloc (.cells #[.slice none 0 0, .int .i64 0, .int .i64 0, .int .i64 0, .int .i64 0, .int .i64 0, .slice none 0 0, .slice none 0 0] 42)) #[.int .i64 2, .int .i64 4, .int .i64 5, .int .i64 10] 3 (b := w.heap.size + 1) (by simp)
  have zU : ((w.alloc (.cells #[.slice none 0 0, .int .i64 0, .int .i64 0, .int .i64 0, .int .i64 0, .int .i64 0, .slice none 0 0, .slice none 0 0] 42)).alloc (.cells #[.int .i64 2, .int .i64 4, .int .i64 5, .int .i64 10] 3)).heap.size = w.heap.size + 2 := by simp
  clear h hb hB
  go_enter Tryz.func54, Tryz.ntmps54
  go_wp2_with fail
  generalize (w.alloc (.cells #[.slice none 0 0, .int .i64 0, .int .i64 0, .int .i64 0, .int .i64 0, .int .i64 0, .slice none 0 0, .slice none 0 0] 42)).alloc (.cells #[.int .i64 2, .int .i64 4, .int .i64 5, .int .i64 10] 3) = U at *
  obtain ⟨rb, hrb⟩ : ∃ b, w.heap.size = b := ⟨_, rfl⟩
  rw [hrb] at R0 C0 zU hgs h0w ⊢
  clear hrb
  refine (pick_room H0.out C0 (by omega)).mono ?_
  rintro e w1 ⟨q, hq, rfl, hd⟩
  have z1 := hd.1.size
  clear C0
  have H_1 := Lib.hid (H0.out.drawn hd)
  have b_2 := bel_drawn b0 hg hd
  have R_3 := Blk.drawn R0 hd (by omega)
  clear H0 b0 R0
  clear hd
  go_wp2_with fail
  refine (below_cur 2 H_1.out (by omega) (by omega)).mono ?_
  rintro e w2 ⟨e0, he0, rfl, hd⟩
  have z2 := hd.1.size
  have H_4 := Lib.hid (H_1.out.drawn hd)
  have b_5 := bel_drawn b_2 hg hd
  have R_6 := Blk.drawn R_3 hd (by omega)
  clear H_1 b_2 R_3
  clear hd
  go_wp2_with fail
  refine (below_cur 2 H_4.out (by omega) (by omega)).mono ?_
  rintro e w3 ⟨f0, hf0, rfl, hd⟩
  have z3 := hd.1.size
  have H_7 := Lib.hid (H_4.out.drawn hd)
  have b_8 := bel_drawn b_5 hg hd
  have R_9 := Blk.drawn R_6 hd (by omega)
  clear H_4 b_5 R_6
  clear hd
  go_wp2_with fail
  refine (below_cur 2 H_7.out (by omega) (by omega)).mono ?_
  rintro e w4 ⟨gg0, hgg0, rfl, hd⟩
  have z4 := hd.1.size
  have H_10 := Lib.hid (H_7.out.drawn hd)
  have b_11 := bel_drawn b_8 hg hd
  have R_12 := Blk.drawn R_9 hd (by omega)
  clear H_7 b_8 R_9
  clear hd
  go_wp2_with fail
  have HMO := Lib.hid (map_okr hq he0 hf0 hgg0)
  have b0i : (1 ≤ q - 1 + e0 ∧ q - 1 + e0 ≤ 10) ∧ (-1 ≤ -gg0 ∧ -gg0 ≤ 0) ∧ 1 ≤ q - 1 ∧ q - 1 ≤ 9 := by omega
  generalize q - 1 + e0 = m0 at *
  generalize -gg0 = m2 at *
  generalize q - 1 = m3 at *
  have KM := blk_new w4 #[.int .i64 m0, .int .i64 f0, .int .i64 m2, .int .i64 m3] 3 rfl
  have zM : (w4.alloc (.cells #[.int .i64 m0, .int .i64 f0, .int .i64 m2, .int .i64 m3] 3)).heap.size = w4.heap.size + 1 := by simp
  have bN := below_one w4 (.cells #[.int .i64 m0, .int .i64 f0, .int .i64 m2, .int .i64 m3] 3)
  have zz := bN.size
  have H_13 := Lib.hid (H_10.out.drawn (drawn_below H_10.out.1 bN))
  have b_14 := below_to b_11 bN
  have R_15 := R_12.to bN
  clear H_10 b_11 R_12
  clear bN zz
  generalize w4.alloc (.cells #[.int .i64 m0, .int .i64 f0, .int .i64 m2, .int .i64 m3] 3) = V at *
  obtain ⟨mb, hmb⟩ : ∃ b, w4.heap.size = b := ⟨_, rfl⟩
  rw [hmb] at KM zM z4 ⊢
  clear hmb
  have gmb : g < mb := by omega
  refine (below_cur 3 H_13.out (by omega) (by omega)).mono ?_
  rintro e w5 ⟨bx0, hbx0, rfl, hd⟩
  have z5 := hd.1.size
  have H_16 := Lib.hid (H_13.out.drawn hd)
  have b_17 := bel_drawn b_14 hg hd
  have R_18 := Blk.drawn R_15 hd (by omega)
  have M_19 := Blk.drawn KM hd (by omega)
  clear H_13 b_14 R_15 KM
  clear hd
  go_wp2_with fail
  refine (below_cur 4 H_16.out (by omega) (by omega)).mono ?_
  rintro e w6 ⟨cy0, hcy0, rfl, hd⟩
  have z6 := hd.1.size
  have H_20 := Lib.hid (H_16.out.drawn hd)
  have b_21 := bel_drawn b_17 hg hd
  have R_22 := Blk.drawn R_18 hd (by omega)
  have M_23 := Blk.drawn M_19 hd (by omega)
  clear H_16 b_17 R_18 M_19
  clear hd
  have bxi : 1 ≤ 1 + bx0 ∧ 1 + bx0 ≤ 3 := by omega
  have cyi : -1 ≤ cy0 - 1 ∧ cy0 - 1 ≤ 2 := by omega
  go_wp2_with fail
  generalize 1 + bx0 = bx at *
  generalize cy0 - 1 = cy at *
  clear hbx0 hcy0
  have KX := blk_new w6 #[.slice (some ⟨mb, 0, none⟩) 4 4, .int .i64 q, .int .i64 bx, .int .i64 cy, .int .i64 0, .int .i64 0, .slice none 0 0, .slice none 0 0] 42 rfl
  have zX : (w6.alloc (.cells #[.slice (some ⟨mb, 0, none⟩) 4 4, .int .i64 q, .int .i64 bx, .int .i64 cy, .int .i64 0, .int .i64 0, .slice none 0 0, .slice none 0 0] 42)).heap.size = w6.heap.size + 1 := by simp
  have bN := below_one w6 (.cells #[.slice (some ⟨mb, 0, none⟩) 4 4, .int .i64 q, .int .i64 bx, .int .i64 cy, .int .i64 0, .int .i64 0, .slice none 0 0, .slice none 0 0] 42)
  have zz := bN.size
  have H_24 := Lib.hid (H_20.out.drawn (drawn_below H_20.out.1 bN))
  have b_25 := below_to b_21 bN
  have R_26 := R_22.to bN
  have M_27 := M_23.to bN
  clear H_20 b_21 R_22 M_23
  clear bN zz
  generalize w6.alloc (.cells #[.slice (some ⟨mb, 0, none⟩) 4 4, .int .i64 q, .int .i64 bx, .int .i64 cy, .int .i64 0, .int .i64 0, .slice none 0 0, .slice none 0 0] 42) = X at *
  obtain ⟨xb, hxb⟩ : ∃ b, w6.heap.size = b := ⟨_, rfl⟩
  rw [hxb] at KX zX z6 ⊢
  clear hxb
  have gxb : g < xb := by omega
  have rxb : rb < xb := by omega
  have mxb : mb < xb := by omega
  refine (below_cur 12 H_24.out (by omega) (by omega)).mono ?_
  rintro e w7 ⟨lo0, hlo0, rfl, hd⟩
  have z7 := hd.1.size
  have H_28 := Lib.hid (H_24.out.drawn hd)
  have b_29 := bel_drawn b_25 hg hd
  have R_30 := Blk.drawn R_26 hd (by omega)
  have M_31 := Blk.drawn M_27 hd (by omega)
  have X_32 := Blk.drawn KX hd (by omega)
  clear H_24 b_25 R_26 M_27 KX
  clear hd
  have loi : -14 ≤ -lo0 - 3 ∧ -lo0 - 3 ≤ -3 := by omega
  have lov : IntKind.i64.wrap (-lo0) = -lo0 := IntWalk.i64_in _ (by omega)
  have fx := X_32.free 4
  have cx := X_32.c8_4
  go_wp2_with fail
  clear fx cx
  have H_33 := Lib.hid (Src.put (b := xb) H_28.out HBY.out b_29 (by omega) (by omega) 4 (.int .i64 (-lo0 - 3)))
  have b_34 := b_29.setCell (p := ⟨xb, 4, none⟩) (by simp only; omega) (.int .i64 (-lo0 - 3))
  have R_35 := Blk.put' (C := xb) R_30 (by omega) 4 (.int .i64 (-lo0 - 3))
  have M_36 := Blk.put' (C := xb) M_31 (by omega) 4 (.int .i64 (-lo0 - 3))
  have X_37 := X_32.s8_4 (.int .i64 (-lo0 - 3))
  clear H_28 b_29 R_30 M_31 X_32
  clear lov
  have szl : (w7.setCell ⟨xb, 4, none⟩ (.int .i64 (-lo0 - 3))).heap.size = w7.heap.size := by simp
  generalize w7.setCell ⟨xb, 4, none⟩ (.int .i64 (-lo0 - 3)) = Y1 at *
  generalize -lo0 - 3 = lo at *
  clear hlo0
  refine (below_cur 12 H_33.out (by omega) (by omega)).mono ?_
  rintro e w8 ⟨hi0, hhi0, rfl, hd⟩
  have z8 := hd.1.size
  have H_38 := Lib.hid (H_33.out.drawn hd)
  have b_39 := bel_drawn b_34 hg hd
  have R_40 := Blk.drawn R_35 hd (by omega)
  have M_41 := Blk.drawn M_36 hd (by omega)
  have X_42 := Blk.drawn X_37 hd (by omega)
  clear H_33 b_34 R_35 M_36 X_37
  clear hd
  have hii : 3 ≤ 3 + hi0 ∧ 3 + hi0 ≤ 14 := by omega
  have fx := X_42.free 5
  have cx := X_42.c8_5
  go_wp2_with fail
  clear fx cx
  have H_43 := Lib.hid (Src.put (b := xb) H_38.out HBY.out b_39 (by omega) (by omega) 5 (.int .i64 (3 + hi0)))
  have b_44 := b_39.setCell (p := ⟨xb, 5, none⟩) (by simp only; omega) (.int .i64 (3 + hi0))
  have R_45 := Blk.put' (C := xb) R_40 (by omega) 5 (.int .i64 (3 + hi0))
  have M_46 := Blk.put' (C := xb) M_41 (by omega) 5 (.int .i64 (3 + hi0))
  have X_47 := X_42.s8_5 (.int .i64 (3 + hi0))
  clear H_38 b_39 R_40 M_41 X_42
  have szh : (w8.setCell ⟨xb, 5, none⟩ (.int .i64 (3 + hi0))).heap.size = w8.heap.size := by simp
  generalize w8.setCell ⟨xb, 5, none⟩ (.int .i64 (3 + hi0)) = Y2 at *
  generalize 3 + hi0 = hi at *
  clear hhi0
  refine (below_cur 2 H_43.out (by omega) (by omega)).mono ?_
  rintro e w9 ⟨a0, ha0, rfl, hd⟩
  have z9 := hd.1.size
  have H_48 := Lib.hid (H_43.out.drawn hd)
  have b_49 := bel_drawn b_44 hg hd
  have R_50 := Blk.drawn R_45 hd (by omega)
  have M_51 := Blk.drawn M_46 hd (by omega)
  have X_52 := Blk.drawn X_47 hd (by omega)
  clear H_43 b_44 R_45 M_46 X_47
  clear hd
  have aai : 1 ≤ 1 + a0 ∧ 1 + a0 ≤ 2 := by omega
  go_wp2_with fail
  generalize 1 + a0 = aa at *
  clear ha0
  obtain ⟨hbxN, hrkN, hstN, _⟩ := box_rok (x := aa) (y := 1) (by omega) (by omega)
  have HBXN := Lib.hid hrkN
  clear hstN
  have HCN := Lib.hid (fun V => spec_box (-aa) (-1) aa 1 V)
  rw [hbxN, show bxL (-aa) (-1) aa 1 = boxL (-aa) (-1) aa 1 from if_pos hbxN] at HCN
  clear hbxN hrkN
  refine (HCN.out _).mono ?_
  rintro e v1 ⟨an, cn, rfl, ho, bl⟩
  clear HCN
  have zb := bl.size
  have H_53 := Lib.hid (H_48.out.drawn (drawn_below H_48.out.1 bl))
  have b_54 := below_to b_49 bl
  have R_55 := R_50.to bl
  have M_56 := M_51.to bl
  have X_57 := X_52.to bl
  clear H_48 b_49 R_50 M_51 X_52
  have xN := Lib.hid (fun p (h : (Value.slice an (boxL (-aa) (-1) aa 1).length cn).ownBlock = some p) => (show p ≠ g by have := own_block_lt ho h; omega))
  have yN := Lib.hid (fun p (h : (Value.slice an (boxL (-aa) (-1) aa 1).length cn).ownBlock = some p) => (show p ≠ xb by have := own_block_lt ho h; omega))
  have N0 := Lib.hid ho
  clear ho bl
  have fx := X_57.free 6
  have cx := X_57.c8_6
  go_wp2_with fail
  clear fx cx
  have H_58 := Lib.hid (Src.put (b := xb) H_53.out HBY.out b_54 (by omega) (by omega) 6 (.slice an (boxL (-aa) (-1) aa 1).length cn))
  have b_59 := b_54.setCell (p := ⟨xb, 6, none⟩) (by simp only; omega) (.slice an (boxL (-aa) (-1) aa 1).length cn)
  have R_60 := Blk.put' (C := xb) R_55 (by omega) 6 (.slice an (boxL (-aa) (-1) aa 1).length cn)
  have M_61 := Blk.put' (C := xb) M_56 (by omega) 6 (.slice an (boxL (-aa) (-1) aa 1).length cn)
  have X_62 := X_57.s8_6 (.slice an (boxL (-aa) (-1) aa 1).length cn)
  have N_63 := Lib.hid (own_ne' (p := ⟨xb, 6, none⟩) N0.out (fun p hp e => yN.out p hp e) (.slice an (boxL (-aa) (-1) aa 1).length cn))
  clear H_53 b_54 R_55 M_56 X_57 N0
  have szN : (v1.setCell ⟨xb, 6, none⟩ (.slice an (boxL (-aa) (-1) aa 1).length cn)).heap.size = v1.heap.size := by simp
  generalize v1.setCell ⟨xb, 6, none⟩ (.slice an (boxL (-aa) (-1) aa 1).length cn) = ZN at *
  refine (below_cur 30 H_58.out (by omega) (by omega)).mono ?_
  rintro e w10 ⟨x0, hx0, rfl, hd⟩
  have z10 := hd.1.size
  have H_64 := Lib.hid (H_58.out.drawn hd)
  have b_65 := bel_drawn b_59 hg hd
  have R_66 := Blk.drawn R_60 hd (by omega)
  have M_67 := Blk.drawn M_61 hd (by omega)
  have X_68 := Blk.drawn X_62 hd (by omega)
  have N_69 := Lib.hid (own_grow N_63.out hd.1 (fun p hp e => xN.out p hp (Option.some.inj e)))
  clear H_58 b_59 R_60 M_61 X_62 N_63
  clear hd
  have xi : 15 ≤ 15 + x0 ∧ 15 + x0 ≤ 44 := by omega
  go_wp2_with fail
  generalize 15 + x0 = x at *
  clear hx0
  refine (below_cur 30 H_64.out (by omega) (by omega)).mono ?_
  rintro e w11 ⟨y0, hy0, rfl, hd⟩
  have z11 := hd.1.size
  have H_70 := Lib.hid (H_64.out.drawn hd)
  have b_71 := bel_drawn b_65 hg hd
  have R_72 := Blk.drawn R_66 hd (by omega)
  have M_73 := Blk.drawn M_67 hd (by omega)
  have X_74 := Blk.drawn X_68 hd (by omega)
  have N_75 := Lib.hid (own_grow N_69.out hd.1 (fun p hp e => xN.out p hp (Option.some.inj e)))
  clear H_64 b_65 R_66 M_67 X_68 N_69
  clear hd
  have yi : 15 ≤ 15 + y0 ∧ 15 + y0 ≤ 44 := by omega
  go_wp2_with fail
  generalize 15 + y0 = y at *
  clear hy0
  obtain ⟨hbxL, hrkL, hstL, _⟩ := box_rok (x := x) (y := y) (by omega) (by omega)
  have HBXL := Lib.hid hrkL
  clear hstL
  have HCL := Lib.hid (fun V => spec_box (-x) (-y) x y V)
  rw [hbxL, show bxL (-x) (-y) x y = boxL (-x) (-y) x y from if_pos hbxL] at HCL
  clear hbxL hrkL
  refine (HCL.out _).mono ?_
  rintro e v2 ⟨al, cl, rfl, ho, bl⟩
  clear HCL
  have zb := bl.size
  have H_76 := Lib.hid (H_70.out.drawn (drawn_below H_70.out.1 bl))
  have b_77 := below_to b_71 bl
  have R_78 := R_72.to bl
  have M_79 := M_73.to bl
  have X_80 := X_74.to bl
  have N_81 := Lib.hid (own_below N_75.out bl)
  clear H_70 b_71 R_72 M_73 X_74 N_75
  have xL := Lib.hid (fun p (h : (Value.slice al (boxL (-x) (-y) x y).length cl).ownBlock = some p) => (show p ≠ g by have := own_block_lt ho h; omega))
  have yL := Lib.hid (fun p (h : (Value.slice al (boxL (-x) (-y) x y).length cl).ownBlock = some p) => (show p ≠ xb by have := own_block_lt ho h; omega))
  have L0 := Lib.hid ho
  clear ho bl
  have fx := X_80.free 7
  have cx := X_80.c8_7
  go_wp2_with fail
  clear fx cx
  have H_82 := Lib.hid (Src.put (b := xb) H_76.out HBY.out b_77 (by omega) (by omega) 7 (.slice al (boxL (-x) (-y) x y).length cl))
  have b_83 := b_77.setCell (p := ⟨xb, 7, none⟩) (by simp only; omega) (.slice al (boxL (-x) (-y) x y).length cl)
  have R_84 := Blk.put' (C := xb) R_78 (by omega) 7 (.slice al (boxL (-x) (-y) x y).length cl)
  have M_85 := Blk.put' (C := xb) M_79 (by omega) 7 (.slice al (boxL (-x) (-y) x y).length cl)
  have X_86 := X_80.s8_7 (.slice al (boxL (-x) (-y) x y).length cl)
  have N_87 := Lib.hid (own_ne' (p := ⟨xb, 7, none⟩) N_81.out (fun p hp e => yN.out p hp e) (.slice al (boxL (-x) (-y) x y).length cl))
  have L_88 := Lib.hid (own_ne' (p := ⟨xb, 7, none⟩) L0.out (fun p hp e => yL.out p hp e) (.slice al (boxL (-x) (-y) x y).length cl))
  clear H_76 b_77 R_78 M_79 X_80 N_81 L0
  have szL : (v2.setCell ⟨xb, 7, none⟩ (.slice al (boxL (-x) (-y) x y).length cl)).heap.size = v2.heap.size := by simp
  generalize v2.setCell ⟨xb, 7, none⟩ (.slice al (boxL (-x) (-y) x y).length cl) = ZL at *
  refine (once_cur 3 H_82.out (by omega) (by omega)).mono ?_
  rintro e w12 ⟨bo, rfl, hd⟩
  have zo := hd.1.size
  have H_89 := Lib.hid (H_82.out.drawn hd)
  have b_90 := bel_drawn b_83 hg hd
  have R_91 := Blk.drawn R_84 hd (by omega)
  have M_92 := Blk.drawn M_85 hd (by omega)
  have X_93 := Blk.drawn X_86 hd (by omega)
  have N_94 := Lib.hid (own_grow N_87.out hd.1 (fun p hp e => xN.out p hp (Option.some.inj e)))
  have L_95 := Lib.hid (own_grow L_88.out hd.1 (fun p hp e => xL.out p hp (Option.some.inj e)))
  clear H_82 b_83 R_84 M_85 X_86 N_87 L_88
  clear hd
  cases bo with
  | false =>
    have cc0 := X_93.c8_0
    have cc1 := X_93.c8_1
    have cc2 := X_93.c8_2
    have cc3 := X_93.c8_3
    have cc4 := X_93.c8_4
    have cc5 := X_93.c8_5
    have cc6 := X_93.c8_6
    have cc7 := X_93.c8_7
    have qq0 := R_91.c8_0
    have ff0 := R_91.free 0
    have qq1 := R_91.c8_1
    have ff1 := R_91.free 1
    have qq2 := R_91.c8_2
    have ff2 := R_91.free 2
    have qq3 := R_91.c8_3
    have ff3 := R_91.free 3
    have qq4 := R_91.c8_4
    have ff4 := R_91.free 4
    have qq5 := R_91.c8_5
    have ff5 := R_91.free 5
    have qq6 := R_91.c8_6
    have ff6 := R_91.free 6
    have qq7 := R_91.c8_7
    have ff7 := R_91.free 7
    have HF : RoomF [m0, f0, m2, m3] q bx cy lo hi (boxL (-aa) (-1) aa 1) (boxL (-x) (-y) x y) := ⟨HMO.out.1, HMO.out.2, bxi, cyi, loi, hii, hq, HBXN.out, by simp [boxL], HBXL.out, by simp [boxL], by simp [boxL], ⟨⟨m0, f0, m2, m3, aa, rfl, b0i.1, hf0, b0i.2.1, b0i.2.2, aai, rfl⟩, box_in (by omega) (by omega)⟩⟩
    have hlen : 4 + (boxL (-aa) (-1) aa 1).length + (boxL (-x) (-y) x y).length ≤ 100 := by have h9 := HF.2.2.2.2.2.2.2.2.2.2.2.1; have h4 : (boxL (-aa) (-1) aa 1).length = 4 := rfl; omega
    have HBF := Lib.hid ((((((((b_90.setCell (p := ⟨rb, 0, none⟩) (by simp only; omega) (.slice (some ⟨mb, 0, none⟩) 4 4)).setCell (p := ⟨rb, 1, none⟩) (by simp only; omega) (.int .i64 q)).setCell (p := ⟨rb, 2, none⟩) (by simp only; omega) (.int .i64 bx)).setCell (p := ⟨rb, 3, none⟩) (by simp only; omega) (.int .i64 cy)).setCell (p := ⟨rb, 4, none⟩) (by simp only; omega) (.int .i64 lo)).setCell (p := ⟨rb, 5, none⟩) (by simp only; omega) (.int .i64 hi)).setCell (p := ⟨rb, 6, none⟩) (by simp only; omega) (.slice an (boxL (-aa) (-1) aa 1).length cn)).setCell (p := ⟨rb, 7, none⟩) (by simp only; omega) (.slice al (boxL (-x) (-y) x y).length cl))
    have HSF := Lib.hid (Src.of_heap H_89.out HBY.out HBF.out (by rw [heap_far (by omega), heap_far (by omega), heap_far (by omega), heap_far (by omega), heap_far (by omega), heap_far (by omega), heap_far (by omega), heap_far (by omega)]))
    have HMM := Lib.hid (Blk.put' (Blk.put' (Blk.put' (Blk.put' (Blk.put' (Blk.put' (Blk.put' (Blk.put' M_92 (C := rb) (by omega) 0 (.slice (some ⟨mb, 0, none⟩) 4 4)) (C := rb) (by omega) 1 (.int .i64 q)) (C := rb) (by omega) 2 (.int .i64 bx)) (C := rb) (by omega) 3 (.int .i64 cy)) (C := rb) (by omega) 4 (.int .i64 lo)) (C := rb) (by omega) 5 (.int .i64 hi)) (C := rb) (by omega) 6 (.slice an (boxL (-aa) (-1) aa 1).length cn)) (C := rb) (by omega) 7 (.slice al (boxL (-x) (-y) x y).length cl))
    have HNO := Lib.hid (own_base (B' := g + 1) (own_far (p := ⟨rb, 7, none⟩) (own_far (p := ⟨rb, 6, none⟩) (own_far (p := ⟨rb, 5, none⟩) (own_far (p := ⟨rb, 4, none⟩) (own_far (p := ⟨rb, 3, none⟩) (own_far (p := ⟨rb, 2, none⟩) (own_far (p := ⟨rb, 1, none⟩) (own_far (p := ⟨rb, 0, none⟩) N_94.out (by simp only; omega) (.slice (some ⟨mb, 0, none⟩) 4 4)) (by simp only; omega) (.int .i64 q)) (by simp only; omega) (.int .i64 bx)) (by simp only; omega) (.int .i64 cy)) (by simp only; omega) (.int .i64 lo)) (by simp only; omega) (.int .i64 hi)) (by simp only; omega) (.slice an (boxL (-aa) (-1) aa 1).length cn)) (by simp only; omega) (.slice al (boxL (-x) (-y) x y).length cl)) (by omega))
    have HLO := Lib.hid (own_base (B' := g + 1) (own_far (p := ⟨rb, 7, none⟩) (own_far (p := ⟨rb, 6, none⟩) (own_far (p := ⟨rb, 5, none⟩) (own_far (p := ⟨rb, 4, none⟩) (own_far (p := ⟨rb, 3, none⟩) (own_far (p := ⟨rb, 2, none⟩) (own_far (p := ⟨rb, 1, none⟩) (own_far (p := ⟨rb, 0, none⟩) L_95.out (by simp only; omega) (.slice (some ⟨mb, 0, none⟩) 4 4)) (by simp only; omega) (.int .i64 q)) (by simp only; omega) (.int .i64 bx)) (by simp only; omega) (.int .i64 cy)) (by simp only; omega) (.int .i64 lo)) (by simp only; omega) (.int .i64 hi)) (by simp only; omega) (.slice an (boxL (-aa) (-1) aa 1).length cn)) (by simp only; omega) (.slice al (boxL (-x) (-y) x y).length cl)) (by omega))
    go_wp2_with fail
    exact bodyPost_ret (v := .agg #[.slice (some ⟨mb, 0, none⟩) 4 4, .int .i64 q, .int .i64 bx, .int .i64 cy, .int .i64 lo, .int .i64 hi, .slice an (boxL (-aa) (-1) aa 1).length cn, .slice al (boxL (-x) (-y) x y).length cl]) (by simp [results, Tryz.results54, go_sem, qq0, qq1, qq2, qq3, qq4, qq5, qq6, qq7]) rfl ⟨_, _, _, _, q, bx, cy, lo, hi, _, _, mb, _, _, _, _, _, _, HF, hlen, rfl, ⟨by omega, by omega⟩, HMM.out, HNO.out, HLO.out, HBF.out, HSF.out⟩
  | true =>
    obtain ⟨A', B', C', hA', h64', hcb, hrk, hne, hln, hin⟩ := lim_cut (x := x) (y := y) (C := x + y / 2) (by omega) (by omega) (by omega)
    have HHO := Lib.hid (fun V => spec_hof 1 1 (x + y / 2) V (by omega) (by omega) (by omega) (by omega) (by omega) (by omega))
    rw [hA'] at HHO
    have HCU := Lib.hid (fun V a1 c1 (k0 : a1 = none → (boxL (-x) (-y) x y).length = 0 ∧ c1 = 0) (k : HsAt V a1 (boxL (-x) (-y) x y)) => spec_cut a1 (boxL (-x) (-y) x y).length c1 (boxL (-x) (-y) x y) A' B' C' V rfl (by simp [boxL]) (fun z hz => ok_in64 (rok_all HBXL.out z hz)) h64' k0 k)
    rw [hcb] at HCU
    have HRK := Lib.hid hrk
    have HNE := Lib.hid hne
    have HLN := Lib.hid hln
    have HIN := Lib.hid hin
    clear hA' h64' hcb hrk hne hln hin
    unfold spotS at HHO
    go_wp2_with fail
    refine (HHO.out _).mono ?_
    rintro e u1 ⟨rfl, bl⟩
    have H_296 := Lib.hid (H_89.out.drawn (drawn_below H_89.out.1 bl))
    have b_297 := below_to b_90 bl
    have R_298 := R_91.to bl
    have M_299 := M_92.to bl
    have X_300 := X_93.to bl
    have N_301 := Lib.hid (own_below N_94.out bl)
    have L_302 := Lib.hid (own_below L_95.out bl)
    clear H_89 b_90 R_91 M_92 X_93 N_94 L_95
    clear bl HHO
    have KH := blk_new u1 #[.int .i64 A', .int .i64 B', .int .i64 C'] 104 rfl
    have bN := below_one u1 (.cells #[.int .i64 A', .int .i64 B', .int .i64 C'] 104)
    have zz := bN.size
    have H_303 := Lib.hid (H_296.out.drawn (drawn_below H_296.out.1 bN))
    have b_304 := below_to b_297 bN
    have R_305 := R_298.to bN
    have M_306 := M_299.to bN
    have X_307 := X_300.to bN
    have N_308 := Lib.hid (own_below N_301.out bN)
    have L_309 := Lib.hid (own_below L_302.out bN)
    clear H_296 b_297 R_298 M_299 X_300 N_301 L_302
    clear bN zz
    have h0 := KH.cell0 (i := 0) rfl
    have h1 := KH.cell0 (i := 1) rfl
    have h2 := KH.cell0 (i := 2) rfl
    have c7 := X_307.c8_7
    go_wp2_with fail
    clear c7 h0 h1 h2 KH
    generalize u1.alloc (.cells #[.int .i64 A', .int .i64 B', .int .i64 C'] 104) = U1 at *
    have gx1 := X_307.lt
    refine (HCU.out U1 _ _ (own_nil L_309.out) (own_hs L_309.out)).mono ?_
    rintro e u2 ⟨ak, ck, rfl, ho, bl⟩
    clear HCU
    have zu := bl.size
    generalize cutA (boxL (-x) (-y) x y) ⟨A', B', C'⟩ = K at *
    have H_310 := Lib.hid (H_303.out.drawn (drawn_below H_303.out.1 bl))
    have b_311 := below_to b_304 bl
    have R_312 := R_305.to bl
    have M_313 := M_306.to bl
    have X_314 := X_307.to bl
    have N_315 := Lib.hid (own_below N_308.out bl)
    have L_316 := Lib.hid (own_below L_309.out bl)
    clear H_303 b_304 R_305 M_306 X_307 N_308 L_309
    clear bl
    have KK := blk_new u2 #[.slice ak K.length ck] 40 rfl
    have OK0 := Lib.hid (own_below ho (below_one u2 (.cells #[.slice ak K.length ck] 40)))
    have bK := Lib.hid (fun p (h : (Value.slice ak K.length ck).ownBlock = some p) => (own_block_lt ho h).1)
    clear ho
    have bN := below_one u2 (.cells #[.slice ak K.length ck] 40)
    have zz := bN.size
    have H_317 := Lib.hid (H_310.out.drawn (drawn_below H_310.out.1 bN))
    have b_318 := below_to b_311 bN
    have R_319 := R_312.to bN
    have M_320 := M_313.to bN
    have X_321 := X_314.to bN
    have N_322 := Lib.hid (own_below N_315.out bN)
    have L_323 := Lib.hid (own_below L_316.out bN)
    clear H_310 b_311 R_312 M_313 X_314 N_315 L_316
    clear bN zz
    have gx := X_321.lt
    go_upto_region 13 with fail
    generalize u2.alloc (.cells #[.slice ak K.length ck] 40) = U2 at *
    have k0 := KK.cell0 (i := 0) rfl
    have fx := X_321.free 7
    have cx := X_321.c8_7
    have yK := Lib.hid (fun p (h : (Value.slice ak K.length ck).ownBlock = some p) => (show p ≠ xb by have := bK.out p h; omega))
    have H_324 := Lib.hid (Src.put (b := xb) H_317.out HBY.out b_318 (by omega) (by omega) 7 (.slice ak K.length ck))
    have b_325 := b_318.setCell (p := ⟨xb, 7, none⟩) (by simp only; omega) (.slice ak K.length ck)
    have R_326 := Blk.put' (C := xb) R_319 (by omega) 7 (.slice ak K.length ck)
    have M_327 := Blk.put' (C := xb) M_320 (by omega) 7 (.slice ak K.length ck)
    have X_328 := X_321.s8_7 (.slice ak K.length ck)
    have N_329 := Lib.hid (own_ne' (p := ⟨xb, 7, none⟩) N_322.out (fun p hp e => yN.out p hp e) (.slice ak K.length ck))
    have L_330 := Lib.hid (own_ne' (p := ⟨xb, 7, none⟩) L_323.out (fun p hp e => yL.out p hp e) (.slice ak K.length ck))
    have K_331 := Lib.hid (own_ne' (p := ⟨xb, 7, none⟩) OK0.out (fun p hp e => yK.out p hp e) (.slice ak K.length ck))
    clear H_317 b_318 R_319 M_320 X_321 N_322 L_323 OK0
    have cc0 := X_328.c8_0
    have cc1 := X_328.c8_1
    have cc2 := X_328.c8_2
    have cc3 := X_328.c8_3
    have cc4 := X_328.c8_4
    have cc5 := X_328.c8_5
    have cc6 := X_328.c8_6
    have cc7 := X_328.c8_7
    have qq0 := R_326.c8_0
    have ff0 := R_326.free 0
    have qq1 := R_326.c8_1
    have ff1 := R_326.free 1
    have qq2 := R_326.c8_2
    have ff2 := R_326.free 2
    have qq3 := R_326.c8_3
    have ff3 := R_326.free 3
    have qq4 := R_326.c8_4
    have ff4 := R_326.free 4
    have qq5 := R_326.c8_5
    have ff5 := R_326.free 5
    have qq6 := R_326.c8_6
    have ff6 := R_326.free 6
    have qq7 := R_326.c8_7
    have ff7 := R_326.free 7
    have HF : RoomF [m0, f0, m2, m3] q bx cy lo hi (boxL (-aa) (-1) aa 1) K := ⟨HMO.out.1, HMO.out.2, bxi, cyi, loi, hii, hq, HBXN.out, by simp [boxL], HRK.out, HNE.out, HLN.out, ⟨⟨m0, f0, m2, m3, aa, rfl, b0i.1, hf0, b0i.2.1, b0i.2.2, aai, rfl⟩, HIN.out⟩⟩
    have hlen : 4 + (boxL (-aa) (-1) aa 1).length + K.length ≤ 100 := by have h9 := HF.2.2.2.2.2.2.2.2.2.2.2.1; have h4 : (boxL (-aa) (-1) aa 1).length = 4 := rfl; omega
    have HBF := Lib.hid ((((((((b_325.setCell (p := ⟨rb, 0, none⟩) (by simp only; omega) (.slice (some ⟨mb, 0, none⟩) 4 4)).setCell (p := ⟨rb, 1, none⟩) (by simp only; omega) (.int .i64 q)).setCell (p := ⟨rb, 2, none⟩) (by simp only; omega) (.int .i64 bx)).setCell (p := ⟨rb, 3, none⟩) (by simp only; omega) (.int .i64 cy)).setCell (p := ⟨rb, 4, none⟩) (by simp only; omega) (.int .i64 lo)).setCell (p := ⟨rb, 5, none⟩) (by simp only; omega) (.int .i64 hi)).setCell (p := ⟨rb, 6, none⟩) (by simp only; omega) (.slice an (boxL (-aa) (-1) aa 1).length cn)).setCell (p := ⟨rb, 7, none⟩) (by simp only; omega) (.slice ak K.length ck))
    have HSF := Lib.hid (Src.of_heap H_324.out HBY.out HBF.out (by rw [heap_far (by omega), heap_far (by omega), heap_far (by omega), heap_far (by omega), heap_far (by omega), heap_far (by omega), heap_far (by omega), heap_far (by omega)]))
    have HMM := Lib.hid (Blk.put' (Blk.put' (Blk.put' (Blk.put' (Blk.put' (Blk.put' (Blk.put' (Blk.put' M_327 (C := rb) (by omega) 0 (.slice (some ⟨mb, 0, none⟩) 4 4)) (C := rb) (by omega) 1 (.int .i64 q)) (C := rb) (by omega) 2 (.int .i64 bx)) (C := rb) (by omega) 3 (.int .i64 cy)) (C := rb) (by omega) 4 (.int .i64 lo)) (C := rb) (by omega) 5 (.int .i64 hi)) (C := rb) (by omega) 6 (.slice an (boxL (-aa) (-1) aa 1).length cn)) (C := rb) (by omega) 7 (.slice ak K.length ck))
    have HNO := Lib.hid (own_base (B' := g + 1) (own_far (p := ⟨rb, 7, none⟩) (own_far (p := ⟨rb, 6, none⟩) (own_far (p := ⟨rb, 5, none⟩) (own_far (p := ⟨rb, 4, none⟩) (own_far (p := ⟨rb, 3, none⟩) (own_far (p := ⟨rb, 2, none⟩) (own_far (p := ⟨rb, 1, none⟩) (own_far (p := ⟨rb, 0, none⟩) N_329.out (by simp only; omega) (.slice (some ⟨mb, 0, none⟩) 4 4)) (by simp only; omega) (.int .i64 q)) (by simp only; omega) (.int .i64 bx)) (by simp only; omega) (.int .i64 cy)) (by simp only; omega) (.int .i64 lo)) (by simp only; omega) (.int .i64 hi)) (by simp only; omega) (.slice an (boxL (-aa) (-1) aa 1).length cn)) (by simp only; omega) (.slice ak K.length ck)) (by omega))
    have HLO := Lib.hid (own_base (B' := g + 1) (own_far (p := ⟨rb, 7, none⟩) (own_far (p := ⟨rb, 6, none⟩) (own_far (p := ⟨rb, 5, none⟩) (own_far (p := ⟨rb, 4, none⟩) (own_far (p := ⟨rb, 3, none⟩) (own_far (p := ⟨rb, 2, none⟩) (own_far (p := ⟨rb, 1, none⟩) (own_far (p := ⟨rb, 0, none⟩) K_331.out (by simp only; omega) (.slice (some ⟨mb, 0, none⟩) 4 4)) (by simp only; omega) (.int .i64 q)) (by simp only; omega) (.int .i64 bx)) (by simp only; omega) (.int .i64 cy)) (by simp only; omega) (.int .i64 lo)) (by simp only; omega) (.int .i64 hi)) (by simp only; omega) (.slice an (boxL (-aa) (-1) aa 1).length cn)) (by simp only; omega) (.slice ak K.length ck)) (by omega))
    go_wp2_with fail
    exact bodyPost_ret (v := .agg #[.slice (some ⟨mb, 0, none⟩) 4 4, .int .i64 q, .int .i64 bx, .int .i64 cy, .int .i64 lo, .int .i64 hi, .slice an (boxL (-aa) (-1) aa 1).length cn, .slice ak K.length ck]) (by simp [results, Tryz.results54, go_sem, qq0, qq1, qq2, qq3, qq4, qq5, qq6, qq7]) rfl ⟨_, _, _, _, q, bx, cy, lo, hi, _, _, mb, _, _, _, _, _, _, HF, hlen, rfl, ⟨by omega, by omega⟩, HMM.out, HNO.out, HLO.out, HBF.out, HSF.out⟩
open Go.RowKit
open Geo (H3)

/-- a drawn room and a state -/
def StateW (w0 : World) (e : Ending) (w' : World) : Prop := ∃ (zs : List Int) (q bx cy lo hi : Int) (ps qs : List H3) (am : Option Addr) (nm cm : Nat) (an : Option Addr) (nn cn : Nat) (al : Option Addr) (nl cl : Nat) (X Y : Int), RoomF zs q bx cy lo hi ps qs ∧ ((-15 ≤ X ∧ X ≤ 14) ∧ -15 ≤ Y ∧ Y ≤ 14) ∧ nm + nn + nl ≤ 100 ∧ e = .returned (.tuple #[.agg #[.slice am nm cm, .int .i64 q, .int .i64 bx, .int .i64 cy, .int .i64 lo, .int .i64 hi, .slice an nn cn, .slice al nl cl], .agg #[.int .i64 X, .int .i64 Y, .int .i64 1]]) ∧ (RAt w' am nm zs an nn ps al nl qs ∧ RNil am nm cm an nn cn al nl cl) ∧ Below w0.heap.size w0 w'
set_option maxRecDepth 100000 in
set_option maxHeartbeats 3200000 in
theorem make_state (w : World) (a : Option Addr) (len cap : Nat) (hl : len ≤ 1048576) (hB : BytesAt w a len) : Calls Tryz.prog 17 #[.slice a len cap] w (StateW w) := by
  have bV := below_bx2 (below_one w (.cells #[.slice none 0 0, .int .i64 0, .int .i64 0, .int .i64 0, .int .i64 0, .int .i64 0, .slice none 0 0, .slice none 0 0] 42)) (.cells #[.int .i64 0, .int .i64 0, .int .i64 0] 45)
  have K0 := (blk_new w #[.slice none 0 0, .int .i64 0, .int .i64 0, .int .i64 0, .int .i64 0, .int .i64 0, .slice none 0 0, .slice none 0 0] 42 (b := w.heap.size) (by simp)).to (below_one _ (.cells #[.int .i64 0, .int .i64 0, .int .i64 0] 45))
  have K1 := blk_new (w.alloc (.cells #[.slice none 0 0, .int .i64 0, .int .i64 0, .int .i64 0, .int .i64 0, .int .i64 0, .slice none 0 0, .slice none 0 0] 42)) #[.int .i64 0, .int .i64 0, .int .i64 0] 45 (b := w.heap.size + 1) (by simp)
  have HB := Lib.hid (hB.below bV)
  clear hB
  go_enter Tryz.func17, Tryz.ntmps17
  go_wp2_with fail
  have hz : (((w.alloc (.cells #[.slice none 0 0, .int .i64 0, .int .i64 0, .int .i64 0, .int .i64 0, .int .i64 0, .slice none 0 0, .slice none 0 0] 42)).alloc (.cells #[.int .i64 0, .int .i64 0, .int .i64 0] 45))).heap.size = w.heap.size + 2 := by simp
  generalize ((w.alloc (.cells #[.slice none 0 0, .int .i64 0, .int .i64 0, .int .i64 0, .int .i64 0, .int .i64 0, .slice none 0 0, .slice none 0 0] 42)).alloc (.cells #[.int .i64 0, .int .i64 0, .int .i64 0] 45)) = U at *
  refine (new_cur U a len cap hl HB.out).mono ?_
  rintro e w1 ⟨g, rfl, hg, hs, hb⟩
  have HD := Lib.hid (draw_room U w1 hb hg HB.out hs)
  clear hs
  go_wp2_with fail
  refine HD.out.mono ?_
  rintro e w2 ⟨z0, z1, z2, z3, q, bx, cy, lo, hi, ps, qs, mb, an, nn, cn, al, nl, cl, hF, hsum, rfl, hmb, hM, hN, hL, hb2, hS⟩
  have HF := Lib.hid hF
  have bN := below_one w2 (.cells #[.slice (some ⟨mb, 0, none⟩) 4 4, .int .i64 q, .int .i64 bx, .int .i64 cy, .int .i64 lo, .int .i64 hi, .slice an nn cn, .slice al nl cl] 42)
  have b2 := below_to bV hb2
  have b3 := below_to b2 bN
  have A0 := (K0.to hb2).to bN
  have A1 := (K1.to hb2).to bN
  have R0 := blk_new w2 #[.slice (some ⟨mb, 0, none⟩) 4 4, .int .i64 q, .int .i64 bx, .int .i64 cy, .int .i64 lo, .int .i64 hi, .slice an nn cn, .slice al nl cl] 42 rfl
  have M0 := hM.to bN
  have HN := Lib.hid (own_below hN bN)
  have HL := Lib.hid (own_below hL bN)
  have HS := Lib.hid (hS.alloc (.cells #[.slice (some ⟨mb, 0, none⟩) 4 4, .int .i64 q, .int .i64 bx, .int .i64 cy, .int .i64 lo, .int .i64 hi, .slice an nn cn, .slice al nl cl] 42))
  have g2 : g < w2.heap.size := hS.lt
  have m2 : mb < w2.heap.size := hM.lt
  clear hF hb hb2 hM hN hL hS K0 K1 bV bN b2 HD
  go_upto_region 3 with fail
  generalize w2.alloc (.cells #[.slice (some ⟨mb, 0, none⟩) 4 4, .int .i64 q, .int .i64 bx, .int .i64 cy, .int .i64 lo, .int .i64 hi, .slice an nn cn, .slice al nl cl] 42) = W at *
  obtain ⟨rb, hrb⟩ : ∃ b, w2.heap.size = b := ⟨_, rfl⟩
  rw [hrb] at R0 g2 m2 ⊢
  clear hrb
  have r0 := R0.c8_0
  have r1 := R0.c8_1
  have r2 := R0.c8_2
  have r3 := R0.c8_3
  have r4 := R0.c8_4
  have r5 := R0.c8_5
  have r6 := R0.c8_6
  have r7 := R0.c8_7
  have zz0 := A0.c8_0
  have zz1 := A0.c8_1
  have zz2 := A0.c8_2
  have zz3 := A0.c8_3
  have zz4 := A0.c8_4
  have zz5 := A0.c8_5
  have zz6 := A0.c8_6
  have zz7 := A0.c8_7
  have y0 := A1.cell0 (i := 0) (v := .int .i64 0) rfl
  have y1 := A1.cell0 (i := 1) (v := .int .i64 0) rfl
  have y2 := A1.cell0 (i := 2) (v := .int .i64 0) rfl
  have fz0 := A0.free 0
  have fz1 := A0.free 1
  have fz2 := A0.free 2
  have fz3 := A0.free 3
  have fz4 := A0.free 4
  have fz5 := A0.free 5
  have fz6 := A0.free 6
  have fz7 := A0.free 7
  have fy0 := A1.free 0
  have fy1 := A1.free 1
  have fy2 := A1.free 2
  have bd : Below W.heap.size W W.drew := below_drw (Below.refl _ _)
  have SD := HS.out.drawn (drawn_below HS.out.1 bd)
  have A0D := A0.to bd
  have A1D := A1.to bd
  have R0D := R0.to bd
  have M0D := M0.to bd
  have ND := own_below HN.out bd
  have LD := own_below HL.out bd
  have BD := below_to b3 bd
  have eN : ∀ p, (Value.slice an nn cn).ownBlock = some p → some p ≠ some g := fun p hp e => by have h1 := own_base_le ND hp; have h2 := Option.some.inj e; omega
  have eL : ∀ p, (Value.slice al nl cl).ownBlock = some p → some p ≠ some g := fun p hp e => by have h1 := own_base_le LD hp; have h2 := Option.some.inj e; omega
  have n0 : w.heap.size ≠ g := by omega
  have n1 : w.heap.size + 1 ≠ g := by omega
  have n2 : rb ≠ g := by omega
  have n3 : mb ≠ g := by omega
  have n4 : w.heap.size ≤ g := by omega
  go_region_with (first | (go_at_call 55; (with_reducible refine (below_cur 30 SA (by omega) (by omega)).mono ?_); rintro e wB ⟨xB, hxB, rfl, hdB⟩; have SB := SA.drawn hdB; have A0B := Blk.drawn A0A hdB n0; have A1B := Blk.drawn A1A hdB n1; have R0B := Blk.drawn R0A hdB n2; have M0B := Blk.drawn M0A hdB n3; have NB := own_grow NA hdB.1 eN; have LB := own_grow LA hdB.1 eL; have BB := bel_drawn BA n4 hdB; have r0 := R0B.c8_0; have r1 := R0B.c8_1; have r2 := R0B.c8_2; have r3 := R0B.c8_3; have r4 := R0B.c8_4; have r5 := R0B.c8_5; have r6 := R0B.c8_6; have r7 := R0B.c8_7; have zz0 := A0B.c8_0; have zz1 := A0B.c8_1; have zz2 := A0B.c8_2; have zz3 := A0B.c8_3; have zz4 := A0B.c8_4; have zz5 := A0B.c8_5; have zz6 := A0B.c8_6; have zz7 := A0B.c8_7; have y0 := A1B.cell0 (i := 0) (v := .int .i64 0) rfl; have y1 := A1B.cell0 (i := 1) (v := .int .i64 0) rfl; have y2 := A1B.cell0 (i := 2) (v := .int .i64 0) rfl; have fz0 := A0B.free 0; have fz1 := A0B.free 1; have fz2 := A0B.free 2; have fz3 := A0B.free 3; have fz4 := A0B.free 4; have fz5 := A0B.free 5; have fz6 := A0B.free 6; have fz7 := A0B.free 7; have fy0 := A1B.free 0; have fy1 := A1B.free 1; have fy2 := A1B.free 2) | (go_at_call 55; (with_reducible refine (below_cur 30 SD (by omega) (by omega)).mono ?_); rintro e wA ⟨xA, hxA, rfl, hdA⟩; have SA := SD.drawn hdA; have A0A := Blk.drawn A0D hdA n0; have A1A := Blk.drawn A1D hdA n1; have R0A := Blk.drawn R0D hdA n2; have M0A := Blk.drawn M0D hdA n3; have NA := own_grow ND hdA.1 eN; have LA := own_grow LD hdA.1 eL; have BA := bel_drawn BD n4 hdA; have r0 := R0A.c8_0; have r1 := R0A.c8_1; have r2 := R0A.c8_2; have r3 := R0A.c8_3; have r4 := R0A.c8_4; have r5 := R0A.c8_5; have r6 := R0A.c8_6; have r7 := R0A.c8_7; have zz0 := A0A.c8_0; have zz1 := A0A.c8_1; have zz2 := A0A.c8_2; have zz3 := A0A.c8_3; have zz4 := A0A.c8_4; have zz5 := A0A.c8_5; have zz6 := A0A.c8_6; have zz7 := A0A.c8_7; have y0 := A1A.cell0 (i := 0) (v := .int .i64 0) rfl; have y1 := A1A.cell0 (i := 1) (v := .int .i64 0) rfl; have y2 := A1A.cell0 (i := 2) (v := .int .i64 0) rfl; have fz0 := A0A.free 0; have fz1 := A0A.free 1; have fz2 := A0A.free 2; have fz3 := A0A.free 3; have fz4 := A0A.free 4; have fz5 := A0A.free 5; have fz6 := A0A.free 6; have fz7 := A0A.free 7; have fy0 := A1A.free 0; have fy1 := A1A.free 1; have fy2 := A1A.free 2))
  all_goals
    have e1 : IntKind.i64.wrap (xA - 15) = xA - 15 := IntWalk.i64_in _ (by omega)
    have e2 : IntKind.i64.wrap (xB - 15) = xB - 15 := IntWalk.i64_in _ (by omega)
    try rw [e1, e2]
    first
    | (have HBF := Lib.hid (((((((((((BB.setCell (p := ⟨w.heap.size, 0, none⟩) (by simp only; omega) (.slice (some ⟨mb, 0, none⟩) 4 4)).setCell (p := ⟨w.heap.size, 1, none⟩) (by simp only; omega) (.int .i64 q)).setCell (p := ⟨w.heap.size, 2, none⟩) (by simp only; omega) (.int .i64 bx)).setCell (p := ⟨w.heap.size, 3, none⟩) (by simp only; omega) (.int .i64 cy)).setCell (p := ⟨w.heap.size, 4, none⟩) (by simp only; omega) (.int .i64 lo)).setCell (p := ⟨w.heap.size, 5, none⟩) (by simp only; omega) (.int .i64 hi)).setCell (p := ⟨w.heap.size, 6, none⟩) (by simp only; omega) (.slice an nn cn)).setCell (p := ⟨w.heap.size, 7, none⟩) (by simp only; omega) (.slice al nl cl)).setCell (p := ⟨w.heap.size + 1, 0, none⟩) (by simp only; omega) (.int .i64 (xA - 15))).setCell (p := ⟨w.heap.size + 1, 1, none⟩) (by simp only; omega) (.int .i64 (xB - 15))).setCell (p := ⟨w.heap.size + 1, 2, none⟩) (by simp only; omega) (.int .i64 1))
       have HMM := Lib.hid (is_blk (Blk.put' (Blk.put' (Blk.put' (Blk.put' (Blk.put' (Blk.put' (Blk.put' (Blk.put' (Blk.put' (Blk.put' (Blk.put' M0B (C := w.heap.size) (by omega) 0 (.slice (some ⟨mb, 0, none⟩) 4 4)) (C := w.heap.size) (by omega) 1 (.int .i64 q)) (C := w.heap.size) (by omega) 2 (.int .i64 bx)) (C := w.heap.size) (by omega) 3 (.int .i64 cy)) (C := w.heap.size) (by omega) 4 (.int .i64 lo)) (C := w.heap.size) (by omega) 5 (.int .i64 hi)) (C := w.heap.size) (by omega) 6 (.slice an nn cn)) (C := w.heap.size) (by omega) 7 (.slice al nl cl)) (C := w.heap.size + 1) (by omega) 0 (.int .i64 (xA - 15))) (C := w.heap.size + 1) (by omega) 1 (.int .i64 (xB - 15))) (C := w.heap.size + 1) (by omega) 2 (.int .i64 1)))
       have HNO := Lib.hid (own_far (p := ⟨w.heap.size + 1, 2, none⟩) (own_far (p := ⟨w.heap.size + 1, 1, none⟩) (own_far (p := ⟨w.heap.size + 1, 0, none⟩) (own_far (p := ⟨w.heap.size, 7, none⟩) (own_far (p := ⟨w.heap.size, 6, none⟩) (own_far (p := ⟨w.heap.size, 5, none⟩) (own_far (p := ⟨w.heap.size, 4, none⟩) (own_far (p := ⟨w.heap.size, 3, none⟩) (own_far (p := ⟨w.heap.size, 2, none⟩) (own_far (p := ⟨w.heap.size, 1, none⟩) (own_far (p := ⟨w.heap.size, 0, none⟩) NB (by simp only; omega) (.slice (some ⟨mb, 0, none⟩) 4 4)) (by simp only; omega) (.int .i64 q)) (by simp only; omega) (.int .i64 bx)) (by simp only; omega) (.int .i64 cy)) (by simp only; omega) (.int .i64 lo)) (by simp only; omega) (.int .i64 hi)) (by simp only; omega) (.slice an nn cn)) (by simp only; omega) (.slice al nl cl)) (by simp only; omega) (.int .i64 (xA - 15))) (by simp only; omega) (.int .i64 (xB - 15))) (by simp only; omega) (.int .i64 1))
       have HLO := Lib.hid (own_far (p := ⟨w.heap.size + 1, 2, none⟩) (own_far (p := ⟨w.heap.size + 1, 1, none⟩) (own_far (p := ⟨w.heap.size + 1, 0, none⟩) (own_far (p := ⟨w.heap.size, 7, none⟩) (own_far (p := ⟨w.heap.size, 6, none⟩) (own_far (p := ⟨w.heap.size, 5, none⟩) (own_far (p := ⟨w.heap.size, 4, none⟩) (own_far (p := ⟨w.heap.size, 3, none⟩) (own_far (p := ⟨w.heap.size, 2, none⟩) (own_far (p := ⟨w.heap.size, 1, none⟩) (own_far (p := ⟨w.heap.size, 0, none⟩) LB (by simp only; omega) (.slice (some ⟨mb, 0, none⟩) 4 4)) (by simp only; omega) (.int .i64 q)) (by simp only; omega) (.int .i64 bx)) (by simp only; omega) (.int .i64 cy)) (by simp only; omega) (.int .i64 lo)) (by simp only; omega) (.int .i64 hi)) (by simp only; omega) (.slice an nn cn)) (by simp only; omega) (.slice al nl cl)) (by simp only; omega) (.int .i64 (xA - 15))) (by simp only; omega) (.int .i64 (xB - 15))) (by simp only; omega) (.int .i64 1))
       go_wp2_with fail
       exact bodyPost_ret (v := .tuple #[.agg #[.slice (some ⟨mb, 0, none⟩) 4 4, .int .i64 q, .int .i64 bx, .int .i64 cy, .int .i64 lo, .int .i64 hi, .slice an nn cn, .slice al nl cl], .agg #[.int .i64 (xA - 15), .int .i64 (xB - 15), .int .i64 1]]) (by simp [results, Tryz.results17, go_sem, zz0, zz1, zz2, zz3, zz4, zz5, zz6, zz7, y0, y1, y2]) rfl ⟨_, q, bx, cy, lo, hi, ps, qs, _, 4, 4, an, nn, cn, al, nl, cl, _, _, HF.out, ⟨⟨by omega, by omega⟩, by omega, by omega⟩, hsum, rfl, ⟨⟨rfl, flat_ln HNO.out, flat_ln HLO.out, HMM.out, own_hs HNO.out, own_hs HLO.out⟩, ⟨(fun h => by cases h), own_nil HNO.out, own_nil HLO.out⟩⟩, HBF.out⟩)
    | (have HBF := Lib.hid (((((((((((BB.setCell (p := ⟨w.heap.size, 0, none⟩) (by simp only; omega) (.slice (some ⟨mb, 0, none⟩) 4 4)).setCell (p := ⟨w.heap.size, 1, none⟩) (by simp only; omega) (.int .i64 q)).setCell (p := ⟨w.heap.size, 2, none⟩) (by simp only; omega) (.int .i64 bx)).setCell (p := ⟨w.heap.size, 3, none⟩) (by simp only; omega) (.int .i64 cy)).setCell (p := ⟨w.heap.size, 4, none⟩) (by simp only; omega) (.int .i64 lo)).setCell (p := ⟨w.heap.size, 5, none⟩) (by simp only; omega) (.int .i64 hi)).setCell (p := ⟨w.heap.size, 6, none⟩) (by simp only; omega) (.slice an nn cn)).setCell (p := ⟨w.heap.size, 7, none⟩) (by simp only; omega) (.slice al nl cl)).setCell (p := ⟨w.heap.size + 1, 0, none⟩) (by simp only; omega) (.int .i64 (xB - 15))).setCell (p := ⟨w.heap.size + 1, 1, none⟩) (by simp only; omega) (.int .i64 (xA - 15))).setCell (p := ⟨w.heap.size + 1, 2, none⟩) (by simp only; omega) (.int .i64 1))
       have HMM := Lib.hid (is_blk (Blk.put' (Blk.put' (Blk.put' (Blk.put' (Blk.put' (Blk.put' (Blk.put' (Blk.put' (Blk.put' (Blk.put' (Blk.put' M0B (C := w.heap.size) (by omega) 0 (.slice (some ⟨mb, 0, none⟩) 4 4)) (C := w.heap.size) (by omega) 1 (.int .i64 q)) (C := w.heap.size) (by omega) 2 (.int .i64 bx)) (C := w.heap.size) (by omega) 3 (.int .i64 cy)) (C := w.heap.size) (by omega) 4 (.int .i64 lo)) (C := w.heap.size) (by omega) 5 (.int .i64 hi)) (C := w.heap.size) (by omega) 6 (.slice an nn cn)) (C := w.heap.size) (by omega) 7 (.slice al nl cl)) (C := w.heap.size + 1) (by omega) 0 (.int .i64 (xB - 15))) (C := w.heap.size + 1) (by omega) 1 (.int .i64 (xA - 15))) (C := w.heap.size + 1) (by omega) 2 (.int .i64 1)))
       have HNO := Lib.hid (own_far (p := ⟨w.heap.size + 1, 2, none⟩) (own_far (p := ⟨w.heap.size + 1, 1, none⟩) (own_far (p := ⟨w.heap.size + 1, 0, none⟩) (own_far (p := ⟨w.heap.size, 7, none⟩) (own_far (p := ⟨w.heap.size, 6, none⟩) (own_far (p := ⟨w.heap.size, 5, none⟩) (own_far (p := ⟨w.heap.size, 4, none⟩) (own_far (p := ⟨w.heap.size, 3, none⟩) (own_far (p := ⟨w.heap.size, 2, none⟩) (own_far (p := ⟨w.heap.size, 1, none⟩) (own_far (p := ⟨w.heap.size, 0, none⟩) NB (by simp only; omega) (.slice (some ⟨mb, 0, none⟩) 4 4)) (by simp only; omega) (.int .i64 q)) (by simp only; omega) (.int .i64 bx)) (by simp only; omega) (.int .i64 cy)) (by simp only; omega) (.int .i64 lo)) (by simp only; omega) (.int .i64 hi)) (by simp only; omega) (.slice an nn cn)) (by simp only; omega) (.slice al nl cl)) (by simp only; omega) (.int .i64 (xB - 15))) (by simp only; omega) (.int .i64 (xA - 15))) (by simp only; omega) (.int .i64 1))
       have HLO := Lib.hid (own_far (p := ⟨w.heap.size + 1, 2, none⟩) (own_far (p := ⟨w.heap.size + 1, 1, none⟩) (own_far (p := ⟨w.heap.size + 1, 0, none⟩) (own_far (p := ⟨w.heap.size, 7, none⟩) (own_far (p := ⟨w.heap.size, 6, none⟩) (own_far (p := ⟨w.heap.size, 5, none⟩) (own_far (p := ⟨w.heap.size, 4, none⟩) (own_far (p := ⟨w.heap.size, 3, none⟩) (own_far (p := ⟨w.heap.size, 2, none⟩) (own_far (p := ⟨w.heap.size, 1, none⟩) (own_far (p := ⟨w.heap.size, 0, none⟩) LB (by simp only; omega) (.slice (some ⟨mb, 0, none⟩) 4 4)) (by simp only; omega) (.int .i64 q)) (by simp only; omega) (.int .i64 bx)) (by simp only; omega) (.int .i64 cy)) (by simp only; omega) (.int .i64 lo)) (by simp only; omega) (.int .i64 hi)) (by simp only; omega) (.slice an nn cn)) (by simp only; omega) (.slice al nl cl)) (by simp only; omega) (.int .i64 (xB - 15))) (by simp only; omega) (.int .i64 (xA - 15))) (by simp only; omega) (.int .i64 1))
       go_wp2_with fail
       exact bodyPost_ret (v := .tuple #[.agg #[.slice (some ⟨mb, 0, none⟩) 4 4, .int .i64 q, .int .i64 bx, .int .i64 cy, .int .i64 lo, .int .i64 hi, .slice an nn cn, .slice al nl cl], .agg #[.int .i64 (xB - 15), .int .i64 (xA - 15), .int .i64 1]]) (by simp [results, Tryz.results17, go_sem, zz0, zz1, zz2, zz3, zz4, zz5, zz6, zz7, y0, y1, y2]) rfl ⟨_, q, bx, cy, lo, hi, ps, qs, _, 4, 4, an, nn, cn, al, nl, cl, _, _, HF.out, ⟨⟨by omega, by omega⟩, by omega, by omega⟩, hsum, rfl, ⟨⟨rfl, flat_ln HNO.out, flat_ln HLO.out, HMM.out, own_hs HNO.out, own_hs HLO.out⟩, ⟨(fun h => by cases h), own_nil HNO.out, own_nil HLO.out⟩⟩, HBF.out⟩)
open Go.RowKit
open Geo (H3)

/-- a small box around (0, 0) -/
def BoxF (qs : List H3) : Prop := ∃ x0 y0 x1 y1 : Int, (-3 ≤ x0 ∧ x0 ≤ 0) ∧ (-3 ≤ y0 ∧ y0 ≤ 0) ∧ (1 ≤ x1 ∧ x1 ≤ 4) ∧ (1 ≤ y1 ∧ y1 ≤ 4) ∧ qs = boxL x0 y0 x1 y1
theorem box_facts {qs : List H3} (F : BoxF qs) : rokB qs = true ∧ qs ≠ [] ∧ qs.length = 4 ∧ (∀ e ∈ qs, Geo.val e 0 0 1 ≤ 0) ∧ ∀ i, i < 4 → (crA qs i).c = 1 ∧ (-4 ≤ (crA qs i).a ∧ (crA qs i).a ≤ 4) ∧ -4 ≤ (crA qs i).b ∧ (crA qs i).b ≤ 4 := by
  obtain ⟨x0, y0, x1, y1, hx0, hy0, hx1, hy1, rfl⟩ := F
  have bb : bxB x0 y0 x1 y1 = true := (bx_iff _ _ _ _).2 ⟨by omega, by omega, by omega, by omega, by omega, by omega⟩
  have e : regL (boxL x0 y0 x1 y1) = boxL x0 y0 x1 y1 := by rw [← mod_reg (box_ok bb)]; exact box_mod bb
  have r : rokB (boxL x0 y0 x1 y1) = true := by
    have := rok_regL (box_ok bb) (by rw [e]; show 4 ≤ 40; omega)
    rwa [e] at this
  have n : boxL x0 y0 x1 y1 ≠ [] := by simp [boxL]
  have l : (boxL x0 y0 x1 y1).length = 4 := rfl
  refine ⟨r, n, l, ?_, ?_⟩
  · intro e he
    unfold boxL at he
    simp only [List.mem_cons, List.not_mem_nil, or_false] at he
    rcases he with rfl | rfl | rfl | rfl <;> unfold Geo.val <;> simp only <;> omega
  · intro i hi
    obtain ⟨o, c1, ins, _, _, k, hk, e1, _⟩ := cnr_facts r n (show i < (boxL x0 y0 x1 y1).length by rw [l]; exact hi)
    have t : Geo.tn (atI (boxL x0 y0 x1 y1) i) (atI (boxL x0 y0 x1 y1) ((i + 1) % (boxL x0 y0 x1 y1).length)) = 1 := by
      rcases (by omega : i = 0 ∨ i = 1 ∨ i = 2 ∨ i = 3) with rfl | rfl | rfl | rfl <;> (unfold Geo.tn atI boxL; simp)
    rw [t] at e1
    have c : (crA (boxL x0 y0 x1 y1) i).c = 1 := by
      have := Int.mul_le_mul_of_nonneg_right hk (show 0 ≤ (crA (boxL x0 y0 x1 y1) i).c by omega)
      omega
    have m1 := ins ⟨1, 0, x1⟩ (List.mem_append_right _ (by simp [boxL]))
    have m2 := ins ⟨0, 1, y1⟩ (List.mem_append_right _ (by simp [boxL]))
    have m3 := ins ⟨-1, 0, -x0⟩ (List.mem_append_right _ (by simp [boxL]))
    have m4 := ins ⟨0, -1, -y0⟩ (List.mem_append_right _ (by simp [boxL]))
    unfold Geo.val at m1 m2 m3 m4
    simp only [c] at m1 m2 m3 m4
    exact ⟨c, by omega, by omega⟩
/-- what is taken off an edge: the greatest value over the box -/
theorem ero_edge {qs : List H3} (F : BoxF qs) {e : H3} (ok : okB e = true) (sm : (-3 ≤ e.a ∧ e.a ≤ 3) ∧ (-3 ≤ e.b ∧ e.b ≤ 3) ∧ (-1000 ≤ e.c ∧ e.c ≤ 1000)) :
    ∃ N : Int, erB qs e = true ∧ 0 ≤ N ∧ (∀ X Y W : Int, Geo.val (erM qs e) X Y W ≤ 0 ↔ e.a * X + e.b * Y - (e.c - N) * W ≤ 0) ∧ (∀ i, i < 4 → e.a * (crA qs i).a + e.b * (crA qs i).b ≤ N) ∧ ∃ j, j < 4 ∧ N = e.a * (crA qs j).a + e.b * (crA qs j).b := by
  obtain ⟨r, n, l, z, cr⟩ := box_facts F
  have iA : In5 e.a := ⟨by omega, by omega⟩
  have iB : In5 e.b := ⟨by omega, by omega⟩
  have ok4 : ∀ i, i < qs.length → okS (crA qs i).a (crA qs i).b (crA qs i).c = true := fun i hi => (cnr_facts r n hi).1
  have one : ∀ i, i < 4 → vaN e.a e.b (crA qs i) = e.a * (crA qs i).a + e.b * (crA qs i).b ∧ vaD e.a e.b (crA qs i) = 1 := by
    intro i hi
    have sd := sgn_div (n := e.a * (crA qs i).a + e.b * (crA qs i).b) (d := (crA qs i).c) (by rw [(cr i hi).1]; omega)
    unfold vaN vaD
    rw [(cr i hi).1] at sd ⊢
    rw [show Int.gcd (e.a * (crA qs i).a + e.b * (crA qs i).b) 1 = 1 by simp] at sd
    exact ⟨by have := sd.2.2.2.1; simpa using this, by have := sd.2.2.2.2; simpa using this⟩
  rcases far_ix e.a e.b qs qs.length with ⟨z0, _⟩ | ⟨j, hj, ef⟩
  · omega
  have mx := far_max iA iB ok4 qs.length (Nat.le_refl _)
  rw [l] at hj
  have hN : erN qs e = e.a * (crA qs j).a + e.b * (crA qs j).b := by unfold erN; rw [ef]; exact (one j hj).1
  have hD : erD qs e = 1 := by unfold erD; rw [ef]; exact (one j hj).2
  have le : ∀ i, i < 4 → e.a * (crA qs i).a + e.b * (crA qs i).b ≤ erN qs e := by
    intro i hi
    have := mx i (by omega)
    rw [ef] at this
    simp only at this
    rw [(one i hi).1, (one i hi).2, (one j hj).1, (one j hj).2] at this
    rw [hN]
    omega
  have h0 := (ok_in ok).2.2.2.1
  have pos : 0 ≤ erN qs e := by
    have nh : Geo.nz ⟨e.a, e.b, erN qs e⟩ := h0
    have := Geo.inside_of (rok_poly r n).1 nh (fun p hp => ?_) (show (0 : Int) < 1 by omega) z
    · unfold Geo.val at this
      simp only at this
      omega
    · obtain ⟨i, hi, rfl⟩ := cyc_ix hp
      obtain ⟨_, ci, _, _, _, kk, hkk, _, e2⟩ := cnr_facts r n hi
      rw [e2]
      refine Int.mul_nonpos_of_nonneg_of_nonpos (by omega) ?_
      have := le i (by omega)
      have c1 := (cr i (by omega)).1
      unfold Geo.val
      simp only
      rw [c1]
      omega
  have up : erN qs e ≤ 24 := by
    rw [hN]
    have p : ∀ a t : Int, (-3 ≤ a ∧ a ≤ 3) → (-4 ≤ t ∧ t ≤ 4) → a * t ≤ 12 := by
      intro a t ha ht
      rcases (by omega : a = -3 ∨ a = -2 ∨ a = -1 ∨ a = 0 ∨ a = 1 ∨ a = 2 ∨ a = 3) with rfl | rfl | rfl | rfl | rfl | rfl | rfl <;> omega
    have p1 := p _ _ sm.1 (cr j hj).2.1
    have p2 := p _ _ sm.2.1 (cr j hj).2.2
    omega
  have hb : erB qs e = true := by
    unfold erB
    rw [hD, Int.mul_one, Int.mul_one, Int.mul_one]
    exact has_ok h0 (by omega) (by omega) (by omega) (by omega) (by omega) (by omega)
  refine ⟨erN qs e, hb, pos, fun X Y W => ?_, le, j, hj, hN⟩
  obtain ⟨g, hg, hv⟩ := red_parts hb
  have h1 := hv X Y W
  rw [hD, Int.mul_one, Int.mul_one, Int.mul_one] at h1
  rw [h1, show redH e.a e.b (e.c - erN qs e) = erM qs e by unfold erM; rw [hD, Int.mul_one, Int.mul_one, Int.mul_one]]
  exact (scale_le hg).symm
theorem mvL_le4 (B : H3 → Bool) (M : H3 → H3) (fu ps : List H3) : (mvL B M fu ps).length ≤ 4 + (fu.length + ps.length) := by
  unfold mvL
  split
  · have := regL_len (fu ++ ps.map M)
    rw [List.length_append, List.length_map] at this
    exact this
  · simp
/-- the limits of a drawn room, eroded by its noise -/
theorem rb_ero {zs : List Int} {q bx cy lo hi : Int} {ps qs : List H3} (F : RoomF zs q bx cy lo hi ps qs) :
    BoxF ps ∧ eroB qs ps = true ∧ eroL qs ps ≠ [] ∧ rokB (eroL qs ps) = true ∧ Sub (eroL qs ps) qs ∧ (eroL qs ps).length ≤ 13 := by
  obtain ⟨_, _, _, _, _, _, _, rp, np, rq, nq, l9, ⟨z0, z1, z2, z3, aa, _, _, _, _, _, ha, hps⟩, hin, sm⟩ := F
  have G : BoxF ps := ⟨-aa, -1, aa, 1, by omega, by omega, by omega, by omega, hps⟩
  obtain ⟨r', n', l', zz, cr⟩ := box_facts G
  have ed := fun e (he : e ∈ qs) => ero_edge G (rok_all rq e he) (sm e he)
  have cb : ∀ i, i < 4 → (-2 ≤ (crA ps i).a ∧ (crA ps i).a ≤ 2) ∧ -1 ≤ (crA ps i).b ∧ (crA ps i).b ≤ 1 := by
    intro i hi
    have c1 := (cr i hi).1
    obtain ⟨_, _, ins, _⟩ := cnr_facts r' n' (show i < ps.length by omega)
    have mem : ∀ h ∈ boxL (-aa) (-1) aa 1, Geo.val h (crA ps i).a (crA ps i).b (crA ps i).c ≤ 0 := fun h hh => ins h (List.mem_append_right _ (by rw [hps]; exact hh))
    have m1 := mem ⟨1, 0, aa⟩ (by simp [boxL])
    have m2 := mem ⟨0, 1, 1⟩ (by simp [boxL])
    have m3 := mem ⟨-1, 0, -(-aa)⟩ (by simp [boxL])
    have m4 := mem ⟨0, -1, -(-1)⟩ (by simp [boxL])
    unfold Geo.val at m1 m2 m3 m4
    simp only [c1] at m1 m2 m3 m4
    omega
  have hA : qs.all (erB ps) = true := List.all_eq_true.2 fun e he => (ed e he).choose_spec.1
  have ok : (qs.map (erM ps)).all okB = true := map_ok (fun h k => er_ok ps h k) hA
  have ln0 := regL_len (qs.map (erM ps))
  rw [List.length_map] at ln0
  have ln : (regL (qs.map (erM ps))).length ≤ 40 := by omega
  have oF : okF ([] ++ qs.map (erM ps)) = true := by
    rw [List.nil_append]
    unfold okF
    rw [ok, decide_eq_true ln, decide_eq_true (by rw [List.length_map]; omega)]
    rfl
  have mb : mvB (erB ps) (erM ps) [] qs = true := by unfold mvB; rw [hA, oF]; simp
  obtain ⟨y1, y2⟩ := ero_yes rq rp np
  obtain ⟨_, eM, _, _⟩ := mv_facts nq mb
  rw [List.nil_append] at eM
  have ne : regL (qs.map (erM ps)) ≠ [] := by
    refine strict_some ok (x := 0) (y := 0) (by omega) (by omega) (fun g hg => ?_)
    obtain ⟨e, he, rfl⟩ := List.mem_map.1 hg
    obtain ⟨N, _, N0, vl, le, j, hj, hN⟩ := ed e he
    have st := hin e he _ _ (cb j hj).1 (cb j hj).2
    unfold Geo.val at st
    have v := vl 0 0 (-1)
    unfold Geo.val at v ⊢
    rcases Int.lt_or_le ((erM ps e).a * 0 + (erM ps e).b * 0 - (erM ps e).c * 1) 0 with z | z
    · exact z
    · have := v.1 (by omega)
      omega
  rw [y1, y2, mb, eM]
  refine ⟨G, rfl, ne, rok_regL ok ln, .inr ⟨nq, fun X Y W w k g hg => ?_⟩, by omega⟩
  obtain ⟨N, _, N0, vl, _⟩ := ed g hg
  have := (vl X Y W).1 (reg_imp ok ne w k (erM ps g) (List.mem_append_right _ (List.mem_map.2 ⟨g, hg, rfl⟩)))
  have p := Int.mul_nonneg N0 (show 0 ≤ W by omega)
  have e : (g.c - N) * W = g.c * W - N * W := Int.sub_mul _ _ _
  unfold Geo.val
  omega
theorem rb_rp {zs : List Int} {q bx cy lo hi : Int} {ps qs : List H3} (F : RoomF zs q bx cy lo hi ps qs) :
    rmB zs q bx cy lo hi ps qs = true ∧ rpB zs q bx cy lo hi ps qs qs = true ∧ rpL zs q bx cy lo hi ps qs qs = eroL qs ps ∧ wiB (rpL zs q bx cy lo hi ps qs qs) qs = true := by
  have rm : rmB zs q bx cy lo hi ps qs = true := F.rm (by have := F.2.2.2.2.1; omega) (by have := F.2.2.2.2.2.1; omega)
  obtain ⟨_, e, _, r, s, _⟩ := rb_ero F
  obtain ⟨y1, y2⟩ := rp_yes (rs := qs) rm
  exact ⟨rm, y2.trans e, y1, by rw [y1]; exact s.wi r F.2.2.2.2.2.2.2.2.2.1⟩
theorem rb_pr {zs : List Int} {q bx cy lo hi : Int} {ps qs : List H3} (F : RoomF zs q bx cy lo hi ps qs) : (prL zs q bx cy lo hi ps qs qs).length ≤ 23 := by
  obtain ⟨_, _, _, _, _, l13⟩ := rb_ero F
  have g : (prG bx cy lo hi ps qs).length ≤ 19 := by
    unfold prG gwL
    split
    · split
      · omega
      · split
        · have := mvL_le4 (grB bx cy lo hi) (grM bx cy lo hi) (gwU (eroL qs ps) bx cy) (eroL qs ps)
          have : (gwU (eroL qs ps) bx cy).length = 2 := rfl
          omega
        · simp
    · simp
  unfold prL
  split
  · unfold pbkL
    split
    · have := mvL_le4 (pbB zs q) (pbM zs q) [] (prG bx cy lo hi ps qs)
      simp only [List.length_nil] at this
      omega
    · simp
  · simp
theorem rb_keep {zs : List Int} {q bx cy lo hi : Int} {ps qs : List H3} (F : RoomF zs q bx cy lo hi ps qs) (b : prB zs q bx cy lo hi ps qs qs = true) :
    kpB zs q bx cy lo hi ps qs qs = true ∧ wiB (kpL zs q bx cy lo hi ps qs qs) qs = true ∧ wiB (kpL zs q bx cy lo hi ps qs qs) (prL zs q bx cy lo hi ps qs qs) = true := by
  obtain ⟨rq, rL⟩ := pr_rok b
  have l := rb_pr F
  have l9 := F.2.2.2.2.2.2.2.2.2.2.2.1
  have k : kpB zs q bx cy lo hi ps qs qs = true := by
    unfold kpB metB
    rw [b, rq, rL, decide_eq_true (by omega)]
    rfl
  obtain ⟨_, rk, s1, s2, _⟩ := kp_facts k
  exact ⟨k, s1.wi rk rq, s2.wi rk rL⟩
/-- a state near the centre is mapped into the frame -/
theorem rb_map {zs : List Int} {q bx cy lo hi X Y : Int} {ps qs : List H3} (F : RoomF zs q bx cy lo hi ps qs) (hX : -15 ≤ X ∧ X ≤ 14) (hY : -15 ≤ Y ∧ Y ≤ 14) :
    (-1000 ≤ zg zs 0 * X + zg zs 1 * Y ∧ zg zs 0 * X + zg zs 1 * Y ≤ 1000) ∧ (-1000 ≤ zg zs 2 * X + zg zs 3 * Y ∧ zg zs 2 * X + zg zs 3 * Y ≤ 1000) ∧ (2 ≤ q ∧ q ≤ 10) := by
  obtain ⟨_, _, _, _, _, _, hq, _, _, _, _, _, ⟨z0, z1, z2, z3, aa, rfl, h0, h1, h2, h3, _, _⟩, _⟩ := F
  have m0 := mul_in z0 X 10 15 (by omega) (by omega) (by omega) (by omega)
  have m1 := mul_in z1 Y 1 15 (by omega) (by omega) (by omega) (by omega)
  have m2 := mul_in z2 X 1 15 (by omega) (by omega) (by omega) (by omega)
  have m3 := mul_in z3 Y 10 15 (by omega) (by omega) (by omega) (by omega)
  show (-1000 ≤ z0 * X + z1 * Y ∧ z0 * X + z1 * Y ≤ 1000) ∧ (-1000 ≤ z2 * X + z3 * Y ∧ z2 * X + z3 * Y ≤ 1000) ∧ _
  omega
theorem at_iff {s : Adm} (so : s.Ok) : atB s = true ↔ s.ok = true ∧ s.lN * s.hD ≤ s.hN * s.lD := by
  unfold atB
  rw [Bool.and_eq_true, spn_iff]
  exact ⟨fun h => ⟨h.1, h.2.2.2⟩, fun h => ⟨h.1, so.1, so.2, h.2⟩⟩
/-- a whole state near the centre: whether an input is admitted with a region that has an eroded part -/
theorem rb_adt {zs : List Int} {q bx cy lo hi X Y : Int} {ps qs rs : List H3} (F : RoomF zs q bx cy lo hi ps qs) (hX : -15 ≤ X ∧ X ≤ 14) (hY : -15 ≤ Y ∧ Y ≤ 14) (b : rpB zs q bx cy lo hi ps qs rs = true) (n : rpL zs q bx cy lo hi ps qs rs ≠ []) :
    adtG zs q bx cy lo hi ps qs X Y 1 rs = true ∧ (adtS zs q bx cy lo hi ps qs X Y 1 rs).Ok ∧ adtB zs q bx cy lo hi ps qs X Y 1 rs = atB (adtS zs q bx cy lo hi ps qs X Y 1 rs) ∧ rpL zs q bx cy lo hi ps qs rs = eroL rs ps ∧ eroB rs ps = true := by
  obtain ⟨mx, my, hq⟩ := rb_map F hX hY
  have o : okS X Y 1 = true := whole_ok (by omega) (by omega)
  have b2 := b
  unfold rpB at b2
  rw [Bool.and_eq_true] at b2
  have e : rpL zs q bx cy lo hi ps qs rs = eroL rs ps := (rp_yes b2.1).1
  obtain ⟨ok, _⟩ := ero_all b2.2
  have z : (((rpL zs q bx cy lo hi ps qs rs).length : Int) == 0) = false := eq_b (by have := List.length_pos_iff.2 n; omega)
  have g : adtG zs q bx cy lo hi ps qs X Y 1 rs = true := by
    unfold adtG
    rw [o, b, z]
    rfl
  refine ⟨g, ?_, (adt_yes g).2.2.2.2, e, b2.2⟩
  unfold adtS
  rw [Int.mul_one, e, ← admK_n (rfl : (eroL rs ps).length = (eroL rs ps).length)]
  have hb := F.2.2.1
  have hc := F.2.2.2.1
  have hl := F.2.2.2.2.1
  have hh := F.2.2.2.2.2.1
  exact admK_ok (by omega) (by omega) (by omega) (by omega) (by omega) (by omega) (by omega) ok _
theorem rb_frame {zs : List Int} {q bx cy lo hi X Y : Int} {ps qs : List H3} (F : RoomF zs q bx cy lo hi ps qs) (hX : -15 ≤ X ∧ X ≤ 14) (hY : -15 ≤ Y ∧ Y ≤ 14) : ∀ g ∈ Geo.frame, Geo.val g (zg zs 0 * X + zg zs 1 * Y) (zg zs 2 * X + zg zs 3 * Y) (q * 1) ≤ 0 := by
  obtain ⟨mx, my, hq⟩ := rb_map F hX hY
  intro g hg
  unfold Geo.frame at hg
  simp only [List.mem_cons, List.not_mem_nil, or_false] at hg
  rcases hg with rfl | rfl | rfl | rfl <;> unfold Geo.val <;> simp only <;> omega
/-- a state lies in PreRegion exactly if an input is admitted -/
theorem rb_pre {zs : List Int} {q bx cy lo hi X Y : Int} {ps qs rs : List H3} (F : RoomF zs q bx cy lo hi ps qs) (hX : -15 ≤ X ∧ X ≤ 14) (hY : -15 ≤ Y ∧ Y ≤ 14) (b : prB zs q bx cy lo hi ps qs rs = true) (n : prL zs q bx cy lo hi ps qs rs ≠ []) (nr : rpL zs q bx cy lo hi ps qs rs ≠ []) :
    hasB (prL zs q bx cy lo hi ps qs rs) X Y 1 = adtB zs q bx cy lo hi ps qs X Y 1 rs := by
  obtain ⟨rm, eb, _, _, _⟩ := pr_parts b
  have rb : rpB zs q bx cy lo hi ps qs rs = true := by unfold rpB; rw [rm, eb]; rfl
  obtain ⟨_, so, e1, e2, _⟩ := rb_adt F hX hY rb nr
  obtain ⟨mx, my, hq⟩ := rb_map F hX hY
  have hb := F.2.2.1
  have hc := F.2.2.2.1
  have hl := F.2.2.2.2.1
  have hh := F.2.2.2.2.2.1
  rw [e1, Bool.eq_iff_iff, at_iff so]
  unfold adtS
  rw [e2]
  exact pre_adm b n (whole_ok (by omega) (by omega)) (rb_frame F hX hY) (by omega) (by omega) (by omega) (by omega) (by omega) (by omega) (by omega)
end Go.Proofs.YtibkmhmeoelpdaaGreat
