/- The contracts of slices.Contains at the sides, of sort.Search at the program's closure, and of insertByAngle over the translation. -/
import Derived.Test.YtobmaajfdpcfmaaIb
namespace Go.Proofs.Ytobmaajfdpcfmaa
open Go.RowKit
open Geo (H3)

/-- the cells of a slice of numbers -/
def IsAt (w : World) (ao : Option Addr) (zs : List Int) : Prop := ∀ (i : Nat) z, zs[i]? = some z → ∃ g o, ao = some ⟨g, o, none⟩ ∧ w.cell? ⟨g, o + i, none⟩ = some (.int .i64 z)
theorem IsAt.below {w w' : World} {ao : Option Addr} {zs : List Int} (h : IsAt w ao zs) (hb : Below w.heap.size w w') : IsAt w' ao zs := by
  intro i x hx
  obtain ⟨g, o, e, hc⟩ := h i x hx
  exact ⟨g, o, e, cell_to hc hb⟩
theorem own_is {w : World} {B n cp : Nat} {e : TypeId} {ao : Option Addr} {zs : List Int} (h : w.ownsRow B e 1 (.slice ao n cp) n (ints zs)) : zs.length = n ∧ IsAt w ao zs := by
  have hl : zs.length = n := by have := h.1; simpa [ints] using this
  refine ⟨hl, ?_⟩
  rcases h.2 with ⟨h1, rfl⟩ | ⟨g, cap, cur, h1, _⟩
  · intro i x hx; simp [List.length_eq_zero_iff.1 hl] at hx
  · intro i x hx
    simp at h1
    obtain ⟨rfl, rfl⟩ := h1
    refine ⟨g, 0, rfl, ?_⟩
    have := h.cells (g := g) rfl i (.int .i64 x) (by unfold ints; rw [List.getElem?_map, hx]; rfl)
    rw [addr_add] at this
    exact this
def hasI (zs : List Int) (x : Int) : Bool := decide (x ∈ zs)
def IdxR (zs : List Int) (x : Int) (w : World) (e : Ending) (w' : World) : Prop := ∃ r : Int, e = .returned (.int .i64 r) ∧ (0 ≤ r ↔ x ∈ zs) ∧ w = w'
theorem IdxR.yes {zs : List Int} {x : Int} {w : World} (k : Nat) (h : zs[k]? = some x) : IdxR zs x w (.returned (.int .i64 k)) w := ⟨k, rfl, by constructor <;> intro _ <;> first | exact List.mem_of_getElem? h | omega, rfl⟩
theorem IdxR.no {zs : List Int} {x : Int} {w : World} (h : x ∉ zs) : IdxR zs x w (.returned (.int .i64 (-1))) w := ⟨-1, rfl, by constructor <;> intro k <;> first | omega | exact absurd k h, rfl⟩
theorem not_take {zs : List Int} {x z : Int} {k : Nat} (h : x ∉ zs.take k) (hz : zs[k]? = some z) (hne : x ≠ z) : x ∉ zs.take (k + 1) := by
  rw [List.take_add_one, hz]; simp [h, hne]
set_option maxHeartbeats 800000 in
theorem index_side (a : Option Addr) (n cap : Nat) (zs : List Int) (x : Int) (w : World) (hl : zs.length = n) (hn : n ≤ 4194304) (hA : IsAt w a zs) :
    Calls Try.prog 132 #[.slice a n cap, .int .i64 x] w (IdxR zs x w) := by
  have HL := Lib.hid hl
  have HA := Lib.hid hA
  clear hl hA
  go_enter Try.func132, Try.ntmps132
  go_wp2
  go_loop [8] (fun i => ∃ k : Nat, k ≤ n ∧ i = .int .i64 k ∧ x ∉ zs.take k) (fun i => n - (intOf i).toNat)
  case atStart => exact ⟨0, Nat.zero_le _, rfl, by simp⟩
  case round =>
    obtain ⟨k, hk, rfl, ht⟩ := hrel
    have HT := Lib.hid ht
    clear ht
    by_cases hlt : k < n
    · obtain ⟨z, hz⟩ : ∃ z, zs[k]? = some z := ⟨_, List.getElem?_eq_getElem (by rw [HL.out]; exact hlt)⟩
      obtain ⟨g, o, rfl, hc⟩ := HA.out k _ hz
      have HZ := Lib.hid hz
      clear hz
      by_cases he : x = z
      · subst he
        go_wp2
        go_ret
        exact IdxR.yes k HZ.out
      · have hb := eq_b he
        have HN := Lib.hid (not_take HT.out HZ.out he)
        clear he
        go_wp2
        go_round
        case rel => exact ⟨k + 1, by omega, by go_num, HN.out⟩
        case measure => simp [intOf]; omega
    · have hkn : k = n := by omega
      subst hkn
      have HN := Lib.hid (show x ∉ zs by have := HT.out; rwa [List.take_of_length_le (by rw [HL.out]; omega)] at this)
      go_wp2
      go_ret
      exact IdxR.no HN.out
theorem has_side (a : Option Addr) (n cap : Nat) (zs : List Int) (x : Int) (w : World) (hl : zs.length = n) (hn : n ≤ 4194304) (hA : IsAt w a zs) :
    Calls Try.prog 111 #[.slice a n cap, .int .i64 x] w fun e w' => e = .returned (.bool (hasI zs x)) ∧ w = w' := by
  have HI := Lib.hid (index_side a n cap zs x w hl hn hA)
  clear hl hA
  go_enter Try.func111, Try.ntmps111
  go_wp2_with fail
  refine HI.out.mono ?_
  rintro e w1 ⟨r, rfl, hr, rfl⟩
  by_cases h : 0 ≤ r
  · have H := Lib.hid (show hasI zs x = true by unfold hasI; simpa using hr.1 h)
    clear hr
    go_wp2
    go_ret
    exact ⟨ret_bool (by rw [H.out]), rfl⟩
  · have H := Lib.hid (show hasI zs x = false by unfold hasI; simpa using fun k => h (hr.2 k))
    clear hr
    have hd : decide (0 ≤ r) = false := by simpa using h
    go_wp2
    go_ret
    exact ⟨ret_bool (by rw [H.out]), rfl⟩
theorem four_ {V X : World} {p q : Nat} {a b c d : Value} (h1 : Tri V p 0 a b c) (h2 : V.cell? ⟨q, 0, none⟩ = some d) (hb : Below V.heap.size V X) :
    X.cell? ⟨p, 0, none⟩ = some a ∧ X.cell? ⟨p, 1, none⟩ = some b ∧ X.cell? ⟨p, 2, none⟩ = some c ∧ X.cell? ⟨q, 0, none⟩ = some d := ⟨(h1.to hb).1, (h1.to hb).2.1, (h1.to hb).2.2, cell_to h2 hb⟩
theorem seven_ {V X : World} {p q g o : Nat} {a b c d x y z : Value} (h1 : Tri V p 0 a b c) (h2 : V.cell? ⟨q, 0, none⟩ = some d) (h3 : Tri V g o x y z) (hb : Below V.heap.size V X) :
    X.cell? ⟨p, 0, none⟩ = some a ∧ X.cell? ⟨p, 1, none⟩ = some b ∧ X.cell? ⟨p, 2, none⟩ = some c ∧ X.cell? ⟨q, 0, none⟩ = some d ∧ X.cell? ⟨g, o, none⟩ = some x ∧ X.cell? ⟨g, o + 1, none⟩ = some y ∧ X.cell? ⟨g, o + 2, none⟩ = some z := ⟨(h1.to hb).1, (h1.to hb).2.1, (h1.to hb).2.2, cell_to h2 hb, h3.to hb⟩
set_option maxHeartbeats 1600000 in
theorem closure_bef (p q n cp k : Nat) (ao : Option Addr) (ha hb hc xa xb xc : Int) (w : World) (hlt : k < n) (hh : okH ha hb hc = true) (hx : okH xa xb xc = true) (h1 : Tri w p 0 (.int .i64 ha) (.int .i64 hb) (.int .i64 hc)) (h2 : w.cell? ⟨q, 0, none⟩ = some (.slice ao n cp)) (g o : Nat) (e : ao = some ⟨g, o, none⟩) (h3 : Tri w g (o + k * 3) (.int .i64 xa) (.int .i64 xb) (.int .i64 xc)) :
    Calls Try.prog 134 #[.int .i64 k, .pointer (some ⟨p, 0, none⟩), .pointer (some ⟨q, 0, none⟩)] w fun e w' => e = .returned (.bool (befV ha hb xa xb)) ∧ Below w.heap.size w w' := by
  subst e
  have HB := Lib.hid (fun W => bef_call hh hx rfl W)
  generalize befV ha hb xa xb = r at *
  clear hh hx
  go_enter Try.func134, Try.ntmps134
  go_wp2
  obtain ⟨c1, c2, c3, c4, c5, c6, c7⟩ := seven_ h1 h2 h3 (Below.refl _ _)
  go_region_held3 (fun w' => w'.cell? ⟨p, 0, none⟩ = some (.int .i64 ha) ∧ w'.cell? ⟨p, 1, none⟩ = some (.int .i64 hb) ∧ w'.cell? ⟨p, 2, none⟩ = some (.int .i64 hc) ∧ w'.cell? ⟨q, 0, none⟩ = some (.slice (some ⟨g, o, none⟩) n cp) ∧ w'.cell? ⟨g, o + k * 3, none⟩ = some (.int .i64 xa) ∧ w'.cell? ⟨g, o + k * 3 + 1, none⟩ = some (.int .i64 xb) ∧ w'.cell? ⟨g, o + k * 3 + 2, none⟩ = some (.int .i64 xc))
    ((refine seven_ h1 h2 h3 ?_; repeat (first | exact Below.refl _ _ | refine below_drw ?_ | refine below_to ?_ (by assumption))))
    ((go_at_call 28; (with_reducible refine (HB.out _).mono ?_); rintro e w1 ⟨rfl, bl1⟩))
  all_goals
    go_wp2
    go_ret
    exact ⟨rfl, below_to (below_drw (Below.refl _ _)) bl1⟩
set_option maxHeartbeats 1600000 in
theorem search_bef (p q n cp : Nat) (ao : Option Addr) (KA KB : List H3) (ha hb hc : Int) (w : World) (hl : (KA ++ KB).length = n) (hn : n ≤ 1000) (hK : ∀ h ∈ KA ++ KB, okB h = true) (hh : okH ha hb hc = true)
    (hA : ∀ h ∈ KA, befV ha hb h.a h.b = false) (hB : ∀ h ∈ KB, befV ha hb h.a h.b = true) (h1 : Tri w p 0 (.int .i64 ha) (.int .i64 hb) (.int .i64 hc)) (h2 : w.cell? ⟨q, 0, none⟩ = some (.slice ao n cp)) (h3 : HsAt w ao (KA ++ KB)) :
    Calls Try.prog 133 #[.int .i64 n, .func (.func 134) #[] #[.pointer (some ⟨p, 0, none⟩), .pointer (some ⟨q, 0, none⟩)]] w fun e w' => e = .returned (.int .i64 KA.length) ∧ Below w.heap.size w w' := by
  have HC := Lib.hid (show ∀ (k : Nat) (W : World), k < n → Below w.heap.size w W → ∃ r, (r = true ↔ KA.length ≤ k) ∧ Calls Try.prog 134 #[.int .i64 k, .pointer (some ⟨p, 0, none⟩), .pointer (some ⟨q, 0, none⟩)] W fun e w' => e = .returned (.bool r) ∧ Below W.heap.size W w' from by
    intro k W hk hb'
    obtain ⟨x, hx⟩ : ∃ x, (KA ++ KB)[k]? = some x := ⟨_, List.getElem?_eq_getElem (by rw [hl]; exact hk)⟩
    obtain ⟨g, o, e, h3'⟩ := h3 k x hx
    refine ⟨_, ?_, closure_bef p q n cp k ao ha hb hc x.a x.b x.c W hk hh (hK x (List.mem_of_getElem? hx)) (h1.to hb') (cell_to h2 hb') g o e (h3'.to hb')⟩
    rcases Nat.lt_or_ge k KA.length with h | h
    · rw [List.getElem?_append_left h] at hx
      rw [hA x (List.mem_of_getElem? hx)]
      simp; omega
    · rw [List.getElem?_append_right h] at hx
      rw [hB x (List.mem_of_getElem? hx)]
      simp; omega)
  have hle : KA.length ≤ n := by rw [← hl]; simp
  clear hl hK hh hA hB h1 h2 h3
  generalize KA.length = m at *
  go_enter Try.func133, Try.ntmps133
  go_wp2
  go_loopw [5, 6] (fun i j wr => ∃ a b : Nat, a ≤ m ∧ m ≤ b ∧ b ≤ n ∧ i = .int .i64 a ∧ j = .int .i64 b ∧ Below w.heap.size w wr) (fun i j _ => (intOf j).toNat - (intOf i).toNat)
  case atStart => exact ⟨0, n, Nat.zero_le _, hle, Nat.le_refl _, rfl, rfl, Below.refl _ _⟩
  case round =>
    obtain ⟨a, b, h1, h2, h3, rfl, rfl, hbel⟩ := hrel
    by_cases hlt : a < b
    · obtain ⟨c, hc⟩ : ∃ c : Nat, ((a : Int) + (b : Int)) / 2 = c := ⟨(a + b) / 2, by omega⟩
      obtain ⟨r, hr, hcall⟩ := HC.out c wr (by omega) hbel
      have hc1 : a ≤ c := by omega
      have hc2 : c < b := by omega
      have H1 := Lib.hid hcall
      have H2 := Lib.hid hr
      clear hcall hr
      go_wp2_with fail
      refine H1.out.mono ?_
      rintro e w1 ⟨rfl, bl1⟩
      have b1 := below_to hbel bl1
      cases r with
      | true =>
        have h5 := H2.out.1 rfl
        clear hc H1 H2 bl1
        go_wp2
        go_roundw
        case rel => exact ⟨a, c, h1, h5, by omega, rfl, rfl, b1⟩
        case measure => simp [intOf]; omega
      | false =>
        have h5 : c < m := by
          rcases Nat.lt_or_ge c m with h | h
          · exact h
          · exact absurd (H2.out.2 h) (by simp)
        clear hc H1 H2 bl1
        go_wp2
        go_roundw
        case rel => exact ⟨c + 1, b, by omega, h2, h3, by go_num, rfl, b1⟩
        case measure => simp [intOf]; omega
    · have : a = m := by omega
      subst this
      go_wp2
      go_ret
      exact ⟨rfl, hbel⟩
end Go.Proofs.Ytobmaajfdpcfmaa
