/- The walk of the law FnWords. -/
import Derived.Test.YtmmblmgeapogdaaDoorMake
import Derived.Test.YtmmblmgeapogdaaDoorPar
import Derived.Test.YtmmblmgeapogdaaDoorJoin2
import Derived.Test.YtmmblmgeapogdaaDoorAny
import Derived.Test.YtmmblmgeapogdaaDoorNam2
namespace Go.Proofs.YtmmblmgeapogdaaDoor
open Go.RowKit

theorem join_snoc (sep : List UInt8) : ∀ (xs : List (List UInt8)) (y : List UInt8), Lib.join (xs ++ [y]) sep = (xs.map (· ++ sep)).flatten ++ y
  | [], y => by simp [Lib.join, List.intercalate]
  | x :: r, y => by
    have ih := join_snoc sep r y
    cases r with
    | nil => simp [Lib.join, List.intercalate]
    | cons z r' =>
      simp only [Lib.join, List.intercalate, List.cons_append, List.intersperse, List.flatten_cons, List.map_cons, List.append_assoc] at ih ⊢
      rw [ih]
/-- the blank -/
def sp1 : ByteArray := ⟨#[32]⟩
theorem hit_sp (c : UInt8) (h : hit sp1 c = true) : c = 32 := by
  unfold hit sp1 at h
  simpa using h
theorem sp_join (s : ByteArray) : ∀ k, k ≤ s.size → (((sp s sp1 k).1.map (·.data.toList)).map (· ++ [32])).flatten = s.data.toList.take (sp s sp1 k).2
  | 0, _ => by simp [sp]
  | k + 1, hk => by
    have ih := sp_join s k (by omega)
    have hl := (sp_len s sp1 k).2
    cases hh : hit sp1 s[k] with
    | false => rw [sp_miss s sp1 k (by omega) hh]; exact ih
    | true =>
      rw [sp_hit s sp1 k (by omega) hh]
      simp only [List.map_append, List.map_cons, List.map_nil, List.flatten_append, List.flatten_cons, List.flatten_nil, List.append_nil]
      rw [ih, Lib.extract_data, take_snoc s k (by omega), hit_sp _ hh]
      rw [← List.append_assoc]
      congr 1
      rw [← List.take_add]
      congr 1
      omega
theorem join_split (s : ByteArray) : jk sp1 (split s sp1) (split s sp1).length = s := by
  rw [← jk_all]
  apply ByteArray.ext; apply Array.ext'
  unfold split
  simp only [List.map_append, List.map_cons, List.map_nil]
  rw [join_snoc]
  have h := sp_join s s.size (Nat.le_refl _)
  have h2 : sp1.data.toList = [32] := rfl
  rw [h2, h, Lib.extract_data]
  have hl := (sp_len s sp1 s.size).2
  rw [List.take_of_length_le (l := List.drop _ _) (by simp), List.take_append_drop]
theorem tot_split (s : ByteArray) (h : s.size ≤ 100) : tot (split s sp1) ≤ 100000 := by
  have h1 : ∀ k, k ≤ s.size → tot (sp s sp1 k).1 ≤ k * 100 := by
    intro k
    induction k with
    | zero => intro _; simp [sp, tot]
    | succ k ih =>
      intro hk
      have ih := ih (by omega)
      cases hh : hit sp1 s[k] with
      | false => rw [sp_miss s sp1 k (by omega) hh]; omega
      | true =>
        rw [sp_hit s sp1 k (by omega) hh]
        simp only [tot, List.map_append, List.map_cons, List.map_nil, List.sum_append, List.sum_cons, List.sum_nil] at ih ⊢
        have : (s.extract (sp s sp1 k).2 k).size ≤ 100 := by simp; omega
        omega
  have h2 := h1 s.size (Nat.le_refl _)
  unfold split
  simp only [tot, List.map_append, List.map_cons, List.map_nil, List.sum_append, List.sum_cons, List.sum_nil] at h2 ⊢
  have : (s.extract (sp s sp1 s.size).2 s.size).size ≤ 100 := by simp; omega
  have h3 : s.size * 100 ≤ 100 * 100 := Nat.mul_le_mul_right _ h
  omega
theorem isName_x1 : nameB ⟨#[120, 49]⟩ = true := by decide
theorem lines_ab : (lines ⟨#[97, 10, 98, 10]⟩).length = 2 := by decide

set_option maxHeartbeats 1600000 in
theorem law_words (a : Option Addr) (len cap : Nat) (w : World) (hm : len ≤ maxLen) (hB : BytesAt w a len)
    (htab : Lib.TabIs Tryd.prog w "internal/strconv.uint64pow10" .u64 Lib.pow10Tab) (hsyn : ∃ tp p, w.var? Tryd.prog "strconv.ErrSyntax" = some #[.iface tp p]) (hran : ∃ tp p, w.var? Tryd.prog "strconv.ErrRange" = some #[.iface tp p]) :
    Calls Tryd.prog 3 #[.slice a len cap] w fun e w' => e = .returned (.bool true) ∧ Below w.heap.size w w' := by
  have HB := Lib.hid hB
  have HT := Lib.hid htab
  have HS := Lib.hid hsyn
  have HR := Lib.hid hran
  clear hB htab hsyn hran
  unfold maxLen at hm
  by_cases hb : (1048576 : Int) < (len : Int)
  · go_enter Tryd.func3, Tryd.ntmps3
    go_wp2_with fail
    go_ret
    exact ⟨rfl, Below.refl _ _⟩
  · have hl : len ≤ 1048576 := by omega
    go_enter Tryd.func3, Tryd.ntmps3
    go_wp2_with fail
    refine (make_num w a len cap 1 (by omega) hl HB.out).mono ?_
    rintro e w1 ⟨v, ⟨hv0, hv1⟩, rfl, hb1⟩
    go_wp2_with fail
    obtain ⟨n, hn⟩ : ∃ n, n = v - 30000 := ⟨_, rfl⟩
    rw [← hn]
    have hn0 : -30000 ≤ n := by omega
    have hn1 : n ≤ 40000 := by omega
    clear hn hv0 hv1
    have HT1 := Lib.hid (tab_below HT.out hb1)
    refine (impl_fmt n w1 (by omega) (by omega) HT1.out).mono ?_
    rintro e w2 ⟨rfl, hb2⟩
    have hb12 : Below w.heap.size w w2 := hb1.trans (hb2.mono hb1.size)
    go_wp2_with fail
    refine (impl_par (str (Lib.itoa n)) n true w2 (by rw [str_size]; have := itoa_len n (by omega) (by omega); omega) (.inl ⟨rfl, by omega, by omega, by simp [str]⟩) (tab_below HT.out hb12) (var_below (g := 0) HS.out hb12 (by kernel_rfl)) (var_below (g := 1) HR.out hb12 (by kernel_rfl))).mono ?_
    rintro e w3 ⟨rfl, hb3⟩
    have hb13 : Below w.heap.size w w3 := hb12.trans (hb3.mono hb12.size)
    generalize str (Lib.itoa n) = r
    go_wp2_with fail
    refine (make_text w3 a len cap hl (HB.out.below hb13)).mono ?_
    rintro e w4 ⟨s, hs, rfl, hb4⟩
    have hb14 : Below w.heap.size w w4 := hb13.trans (hb4.mono hb13.size)
    go_wp2_with fail
    refine (impl_split s sp1 w4 (by omega) (by decide)).mono ?_
    rintro e w5 ⟨v5, rfl, ho5, hb5⟩
    have HO := Lib.hid ho5
    have hlen := split_len s sp1
    have HJ := Lib.hid (join_split s)
    have htot := tot_split s hs
    clear ho5
    go_wp2_with fail
    refine (impl_join sp1 HO.out (by omega) (by decide) (by omega)).mono ?_
    rintro e w6 ⟨rfl, hb6⟩
    rw [HJ.out]
    clear hlen htot
    go_wp2_with fail
    refine (impl_name ⟨#[120, 49]⟩ w6).mono ?_
    rintro e w7 ⟨rfl, hb7⟩
    rw [isName_x1]
    go_wp2_with fail
    refine (impl_lines ⟨#[97, 10, 98, 10]⟩ w7 (by decide)).mono ?_
    rintro e w8 ⟨v8, rfl, ho8, hb8⟩
    rw [lines_ab] at ho8
    obtain ⟨a8, c8, rfl⟩ : ∃ a8 c8, v8 = .slice a8 2 c8 := by
      rcases ho8.2 with ⟨_, h2⟩ | ⟨g, c, _, hv, _⟩
      · omega
      · exact ⟨_, _, hv⟩
    clear ho8
    go_wp2_with fail
    go_ret
    have z14 := hb14.size
    have z5 := hb5.size
    have z6 := hb6.size
    have z7 := hb7.size
    exact ⟨rfl, (((hb14.trans (hb5.mono z14)).trans (hb6.mono (by omega))).trans (hb7.mono (by omega))).trans (hb8.mono (by omega))⟩
end Go.Proofs.YtmmblmgeapogdaaDoor
