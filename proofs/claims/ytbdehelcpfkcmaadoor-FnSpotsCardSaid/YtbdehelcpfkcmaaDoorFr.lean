/- The contracts of both FormatRatio functions over the translation, and the walk of their law. -/
import Derived.Test.YtbdehelcpfkcmaaDoorOk
import Derived.Test.YtbdehelcpfkcmaaDoorFmt2
import Derived.Test.YtbdehelcpfkcmaaDoorPad2
import Derived.Deep.RegionHeld3
import Derived.Deep.RegionWith
namespace Go.Proofs.YtbdehelcpfkcmaaDoor
open Go.RowKit

/-- the text of a fraction -/
def fmtR (n d : Int) : List UInt8 := if okR n d = true then (if d = 1 then Lib.itoa n else Lib.itoa n ++ (47 :: Lib.itoa d)) else []
theorem fmtR_no {n d : Int} (h : okR n d = false) : fmtR n d = [] := if_neg (by rw [h]; simp)
theorem fmtR_one {n d : Int} (h : okR n d = true) (h1 : d = 1) : fmtR n d = Lib.itoa n := by unfold fmtR; rw [if_pos h, if_pos h1]
theorem fmtR_two {n d : Int} (h : okR n d = true) (h1 : ¬ d = 1) : fmtR n d = Lib.itoa n ++ (47 :: Lib.itoa d) := by unfold fmtR; rw [if_pos h, if_neg h1]
theorem below_trn {V W X : World} (h : Below V.heap.size V W) (k : Below W.heap.size W X) : Below V.heap.size V X := h.trans (k.mono h.size)
theorem two {V X : World} {g : Nat} {a b : Value} (hb : Below V.heap.size V X) (p0 : V.cell? ⟨g, 0, none⟩ = some a) (p1 : V.cell? ⟨g, 1, none⟩ = some b) :
    X.cell? ⟨g, 0, none⟩ = some a ∧ X.cell? ⟨g, 1, none⟩ = some b :=
  ⟨by rw [hb.cell (block_lt_of_cell p0)]; exact p0, by rw [hb.cell (block_lt_of_cell p1)]; exact p1⟩
theorem below_bx {w w' : World} (h : Below w.heap.size w w') (o : Obj) : Below w.heap.size w (w'.alloc o) := h.trans ((below_box w' o).mono h.size)
theorem bcl {W w1 : World} (hb : Below W.heap.size W w1) : (∀ b o, b < W.heap.size → w1.cell? ⟨b, o, none⟩ = W.cell? ⟨b, o, none⟩) ∧ (∀ b o, b < W.heap.size → w1.frozen? ⟨b, o, none⟩ = W.frozen? ⟨b, o, none⟩) :=
  ⟨fun b o h => hb.cell (p := ⟨b, o, none⟩) h, fun b o h => hb.frozen (p := ⟨b, o, none⟩) h⟩
theorem slash_join (a b : List UInt8) : (str a ++ ⟨#[47]⟩) ++ str b = str (a ++ (47 :: b)) := by
  apply ByteArray.ext; simp [str]
theorem below_drw {w w' : World} (h : Below w.heap.size w w') : Below w.heap.size w w'.drew := below_drew h 1

set_option maxHeartbeats 1600000 in
theorem spec_fr (n d : Int) (w : World) (hn : -9223372036854775808 ≤ n) (hn2 : n ≤ 9223372036854775807) (hd : -9223372036854775808 ≤ d) (hd2 : d ≤ 9223372036854775807) :
    Calls Tryd.prog 34 #[.agg #[.int .i64 n, .int .i64 d]] w fun e w' => e = .returned (.string (str (fmtR n d))) ∧ Below w.heap.size w w' := by
  have hb := below_box w (.cells #[.int .i64 n, .int .i64 d] 49)
  cases h : okR n d with
  | false =>
    rw [fmtR_no h]
    have HO := Lib.hid h
    clear h
    go_enter Tryd.func34, Tryd.ntmps34
    go_wp2_with fail
    refine (spec_ok n d _ hn hn2 hd hd2).mono ?_
    rw [HO.out]
    rintro e w1 ⟨rfl, hb1⟩
    go_wp2_with fail
    go_ret
    exact ⟨rfl, below_trn hb hb1⟩
  | true =>
    have HO := Lib.hid h
    by_cases h1 : d = 1
    · rw [fmtR_one h h1]
      have h1b : (d == 1) = true := by simpa using h1
      have HX := Lib.hid (spec_fmt n · hn hn2)
      generalize str (Lib.itoa n) = x at *
      clear h h1
      go_enter Tryd.func34, Tryd.ntmps34
      go_wp2_with fail
      refine (spec_ok n d _ hn hn2 hd hd2).mono ?_
      rw [HO.out]
      rintro e w1 ⟨rfl, hb1⟩
      obtain ⟨c0, c1, hz⟩ := boxed hb1
      go_wp2_with fail
      refine (HX.out _).mono ?_
      rintro e w2 ⟨rfl, hb2⟩
      go_wp2_with fail
      go_ret
      exact ⟨rfl, below_trn (below_trn hb hb1) hb2⟩
    · rw [fmtR_two h h1, ← slash_join]
      have h1b : (d == 1) = false := by simpa using h1
      clear h h1
      have hx1 : (str (Lib.itoa n)).size ≤ 21 := by rw [str_size]; exact itoa_len n hn hn2
      have hx2 : (str (Lib.itoa d)).size ≤ 21 := by rw [str_size]; exact itoa_len d hd hd2
      have HX := Lib.hid (fun m W h0 h1 => spec_fmt m W h0 h1)
      generalize hT : (fun m => str (Lib.itoa m)) = T at *
      rw [show str (Lib.itoa n) = T n by rw [← hT]] at hx1 ⊢
      rw [show str (Lib.itoa d) = T d by rw [← hT]] at hx2 ⊢
      have HT := Lib.hid (fun m => show str (Lib.itoa m) = T m by rw [← hT])
      clear hT
      have k1 : ∀ W, (Op.stringOp .add (T n) ⟨#[47]⟩).run Tryd.prog W = .ok (.string (T n ++ ⟨#[47]⟩)) W := fun W => run_string_add_sum W _ _ (by rw [show (⟨#[47]⟩ : ByteArray).size = 1 from rfl]; omega)
      have k2 : ∀ W, (Op.stringOp .add (T n ++ ⟨#[47]⟩) (T d)).run Tryd.prog W = .ok (.string ((T n ++ ⟨#[47]⟩) ++ T d)) W := fun W => run_string_add_sum W _ _ (by rw [ByteArray.size_append, show (⟨#[47]⟩ : ByteArray).size = 1 from rfl]; omega)
      clear hx1 hx2
      go_enter Tryd.func34, Tryd.ntmps34
      go_wp2_with fail
      refine (spec_ok n d _ hn hn2 hd hd2).mono ?_
      rw [HO.out]
      rintro e w1 ⟨rfl, hb1⟩
      obtain ⟨p0, p1, hz⟩ := boxed hb1
      have hw1 := below_trn hb hb1
      clear hb hb1
      go_wp2_with fail
      go_region_held3 (fun w' => w'.cell? ⟨w.heap.size, 0, none⟩ = some (.int .i64 n) ∧ w'.cell? ⟨w.heap.size, 1, none⟩ = some (.int .i64 d)) ((refine two ?_ p0 p1; repeat (first | exact Below.refl _ _ | refine below_drw ?_ | refine below_trn ?_ (by assumption))))
        (first | (go_at_call 50; refine (HX.out _ _ (by assumption) (by assumption)).mono ?_; rw [HT.out]; rintro e w2 ⟨rfl, bl2⟩))
      all_goals
        go_wp2_with fail
        go_ret
        refine ⟨rfl, below_trn hw1 ?_⟩
        repeat (first | exact Below.refl _ _ | refine below_drw ?_ | refine below_trn ?_ (by assumption))

theorem join_sl (a b : ByteArray) : (⟨(Lib.join ([a, b].map (·.data.toList)) (⟨#[47]⟩ : ByteArray).data.toList).toArray⟩ : ByteArray) = (a ++ ⟨#[47]⟩) ++ b := by
  apply ByteArray.ext; apply Array.ext'
  simp [Lib.join, List.intercalate]
theorem join_sl_len (a b : ByteArray) : (Lib.join ([a, b].map (·.data.toList)) (⟨#[47]⟩ : ByteArray).data.toList).length = a.size + (1 + b.size) := by
  simp [Lib.join, List.intercalate]; omega
theorem join_slash (a b : ByteArray) (W : World) (ha : a.size ≤ 21) (hb : b.size ≤ 21) :
    Calls Tryd.prog 27 #[.string ⟨#[47]⟩, .slice (some ⟨W.heap.size, 0, none⟩) 2 2] (W.alloc (.cells #[.string a, .string b] 9)) fun e w' => e = .returned (.string ((a ++ ⟨#[47]⟩) ++ b)) ∧ Below (W.alloc (.cells #[.string a, .string b] 9)).heap.size (W.alloc (.cells #[.string a, .string b] 9)) w' := by
  have h := join_parts W.heap.size 0 2 [a, b] ⟨#[47]⟩ (W.alloc (.cells #[.string a, .string b] 9)) (cells_two W a b) (by simp) (by simp) (by simp) (by rw [join_sl_len]; omega)
  rw [join_sl a b] at h
  exact h

set_option maxHeartbeats 1600000 in
theorem impl_fr (n d : Int) (w : World) (hn : -9223372036854775808 ≤ n) (hn2 : n ≤ 9223372036854775807) (hd : -9223372036854775808 ≤ d) (hd2 : d ≤ 9223372036854775807) (htab : Lib.TabIs Tryd.prog w "internal/strconv.uint64pow10" .u64 Lib.pow10Tab) :
    Calls Tryd.prog 28 #[.agg #[.int .i64 n, .int .i64 d]] w fun e w' => e = .returned (.string (str (fmtR n d))) ∧ Below w.heap.size w w' := by
  have hb := below_box w (.cells #[.int .i64 n, .int .i64 d] 49)
  have HA := Lib.hid htab
  clear htab
  cases h : okR n d with
  | false =>
    rw [fmtR_no h]
    have HO := Lib.hid h
    clear h
    go_enter Tryd.func28, Tryd.ntmps28
    go_wp2_with fail
    refine (impl_ok n d _ hn hn2 hd hd2).mono ?_
    rw [HO.out]
    rintro e w1 ⟨rfl, hb1⟩
    go_wp2_with fail
    go_ret
    exact ⟨rfl, below_trn hb hb1⟩
  | true =>
    have HO := Lib.hid h
    by_cases h1 : d = 1
    · rw [fmtR_one h h1]
      have h1b : (d == 1) = true := by simpa using h1
      have HX := Lib.hid (fun W => impl_fmt n W hn hn2)
      generalize str (Lib.itoa n) = x at *
      clear h h1
      go_enter Tryd.func28, Tryd.ntmps28
      go_wp2_with fail
      refine (impl_ok n d _ hn hn2 hd hd2).mono ?_
      rw [HO.out]
      rintro e w1 ⟨rfl, hb1⟩
      obtain ⟨c0, c1, hz⟩ := boxed hb1
      have hw1 := below_trn hb hb1
      go_wp2_with fail
      refine (HX.out _ (tab_below HA.out hw1)).mono ?_
      rintro e w2 ⟨rfl, hb2⟩
      go_wp2_with fail
      go_ret
      exact ⟨rfl, below_trn hw1 hb2⟩
    · rw [fmtR_two h h1, ← slash_join]
      have h1b : (d == 1) = false := by simpa using h1
      clear h h1
      have hx1 : (str (Lib.itoa n)).size ≤ 21 := by rw [str_size]; exact itoa_len n hn hn2
      have hx2 : (str (Lib.itoa d)).size ≤ 21 := by rw [str_size]; exact itoa_len d hd hd2
      have HX := Lib.hid (fun m W h0 h1 ht => impl_fmt m W h0 h1 ht)
      generalize hT : (fun m => str (Lib.itoa m)) = T at *
      rw [show str (Lib.itoa n) = T n by rw [← hT]] at hx1 ⊢
      rw [show str (Lib.itoa d) = T d by rw [← hT]] at hx2 ⊢
      have HT := Lib.hid (fun m => show str (Lib.itoa m) = T m by rw [← hT])
      clear hT
      go_enter Tryd.func28, Tryd.ntmps28
      go_wp2_with fail
      refine (impl_ok n d _ hn hn2 hd hd2).mono ?_
      rw [HO.out]
      rintro e w1 ⟨rfl, hb1⟩
      obtain ⟨p0, p1, hz⟩ := boxed hb1
      have hw1 := below_trn hb hb1
      clear hb hb1
      go_wp2_with fail
      go_region_held3 (fun w' => w'.cell? ⟨w.heap.size, 0, none⟩ = some (.int .i64 n) ∧ w'.cell? ⟨w.heap.size, 1, none⟩ = some (.int .i64 d)) ((refine two ?_ p0 p1; repeat (first | exact Below.refl _ _ | refine below_drw ?_ | refine below_bx ?_ _ | refine below_trn ?_ (by assumption))))
        (first | (go_at_call 48; refine (HX.out _ _ (by assumption) (by assumption) (tab_below HA.out (by repeat (first | exact hw1 | refine below_drw ?_ | refine below_trn ?_ (by assumption))))).mono ?_; rw [HT.out]; rintro e w2 ⟨rfl, bl2⟩) | (go_at_call 27; refine (join_slash _ _ _ hx1 hx2).mono ?_; rintro e w3 ⟨rfl, bl3⟩))
      all_goals
        go_wp2_with fail
        go_ret
        refine ⟨rfl, below_trn hw1 ?_⟩
        repeat (first | exact Below.refl _ _ | refine below_drw ?_ | refine below_bx ?_ _ | refine below_trn ?_ (by assumption))

end Go.Proofs.YtbdehelcpfkcmaaDoor
