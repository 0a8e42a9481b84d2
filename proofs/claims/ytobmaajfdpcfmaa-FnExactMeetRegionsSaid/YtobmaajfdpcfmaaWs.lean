/- The contracts of both WholeSpots functions over the translation, and the walk of their law. -/
import Derived.Test.YtobmaajfdpcfmaaBx
namespace Go.Proofs.Ytobmaajfdpcfmaa
open Go.RowKit
open Geo (H3)

/-- one half plane limits a column -/
def colS (x : Int) (s : Int × Int) (h : H3) : Int × Int :=
  if 0 < h.b then (s.1, min s.2 ((h.c - h.a * x) / h.b)) else if h.b < 0 then (max s.1 (-((h.c - h.a * x) / (-h.b))), s.2) else if h.c - h.a * x < 0 then (s.1, s.1 - 1) else s
def colF (x : Int) (hs : List H3) : Int × Int := hs.foldl (colS x) (-1000, 1000)
def colOk (s : Int × Int) : Prop := -1000 ≤ s.1 ∧ s.1 ≤ 300000000 ∧ -300000000 ≤ s.2 ∧ s.2 ≤ 300000000
theorem mul_bnd {a x : Int} (h1 : -50000 ≤ a) (h2 : a ≤ 50000) (h3 : -1000 ≤ x) (h4 : x ≤ 1000) : -50000000 ≤ a * x ∧ a * x ≤ 50000000 := by
  rcases Int.le_total 0 x with h | h
  · have k1 : -50000 * x ≤ a * x := Int.mul_le_mul_of_nonneg_right h1 h
    have k2 : a * x ≤ 50000 * x := Int.mul_le_mul_of_nonneg_right h2 h
    omega
  · have k1 : a * x ≤ -50000 * x := Int.mul_le_mul_of_nonpos_right h1 h
    have k2 : 50000 * x ≤ a * x := Int.mul_le_mul_of_nonpos_right h2 h
    omega
theorem div_bnd {a b : Int} (hb : 0 < b) (h1 : -150000000 ≤ a) (h2 : a ≤ 150000000) : -150000000 ≤ a / b ∧ a / b ≤ 150000000 := by
  constructor
  · refine (Int.le_ediv_iff_mul_le hb).2 ?_
    have : -150000000 * b ≤ -150000000 * 1 := Int.mul_le_mul_of_nonpos_left (by omega) (by omega)
    omega
  · have : a / b < 150000001 := by
      refine (Int.ediv_lt_iff_lt_mul hb).2 ?_
      have : 150000001 * 1 ≤ 150000001 * b := Int.mul_le_mul_of_nonneg_left (by omega) (by omega)
      omega
    omega
theorem okB_bnd {h : H3} (k : okB h = true) : -50000 ≤ h.a ∧ h.a ≤ 50000 ∧ -50000 ≤ h.b ∧ h.b ≤ 50000 ∧ -100000000 ≤ h.c ∧ h.c ≤ 100000000 := by
  obtain ⟨h1, h2, h3, h4, _, h6, h7, _⟩ := (okH_iff _ _ _).1 k
  exact ⟨h1, h2, h3, h4, h6, h7⟩
theorem colS_ok {x : Int} {s : Int × Int} {h : H3} (hx : -1000 ≤ x) (hx2 : x ≤ 1000) (hs : colOk s) (k : okB h = true) : colOk (colS x s h) := by
  obtain ⟨h1, h2, h3, h4, h5, h6⟩ := okB_bnd k
  obtain ⟨m1, m2⟩ := mul_bnd h1 h2 hx hx2
  obtain ⟨s1, s2, s3, s4⟩ := hs
  unfold colS
  split
  · rename_i hb
    have := div_bnd (a := h.c - h.a * x) hb (by omega) (by omega)
    refine ⟨s1, s2, ?_, ?_⟩ <;> simp only <;> omega
  · split
    · rename_i hb
      have := div_bnd (a := h.c - h.a * x) (b := -h.b) (by omega) (by omega) (by omega)
      refine ⟨?_, ?_, s3, s4⟩ <;> simp only <;> omega
    · split
      · refine ⟨s1, s2, ?_, ?_⟩ <;> simp only <;> omega
      · exact ⟨s1, s2, s3, s4⟩
theorem colF_ok {x : Int} {hs : List H3} (hx : -1000 ≤ x) (hx2 : x ≤ 1000) (k : ∀ h ∈ hs, okB h = true) : colOk (colF x hs) := by
  have : ∀ (l : List H3) (s : Int × Int), (∀ h ∈ l, okB h = true) → colOk s → colOk (l.foldl (colS x) s) := by
    intro l
    induction l with
    | nil => intro s _ h; exact h
    | cons a l ih => intro s hl h; exact ih _ (fun z hz => hl z (List.mem_cons_of_mem _ hz)) (colS_ok hx hx2 h (hl a (List.mem_cons_self ..)))
  exact this hs _ k ⟨by simp, by simp, by simp, by simp⟩
theorem colF_next {x : Int} {hs : List H3} {k : Nat} {z : H3} (h : hs[k]? = some z) : colF x (hs.take (k + 1)) = colS x (colF x (hs.take k)) z := by
  unfold colF
  rw [List.take_add_one, h]; simp
def cntF (hs : List H3) : Nat → Int
  | 0 => 0
  | k + 1 => cntF hs k + max ((colF (-1000 + k) hs).2 - (colF (-1000 + k) hs).1 + 1) 0
theorem cntF_bnd {hs : List H3} (h : ∀ h ∈ hs, okB h = true) (k : Nat) (hk : k ≤ 2001) : 0 ≤ cntF hs k ∧ cntF hs k ≤ 400000000 * k := by
  induction k with
  | zero => simp [cntF]
  | succ k ih =>
    have := ih (by omega)
    obtain ⟨a, b, c, d⟩ := colF_ok (x := -1000 + k) (by omega) (by omega) h
    unfold cntF
    omega
theorem col_pos {x lo hi : Int} {z : H3} (h : 0 < z.b) : colS x (lo, hi) z = (lo, min hi ((z.c - z.a * x) / z.b)) := if_pos h
theorem col_neg {x lo hi : Int} {z : H3} (h : z.b < 0) : colS x (lo, hi) z = (max lo (-((z.c - z.a * x) / (-z.b))), hi) := by unfold colS; rw [if_neg (by omega), if_pos h]
theorem col_out {x lo hi : Int} {z : H3} (h : z.b = 0) (k : z.c - z.a * x < 0) : colS x (lo, hi) z = (lo, lo - 1) := by unfold colS; rw [if_neg (by omega), if_neg (by omega), if_pos k]
theorem col_in {x lo hi : Int} {z : H3} (h : z.b = 0) (k : ¬ z.c - z.a * x < 0) : colS x (lo, hi) z = (lo, hi) := by unfold colS; rw [if_neg (by omega), if_neg (by omega), if_neg k]
theorem min_if (a b : Int) : min a b = if b < a then b else a := by split <;> omega
theorem max_if (a b : Int) : max a b = if a < b then b else a := by split <;> omega
set_option maxRecDepth 100000 in
set_option maxHeartbeats 3200000 in
theorem impl_col (a : Option Addr) (n cap : Nat) (hs : List H3) (x : Int) (w : World) (hl : hs.length = n) (hn : n ≤ 1048576) (hx : -1000 ≤ x) (hx2 : x ≤ 1000) (hok : ∀ h ∈ hs, okB h = true) (hA : HsAt w a hs) :
    Calls Try.prog 80 #[.agg #[.slice a n cap], .int .i64 x] w fun e w' => e = .returned (.tuple #[.int .i64 (colF x hs).1, .int .i64 (colF x hs).2]) ∧ Below w.heap.size w w' := by
  have bV := below_one w (.cells #[.slice a n cap] 26)
  have q2 : (w.alloc (.cells #[.slice a n cap] 26)).cell? ⟨w.heap.size, 0, none⟩ = some (.slice a n cap) := by simp
  have HL := Lib.hid hl
  have HA := Lib.hid hA
  have HO := Lib.hid hok
  clear hl hA hok
  go_enter Try.func80, Try.ntmps80
  go_wp2
  generalize w.alloc (.cells #[.slice a n cap] 26) = V at *
  go_loopw [6, 7, 14] (fun l h i wr => ∃ (k : Nat) (lo hi : Int), k ≤ n ∧ i = .int .i64 k ∧ l = .int .i64 lo ∧ h = .int .i64 hi ∧ colF x (hs.take k) = (lo, hi) ∧ Below V.heap.size V wr) (fun _ _ i _ => n - (intOf i).toNat)
  case atStart => exact ⟨0, -1000, 1000, Nat.zero_le _, rfl, rfl, rfl, by simp [colF], Below.refl _ _⟩
  case round =>
    obtain ⟨k, lo, hi, hk, rfl, rfl, rfl, ht, hbel⟩ := hrel
    have HT := Lib.hid ht
    have hbw := below_to bV hbel
    obtain ⟨c1, c2, c3, c4⟩ := (show colOk (lo, hi) by rw [← ht]; exact colF_ok hx hx2 fun z hz => HO.out z (List.mem_of_mem_take hz))
    simp only at c1 c2 c3 c4
    clear ht
    by_cases hlt : k < n
    · obtain ⟨⟨za, zb, zc⟩, hz⟩ : ∃ z, hs[k]? = some z := ⟨_, List.getElem?_eq_getElem (by rw [HL.out]; exact hlt)⟩
      obtain ⟨g, o, rfl, hc⟩ := HA.out k _ hz
      obtain ⟨t1, t2, t3⟩ := hc.to hbw
      have l1 := block_lt_of_cell t1
      obtain ⟨h1, h2, h3, h4, h5, h6⟩ := okB_bnd (HO.out _ (List.mem_of_getElem? hz))
      simp only at t1 t2 t3 l1 h1 h2 h3 h4 h5 h6
      obtain ⟨m1, m2⟩ := mul_bnd h1 h2 hx hx2
      have HX := Lib.hid (show colF x (hs.take (k + 1)) = colS x (lo, hi) ⟨za, zb, zc⟩ by rw [colF_next hz, HT.out])
      clear hz hc
      have bN := hbel.trans ((below_one wr (.cells #[.int .i64 za, .int .i64 zb, .int .i64 zc] 34)).mono hbel.size)
      by_cases p : 0 < zb
      · have HY := Lib.hid (HX.out.trans (col_pos p))
        have HF := Lib.hid (fun W => whole (zc - za * x) zb W p (by omega) (by omega) (by omega))
        obtain ⟨d1, d2⟩ := div_bnd (a := zc - za * x) p (by omega) (by omega)
        go_wp2_with (go_at_call 89; (with_reducible refine (HF.out _).mono ?_); rintro e w3 ⟨rfl, rfl⟩)
        go_roundw
        case rel => exact ⟨k + 1, _, _, by omega, by go_num, rfl, rfl, HY.out.trans (congrArg (Prod.mk lo) (min_if _ _)), hbel.trans ((below_bx2 (below_one _ _) _).mono hbel.size)⟩
        case measure => simp [intOf]; omega
      · by_cases q : zb < 0
        · have HY := Lib.hid (HX.out.trans (col_neg q))
          have HF := Lib.hid (fun W => whole (zc - za * x) (-zb) W (by omega) (by omega) (by omega) (by omega))
          obtain ⟨d1, d2⟩ := div_bnd (a := zc - za * x) (b := -zb) (by omega) (by omega) (by omega)
          generalize (zc - za * x) / (-zb) = u at HY HF d1 d2
          go_wp2_with (go_at_call 89; (with_reducible refine (HF.out _).mono ?_); rintro e w3 ⟨rfl, rfl⟩)
          go_roundw
          case rel => exact ⟨k + 1, _, _, by omega, by go_num, rfl, rfl, HY.out.trans (congrArg (fun t => (t, hi)) (max_if _ _)), hbel.trans ((below_bx2 (below_one _ _) _).mono hbel.size)⟩
          case measure => simp [intOf]; omega
        · have z0 : zb = 0 := by omega
          subst z0
          by_cases r : zc - za * x < 0
          · have HY := Lib.hid (HX.out.trans (col_out rfl r))
            go_wp2
            go_roundw
            case rel => exact ⟨k + 1, _, _, by omega, by go_num, rfl, rfl, HY.out, bN⟩
            case measure => simp [intOf]; omega
          · have HY := Lib.hid (HX.out.trans (col_in rfl r))
            go_wp2
            go_roundw
            case rel => exact ⟨k + 1, _, _, by omega, by go_num, rfl, rfl, HY.out, bN⟩
            case measure => simp [intOf]; omega
    · obtain rfl : k = n := by omega
      have HY := Lib.hid (show colF x hs = (lo, hi) by have := HT.out; rwa [List.take_of_length_le (by rw [HL.out]; omega)] at this)
      go_wp2
      exact bodyPost_ret (v := .tuple #[.int .i64 lo, .int .i64 hi]) (by simp [results, Try.results80, go_sem]) rfl ⟨by rw [HY.out], hbw⟩
/-- the answer -/
def whoN (hs : List H3) : Int := if rokB hs = true ∧ hs ≠ [] then cntF hs 2001 else 0
theorem who_nil {hs : List H3} {n : Nat} (hl : hs.length = n) (h : n = 0) : whoN hs = 0 := by
  have : hs = [] := List.eq_nil_of_length_eq_zero (by omega)
  unfold whoN; simp [this]
theorem who_rok {hs : List H3} (h : rokB hs = false) : whoN hs = 0 := by unfold whoN; simp [h]
theorem who_pos {hs : List H3} {n : Nat} (hl : hs.length = n) (h : n ≠ 0) (r : rokB hs = true) : whoN hs = cntF hs 2001 := by
  have : hs ≠ [] := by rintro rfl; simp at hl; omega
  unfold whoN; simp [r, this]
set_option maxRecDepth 100000 in
set_option maxHeartbeats 3200000 in
theorem impl_who (a : Option Addr) (n cap : Nat) (hs : List H3) (w : World) (hl : hs.length = n) (hn : n ≤ 1048576) (h64 : ∀ h ∈ hs, In64 h) (hA : HsAt w a hs) :
    Calls Try.prog 31 #[.agg #[.slice a n cap]] w fun e w' => e = .returned (.int .i64 (whoN hs)) ∧ Below w.heap.size w w' := by
  have bV := below_one w (.cells #[.slice a n cap] 26)
  have q2 : (w.alloc (.cells #[.slice a n cap] 26)).cell? ⟨w.heap.size, 0, none⟩ = some (.slice a n cap) := by simp
  have HV := Lib.hid (fun V => impl_void a n cap V)
  have HR := Lib.hid (fun V (h : Below w.heap.size w V) => impl_rok a n cap hs V hl hn h64 (hA.below h))
  have HC := Lib.hid (fun V x (h : Below w.heap.size w V) (r : rokB hs = true) (h1 : -1000 ≤ x) (h2 : x ≤ 1000) => impl_col a n cap hs x V hl hn h1 h2 (rok_all r) (hA.below h))
  have HL := Lib.hid hl
  clear hl hA h64 hn
  go_enter Try.func31, Try.ntmps31
  go_wp2_with fail
  generalize w.alloc (.cells #[.slice a n cap] 26) = V at *
  refine (HV.out _).mono ?_
  rintro e w1 ⟨rfl, bl1⟩
  have b1 := below_to bV bl1
  have q3 := cell_to q2 bl1
  clear bl1 bV q2
  by_cases h0 : n = 0
  · have HY := Lib.hid (who_nil HL.out h0)
    subst h0
    go_wp2
    go_ret
    exact ⟨ret_int HY.out.symm, b1⟩
  · have hb : ((n : Int) == 0) = false := eq_b (by omega)
    go_wp2_with fail
    refine (HR.out _ b1).mono ?_
    rintro e w2 ⟨rfl, bl2⟩
    have b2 := below_to b1 bl2
    have q4 := cell_to q3 bl2
    clear bl2 b1 q3
    cases hr : rokB hs with
    | false =>
      have HY := Lib.hid (who_rok hr)
      clear hr
      go_wp2
      go_ret
      exact ⟨ret_int HY.out.symm, b2⟩
    | true =>
      have HQ := Lib.hid hr
      have HY := Lib.hid (who_pos HL.out h0 hr)
      clear hr h0
      go_wp2
      go_loopw [3, 4] (fun c x wr => ∃ k : Nat, k ≤ 2001 ∧ x = .int .i64 (-1000 + k) ∧ c = .int .i64 (cntF hs k) ∧ Below w2.heap.size w2 wr) (fun _ x _ => (1001 - intOf x).toNat)
      case atStart => exact ⟨0, by omega, rfl, rfl, Below.refl _ _⟩
      case round =>
        obtain ⟨k, hk, rfl, rfl, hbel⟩ := hrel
        have hbw := below_to b2 hbel
        have p4 := cell_to q4 hbel
        obtain ⟨n1, n2⟩ := cntF_bnd (rok_all HQ.out) k hk
        by_cases hlt : k < 2001
        · have HD := Lib.hid (fun V (h : Below w.heap.size w V) => HC.out V (-1000 + k) h HQ.out (by omega) (by omega))
          obtain ⟨c1, c2, c3, c4⟩ := colF_ok (x := -1000 + k) (by omega) (by omega) (rok_all HQ.out)
          have HX := Lib.hid (show cntF hs (k + 1) = cntF hs k + max ((colF (-1000 + k) hs).2 - (colF (-1000 + k) hs).1 + 1) 0 from rfl)
          generalize (colF (-1000 + (k : Int)) hs).1 = lo at *
          generalize (colF (-1000 + (k : Int)) hs).2 = hi at *
          generalize cntF hs k = c at *
          clear HC
          go_wp2_with (go_at_call 80; (with_reducible refine (HD.out _ hbw).mono ?_); rintro e w3 ⟨rfl, bl3⟩)
          go_roundw
          case rel => exact ⟨k + 1, by omega, by go_num, by rw [HX.out, max_if], hbel.trans (bl3.mono hbel.size)⟩
          case measure => simp [intOf]; omega
        · obtain rfl : k = 2001 := by omega
          go_wp2
          go_ret
          exact ⟨ret_int HY.out.symm, hbw⟩
end Go.Proofs.Ytobmaajfdpcfmaa
