/- The contracts of both WholeSpots functions over the translation, and the walk of their law. -/
import Derived.Test.YthpnbhebojgpbaaBx
namespace Go.Proofs.Ythpnbhebojgpbaa
open Go.RowKit
open Geo (H3)

/-- one half plane limits a column -/
def colS (x : Int) (s : Int × Int) (h : H3) : Int × Int :=
  if 0 < h.b then (s.1, min s.2 ((h.c - h.a * x) / h.b)) else if h.b < 0 then (max s.1 (-((h.c - h.a * x) / (-h.b))), s.2) else if h.c - h.a * x < 0 then (s.1, s.1 - 1) else s
def colF (x : Int) (hs : List H3) : Int × Int := hs.foldl (colS x) (-1000, 1000)
def colOk (s : Int × Int) : Prop := -1000 ≤ s.1 ∧ s.1 ≤ 300000000 ∧ -300000000 ≤ s.2 ∧ s.2 ≤ 300000000
theorem mul_bnd {a x : Int} (h1 : -50000 ≤ a) (h2 : a ≤ 50000) (h3 : -1000 ≤ x) (h4 : x ≤ 1000) : -50000000 ≤ a * x ∧ a * x ≤ 50000000 := by
  rcases Int.le_total 0 x with h | h
  · have k1 : -50000 * x ≤ a * x := Int.mul_le_mul_of_nonneg_right h1 h
    have k2 : a * x ≤ 50000 * x := Int.mul_le_mul_of_nonneg_right h2 h
    omega
  · have k1 : a * x ≤ -50000 * x := Int.mul_le_mul_of_nonpos_right h1 h
    have k2 : 50000 * x ≤ a * x := Int.mul_le_mul_of_nonpos_right h2 h
    omega
theorem div_bnd {a b : Int} (hb : 0 < b) (h1 : -150000000 ≤ a) (h2 : a ≤ 150000000) : -150000000 ≤ a / b ∧ a / b ≤ 150000000 := by
  constructor
  · refine (Int.le_ediv_iff_mul_le hb).2 ?_
    have : -150000000 * b ≤ -150000000 * 1 := Int.mul_le_mul_of_nonpos_left (by omega) (by omega)
    omega
  · have : a / b < 150000001 := by
      refine (Int.ediv_lt_iff_lt_mul hb).2 ?_
      have : 150000001 * 1 ≤ 150000001 * b := Int.mul_le_mul_of_nonneg_left (by omega) (by omega)
      omega
    omega
theorem okB_bnd {h : H3} (k : okB h = true) : -50000 ≤ h.a ∧ h.a ≤ 50000 ∧ -50000 ≤ h.b ∧ h.b ≤ 50000 ∧ -100000000 ≤ h.c ∧ h.c ≤ 100000000 := by
  obtain ⟨h1, h2, h3, h4, _, h6, h7, _⟩ := (okH_iff _ _ _).1 k
  exact ⟨h1, h2, h3, h4, h6, h7⟩
theorem colS_ok {x : Int} {s : Int × Int} {h : H3} (hx : -1000 ≤ x) (hx2 : x ≤ 1000) (hs : colOk s) (k : okB h = true) : colOk (colS x s h) := by
  obtain ⟨h1, h2, h3, h4, h5, h6⟩ := okB_bnd k
  obtain ⟨m1, m2⟩ := mul_bnd h1 h2 hx hx2
  obtain ⟨s1, s2, s3, s4⟩ := hs
  unfold colS
  split
  · rename_i hb
    have := div_bnd (a := h.c - h.a * x) hb (by omega) (by omega)
    refine ⟨s1, s2, ?_, ?_⟩ <;> simp only <;> omega
  · split
    · rename_i hb
      have := div_bnd (a := h.c - h.a * x) (b := -h.b) (by omega) (by omega) (by omega)
      refine ⟨?_, ?_, s3, s4⟩ <;> simp only <;> omega
    · split
      · refine ⟨s1, s2, ?_, ?_⟩ <;> simp only <;> omega
      · exact ⟨s1, s2, s3, s4⟩
theorem colF_ok {x : Int} {hs : List H3} (hx : -1000 ≤ x) (hx2 : x ≤ 1000) (k : ∀ h ∈ hs, okB h = true) : colOk (colF x hs) := by
  have : ∀ (l : List H3) (s : Int × Int), (∀ h ∈ l, okB h = true) → colOk s → colOk (l.foldl (colS x) s) := by
    intro l
    induction l with
    | nil => intro s _ h; exact h
    | cons a l ih => intro s hl h; exact ih _ (fun z hz => hl z (List.mem_cons_of_mem _ hz)) (colS_ok hx hx2 h (hl a (List.mem_cons_self ..)))
  exact this hs _ k ⟨by simp, by simp, by simp, by simp⟩
theorem colF_next {x : Int} {hs : List H3} {k : Nat} {z : H3} (h : hs[k]? = some z) : colF x (hs.take (k + 1)) = colS x (colF x (hs.take k)) z := by
  unfold colF
  rw [List.take_add_one, h]; simp
def cntF (hs : List H3) : Nat → Int
  | 0 => 0
  | k + 1 => cntF hs k + max ((colF (-1000 + k) hs).2 - (colF (-1000 + k) hs).1 + 1) 0
theorem cntF_bnd {hs : List H3} (h : ∀ h ∈ hs, okB h = true) (k : Nat) (hk : k ≤ 2001) : 0 ≤ cntF hs k ∧ cntF hs k ≤ 400000000 * k := by
  induction k with
  | zero => simp [cntF]
  | succ k ih =>
    have := ih (by omega)
    obtain ⟨a, b, c, d⟩ := colF_ok (x := -1000 + k) (by omega) (by omega) h
    unfold cntF
    omega
theorem col_pos {x lo hi : Int} {z : H3} (h : 0 < z.b) : colS x (lo, hi) z = (lo, min hi ((z.c - z.a * x) / z.b)) := if_pos h
theorem col_neg {x lo hi : Int} {z : H3} (h : z.b < 0) : colS x (lo, hi) z = (max lo (-((z.c - z.a * x) / (-z.b))), hi) := by unfold colS; rw [if_neg (by omega), if_pos h]
theorem col_out {x lo hi : Int} {z : H3} (h : z.b = 0) (k : z.c - z.a * x < 0) : colS x (lo, hi) z = (lo, lo - 1) := by unfold colS; rw [if_neg (by omega), if_neg (by omega), if_pos k]
theorem col_in {x lo hi : Int} {z : H3} (h : z.b = 0) (k : ¬ z.c - z.a * x < 0) : colS x (lo, hi) z = (lo, hi) := by unfold colS; rw [if_neg (by omega), if_neg (by omega), if_neg k]
theorem min_if (a b : Int) : min a b = if b < a then b else a := by split <;> omega
theorem max_if (a b : Int) : max a b = if a < b then b else a := by split <;> omega
set_option maxRecDepth 100000 in
set_option maxHeartbeats 3200000 in
theorem impl_col (a : Option Addr) (n cap : Nat) (hs : List H3) (x : Int) (w : World) (hl : hs.length = n) (hn : n ≤ 1048576) (hx : -1000 ≤ x) (hx2 : x ≤ 1000) (hok : ∀ h ∈ hs, okB h = true) (hA : HsAt w a hs) :
    Calls Try.prog 74 #[.agg #[.slice a n cap], .int .i64 x] w fun e w' => e = .returned (.tuple #[.int .i64 (colF x hs).1, .int .i64 (colF x hs).2]) ∧ Below w.heap.size w w' := by
  have bV := below_one w (.cells #[.slice a n cap] 26)
  have q2 : (w.alloc (.cells #[.slice a n cap] 26)).cell? ⟨w.heap.size, 0, none⟩ = some (.slice a n cap) := by simp
  have HL := Lib.hid hl
  have HA := Lib.hid hA
  have HO := Lib.hid hok
  clear hl hA hok
  go_enter Try.func74, Try.ntmps74
  go_wp2
  generalize w.alloc (.cells #[.slice a n cap] 26) = V at *
  go_loopw [6, 7, 14] (fun l h i wr => ∃ (k : Nat) (lo hi : Int), k ≤ n ∧ i = .int .i64 k ∧ l = .int .i64 lo ∧ h = .int .i64 hi ∧ colF x (hs.take k) = (lo, hi) ∧ Below V.heap.size V wr) (fun _ _ i _ => n - (intOf i).toNat)
  case atStart => exact ⟨0, -1000, 1000, Nat.zero_le _, rfl, rfl, rfl, by simp [colF], Below.refl _ _⟩
  case round =>
    obtain ⟨k, lo, hi, hk, rfl, rfl, rfl, ht, hbel⟩ := hrel
    have HT := Lib.hid ht
    have hbw := below_to bV hbel
    obtain ⟨c1, c2, c3, c4⟩ := (show colOk (lo, hi) by rw [← ht]; exact colF_ok hx hx2 fun z hz => HO.out z (List.mem_of_mem_take hz))
    simp only at c1 c2 c3 c4
    clear ht
    by_cases hlt : k < n
    · obtain ⟨⟨za, zb, zc⟩, hz⟩ : ∃ z, hs[k]? = some z := ⟨_, List.getElem?_eq_getElem (by rw [HL.out]; exact hlt)⟩
      obtain ⟨g, o, rfl, hc⟩ := HA.out k _ hz
      obtain ⟨t1, t2, t3⟩ := hc.to hbw
      have l1 := block_lt_of_cell t1
      obtain ⟨h1, h2, h3, h4, h5, h6⟩ := okB_bnd (HO.out _ (List.mem_of_getElem? hz))
      simp only at t1 t2 t3 l1 h1 h2 h3 h4 h5 h6
      obtain ⟨m1, m2⟩ := mul_bnd h1 h2 hx hx2
      have HX := Lib.hid (show colF x (hs.take (k + 1)) = colS x (lo, hi) ⟨za, zb, zc⟩ by rw [colF_next hz, HT.out])
      clear hz hc
      have bN := hbel.trans ((below_one wr (.cells #[.int .i64 za, .int .i64 zb, .int .i64 zc] 34)).mono hbel.size)
      by_cases p : 0 < zb
      · have HY := Lib.hid (HX.out.trans (col_pos p))
        have HF := Lib.hid (fun W => whole (zc - za * x) zb W p (by omega) (by omega) (by omega))
        obtain ⟨d1, d2⟩ := div_bnd (a := zc - za * x) p (by omega) (by omega)
        go_wp2_with (go_at_call 89; (with_reducible refine (HF.out _).mono ?_); rintro e w3 ⟨rfl, rfl⟩)
        go_roundw
        case rel => exact ⟨k + 1, _, _, by omega, by go_num, rfl, rfl, HY.out.trans (congrArg (Prod.mk lo) (min_if _ _)), hbel.trans ((below_bx2 (below_one _ _) _).mono hbel.size)⟩
        case measure => simp [intOf]; omega
      · by_cases q : zb < 0
        · have HY := Lib.hid (HX.out.trans (col_neg q))
          have HF := Lib.hid (fun W => whole (zc - za * x) (-zb) W (by omega) (by omega) (by omega) (by omega))
          obtain ⟨d1, d2⟩ := div_bnd (a := zc - za * x) (b := -zb) (by omega) (by omega) (by omega)
          generalize (zc - za * x) / (-zb) = u at HY HF d1 d2
          go_wp2_with (go_at_call 89; (with_reducible refine (HF.out _).mono ?_); rintro e w3 ⟨rfl, rfl⟩)
          go_roundw
          case rel => exact ⟨k + 1, _, _, by omega, by go_num, rfl, rfl, HY.out.trans (congrArg (fun t => (t, hi)) (max_if _ _)), hbel.trans ((below_bx2 (below_one _ _) _).mono hbel.size)⟩
          case measure => simp [intOf]; omega
        · have z0 : zb = 0 := by omega
          subst z0
          by_cases r : zc - za * x < 0
          · have HY := Lib.hid (HX.out.trans (col_out rfl r))
            go_wp2
            go_roundw
            case rel => exact ⟨k + 1, _, _, by omega, by go_num, rfl, rfl, HY.out, bN⟩
            case measure => simp [intOf]; omega
          · have HY := Lib.hid (HX.out.trans (col_in rfl r))
            go_wp2
            go_roundw
            case rel => exact ⟨k + 1, _, _, by omega, by go_num, rfl, rfl, HY.out, bN⟩
            case measure => simp [intOf]; omega
    · obtain rfl : k = n := by omega
      have HY := Lib.hid (show colF x hs = (lo, hi) by have := HT.out; rwa [List.take_of_length_le (by rw [HL.out]; omega)] at this)
      go_wp2
      exact bodyPost_ret (v := .tuple #[.int .i64 lo, .int .i64 hi]) (by simp [results, Try.results74, go_sem]) rfl ⟨by rw [HY.out], hbw⟩
/-- the answer -/
def whoN (hs : List H3) : Int := if rokB hs = true ∧ hs ≠ [] then cntF hs 2001 else 0
theorem who_nil {hs : List H3} {n : Nat} (hl : hs.length = n) (h : n = 0) : whoN hs = 0 := by
  have : hs = [] := List.eq_nil_of_length_eq_zero (by omega)
  unfold whoN; simp [this]
theorem who_rok {hs : List H3} (h : rokB hs = false) : whoN hs = 0 := by unfold whoN; simp [h]
theorem who_pos {hs : List H3} {n : Nat} (hl : hs.length = n) (h : n ≠ 0) (r : rokB hs = true) : whoN hs = cntF hs 2001 := by
  have : hs ≠ [] := by rintro rfl; simp at hl; omega
  unfold whoN; simp [r, this]
set_option maxRecDepth 100000 in
set_option maxHeartbeats 3200000 in
theorem impl_who (a : Option Addr) (n cap : Nat) (hs : List H3) (w : World) (hl : hs.length = n) (hn : n ≤ 1048576) (h64 : ∀ h ∈ hs, In64 h) (hA : HsAt w a hs) :
    Calls Try.prog 48 #[.agg #[.slice a n cap]] w fun e w' => e = .returned (.int .i64 (whoN hs)) ∧ Below w.heap.size w w' := by
  have bV := below_one w (.cells #[.slice a n cap] 26)
  have q2 : (w.alloc (.cells #[.slice a n cap] 26)).cell? ⟨w.heap.size, 0, none⟩ = some (.slice a n cap) := by simp
  have HV := Lib.hid (fun V => impl_void a n cap V)
  have HR := Lib.hid (fun V (h : Below w.heap.size w V) => impl_rok a n cap hs V hl hn h64 (hA.below h))
  have HC := Lib.hid (fun V x (h : Below w.heap.size w V) (r : rokB hs = true) (h1 : -1000 ≤ x) (h2 : x ≤ 1000) => impl_col a n cap hs x V hl hn h1 h2 (rok_all r) (hA.below h))
  have HL := Lib.hid hl
  clear hl hA h64 hn
  go_enter Try.func48, Try.ntmps48
  go_wp2_with fail
  generalize w.alloc (.cells #[.slice a n cap] 26) = V at *
  refine (HV.out _).mono ?_
  rintro e w1 ⟨rfl, bl1⟩
  have b1 := below_to bV bl1
  have q3 := cell_to q2 bl1
  clear bl1 bV q2
  by_cases h0 : n = 0
  · have HY := Lib.hid (who_nil HL.out h0)
    subst h0
    go_wp2
    go_ret
    exact ⟨ret_int HY.out.symm, b1⟩
  · have hb : ((n : Int) == 0) = false := eq_b (by omega)
    go_wp2_with fail
    refine (HR.out _ b1).mono ?_
    rintro e w2 ⟨rfl, bl2⟩
    have b2 := below_to b1 bl2
    have q4 := cell_to q3 bl2
    clear bl2 b1 q3
    cases hr : rokB hs with
    | false =>
      have HY := Lib.hid (who_rok hr)
      clear hr
      go_wp2
      go_ret
      exact ⟨ret_int HY.out.symm, b2⟩
    | true =>
      have HQ := Lib.hid hr
      have HY := Lib.hid (who_pos HL.out h0 hr)
      clear hr h0
      go_wp2
      go_loopw [3, 4] (fun c x wr => ∃ k : Nat, k ≤ 2001 ∧ x = .int .i64 (-1000 + k) ∧ c = .int .i64 (cntF hs k) ∧ Below w2.heap.size w2 wr) (fun _ x _ => (1001 - intOf x).toNat)
      case atStart => exact ⟨0, by omega, rfl, rfl, Below.refl _ _⟩
      case round =>
        obtain ⟨k, hk, rfl, rfl, hbel⟩ := hrel
        have hbw := below_to b2 hbel
        have p4 := cell_to q4 hbel
        obtain ⟨n1, n2⟩ := cntF_bnd (rok_all HQ.out) k hk
        by_cases hlt : k < 2001
        · have HD := Lib.hid (fun V (h : Below w.heap.size w V) => HC.out V (-1000 + k) h HQ.out (by omega) (by omega))
          obtain ⟨c1, c2, c3, c4⟩ := colF_ok (x := -1000 + k) (by omega) (by omega) (rok_all HQ.out)
          have HX := Lib.hid (show cntF hs (k + 1) = cntF hs k + max ((colF (-1000 + k) hs).2 - (colF (-1000 + k) hs).1 + 1) 0 from rfl)
          generalize (colF (-1000 + (k : Int)) hs).1 = lo at *
          generalize (colF (-1000 + (k : Int)) hs).2 = hi at *
          generalize cntF hs k = c at *
          clear HC
          go_wp2_with (go_at_call 74; (with_reducible refine (HD.out _ hbw).mono ?_); rintro e w3 ⟨rfl, bl3⟩)
          go_roundw
          case rel => exact ⟨k + 1, by omega, by go_num, by rw [HX.out, max_if], hbel.trans (bl3.mono hbel.size)⟩
          case measure => simp [intOf]; omega
        · obtain rfl : k = 2001 := by omega
          go_wp2
          go_ret
          exact ⟨ret_int HY.out.symm, hbw⟩
set_option maxRecDepth 100000 in
set_option maxHeartbeats 6400000 in
theorem spec_who (a : Option Addr) (n cap : Nat) (hs : List H3) (w : World) (hl : hs.length = n) (hn : n ≤ 1048576) (h64 : ∀ h ∈ hs, In64 h) (hnil : a = none → n = 0 ∧ cap = 0) (hA : HsAt w a hs) :
    Calls Try.prog 47 #[.agg #[.slice a n cap]] w fun e w' => e = .returned (.int .i64 (whoN hs)) ∧ Below w.heap.size w w' := by
  have bV := below_one w (.cells #[.slice a n cap] 26)
  have q2 : (w.alloc (.cells #[.slice a n cap] 26)).cell? ⟨w.heap.size, 0, none⟩ = some (.slice a n cap) := by simp
  have HV := Lib.hid (fun V => spec_void a n cap V)
  have HR := Lib.hid (fun V (h : Below w.heap.size w V) => spec_rok a n cap hs V hl hn h64 hnil (hA.below h))
  have HL := Lib.hid hl
  have HA := Lib.hid hA
  clear hl hA h64 hnil
  go_enter Try.func47, Try.ntmps47
  go_wp2_with fail
  generalize w.alloc (.cells #[.slice a n cap] 26) = V at *
  refine (HR.out _ bV).mono ?_
  rintro e w1 ⟨rfl, bl1⟩
  have b1 := below_to bV bl1
  have q3 := cell_to q2 bl1
  clear bl1 bV q2
  cases hr : rokB hs with
  | false =>
    have HY := Lib.hid (who_rok hr)
    clear hr
    go_wp2
    go_ret
    exact ⟨ret_int HY.out.symm, b1⟩
  | true =>
    have HQ := Lib.hid hr
    clear hr
    go_wp2_with fail
    refine (HV.out _).mono ?_
    rintro e w2 ⟨rfl, bl2⟩
    have b2 := below_to b1 bl2
    have q4 := cell_to q3 bl2
    have l4 := block_lt_of_cell q4
    simp only at l4
    clear bl2 b1 q3 HR HV
    by_cases h0 : n = 0
    · have HY := Lib.hid (who_nil HL.out h0)
      subst h0
      go_wp2
      go_ret
      exact ⟨ret_int HY.out.symm, b2⟩
    · have hb : ((n : Int) == 0) = false := eq_b (by omega)
      have HY := Lib.hid (who_pos HL.out h0 HQ.out)
      have HO := Lib.hid (rok_all HQ.out)
      clear h0
      go_wp2
      go_loopw [3, 4] (fun c x wr => ∃ k : Nat, k ≤ 2001 ∧ x = .int .i64 (-1000 + k) ∧ c = .int .i64 (cntF hs k) ∧ Below w2.heap.size w2 wr) (fun _ x _ => (1001 - intOf x).toNat)
      case atStart => exact ⟨0, by omega, rfl, rfl, Below.refl _ _⟩
      case round =>
        obtain ⟨k, hk, rfl, rfl, hbel⟩ := hrel
        have hbw := below_to b2 hbel
        have p4 := cell_to q4 hbel
        have l5 := block_lt_of_cell p4
        simp only at l5
        obtain ⟨n1, n2⟩ := cntF_bnd HO.out k hk
        by_cases hlt : k < 2001
        · have HX := Lib.hid (show cntF hs (k + 1) = cntF hs k + max ((colF (-1000 + k) hs).2 - (colF (-1000 + k) hs).1 + 1) 0 from rfl)
          generalize cntF hs k = c at *
          obtain ⟨x, hxe⟩ : ∃ x : Int, x = -1000 + k := ⟨_, rfl⟩
          have hx : -1000 ≤ x := by omega
          have hx2 : x ≤ 1000 := by omega
          have hk' : (k : Int) = x + 1000 := by omega
          have HK := Lib.hid hk'
          rw [← hxe] at HX ⊢
          clear hxe hk'
          rename World => wo
          go_wp2
          go_loopw [5, 6, 23] (fun l h i ws => ∃ (j : Nat) (lo hi : Int), j ≤ n ∧ i = .int .i64 j ∧ l = .int .i64 lo ∧ h = .int .i64 hi ∧ colF x (hs.take j) = (lo, hi) ∧ Below wo.heap.size wo ws) (fun _ _ i _ => n - (intOf i).toNat)
          case atStart => exact ⟨0, -1000, 1000, Nat.zero_le _, rfl, rfl, rfl, by simp [colF], Below.refl _ _⟩
          case round =>
            obtain ⟨j, lo, hi, hj, rfl, rfl, rfl, ht, hbs⟩ := hrel
            have HT := Lib.hid ht
            have hbv := below_to hbw hbs
            obtain ⟨c1, c2, c3, c4⟩ := (show colOk (lo, hi) by rw [← ht]; exact colF_ok hx hx2 fun z hz => HO.out z (List.mem_of_mem_take hz))
            simp only at c1 c2 c3 c4
            clear ht
            by_cases hjl : j < n
            · obtain ⟨⟨za, zb, zc⟩, hz⟩ : ∃ z, hs[j]? = some z := ⟨_, List.getElem?_eq_getElem (by rw [HL.out]; exact hjl)⟩
              obtain ⟨g, o, rfl, hc⟩ := HA.out j _ hz
              obtain ⟨t1, t2, t3⟩ := hc.to hbv
              have l1 := block_lt_of_cell t1
              obtain ⟨h1, h2, h3, h4, h5, h6⟩ := okB_bnd (HO.out _ (List.mem_of_getElem? hz))
              simp only at t1 t2 t3 l1 h1 h2 h3 h4 h5 h6
              obtain ⟨m1, m2⟩ := mul_bnd h1 h2 hx hx2
              have HZ := Lib.hid (show colF x (hs.take (j + 1)) = colS x (lo, hi) ⟨za, zb, zc⟩ by rw [colF_next hz, HT.out])
              clear hz hc
              have bN := Lib.hid (hbs.trans ((below_one wr (.cells #[.int .i64 za, .int .i64 zb, .int .i64 zc] 34)).mono hbs.size))
              by_cases p : 0 < zb
              · have HW := Lib.hid (HZ.out.trans (col_pos p))
                have HF := Lib.hid (fun W => spec_floor (zc - za * x) zb W p (by omega) (by omega) (by omega))
                obtain ⟨d1, d2⟩ := div_bnd (a := zc - za * x) p (by omega) (by omega)
                go_wp2_with (go_at_call 73; (with_reducible refine (HF.out _).mono ?_); rintro e w3 ⟨rfl, rfl⟩)
                go_roundw
                case rel => exact ⟨j + 1, _, _, by omega, by go_num, rfl, rfl, HW.out.trans (congrArg (Prod.mk lo) (min_if _ _)), bN.out⟩
                case measure => simp [intOf]; omega
              · by_cases q : zb < 0
                · have HW := Lib.hid (HZ.out.trans (col_neg q))
                  have HF := Lib.hid (fun W => spec_floor (zc - za * x) (-zb) W (by omega) (by omega) (by omega) (by omega))
                  obtain ⟨d1, d2⟩ := div_bnd (a := zc - za * x) (b := -zb) (by omega) (by omega) (by omega)
                  generalize (zc - za * x) / (-zb) = u at HW HF d1 d2
                  go_wp2_with (go_at_call 73; (with_reducible refine (HF.out _).mono ?_); rintro e w3 ⟨rfl, rfl⟩)
                  go_roundw
                  case rel => exact ⟨j + 1, _, _, by omega, by go_num, rfl, rfl, HW.out.trans (congrArg (fun t => (t, hi)) (max_if _ _)), bN.out⟩
                  case measure => simp [intOf]; omega
                · have z0 : zb = 0 := by omega
                  subst z0
                  by_cases r : zc < za * x
                  · have HW := Lib.hid (HZ.out.trans (col_out rfl (by simp only; omega)))
                    go_wp2
                    go_roundw
                    case rel => exact ⟨j + 1, _, _, by omega, by go_num, rfl, rfl, HW.out, bN.out⟩
                    case measure => simp [intOf]; omega
                  · have HW := Lib.hid (HZ.out.trans (col_in rfl (by simp only; omega)))
                    go_wp2
                    go_roundw
                    case rel => exact ⟨j + 1, _, _, by omega, by go_num, rfl, rfl, HW.out, bN.out⟩
                    case measure => simp [intOf]; omega
            · obtain rfl : j = n := by omega
              have HW := Lib.hid (show colF x hs = (lo, hi) by have := HT.out; rwa [List.take_of_length_le (by rw [HL.out]; omega)] at this)
              rw [HW.out] at HX
              simp only at HX
              go_wp2
              go_roundw
              case rel => exact ⟨k + 1, by omega, by have := HK.out; go_num, by rw [HX.out, Int.max_comm, max_if], hbel.trans (hbs.mono hbel.size)⟩
              case measure => simp [intOf]; omega
        · obtain rfl : k = 2001 := by omega
          go_wp2
          go_ret
          exact ⟨ret_int HY.out.symm, hbw⟩
set_option maxRecDepth 100000 in
set_option maxHeartbeats 3200000 in
theorem law_who (a : Option Addr) (n cap : Nat) (hs : List H3) (w : World) (hl : hs.length = n) (hn : n ≤ maxLen) (h64 : ∀ h ∈ hs, In64 h) (hA : HsAt w a hs) :
    Calls Try.prog 12 #[.agg #[.slice a n cap]] w fun e w' => e = .returned (.bool true) ∧ Below w.heap.size w w' := by
  by_cases hle : (n : Int) ≤ 1048576
  · have HT := Lib.hid (fun V (h : Below w.heap.size w V) => to_region2 a n cap hs V hl (by omega) (hA.below h))
    have HE := Lib.hid (fun V a1 a2 c1 c2 (h1 : HsAt V a1 hs) (h2 : HsAt V a2 hs) => eq_region a1 a2 n c1 c2 hs V hl (by omega) h1 h2)
    have HZ := Lib.hid (fun V => sz_region a n cap V hn 1048576 (by omega) (by omega) (1048576 - n) (by rw [if_pos hle]))
    have HS := Lib.hid (fun V a1 c1 (h0 : a1 = none → n = 0 ∧ c1 = 0) (h1 : HsAt V a1 hs) => spec_who a1 n c1 hs V hl (by omega) h64 h0 h1)
    have HI := Lib.hid (fun V a1 c1 (h1 : HsAt V a1 hs) => impl_who a1 n c1 hs V hl (by omega) h64 h1)
    generalize whoN hs = r at *
    clear hn hA hl h64
    go_enter Try.func12, Try.ntmps12
    go_wp2_with fail
    refine (HZ.out _).mono ?_
    rintro e w1 ⟨rfl, bl1⟩
    have q1 := cell_to (show (w.alloc (.cells #[.slice a n cap] 50)).cell? ⟨w.heap.size, 0, none⟩ = some (.slice a n cap) by simp) bl1
    have b1 := below_to (below_one _ _) bl1
    clear bl1
    go_wp2_with fail
    refine (HT.out _ b1).mono ?_
    rintro e w2 ⟨ao2, cp2, rfl, ho2, bl2⟩
    have b2 := below_to b1 bl2
    have q2 := cell_to q1 bl2
    have N2 := Lib.hid (own_nil ho2)
    have A2 := Lib.hid (own_hs ho2)
    clear ho2 bl2 b1 q1
    go_wp2_with fail
    refine (HS.out _ _ _ N2.out A2.out).mono ?_
    rintro e w3 ⟨rfl, bl3⟩
    have b3 := below_to b2 bl3
    have q3 := cell_to q2 bl3
    clear bl3 b2 q2 N2 A2
    go_wp2_with fail
    refine (HT.out _ b3).mono ?_
    rintro e w4 ⟨ao4, cp4, rfl, ho4, bl4⟩
    have b4 := below_to b3 bl4
    have q4 := cell_to q3 bl4
    have H4 := Lib.hid ho4
    clear ho4 bl4 b3 q3
    go_wp2_with fail
    refine (HI.out _ _ _ (own_hs (own_below H4.out (below_one _ _)))).mono ?_
    rintro e w5 ⟨rfl, bl5⟩
    have b5 := below_to (below_bx2 b4 _) bl5
    have q5 := cell_to (cell_to q4 (below_one _ (.cells #[.slice ao4 n cp4] 26))) bl5
    have x5 := cell_to (show (w4.alloc (.cells #[.slice ao4 n cp4] 26)).cell? ⟨w4.heap.size, 0, none⟩ = some (.slice ao4 n cp4) by simp) bl5
    have H5 := Lib.hid (own_below (own_below H4.out (below_one _ (.cells #[.slice ao4 n cp4] 26))) bl5)
    clear bl5
    go_wp2
    go_region_held3 (fun w' => w'.cell? ⟨w4.heap.size, 0, none⟩ = some (.slice ao4 n cp4) ∧ w'.cell? ⟨w.heap.size, 0, none⟩ = some (.slice a n cap))
      ((refine twoc x5 q5 ?_; repeat (first | exact Below.refl _ _ | refine below_drw ?_ | refine below_to ?_ (by assumption))))
      (first | (go_at_call 35; (with_reducible refine (HT.out _ ?_).mono ?_); (focus (repeat (first | exact b5 | refine below_drw ?_ | refine below_to ?_ (by assumption)))); rintro e w6 ⟨ao6, cp6, rfl, ho6, bl6⟩) | (go_at_call 30; (with_reducible refine (HE.out _ _ _ _ _ ?_ ?_).mono ?_); (focus ((refine (own_hs H5.out).below ?_); repeat (first | exact Below.refl _ _ | refine below_drw ?_ | refine below_to ?_ (by assumption)))); (focus (exact own_hs ho6)); rintro e w7 ⟨rfl, bl7⟩))
    go_wp2
    go_ret
    exact ⟨rfl, below_to (below_to (below_drw b5) bl6) bl7⟩
  · have HZ := Lib.hid (fun V => sz_region a n cap V hn 1048576 (by omega) (by omega) (-1) (by rw [if_neg hle]))
    clear hn hA hl hle h64
    go_enter Try.func12, Try.ntmps12
    go_wp2_with fail
    refine (HZ.out _).mono ?_
    rintro e w1 ⟨rfl, bl1⟩
    go_wp2
    go_ret
    exact ⟨rfl, below_to (below_one _ _) bl1⟩
end Go.Proofs.Ythpnbhebojgpbaa
