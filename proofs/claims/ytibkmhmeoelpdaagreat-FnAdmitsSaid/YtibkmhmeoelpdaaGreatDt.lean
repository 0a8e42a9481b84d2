/- What the rounds of a room make (no calls). RunRounds of the program and of the model, over the translation. KeptRegion, RoundsOf and CanBeKept of the program and of the model, over the translation. -/
import Derived.Test.YtibkmhmeoelpdaaGreatVf
import Derived.Test.YtibkmhmeoelpdaaGreatKd
import Derived.Test.YtibkmhmeoelpdaaGreatGv
import Derived.Test.YtibkmhmeoelpdaaGreatKz
namespace Go.Proofs.YtibkmhmeoelpdaaGreat
open Go.RowKit
open Geo (H3)

theorem kpL_64 (zs : List Int) (q bx cy lo hi : Int) (ps qs rs : List H3) : ∀ h ∈ kpL zs q bx cy lo hi ps qs rs, In64 h := by
  intro h hh
  unfold kpL at hh
  split at hh
  · exact met_64 _ _ h hh
  · simp at hh
/-- n rounds are left, k are done -/
noncomputable def rrF (zs : List Int) (q bx cy lo hi : Int) (ps qs : List H3) : Nat → List H3 → Nat → Option (List H3 × Nat × Bool)
  | 0, rs, k => some (rs, k, false)
  | n + 1, rs, k => if kpB zs q bx cy lo hi ps qs rs = true then (if kpL zs q bx cy lo hi ps qs rs = rs then some (rs, k, true) else rrF zs q bx cy lo hi ps qs n (kpL zs q bx cy lo hi ps qs rs) (k + 1)) else none
noncomputable def rrG (zs : List Int) (q bx cy lo hi : Int) (ps qs : List H3) (m : Int) : Option (List H3 × Nat × Bool) := if inB m 0 12 = true ∧ rmB zs q bx cy lo hi ps qs = true then rrF zs q bx cy lo hi ps qs m.toNat qs 0 else none
noncomputable def rrB (zs : List Int) (q bx cy lo hi : Int) (ps qs : List H3) (m : Int) : Bool := (rrG zs q bx cy lo hi ps qs m).isSome
noncomputable def rrL (zs : List Int) (q bx cy lo hi : Int) (ps qs : List H3) (m : Int) : List H3 := ((rrG zs q bx cy lo hi ps qs m).getD ([], 0, false)).1
noncomputable def rrN (zs : List Int) (q bx cy lo hi : Int) (ps qs : List H3) (m : Int) : Nat := ((rrG zs q bx cy lo hi ps qs m).getD ([], 0, false)).2.1
noncomputable def rrS (zs : List Int) (q bx cy lo hi : Int) (ps qs : List H3) (m : Int) : Bool := ((rrG zs q bx cy lo hi ps qs m).getD ([], 0, false)).2.2
section
variable {zs : List Int} {q bx cy lo hi : Int} {ps qs : List H3}
theorem rr_none {m : Int} (h : rrG zs q bx cy lo hi ps qs m = none) : rrL zs q bx cy lo hi ps qs m = [] ∧ rrN zs q bx cy lo hi ps qs m = 0 ∧ rrS zs q bx cy lo hi ps qs m = false ∧ rrB zs q bx cy lo hi ps qs m = false := by
  unfold rrL rrN rrS rrB
  rw [h]
  exact ⟨rfl, rfl, rfl, rfl⟩
theorem rr_some {m : Int} {L : List H3} {N : Nat} {S : Bool} (h : rrG zs q bx cy lo hi ps qs m = some (L, N, S)) : rrL zs q bx cy lo hi ps qs m = L ∧ rrN zs q bx cy lo hi ps qs m = N ∧ rrS zs q bx cy lo hi ps qs m = S ∧ rrB zs q bx cy lo hi ps qs m = true := by
  unfold rrL rrN rrS rrB
  rw [h]
  exact ⟨rfl, rfl, rfl, rfl⟩
theorem rr_no1 {m : Int} (h : inB m 0 12 = false) : rrG zs q bx cy lo hi ps qs m = none := by unfold rrG; rw [if_neg]; rw [h]; simp
theorem rr_no2 {m : Int} (h : rmB zs q bx cy lo hi ps qs = false) : rrG zs q bx cy lo hi ps qs m = none := by unfold rrG; rw [if_neg]; rw [h]; simp
theorem rr_go {m : Int} (h : inB m 0 12 = true) (k : rmB zs q bx cy lo hi ps qs = true) : rrG zs q bx cy lo hi ps qs m = rrF zs q bx cy lo hi ps qs m.toNat qs 0 := by unfold rrG; rw [if_pos ⟨h, k⟩]
theorem rrF_no {n k : Nat} {rs : List H3} (h : kpB zs q bx cy lo hi ps qs rs = false) : rrF zs q bx cy lo hi ps qs (n + 1) rs k = none := by
  rw [rrF, if_neg (by rw [h]; simp)]
theorem rrF_stop {n k : Nat} {rs : List H3} (h : kpB zs q bx cy lo hi ps qs rs = true) (e : kpL zs q bx cy lo hi ps qs rs = rs) : rrF zs q bx cy lo hi ps qs (n + 1) rs k = some (rs, k, true) := by
  rw [rrF, if_pos h, if_pos e]
theorem rrF_next {n k : Nat} {rs : List H3} (h : kpB zs q bx cy lo hi ps qs rs = true) (e : kpL zs q bx cy lo hi ps qs rs ≠ rs) : rrF zs q bx cy lo hi ps qs (n + 1) rs k = rrF zs q bx cy lo hi ps qs n (kpL zs q bx cy lo hi ps qs rs) (k + 1) := by
  rw [rrF, if_pos h, if_neg e]
theorem rm_qs (h : rmB zs q bx cy lo hi ps qs = true) : rokB qs = true ∧ qs ≠ [] ∧ rokB ps = true ∧ ps ≠ [] := by
  unfold rmB solB at h
  simp only [Bool.and_eq_true, Bool.not_eq_true', decide_eq_false_iff_not] at h
  exact ⟨h.2.2, h.2.1, h.1.2.2, h.1.2.1⟩
theorem rok_64 {rs : List H3} (h : rokB rs = true) : ∀ x ∈ rs, In64 x := fun x hx => ok_in64 (rok_all h x hx)
theorem rrF_len (n : Nat) : ∀ (rs : List H3) (k : Nat), rs.length ≤ 40 → (∀ x ∈ rs, In64 x) → k + n ≤ 12 → ∀ L N S, rrF zs q bx cy lo hi ps qs n rs k = some (L, N, S) → L.length ≤ 40 ∧ (∀ x ∈ L, In64 x) ∧ N ≤ 12 := by
  induction n with
  | zero =>
    intro rs k h1 h2 h3 L N S e
    unfold rrF at e
    simp only [Option.some.injEq, Prod.mk.injEq] at e
    obtain ⟨rfl, rfl, _⟩ := e
    exact ⟨h1, h2, by omega⟩
  | succ n ih =>
    intro rs k h1 h2 h3 L N S e
    by_cases b : kpB zs q bx cy lo hi ps qs rs = true
    · by_cases c : kpL zs q bx cy lo hi ps qs rs = rs
      · rw [rrF_stop b c] at e
        simp only [Option.some.injEq, Prod.mk.injEq] at e
        obtain ⟨rfl, rfl, _⟩ := e
        exact ⟨h1, h2, by omega⟩
      · rw [rrF_next b c] at e
        exact ih _ _ (kpL_len _ _ _ _ _ _ _ _ _) (kpL_64 _ _ _ _ _ _ _ _ _) (by omega) L N S e
    · rw [rrF_no (by simpa using b)] at e
      cases e
theorem rr_len (m : Int) : (rrL zs q bx cy lo hi ps qs m).length ≤ 40 ∧ (∀ x ∈ rrL zs q bx cy lo hi ps qs m, In64 x) ∧ rrN zs q bx cy lo hi ps qs m ≤ 12 := by
  cases h : rrG zs q bx cy lo hi ps qs m with
  | none =>
    obtain ⟨e1, e2, _⟩ := rr_none h
    rw [e1, e2]
    exact ⟨by simp, by simp, by omega⟩
  | some x =>
    obtain ⟨L, N, S⟩ := x
    obtain ⟨e1, e2, _⟩ := rr_some h
    rw [e1, e2]
    unfold rrG at h
    split at h
    · rename_i c
      obtain ⟨c1, c2⟩ := c
      unfold inB at c1
      simp only [Bool.and_eq_true, decide_eq_true_eq] at c1
      obtain ⟨r, _⟩ := rm_qs c2
      exact rrF_len _ qs 0 (rok_len r) (rok_64 r) (by omega) L N S h
    · cases h
end

theorem own_ne {w : World} {B n s : Nat} {e : TypeId} {v : Value} {xs : List Value} (h : w.ownsRow B e s v n xs) {p : Addr} (hp : ∀ g, v.ownBlock = some g → g ≠ p.block) (u : Value) : (w.setCell p u).ownsRow B e s v n xs := by
  refine ⟨h.1, ?_⟩
  rcases h.2 with h2 | ⟨g, cap, cur, hv, hg, hh, r⟩
  · exact .inl h2
  · subst hv
    exact .inr ⟨g, cap, cur, rfl, hg, (Below.heap_setCell w p u g (hp g (by simp [Value.ownBlock]))).trans hh, r⟩
theorem Blk.pt {W : World} {B C : Nat} {cs : Array Value} {t : TypeId} (h : Blk W B cs t) (n : C ≠ B) (i : Nat) (u : Value) : Blk (W.setCell ⟨C, i, none⟩ u) B cs t := blk_far h u n
theorem Blk.s3 {W : World} {B : Nat} {t : TypeId} {a0 a1 a2 : Value} (h : Blk W B #[a0, a1, a2] t) (u v x : Value) : Blk (((W.setCell ⟨B, 0, none⟩ u).setCell ⟨B, 1, none⟩ v).setCell ⟨B, 2, none⟩ x) B #[u, v, x] t := ((h.set 0 u).set 1 v).set 2 x
/-- a new kept region and a bool are handed back -/
def AnsK (w : World) (L : List H3) (N : Nat) (S b : Bool) (e : Ending) (w' : World) : Prop := ∃ ao cp, e = .returned (.tuple #[.agg #[.slice ao L.length cp, .int .i64 N, .bool S], .bool b]) ∧ w'.ownsRow w.heap.size 104 3 (.slice ao L.length cp) L.length (flat L) ∧ Below w.heap.size w w'
theorem AnsK.no {w w' : World} {L : List H3} {N : Nat} {S b : Bool} (h : L = [] ∧ N = 0 ∧ S = false ∧ b = false) (hb : Below w.heap.size w w') : AnsK w L N S b (.returned (.tuple #[.agg #[.slice none 0 0, .int .i64 0, .bool false], .bool false])) w' := by
  obtain ⟨rfl, rfl, rfl, rfl⟩ := h
  exact ⟨none, 0, rfl, own3_none, hb⟩
theorem AnsK.yes {w w' : World} {L M : List H3} {N k : Nat} {S s b : Bool} {ao : Option Addr} {m cp : Nat} (h : L = M ∧ N = k ∧ S = s ∧ b = true) (ho : w'.ownsRow w.heap.size 104 3 (.slice ao m cp) m (flat M)) (hb : Below w.heap.size w w') : AnsK w L N S b (.returned (.tuple #[.agg #[.slice ao m cp, .int .i64 k, .bool s], .bool true])) w' := by
  obtain ⟨rfl, rfl, rfl, rfl⟩ := h
  obtain rfl := (own3_view ho).1
  exact ⟨ao, cp, rfl, ho, hb⟩
theorem lim_len {qs : List H3} {nl cl : Nat} {al : Option Addr} (h : qs ≠ []) (k : qs.length = nl) : (al = none ∧ nl = 0 ∧ cl = 0) ∨ 0 < nl := by
  right
  have := List.length_pos_iff.2 h
  omega
set_option maxRecDepth 100000 in
set_option maxHeartbeats 3200000 in
theorem impl_rr (am : Option Addr) (nm cm : Nat) (zs : List Int) (q bx cy lo hi : Int) (an : Option Addr) (nn cn : Nat) (ps : List H3) (al : Option Addr) (nl cl : Nat) (qs : List H3) (m : Int) (hm : -9223372036854775808 ≤ m ∧ m ≤ 9223372036854775807) (w : World) (hA : RAt w am nm zs an nn ps al nl qs) (h64 : R64 q bx cy lo hi ps qs) (hle : nm + nn + nl ≤ 1048576) :
    Calls Tryz.prog 124 #[.agg #[.slice am nm cm, .int .i64 q, .int .i64 bx, .int .i64 cy, .int .i64 lo, .int .i64 hi, .slice an nn cn, .slice al nl cl], .int .i64 m] w (AnsK w (rrL zs q bx cy lo hi ps qs m) (rrN zs q bx cy lo hi ps qs m) (rrS zs q bx cy lo hi ps qs m) (rrB zs q bx cy lo hi ps qs m)) := by
  have bV := below_bx2 (below_one w (.cells #[.slice am nm cm, .int .i64 q, .int .i64 bx, .int .i64 cy, .int .i64 lo, .int .i64 hi, .slice an nn cn, .slice al nl cl] 42)) (.cells #[.slice none 0 0, .int .i64 0, .bool false] 117)
  have K0 := (blk_new w #[.slice am nm cm, .int .i64 q, .int .i64 bx, .int .i64 cy, .int .i64 lo, .int .i64 hi, .slice an nn cn, .slice al nl cl] 42 (b := w.heap.size) (by simp)).to (below_one _ (.cells #[.slice none 0 0, .int .i64 0, .bool false] 117))
  have K1 := blk_new (w.alloc (.cells #[.slice am nm cm, .int .i64 q, .int .i64 bx, .int .i64 cy, .int .i64 lo, .int .i64 hi, .slice an nn cn, .slice al nl cl] 42)) #[.slice none 0 0, .int .i64 0, .bool false] 117 (b := w.heap.size + 1) (by simp)
  have HR := Lib.hid (fun V (h : Below w.heap.size w V) => impl_room am nm cm zs q bx cy lo hi an nn cn ps al nl cl qs V _ rfl (hA.below h) h64 hle)
  have HCL := Lib.hid (fun V (h : Below w.heap.size w V) (n : qs ≠ []) => clone_h al nl cl qs V hA.ll (by omega) (lim_len n hA.ll) (hA.hl.below h))
  have HKP := Lib.hid (fun V a1 c1 rs (h : Below w.heap.size w V) (hn : rs.length ≤ 40) (h6 : ∀ h ∈ rs, In64 h) (k0 : a1 = none → rs.length = 0 ∧ c1 = 0) (k : HsAt V a1 rs) => impl_kp am nm cm zs q bx cy lo hi an nn cn ps al nl cl qs a1 rs.length c1 rs V (hA.below h) h64 hle rfl (Nat.le_trans hn (by omega)) h6 k0 k)
  have HSM := Lib.hid (fun V a1 a2 c1 c2 (xs ys : List H3) (hn : xs.length ≤ 40) (k1 : HsAt V a1 xs) (k2 : HsAt V a2 ys) => impl_rsame a1 a2 xs.length ys.length c1 c2 xs ys V rfl rfl (Nat.le_trans hn (by omega)) k1 k2)
  have HL := Lib.hid hA.ll
  clear hA h64 hle
  go_enter Tryz.func124, Tryz.ntmps124
  go_wp2_with fail
  have zV : w.heap.size + 1 + 1 ≤ (((w.alloc (.cells #[.slice am nm cm, .int .i64 q, .int .i64 bx, .int .i64 cy, .int .i64 lo, .int .i64 hi, .slice an nn cn, .slice al nl cl] 42)).alloc (.cells #[.slice none 0 0, .int .i64 0, .bool false] 117))).heap.size := by simp
  generalize ((w.alloc (.cells #[.slice am nm cm, .int .i64 q, .int .i64 bx, .int .i64 cy, .int .i64 lo, .int .i64 hi, .slice an nn cn, .slice al nl cl] 42)).alloc (.cells #[.slice none 0 0, .int .i64 0, .bool false] 117)) = V at *
  cases hi1 : inB m 0 12 with
  | false =>
    have HN := Lib.hid (rr_no1 (zs := zs) (q := q) (bx := bx) (cy := cy) (lo := lo) (hi := hi) (ps := ps) (qs := qs) hi1)
    have HI := Lib.hid (fun W => in_impl_is m 0 12 W false hi1)
    have HIB := Lib.hid hi1
    clear hi1
    refine (HI.out _).mono ?_
    rintro e w1 ⟨rfl, rfl⟩
    have q0 := K1.cell0 (i := 0) (v := .slice none 0 0) rfl
    have q1 := K1.cell0 (i := 1) (v := .int .i64 0) rfl
    have q2 := K1.cell0 (i := 2) (v := .bool false) rfl
    have f0 := K1.free 0
    have f1 := K1.free 1
    have f2 := K1.free 2
    clear K0 HR HCL HKP HSM HI
    go_wp2_with fail
    exact bodyPost_ret (v := .tuple #[.agg #[.slice none 0 0, .int .i64 0, .bool false], .bool false]) (by simp [results, Tryz.results124, go_sem, q0, q1, q2]) rfl (AnsK.no (rr_none HN.out) (((bV.setCell (p := ⟨w.heap.size + 1, 0, none⟩) (Nat.le_add_right _ _) _).setCell (p := ⟨w.heap.size + 1, 1, none⟩) (Nat.le_add_right _ _) _).setCell (p := ⟨w.heap.size + 1, 2, none⟩) (Nat.le_add_right _ _) _))
  | true =>
    have HI := Lib.hid (fun W => in_impl_is m 0 12 W true hi1)
    have HIB := Lib.hid hi1
    clear hi1
    refine (HI.out _).mono ?_
    rintro e w1 ⟨rfl, rfl⟩
    clear HI
    have c0_0 := K0.c8_0
    have c0_1 := K0.c8_1
    have c0_2 := K0.c8_2
    have c0_3 := K0.c8_3
    have c0_4 := K0.c8_4
    have c0_5 := K0.c8_5
    have c0_6 := K0.c8_6
    have c0_7 := K0.c8_7
    go_wp2_with fail
    refine (HR.out _ bV).mono ?_
    rintro e w1 ⟨rfl, bl1⟩
    have b1 := below_to bV bl1
    have L0 := K0.to bl1
    have L1 := K1.to bl1
    have z1 := bl1.size
    clear c0_0 c0_1 c0_2 c0_3 c0_4 c0_5 c0_6 c0_7 bV bl1 K0 K1 HR
    cases hr : rmB zs q bx cy lo hi ps qs with
    | false =>
      have HN := Lib.hid (rr_no2 (m := m) hr)
      clear hr
      have q0 := L1.cell0 (i := 0) (v := .slice none 0 0) rfl
      have q1 := L1.cell0 (i := 1) (v := .int .i64 0) rfl
      have q2 := L1.cell0 (i := 2) (v := .bool false) rfl
      have f0 := L1.free 0
      have f1 := L1.free 1
      have f2 := L1.free 2
      clear L0 HCL HKP HSM
      go_wp2_with fail
      exact bodyPost_ret (v := .tuple #[.agg #[.slice none 0 0, .int .i64 0, .bool false], .bool false]) (by simp [results, Tryz.results124, go_sem, q0, q1, q2]) rfl (AnsK.no (rr_none HN.out) (((b1.setCell (p := ⟨w.heap.size + 1, 0, none⟩) (Nat.le_add_right _ _) _).setCell (p := ⟨w.heap.size + 1, 1, none⟩) (Nat.le_add_right _ _) _).setCell (p := ⟨w.heap.size + 1, 2, none⟩) (Nat.le_add_right _ _) _))
    | true =>
      have HQ := Lib.hid (rm_qs hr)
      obtain ⟨M, rfl⟩ : ∃ M : Nat, m = M := ⟨m.toNat, by have := HIB.out; unfold inB at this; simp only [Bool.and_eq_true, decide_eq_true_eq] at this; omega⟩
      have hM : M ≤ 12 := by have := HIB.out; unfold inB at this; simp only [Bool.and_eq_true, decide_eq_true_eq] at this; omega
      have hgm : rrG zs q bx cy lo hi ps qs (M : Int) = rrF zs q bx cy lo hi ps qs (M) qs 0 := by have h := rr_go (m := (M : Int)) HIB.out hr; rwa [Int.toNat_natCast] at h
      have HGM := Lib.hid hgm
      clear HIB hm hr hgm
      have c7 := L0.c8_7
      go_wp2_with fail
      refine (HCL.out _ b1 HQ.out.2.1).mono ?_
      rintro e w2 ⟨ao, cp, rfl, ho, bl2⟩
      have b2 := below_to b1 bl2
      have M0 := L0.to bl2
      have M1 := L1.to bl2
      have z2 := bl2.size
      clear c7 b1 L0 L1 HCL bl2
      have bY := below_one w2 (.cells #[.slice ao nl cp, .int .i64 0, .bool false] 117)
      have b3 := below_to b2 bY
      have N2 := blk_new w2 #[.slice ao nl cp, .int .i64 0, .bool false] 117 rfl
      have N0 := M0.to bY
      have N1 := M1.to bY
      have HO := Lib.hid (own_base (own_below ho bY) (show w.heap.size + 1 + 1 ≤ w1.heap.size by omega))
      have HNE := Lib.hid (fun g (h : (Value.slice ao nl cp).ownBlock = some g) => (show g ≠ w2.heap.size by have := own_block_lt ho h; omega))
      have zC : w.heap.size + 1 + 1 ≤ w2.heap.size := by omega
      clear ho b2 M0 M1 bY z1 z2 zV
      go_wp2_with fail
      generalize w2.alloc (.cells #[.slice ao nl cp, .int .i64 0, .bool false] 117) = U at *
      obtain ⟨C, hC⟩ : ∃ b, w2.heap.size = b := ⟨_, rfl⟩
      rw [hC] at N2 zC HNE ⊢
      clear hC
      have zU := N2.lt
      have HN0 := Lib.hid N0
      have HN1 := Lib.hid N1
      have HN2 := Lib.hid N2
      have HB3 := Lib.hid b3
      clear N0 N1 N2 b3
      have hq40 : nl ≤ 40 := by have := rok_len HQ.out.1; rw [HL.out] at this; exact this
      go_loopw [26] (fun i wr => ∃ (k : Nat) (xs : List H3) (ak : Option Addr) (ck len : Nat), k ≤ M ∧ i = .int .i64 (k : Int) ∧ len = xs.length ∧ len ≤ 40 ∧ (∀ h ∈ xs, In64 h) ∧ rrF zs q bx cy lo hi ps qs (M) qs 0 = rrF zs q bx cy lo hi ps qs (M - k) xs k ∧ Below w.heap.size w wr ∧ C < wr.heap.size ∧ Blk wr w.heap.size #[.slice am nm cm, .int .i64 q, .int .i64 bx, .int .i64 cy, .int .i64 lo, .int .i64 hi, .slice an nn cn, .slice al nl cl] 42 ∧ Blk wr (w.heap.size + 1) #[.slice none 0 0, .int .i64 0, .bool false] 117 ∧ Blk wr C #[.slice ak len ck, .int .i64 (k : Int), .bool false] 117 ∧ wr.ownsRow (w.heap.size + 1 + 1) 104 3 (.slice ak len ck) len (flat xs) ∧ ∀ g, (Value.slice ak len ck).ownBlock = some g → g ≠ C) (fun i _ => M - (intOf i).toNat)
      case atStart => exact ⟨0, qs, ao, cp, nl, Nat.zero_le _, rfl, HL.out.symm, hq40, rok_64 HQ.out.1, rfl, HB3.out, zU, HN0.out, HN1.out, HN2.out, HO.out, HNE.out⟩
      case round =>
        clear HN0 HN1 HN2 HB3 HO HNE zU
        obtain ⟨k, xs, ak, ck, len, hk, rfl, hlen, h40, h6, hF, hbw, hzC, h0, h1, h2, hown, hne⟩ := hrel
        have HB := Lib.hid hbw
        have HH0 := Lib.hid h0
        have HH1 := Lib.hid h1
        have HH2 := Lib.hid h2
        have HOW := Lib.hid hown
        have HNE := Lib.hid hne
        have HLN := Lib.hid hlen
        have H6 := Lib.hid h6
        have HF := Lib.hid hF
        clear hF
        clear hbw h0 h1 h2 hown hne hlen h6
        by_cases h3 : k < M
        · -- one more round
          have c0 := HH0.out.c8_0
          have c1 := HH0.out.c8_1
          have c2 := HH0.out.c8_2
          have c3 := HH0.out.c8_3
          have c4 := HH0.out.c8_4
          have c5 := HH0.out.c8_5
          have c6 := HH0.out.c8_6
          have c7 := HH0.out.c8_7
          have e0 := HH2.out.cell0 (i := 0) (v := .slice ak len ck) rfl
          have e1 := HH2.out.cell0 (i := 1) (v := .int .i64 (k : Int)) rfl
          have e2 := HH2.out.cell0 (i := 2) (v := .bool false) rfl
          obtain rfl : len = xs.length := HLN.out
          go_wp2_with fail
          clear c0 c1 c2 c3 c4 c5 c6 c7 e0 e1 e2
          refine (HKP.out wr _ _ xs HB.out h40 H6.out (own_nil HOW.out) (own_hs HOW.out)).mono ?_
          rintro e w4 ⟨ag, cg, rfl, ho, bl4⟩
          have bY := below_bx2 bl4 (.cells #[.slice ag (kpL zs q bx cy lo hi ps qs xs).length cg] 40)
          have HOG := Lib.hid (own_below ho (below_one w4 (.cells #[.slice ag (kpL zs q bx cy lo hi ps qs xs).length cg] 40)))
          have zG := bl4.size
          have HNG := Lib.hid (fun g (h : (Value.slice ag (kpL zs q bx cy lo hi ps qs xs).length cg).ownBlock = some g) => (show g ≠ C by have := own_block_lt ho h; omega))
          have N3 := blk_new w4 #[.slice ag (kpL zs q bx cy lo hi ps qs xs).length cg] 40 rfl
          have Q0 := HH0.out.to bY
          have Q1 := HH1.out.to bY
          have Q2 := HH2.out.to bY
          have b5 := below_to HB.out bY
          have HOX := Lib.hid (own_below HOW.out bY)
          have zX : C < (w4.alloc (.cells #[.slice ag (kpL zs q bx cy lo hi ps qs xs).length cg] 40)).heap.size := Nat.lt_of_lt_of_le hzC bY.size
          have zW : C < w4.heap.size := by omega
          have zw1 : w.heap.size + 1 + 1 ≤ wr.heap.size := by omega
          clear ho bl4 HH0 HH1 HH2 HB HOW bY zG
          cases hB : kpB zs q bx cy lo hi ps qs xs with
          | false =>
            have hfa : rrF zs q bx cy lo hi ps qs (M) qs 0 = none := by rw [HF.out, show M - k = (M - k - 1) + 1 by omega]; exact rrF_no hB
            have HN := Lib.hid (HGM.out.trans hfa)
            clear hfa
            have q0 := Q1.cell0 (i := 0) (v := .slice none 0 0) rfl
            have q1 := Q1.cell0 (i := 1) (v := .int .i64 0) rfl
            have q2 := Q1.cell0 (i := 2) (v := .bool false) rfl
            have f0 := Q1.free 0
            have f1 := Q1.free 1
            have f2 := Q1.free 2
            clear hB Q0 Q2 HOG HOX N3 HKP HSM
            go_wp2_with fail
            exact bodyPost_ret (v := .tuple #[.agg #[.slice none 0 0, .int .i64 0, .bool false], .bool false]) (by simp [results, Tryz.results124, go_sem, q0, q1, q2]) rfl (AnsK.no (rr_none HN.out) (((b5.setCell (p := ⟨w.heap.size + 1, 0, none⟩) (Nat.le_add_right _ _) _).setCell (p := ⟨w.heap.size + 1, 1, none⟩) (Nat.le_add_right _ _) _).setCell (p := ⟨w.heap.size + 1, 2, none⟩) (Nat.le_add_right _ _) _))
          | true =>
            have HBT := Lib.hid hB
            clear hB
            have n0 := N3.cell0 (i := 0) rfl
            have e0 := Q2.cell0 (i := 0) rfl
            go_wp2_with fail
            clear n0 e0
            generalize w4.alloc (.cells #[.slice ag (kpL zs q bx cy lo hi ps qs xs).length cg] 40) = Y at *
            obtain ⟨gy, hgy⟩ : ∃ b, w4.heap.size = b := ⟨_, rfl⟩
            rw [hgy] at N3 zW ⊢
            clear hgy
            refine (HSM.out Y _ _ _ _ _ _ (kpL_len _ _ _ _ _ _ _ _ _) (own_hs HOG.out) (own_hs HOX.out)).mono ?_
            rintro e w5 ⟨rfl, bl5⟩
            have R0 := Q0.to bl5
            have R1 := Q1.to bl5
            have R2 := Q2.to bl5
            have R3 := N3.to bl5
            have b6 := below_to b5 bl5
            have HPG := Lib.hid (own_below HOG.out bl5)
            have HPX := Lib.hid (own_below HOX.out bl5)
            have zY : C < w5.heap.size := Nat.lt_of_lt_of_le zX bl5.size
            clear Q0 Q1 Q2 N3 b5 HOG HOX bl5 zX
            by_cases hS : kpL zs q bx cy lo hi ps qs xs = xs
            · have hsm : sameB (kpL zs q bx cy lo hi ps qs xs) xs = true := by unfold sameB; rw [hS]; simp
              have hfa : rrF zs q bx cy lo hi ps qs (M) qs 0 = some (xs, k, true) := by rw [HF.out, show M - k = (M - k - 1) + 1 by omega]; exact rrF_stop HBT.out hS
              have HFA := Lib.hid (HGM.out.trans hfa)
              rw [hsm]
              clear hsm hS hfa HPG R3 HNG HBT
              have S2 : Blk (w5.setCell ⟨C, 2, none⟩ (.bool true)) C #[.slice ak xs.length ck, .int .i64 (k : Int), .bool true] 117 := R2.set 2 _
              have S1 := R1.pt (C := C) (by omega) 2 (.bool true)
              have S0 := R0.pt (C := C) (by omega) 2 (.bool true)
              have HOS := Lib.hid (own_ne (p := ⟨C, 2, none⟩) HPX.out (fun g h => HNE.out g h) (.bool true))
              have b7 := b6.setCell (p := ⟨C, 2, none⟩) (by simp only; omega) (.bool true)
              have x0 := R2.cell0 (i := 0) rfl
              have x1 := R2.cell0 (i := 1) rfl
              have x2 := R2.cell0 (i := 2) rfl
              have fx2 := R2.free 2
              have y0 := R1.cell0 (i := 0) (v := .slice none 0 0) rfl
              have y1 := R1.cell0 (i := 1) (v := .int .i64 0) rfl
              have y2 := R1.cell0 (i := 2) (v := .bool false) rfl
              have fy0 := R1.free 0
              have fy1 := R1.free 1
              have fy2 := R1.free 2
              have HFI := Lib.hid (AnsK.yes (w := w) (rr_some HFA.out) (own_base (own_far (p := ⟨w.heap.size + 1, 2, none⟩) (own_far (p := ⟨w.heap.size + 1, 1, none⟩) (own_far (p := ⟨w.heap.size + 1, 0, none⟩) HOS.out (by simp) (.slice ak xs.length ck)) (by simp) (.int .i64 (k : Int))) (by simp) (.bool true)) (by omega)) (((b7.setCell (p := ⟨w.heap.size + 1, 0, none⟩) (Nat.le_add_right _ _) (.slice ak xs.length ck)).setCell (p := ⟨w.heap.size + 1, 1, none⟩) (Nat.le_add_right _ _) (.int .i64 (k : Int))).setCell (p := ⟨w.heap.size + 1, 2, none⟩) (Nat.le_add_right _ _) (.bool true)))
              clear S0 S1 S2 HPX HOS HKP HSM R0
              have ncz : ¬ C = w.heap.size + 1 := by omega
              have ncz' : ¬ w.heap.size + 1 = C := by omega
              go_wp2_with fail
              exact bodyPost_ret (v := .tuple #[.agg #[.slice ak xs.length ck, .int .i64 (k : Int), .bool true], .bool true]) (by simp [results, Tryz.results124, go_sem, y0, y1, y2]) rfl HFI.out
            · have hsm : sameB (kpL zs q bx cy lo hi ps qs xs) xs = false := by unfold sameB; exact decide_eq_false hS
              have hfa : rrF zs q bx cy lo hi ps qs (M) qs 0 = rrF zs q bx cy lo hi ps qs (M - (k + 1)) (kpL zs q bx cy lo hi ps qs xs) (k + 1) := by rw [HF.out, show M - k = (M - (k + 1)) + 1 by omega]; exact rrF_next HBT.out hS
              have HFA := Lib.hid hfa
              rw [hsm]
              clear hsm hS hfa HPX HNE HF
              have S2 : Blk (((w5.setCell ⟨C, 0, none⟩ (.slice ag (kpL zs q bx cy lo hi ps qs xs).length cg)).setCell ⟨C, 1, none⟩ (.int .i64 ((k : Int) + 1))).setCell ⟨C, 2, none⟩ (.bool false)) C #[.slice ag (kpL zs q bx cy lo hi ps qs xs).length cg, .int .i64 ((k + 1 : Nat) : Int), .bool false] 117 := by rw [show ((k + 1 : Nat) : Int) = (k : Int) + 1 by omega]; exact R2.s3 _ _ _
              have S1 := (((R1.pt (C := C) (by omega) 0 (.slice ag (kpL zs q bx cy lo hi ps qs xs).length cg)).pt (C := C) (by omega) 1 (.int .i64 ((k : Int) + 1))).pt (C := C) (by omega) 2 (.bool false))
              have S0 := (((R0.pt (C := C) (by omega) 0 (.slice ag (kpL zs q bx cy lo hi ps qs xs).length cg)).pt (C := C) (by omega) 1 (.int .i64 ((k : Int) + 1))).pt (C := C) (by omega) 2 (.bool false))
              have HOS := Lib.hid (own_base (own_ne (p := ⟨C, 2, none⟩) (own_ne (p := ⟨C, 1, none⟩) (own_ne (p := ⟨C, 0, none⟩) HPG.out (fun g h => HNG.out g h) (.slice ag (kpL zs q bx cy lo hi ps qs xs).length cg)) (fun g h => HNG.out g h) (.int .i64 ((k : Int) + 1))) (fun g h => HNG.out g h) (.bool false)) (show w.heap.size + 1 + 1 ≤ wr.heap.size by omega))
              have b7 := (((b6.setCell (p := ⟨C, 0, none⟩) (by simp only; omega) (.slice ag (kpL zs q bx cy lo hi ps qs xs).length cg)).setCell (p := ⟨C, 1, none⟩) (by simp only; omega) (.int .i64 ((k : Int) + 1))).setCell (p := ⟨C, 2, none⟩) (by simp only; omega) (.bool false))
              have HX := Lib.hid (⟨S2, S1, S0⟩ : _ ∧ _ ∧ _)
              have n0 := R3.cell0 (i := 0) rfl
              have x0 := R2.cell0 (i := 0) rfl
              have x1 := R2.cell0 (i := 1) rfl
              have x2 := R2.cell0 (i := 2) rfl
              have fx0 := R2.free 0
              have fx1 := R2.free 1
              have fx2 := R2.free 2
              have hgC : ¬ gy = C := by omega
              have hgC' : ¬ C = gy := by omega
              clear S0 S1 S2 HPG R0 R1 R2 R3 HKP HSM
              go_wp2_with fail
              go_roundw
              case rel => exact ⟨k + 1, kpL zs q bx cy lo hi ps qs xs, ag, cg, (kpL zs q bx cy lo hi ps qs xs).length, by omega, by go_num, rfl, kpL_len _ _ _ _ _ _ _ _ _, kpL_64 _ _ _ _ _ _ _ _ _, HFA.out, b7, by simpa using zY, HX.out.2.2, HX.out.2.1, HX.out.1, HOS.out, HNG.out⟩
              case measure => simp [intOf]; omega
        · have hkM : k = M := by omega
          subst hkM
          have hfa : rrF zs q bx cy lo hi ps qs (k) qs 0 = some (xs, k, false) := by have h := HF.out; rw [Nat.sub_self] at h; exact h
          have HFA := Lib.hid hfa
          clear HF hfa
          have e0 := HH2.out.cell0 (i := 0) (v := .slice ak len ck) rfl
          have e1 := HH2.out.cell0 (i := 1) (v := .int .i64 (k : Int)) rfl
          have e2 := HH2.out.cell0 (i := 2) (v := .bool false) rfl
          have q0 := HH1.out.cell0 (i := 0) (v := .slice none 0 0) rfl
          have q1 := HH1.out.cell0 (i := 1) (v := .int .i64 0) rfl
          have q2 := HH1.out.cell0 (i := 2) (v := .bool false) rfl
          have f0 := HH1.out.free 0
          have f1 := HH1.out.free 1
          have f2 := HH1.out.free 2
          have HFI := Lib.hid (AnsK.yes (w := w) (rr_some (HGM.out.trans HFA.out)) (own_base (own_far (p := ⟨w.heap.size + 1, 2, none⟩) (own_far (p := ⟨w.heap.size + 1, 1, none⟩) (own_far (p := ⟨w.heap.size + 1, 0, none⟩) HOW.out (by simp) (.slice ak len ck)) (by simp) (.int .i64 (k : Int))) (by simp) (.bool false)) (by omega)) (((HB.out.setCell (p := ⟨w.heap.size + 1, 0, none⟩) (Nat.le_add_right _ _) (.slice ak len ck)).setCell (p := ⟨w.heap.size + 1, 1, none⟩) (Nat.le_add_right _ _) (.int .i64 (k : Int))).setCell (p := ⟨w.heap.size + 1, 2, none⟩) (Nat.le_add_right _ _) (.bool false)))
          clear HKP HSM HH0
          go_wp2_with fail
          exact bodyPost_ret (v := .tuple #[.agg #[.slice ak len ck, .int .i64 (k : Int), .bool false], .bool true]) (by simp [results, Tryz.results124, go_sem, q0, q1, q2]) rfl HFI.out
end Go.Proofs.YtibkmhmeoelpdaaGreat
