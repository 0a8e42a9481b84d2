/- The contract of the program's cutEdges over the translation: the edges of a polygon cut by a half plane. -/
import Derived.Test.YtobmaajfdpcfmaaId
namespace Go.Proofs.Ytobmaajfdpcfmaa
open Go.RowKit
open Geo (H3)

theorem sgP_D (h : H3) (p : H3 × H3) : (sgP h p = -1 ↔ Geo.D p.1 p.2 h < 0) ∧ (sgP h p = 1 ↔ 0 < Geo.D p.1 p.2 h) := by
  unfold sgP sideV Geo.D
  constructor
  · split
    · constructor <;> intro _ <;> first | omega | rfl
    · split <;> constructor <;> intro _ <;> omega
  · split
    · constructor <;> intro _ <;> omega
    · split <;> constructor <;> intro _ <;> first | omega | rfl
theorem has_out (E : List H3) (h : H3) : hasI (sideL E h) 1 = (Geo.cyc E).any (fun p => decide (0 < Geo.D p.1 p.2 h)) := by
  rw [Bool.eq_iff_iff]
  unfold hasI sideL
  simp only [decide_eq_true_eq, List.mem_map, List.any_eq_true]
  constructor
  · rintro ⟨p, m, e⟩; exact ⟨p, m, (sgP_D h p).2.1 e⟩
  · rintro ⟨p, m, e⟩; exact ⟨p, m, (sgP_D h p).2.2 e⟩
theorem has_in (E : List H3) (h : H3) : hasI (sideL E h) (-1) = (Geo.cyc E).any (Geo.ng h) := by
  rw [Bool.eq_iff_iff]
  unfold hasI sideL
  simp only [decide_eq_true_eq, List.mem_map, List.any_eq_true]
  constructor
  · rintro ⟨p, m, e⟩; exact ⟨p, m, (Geo.ng_p h p).2 ((sgP_D h p).1.1 e)⟩
  · rintro ⟨p, m, e⟩; exact ⟨p, m, (sgP_D h p).1.2 ((Geo.ng_p h p).1 e)⟩
theorem ng_sg (h : H3) (p : H3 × H3) : Geo.ng h p = decide (sgP h p = -1) := by
  rw [Bool.eq_iff_iff, Geo.ng_p, decide_eq_true_eq]; exact (sgP_D h p).1.symm
/-- what the loop has kept of the first k edges -/
def kpt (E : List H3) (h : H3) (k : Nat) : List H3 := Geo.keep h (Geo.lastN h false (Geo.cyc E)) ((Geo.cyc E).take k)
def lst (E : List H3) (h : H3) (k : Nat) : Bool := Geo.lastN h (Geo.lastN h false (Geo.cyc E)) ((Geo.cyc E).take k)
theorem kpt_next {E : List H3} {h x y : H3} {k : Nat} (hc : (Geo.cyc E)[k]? = some (x, y)) : kpt E h (k + 1) = kpt E h k ++ (if lst E h k || Geo.ng h (x, y) then [x] else []) ∧ lst E h (k + 1) = Geo.ng h (x, y) := by
  unfold kpt lst
  rw [List.take_add_one, hc, Geo.keep_append, Geo.lastN_append]
  simp only [Option.toList_some, Geo.keep, Geo.lastN]
  constructor <;> trivial
theorem lastN_last {h : H3} {l : List (H3 × H3)} {n : Nat} {p : H3 × H3} (s : Bool) (hl : l.length = n + 1) (hp : l[n]? = some p) : Geo.lastN h s l = Geo.ng h p := by
  have : l = l.take n ++ [p] := by
    have := List.take_add_one (l := l) (i := n)
    rw [hp, List.take_of_length_le (by omega)] at this
    exact this
  rw [this, Geo.lastN_append]; rfl
theorem start_lst {E : List H3} {h : H3} {n : Nat} {z : Int} (hn : 0 < n) (hl : E.length = n) (hz : (sideL E h)[n - 1]? = some z) : decide (z = -1) = lst E h 0 := by
  unfold sideL at hz
  rw [List.getElem?_map] at hz
  cases hc : (Geo.cyc E)[n - 1]? with
  | none => rw [hc] at hz; cases hz
  | some p =>
    rw [hc] at hz
    simp only [Option.map_some, Option.some.injEq] at hz
    unfold lst
    rw [List.take_zero]
    show _ = Geo.lastN h false (Geo.cyc E)
    rw [lastN_last (n := n - 1) false (by rw [cyc_len]; omega) hc, ng_sg, hz]
theorem kpt_all (E : List H3) (h : H3) (n : Nat) (hl : E.length = n) : kpt E h n = Geo.kept E h := by
  unfold kpt Geo.kept
  rw [List.take_of_length_le (by rw [cyc_len]; omega)]
theorem kpt_sub (E : List H3) (h : H3) (k : Nat) : (kpt E h k).length ≤ k ∧ ∀ x ∈ kpt E h k, x ∈ E := by
  have s := Geo.keep_sub h (Geo.lastN h false (Geo.cyc E)) ((Geo.cyc E).take k)
  refine ⟨?_, fun x hx => ?_⟩
  · have := s.length_le; simp at this; unfold kpt; omega
  · have := s.subset hx
    rw [List.map_take] at this
    have := List.mem_of_mem_take this
    unfold Geo.cyc at this
    rwa [Geo.prs_fst] at this
theorem bef_V (f g : H3) : Geo.bef f g = befV f.a f.b g.a g.b := rfl
/-- the edges that are left are handed back in a row of the call's own, or the old ones as they were -/
def CutW (w : World) (B : Nat) (hs : List H3) (e : Ending) (w' : World) : Prop := ∃ ao cp, e = .returned (.slice ao hs.length cp) ∧ w'.ownsRow B 34 3 (.slice ao hs.length cp) hs.length (flat hs) ∧ Below w.heap.size w w'
theorem CutW.same {w w' : World} {B n cp : Nat} {ao : Option Addr} {hs : List H3} (ho : w'.ownsRow B 34 3 (.slice ao n cp) n (flat hs)) (hb : Below w.heap.size w w') : CutW w B hs (.returned (.slice ao n cp)) w' := by
  obtain rfl := (own3_view ho).1
  exact ⟨ao, cp, rfl, ho, hb⟩
theorem cutL_same {E : List H3} {h : H3} (k : hasI (sideL E h) 1 = false) : Geo.cutL E h = E := by
  rw [has_out] at k; unfold Geo.cutL; rw [k]; rfl
theorem cutL_none {E : List H3} {h : H3} (k : hasI (sideL E h) 1 = true) (l : hasI (sideL E h) (-1) = false) : Geo.cutL E h = [] := by
  rw [has_out] at k; rw [has_in] at l; unfold Geo.cutL; rw [k, l]; rfl
theorem cutL_ins {E : List H3} {h : H3} (k : hasI (sideL E h) 1 = true) (l : hasI (sideL E h) (-1) = true) : Geo.cutL E h = Geo.ins (Geo.kept E h) h := by
  rw [has_out] at k; rw [has_in] at l; unfold Geo.cutL; rw [k, l]; rfl
theorem okB_nz {h : H3} (k : okB h = true) : Geo.nz h := by
  obtain ⟨_, _, _, _, h5, _⟩ := (okH_iff _ _ _).1 k
  exact h5
theorem news_at {w : World} {B B' : Nat} {cs : Array Value} {t : TypeId} (e : B = B') (hb : w.heap[B]? = some (.cells cs t (0, 0))) : ∀ j u, cs.toList[j]? = some u → w.cell? ((⟨B', 0, none⟩ : Addr).add j) = some u := by
  subst e; exact World.news_of_block hb
theorem own_base_le {w : World} {B n s p : Nat} {e : TypeId} {v : Value} {xs : List Value} (h : w.ownsRow B e s v n xs) (hp : v.ownBlock = some p) : B ≤ p := by
  rcases h.2 with ⟨rfl, _⟩ | ⟨g, cap, cur, rfl, hg, _⟩
  · simp [Value.ownBlock] at hp
  · simp [Value.ownBlock] at hp; omega
set_option maxRecDepth 100000 in
set_option maxHeartbeats 4000000 in
theorem cut_edges (a : Option Addr) (n cap B : Nat) (E : List H3) (ha hb hc : Int) (w : World) (hn : n ≤ 999) (hE : ∀ h ∈ E, okB h = true) (hp : E.Pairwise (fun f g => Geo.bef f g = true)) (hh : okH ha hb hc = true) (hB : B ≤ w.heap.size) (ho : w.ownsRow B 34 3 (.slice a n cap) n (flat E)) :
    Calls Try.prog 67 #[.slice a n cap, .agg #[.int .i64 ha, .int .i64 hb, .int .i64 hc]] w (CutW w B (Geo.cutL E ⟨ha, hb, hc⟩)) := by
  obtain ⟨i0, hi, hz0, hz1, hz2⟩ := info_parts Try.info34
  have hl := (own3_view ho).1
  have HO := Lib.hid ho
  have HL := Lib.hid hl
  have HP := Lib.hid hp
  have HE := Lib.hid hE
  have HH := Lib.hid hh
  clear ho hl hp hE hh
  go_enter Try.func67, Try.ntmps67
  go_wp2_with fail
  have bV := below_one w (.cells #[.int .i64 ha, .int .i64 hb, .int .i64 hc] 34)
  have q3 := tri_new w (.int .i64 ha) (.int .i64 hb) (.int .i64 hc) 34
  generalize w.alloc (.cells #[.int .i64 ha, .int .i64 hb, .int .i64 hc] 34) = V at *
  refine (sides_of a n cap E ha hb hc V HL.out (by omega) HE.out HH.out (own_hs (own_below HO.out bV))).mono ?_
  rintro e w1 ⟨sa, cs, rfl, ho1, bl1⟩
  have b1 := below_to bV bl1
  have p3 := q3.to bl1
  have hsl := (own_is ho1).1
  have HI := Lib.hid (own_is ho1).2
  have HSL := Lib.hid hsl
  clear q3 bV bl1 ho1 hsl
  go_wp2_with fail
  refine (has_side sa n cs (sideL E ⟨ha, hb, hc⟩) 1 w1 HSL.out (by omega) HI.out).mono ?_
  rintro e w1' ⟨rfl, rfl⟩
  cases h1 : hasI (sideL E ⟨ha, hb, hc⟩) 1 with
  | false =>
    have HC := Lib.hid (cutL_same h1)
    have H1 := Lib.hid (own_below HO.out b1)
    clear h1
    go_wp2
    go_ret
    rw [HC.out]
    exact CutW.same H1.out b1
  | true =>
    have HC1 := Lib.hid h1
    clear h1
    go_wp2_with fail
    refine (has_side sa n cs (sideL E ⟨ha, hb, hc⟩) (-1) w1 HSL.out (by omega) HI.out).mono ?_
    rintro e w1' ⟨rfl, rfl⟩
    cases h2 : hasI (sideL E ⟨ha, hb, hc⟩) (-1) with
    | false =>
      have HC := Lib.hid (cutL_none HC1.out h2)
      clear h2
      go_wp2
      go_ret
      rw [HC.out]
      exact CutW.same own3_none b1
    | true =>
      have HC := Lib.hid (cutL_ins HC1.out h2)
      have hn0 : 0 < n := by
        rcases Nat.eq_zero_or_pos n with h | h
        · have h0 : sideL E ⟨ha, hb, hc⟩ = [] := List.eq_nil_of_length_eq_zero (by rw [HSL.out, h])
          rw [h0] at h2; simp [hasI] at h2
        · exact h
      clear h2
      obtain ⟨zl, hzl⟩ : ∃ z, (sideL E ⟨ha, hb, hc⟩)[n - 1]? = some z := ⟨_, List.getElem?_eq_getElem (by rw [HSL.out]; omega)⟩
      obtain ⟨gs, os, rfl, hcl⟩ := HI.out _ _ hzl
      have HZ := Lib.hid hzl
      have e1 : ((n : Int) - 1).toNat = n - 1 := by omega
      have e2 : (0 : Int) ≤ (n : Int) - 1 := by omega
      have e3 : (n : Int) - 1 < (n : Int) := by omega
      clear hzl
      go_wp2
      clear e1 e2 e3
      have HST := Lib.hid (start_lst (h := ⟨ha, hb, hc⟩) hn0 HL.out HZ.out)
      go_loopw [6, 7, 28] (fun v b i wr => ∃ (k : Nat) (z : Int), k ≤ n ∧ i = .int .i64 k ∧ b = .int .i64 z ∧ decide (z = -1) = lst E ⟨ha, hb, hc⟩ k ∧ wr.ownsRow w1.heap.size 34 3 v (kpt E ⟨ha, hb, hc⟩ k).length (flat (kpt E ⟨ha, hb, hc⟩ k)) ∧ Below w1.heap.size w1 wr) (fun _ _ i _ => n - (intOf i).toNat)
      case atStart => exact ⟨0, zl, Nat.zero_le _, rfl, rfl, HST.out, own3_none, Below.refl _ _⟩
      case round =>
        obtain ⟨k, z, hk, rfl, rfl, hlz, hov, hbel⟩ := hrel
        obtain ⟨av, cv, rfl⟩ := own_slice hov
        have H0 := Lib.hid hov
        have HLZ := Lib.hid hlz
        have hbw := below_to b1 hbel
        clear hov hlz
        by_cases hlt : k < n
        · obtain ⟨⟨xa, xb, xc⟩, hx⟩ : ∃ x, E[k]? = some x := ⟨_, List.getElem?_eq_getElem (by rw [HL.out]; exact hlt)⟩
          obtain ⟨y, hy⟩ : ∃ x, E[(k + 1) % n]? = some x := ⟨_, List.getElem?_eq_getElem (by rw [HL.out]; exact Nat.mod_lt _ (by omega))⟩
          have hcy := cyc_at HL.out hx hy
          have hkn := kpt_next (h := ⟨ha, hb, hc⟩) hcy
          rw [ng_sg] at hkn
          have hzk : (sideL E ⟨ha, hb, hc⟩)[k]? = some (sgP ⟨ha, hb, hc⟩ (⟨xa, xb, xc⟩, y)) := by unfold sideL; rw [List.getElem?_map, hcy]; rfl
          obtain ⟨gs', os', e, hck⟩ := HI.out _ _ hzk
          simp only [Option.some.injEq, Addr.mk.injEq, and_true] at e
          obtain ⟨rfl, rfl⟩ := e
          have ck := cell_to hck hbel
          have lk := block_lt_of_cell ck
          simp only at lk
          generalize sgP ⟨ha, hb, hc⟩ (⟨xa, xb, xc⟩, y) = zk at *
          rw [← HLZ.out] at hkn
          have hln := (kpt_sub E ⟨ha, hb, hc⟩ k).1
          obtain ⟨g, o, rfl, hcx⟩ := (own_hs HO.out) k _ hx
          obtain ⟨t1, t2, t3⟩ := hcx.to hbw
          have l1 := block_lt_of_cell t1
          simp only at t1 t2 t3 l1
          have HKN := Lib.hid hkn
          have HCK := Lib.hid hck
          clear hkn hx hy hcy hzk hck hcx
          by_cases hz : z = -1
          · have HK2 := Lib.hid (show kpt E ⟨ha, hb, hc⟩ (k + 1) = kpt E ⟨ha, hb, hc⟩ k ++ [⟨xa, xb, xc⟩] by rw [HKN.out.1]; simp [hz])
            subst hz
            generalize hKL : (kpt E ⟨ha, hb, hc⟩ k).length = kl at *
            have HKL := Lib.hid hKL
            clear hKL
            go_wp2_with (at_builtin; refine wpList_append_lies _ rfl _ _ 23 rfl w1.heap.size 34 i0 (.agg #[.int .i64 0, .int .i64 0, .int .i64 0]) 3 24 Try.underlying23 hi hz0 hz1 hz2 rfl (by decide) (.slice av kl cv) kl _ rfl (own_below H0.out (below_bx2 (below_one _ _) _)) ⟨wr.heap.size + 1, 0, none⟩ 1 1 [.int .i64 xa, .int .i64 xb, .int .i64 xc] rfl rfl (news_at (by simp) (heap_alloc_new (wr.alloc (.cells #[.int .i64 xa, .int .i64 xb, .int .i64 xc] 34)) (.cells #[.int .i64 xa, .int .i64 xb, .int .i64 xc] 34))) (by simp [Value.oneCell']) (by omega) (by unfold maxLen; omega) (by omega) (by have := hbel.size; simp; omega) _ rfl ?_; intro gg cap' w4 hown4 hgrow hat hlt4; have b4 : Below w1.heap.size w1 w4 := (Below.grown (hbel.trans ((below_bx2 (below_one _ _) _).mono hbel.size)) hgrow (by have := hbel.size; simp; omega) (fun p hp => own_base_le H0.out hp)); have H4 := Lib.hid hown4; have ck4 := cell_to HCK.out b4; clear hown4 hgrow hat)
            go_roundw
            case rel =>
              refine ⟨k + 1, zk, by omega, by go_num, rfl, HKN.out.2.symm, ?_, b4⟩
              have hx := H4.out
              rw [HK2.out, List.length_append, HKL.out, flat_app]
              exact hx
            case measure => simp [intOf]; omega
          · by_cases hz2 : zk = -1
            · have hd : (z == -1) = false := eq_b hz
              have HK2 := Lib.hid (show kpt E ⟨ha, hb, hc⟩ (k + 1) = kpt E ⟨ha, hb, hc⟩ k ++ [⟨xa, xb, xc⟩] by rw [HKN.out.1]; simp [hz2])
              clear hz
              subst hz2
              generalize hKL : (kpt E ⟨ha, hb, hc⟩ k).length = kl at *
              have HKL := Lib.hid hKL
              clear hKL
              go_wp2_with (at_builtin; refine wpList_append_lies _ rfl _ _ 23 rfl w1.heap.size 34 i0 (.agg #[.int .i64 0, .int .i64 0, .int .i64 0]) 3 24 Try.underlying23 hi hz0 hz1 hz2 rfl (by decide) (.slice av kl cv) kl _ rfl (own_below H0.out (below_bx2 (below_one _ _) _)) ⟨wr.heap.size + 1, 0, none⟩ 1 1 [.int .i64 xa, .int .i64 xb, .int .i64 xc] rfl rfl (news_at (by simp) (heap_alloc_new (wr.alloc (.cells #[.int .i64 xa, .int .i64 xb, .int .i64 xc] 34)) (.cells #[.int .i64 xa, .int .i64 xb, .int .i64 xc] 34))) (by simp [Value.oneCell']) (by omega) (by unfold maxLen; omega) (by omega) (by have := hbel.size; simp; omega) _ rfl ?_; intro gg cap' w4 hown4 hgrow hat hlt4; have b4 : Below w1.heap.size w1 w4 := (Below.grown (hbel.trans ((below_bx2 (below_one _ _) _).mono hbel.size)) hgrow (by have := hbel.size; simp; omega) (fun p hp => own_base_le H0.out hp)); have H4 := Lib.hid hown4; have ck4 := cell_to HCK.out b4; clear hown4 hgrow hat)
              go_roundw
              case rel =>
                refine ⟨k + 1, -1, by omega, by go_num, rfl, HKN.out.2.symm, ?_, b4⟩
                have hx := H4.out
                rw [HK2.out, List.length_append, HKL.out, flat_app]
                exact hx
              case measure => simp [intOf]; omega
            · have hd : (z == -1) = false := eq_b hz
              have hd2 : (zk == -1) = false := eq_b hz2
              have HK2 := Lib.hid (show kpt E ⟨ha, hb, hc⟩ (k + 1) = kpt E ⟨ha, hb, hc⟩ k by rw [HKN.out.1]; simp [hz, hz2])
              clear hz hz2
              go_wp2
              go_roundw
              case rel => exact ⟨k + 1, zk, by omega, by go_num, rfl, HKN.out.2.symm, by rw [HK2.out]; exact own_below H0.out (below_one _ _), hbel.trans ((below_one _ _).mono hbel.size)⟩
              case measure => simp [intOf]; omega
        · have hkn : k = n := by omega
          subst hkn
          have hK := H0.out
          rw [kpt_all E ⟨ha, hb, hc⟩ k HL.out] at hK
          have hsub := (kpt_sub E ⟨ha, hb, hc⟩ k)
          rw [kpt_all E ⟨ha, hb, hc⟩ k HL.out] at hsub
          have hpw : (Geo.kept E ⟨ha, hb, hc⟩).Pairwise (fun f g => Geo.bef f g = true) := by
            refine List.Pairwise.sublist ?_ HP.out
            have := Geo.keep_sub ⟨ha, hb, hc⟩ (Geo.lastN ⟨ha, hb, hc⟩ false (Geo.cyc E)) (Geo.cyc E)
            unfold Geo.kept
            unfold Geo.cyc at this ⊢
            rwa [Geo.prs_fst] at this
          obtain ⟨KA, KB, eK, hKA, hKB⟩ := Geo.cut_at (fun e he => okB_nz (HE.out e (hsub.2 e he))) hpw (show Geo.nz ⟨ha, hb, hc⟩ from okB_nz (h := ⟨ha, hb, hc⟩) HH.out)
          have hlen : (kpt E ⟨ha, hb, hc⟩ k).length = (KA ++ KB).length := by rw [kpt_all E ⟨ha, hb, hc⟩ k HL.out, eK]
          have hins : Geo.cutL E ⟨ha, hb, hc⟩ = KA ++ ⟨ha, hb, hc⟩ :: KB := by rw [HC.out, eK]; exact Geo.ins_split hKA hKB
          rw [eK] at hK hsub
          rw [hlen]
          have HN := Lib.hid (insert_angle (.slice av (KA ++ KB).length cv) (KA ++ KB).length w1.heap.size KA KB ha hb hc wr (by omega) (fun h hh => HE.out h (hsub.2 h hh)) HH.out hKA hKB hbel.size hK)
          have HIN := Lib.hid hins
          have hsz : (KA ++ ⟨ha, hb, hc⟩ :: KB).length = (KA ++ KB).length + 1 := by simp [Nat.add_assoc]
          have HSZ := Lib.hid hsz
          obtain ⟨t1, t2, t3⟩ := p3.to hbel
          have hzs := b1.size
          clear hK hsub hpw eK hKA hKB hlen hins hsz
          generalize (KA ++ KB).length = kl at *
          go_wp2_with fail
          refine HN.out.mono ?_
          rintro e w5 ⟨a5, c5, rfl, ho5, bl5⟩
          have H5 := Lib.hid ho5
          clear ho5
          go_wp2
          go_ret
          rw [HIN.out]
          exact CutW.same (own_base H5.out (by omega)) (b1.trans ((hbel.trans bl5).mono hzs))
end Go.Proofs.Ytobmaajfdpcfmaa
