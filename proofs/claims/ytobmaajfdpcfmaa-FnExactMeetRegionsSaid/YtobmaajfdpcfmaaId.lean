/- The contract of the program's insertByAngle over the translation: the half plane is put behind those that do not come after it. -/
import Derived.Test.YtobmaajfdpcfmaaIc
import Derived.Test.YtobmaajfdpcfmaaCp
namespace Go.Proofs.Ytobmaajfdpcfmaa
open Go.RowKit
open Geo (H3)

/-- an owned row that has grown -/
def RowW (w : World) (B : Nat) (hs : List H3) (n : Nat) (e : Ending) (w' : World) : Prop := ∃ ao cp, e = .returned (.slice ao n cp) ∧ w'.ownsRow B 34 3 (.slice ao n cp) n (flat hs) ∧ Below B w w'
theorem cell_far {w w' : World} {row : Option Nat} {p : Addr} {u : Value} (h : w.cell? p = some u) (hg : w.grownBy w' row) (hne : some p.block ≠ row) : w'.cell? p = some u := by
  rw [hg.cell_far _ (block_lt_of_cell h) hne]; exact h
theorem own_other {w : World} {B g n s cap : Nat} {e : TypeId} {xs : List Value} (h : w.ownsRow B e s (.slice (some ⟨g, 0, none⟩) n cap) n xs) {p : Addr} (hp : p.block ≠ g) (u : Value) : (w.setCell p u).ownsRow B e s (.slice (some ⟨g, 0, none⟩) n cap) n xs := by
  refine ⟨h.1, ?_⟩
  rcases h.2 with ⟨h2, _⟩ | ⟨g', cap', cur, hv, hg, hh, r⟩
  · simp at h2
  · have hv' := hv
    simp at hv'
    obtain ⟨rfl, rfl⟩ := hv'
    exact .inr ⟨g, cap, cur, rfl, hg, (Below.heap_setCell w p u g (fun e => hp e.symm)).trans hh, r⟩
theorem own_parts {w : World} {B g n cap s : Nat} {e : TypeId} {xs : List Value} (h : w.ownsRow B e s (.slice (some ⟨g, 0, none⟩) n cap) n xs) : ∃ cur, w.heap[g]? = some (.cells cur e (0, 0)) ∧ n ≤ cap ∧ cap ≤ maxLen ∧ cur.size = cap * s ∧ cur.toList.take (n * s) = xs := by
  rcases h.2 with ⟨h2, _⟩ | ⟨g', cap', cur, hv, hg, hh, r⟩
  · simp at h2
  · simp at hv
    obtain ⟨rfl, rfl⟩ := hv
    exact ⟨cur, hh, r⟩
theorem tri_far {w : World} {g o : Nat} {a b c : Value} (h : Tri w g o a b c) {p : Addr} (hp : p.block ≠ g) (u : Value) : Tri (w.setCell p u) g o a b c :=
  ⟨by rw [World.cell?_setCell_other w p _ u (fun e => hp (by rw [e]))]; exact h.1, by rw [World.cell?_setCell_other w p _ u (fun e => hp (by rw [e]))]; exact h.2.1, by rw [World.cell?_setCell_other w p _ u (fun e => hp (by rw [e]))]; exact h.2.2⟩
theorem cell_row {w : World} {g : Nat} {cs : Array Value} {p : Addr} {u : Value} (h : w.cell? p = some u) (hp : p.block ≠ g) : (w.setRow g cs).cell? p = some u := by
  rw [World.cell?_of_block (setRow_other w g p.block cs (by omega))]; exact h
theorem ins_list (KA KB : List H3) (h : H3) : ((KA ++ KB ++ [h]).take (KA.length + 1) ++ ((KA ++ KB ++ [h]).drop KA.length).take KB.length).set KA.length h = KA ++ h :: KB := by
  rw [List.append_assoc, List.take_length_add_append, List.drop_left, List.take_left]
  cases KB with
  | nil => simp
  | cons x l => simp
theorem Try.size34 : (Try.prog.info? 34).map (·.size) = some 3 := by kernel_rfl
set_option maxRecDepth 100000 in
set_option maxHeartbeats 4000000 in
theorem insert_angle (v : Value) (n B : Nat) (KA KB : List H3) (ha hb hc : Int) (w : World) (hn : n ≤ 1000) (hK : ∀ h ∈ KA ++ KB, okB h = true) (hh : okH ha hb hc = true) (hA : ∀ h ∈ KA, befV ha hb h.a h.b = false) (hB' : ∀ h ∈ KB, befV ha hb h.a h.b = true)
    (hB : B ≤ w.heap.size) (ho : w.ownsRow B 34 3 v n (flat (KA ++ KB))) :
    Calls Try.prog 112 #[v, .agg #[.int .i64 ha, .int .i64 hb, .int .i64 hc]] w (RowW w B (KA ++ ⟨ha, hb, hc⟩ :: KB) (n + 1)) := by
  obtain ⟨i0, hi, hz0, hz1, hz2⟩ := info_parts Try.info34
  obtain ⟨ao, cp, rfl⟩ := own_slice ho
  have hl := (own3_view ho).1
  have far : ∀ p, (Value.slice ao n cp).ownBlock = some p → p < w.heap.size ∧ B ≤ p := by
    intro p hp
    rcases ho.2 with ⟨h1, _⟩ | ⟨g', cap', cur, h1, h2, h3, _⟩
    · rw [h1] at hp; simp [Value.ownBlock] at hp
    · rw [h1] at hp
      simp [Value.ownBlock] at hp
      subst hp
      exact ⟨lt_of_block h3, h2⟩
  have n2 : some w.heap.size ≠ (Value.slice ao n cp).ownBlock := fun h => by have := far _ h.symm; omega
  have n3 : some (w.heap.size + 1) ≠ (Value.slice ao n cp).ownBlock := fun h => by have := far _ h.symm; omega
  have HF := Lib.hid far
  have HO := Lib.hid ho
  have HS := Lib.hid (fun W p q (h1 : Tri W p 0 (.int .i64 ha) (.int .i64 hb) (.int .i64 hc)) (h2 : W.cell? ⟨q, 0, none⟩ = some (.slice ao n cp)) (h3 : HsAt W ao (KA ++ KB)) => search_bef p q n cp ao KA KB ha hb hc W hl hn hK hh hA hB' h1 h2 h3)
  have hle : KA.length ≤ n := by rw [← hl]; simp
  have HL := Lib.hid hl
  clear ho far hK hh hA hB' hl
  go_enter Try.func112, Try.ntmps112
  go_wp2_with fail
  have bV := below_bx2 (below_one w (.cells #[.slice ao n cp] 23)) (.cells #[.int .i64 ha, .int .i64 hb, .int .i64 hc] 34)
  have q3 := tri_new (w.alloc (.cells #[.slice ao n cp] 23)) (.int .i64 ha) (.int .i64 hb) (.int .i64 hc) 34
  have q2 := cell_to (show (w.alloc (.cells #[.slice ao n cp] 23)).cell? ⟨w.heap.size, 0, none⟩ = some (.slice ao n cp) by simp) (below_one _ (.cells #[.int .i64 ha, .int .i64 hb, .int .i64 hc] 34))
  rw [show (w.alloc (.cells #[.slice ao n cp] 23)).heap.size = w.heap.size + 1 by simp] at q3
  have f2 : ((w.alloc (.cells #[.slice ao n cp] 23)).alloc (.cells #[.int .i64 ha, .int .i64 hb, .int .i64 hc] 34)).frozen? ⟨w.heap.size, 0, none⟩ = false := by simp
  have hz : w.heap.size + 1 < ((w.alloc (.cells #[.slice ao n cp] 23)).alloc (.cells #[.int .i64 ha, .int .i64 hb, .int .i64 hc] 34)).heap.size := by simp
  generalize (w.alloc (.cells #[.slice ao n cp] 23)).alloc (.cells #[.int .i64 ha, .int .i64 hb, .int .i64 hc] 34) = V at *
  refine (HS.out V (w.heap.size + 1) w.heap.size q3 q2 (own_hs (own_below HO.out bV))).mono ?_
  rintro e w1 ⟨rfl, bl1⟩
  generalize hm : KA.length = m at *
  have HM := Lib.hid hm
  have b1 := below_to bV bl1
  have p3 := q3.to bl1
  have p2 := cell_to q2 bl1
  have g2 : w1.frozen? ⟨w.heap.size, 0, none⟩ = false := by rw [bl1.frozen (by show w.heap.size < V.heap.size; omega)]; exact f2
  have hz1' : w.heap.size + 1 < w1.heap.size := by have := bl1.size; omega
  have H1 := Lib.hid (own_below HO.out b1)
  have P3 := Lib.hid p3
  obtain ⟨t1, t2, t3⟩ := p3
  have hfz : (w1.alloc (.cells #[.int .i64 ha, .int .i64 hb, .int .i64 hc] 34)).frozen? ⟨w.heap.size, 0, none⟩ = false := by rw [(below_one w1 (.cells #[.int .i64 ha, .int .i64 hb, .int .i64 hc] 34)).frozen (by show w.heap.size < w1.heap.size; omega)]; exact g2
  have HZ := Lib.hid hfz
  clear q3 q2 bV bl1 hz f2 hm hfz
  go_wp2_with (at_builtin; refine wpList_append_lies _ rfl _ _ 23 rfl B 34 i0 (.agg #[.int .i64 0, .int .i64 0, .int .i64 0]) 3 24 Try.underlying23 hi hz0 hz1 hz2 rfl (by decide) (.slice ao n cp) n _ rfl (own_below H1.out (below_one _ _)) ⟨w1.heap.size, 0, none⟩ 1 1 [.int .i64 ha, .int .i64 hb, .int .i64 hc] rfl rfl (World.news_of_block (cs := #[.int .i64 ha, .int .i64 hb, .int .i64 hc]) (t := 34) (fr := (0, 0)) (heap_alloc_new w1 _)) (by simp [Value.oneCell']) (by omega) (by unfold maxLen; omega) (by omega) (by have := b1.size; simp; omega) _ rfl ?_; intro gg cap' w4 hown4 hgrow hat hlt4; have r2 := cell_far (cell_to p2 (below_one _ _)) hgrow n2; have r3 := (P3.out.to (below_one _ _)).far hgrow n3; have rf : w4.frozen? ⟨w.heap.size, 0, none⟩ = false := (by rw [hgrow.frozen_far _ (by simp; omega) n2]; exact HZ.out); have H4 := Lib.hid hown4; have HG := Lib.hid hgrow; have HT := Lib.hid hat; clear hown4 hgrow hat p2 t1 t2 t3 g2; obtain ⟨t1, t2, t3⟩ := r3)
  have hgB : B ≤ gg := (own_free H4.out 0).2.1
  have hgne : gg ≠ w.heap.size := by
    rcases HT.out with h | h
    · have := (HF.out _ h).1; omega
    · simp at h; omega
  have hgne3 : gg ≠ w.heap.size + 1 := by
    rcases HT.out with h | h
    · have := (HF.out _ h).1; omega
    · simp at h; omega
  have bX : Below B w (w4.setCell ⟨w.heap.size, 0, none⟩ (.slice (some ⟨gg, 0, none⟩) (n + 1) cap')) := by
    have b0 : Below B w (w1.alloc (.cells #[.int .i64 ha, .int .i64 hb, .int .i64 hc] 34)) := (below_to b1 (below_one _ _)).mono hB
    exact (b0.grown HG.out (Nat.le_trans hB b0.size) (fun p hp => (HF.out p hp).2)).setCell hB _
  have x2 : (w4.setCell ⟨w.heap.size, 0, none⟩ (.slice (some ⟨gg, 0, none⟩) (n + 1) cap')).cell? ⟨w.heap.size, 0, none⟩ = some (.slice (some ⟨gg, 0, none⟩) (n + 1) cap') := World.cell?_setCell_same _ _ _ r2
  have x3 : Tri (w4.setCell ⟨w.heap.size, 0, none⟩ (.slice (some ⟨gg, 0, none⟩) (n + 1) cap')) (w.heap.size + 1) 0 (.int .i64 ha) (.int .i64 hb) (.int .i64 hc) := tri_far ⟨t1, t2, t3⟩ (by show w.heap.size ≠ w.heap.size + 1; omega) _
  have HX := Lib.hid (own_other (p := ⟨w.heap.size, 0, none⟩) H4.out (by show w.heap.size ≠ gg; omega) (.slice (some ⟨gg, 0, none⟩) (n + 1) cap'))
  clear H4 HG HT t1 t2 t3 r2 rf H1 b1 hlt4 HZ P3 HO HF n2 n3 HS hz1'
  generalize w4.setCell ⟨w.heap.size, 0, none⟩ (.slice (some ⟨gg, 0, none⟩) (n + 1) cap') = X at *
  obtain ⟨cur, hh, hcp, hmx, hsz, htk⟩ := own_parts HX.out
  have HH := Lib.hid hh
  have HT := Lib.hid htk
  clear hh htk
  unfold maxLen at hmx
  have HQ := Lib.hid hsz
  clear hsz
  have a1 : IntKind.i64.wrap ((m : Int) + 1) = (m : Int) + 1 := IntWalk.i64_in _ (by omega)
  have a2 : ((m : Int) + 1).toNat = m + 1 := by omega
  have a3 : (0 : Int) ≤ (m : Int) + 1 := by omega
  have a4 : (m : Int) + 1 ≤ (n : Int) + 1 := by omega
  have a5 : (m : Int) ≤ (n : Int) + 1 := by omega
  have a6 : (0 : Int) ≤ (m : Int) := by omega
  obtain ⟨L, hL⟩ : ∃ L, KA ++ KB ++ [⟨ha, hb, hc⟩] = L := ⟨_, rfl⟩
  have hLl : L.length = n + 1 := by rw [← hL, List.length_append, HL.out]; rfl
  have hTf : cur.toList.take ((n + 1) * 3) = flat L := by rw [HT.out, ← hL, flat_app (KA ++ KB)]; rfl
  have Q1 := Lib.hid (show Nat.min (n + 1 - m) (n - m) = n - m from Nat.min_eq_right (by omega))
  have Q2 := Lib.hid (show (flat ((L.drop m).take (n - m))).length = (n - m) * 3 by rw [flat_len, List.length_take, List.length_drop]; omega)
  have Q3 := Lib.hid (show 0 < n - m → (if cap' = m + 1 then some (⟨gg, 0, none⟩ : Addr) else some ⟨gg, (m + 1) * 3, none⟩) = some ⟨gg, (m + 1) * 3, none⟩ ∧ ∃ ad, (if cap' = m then some (⟨gg, 0, none⟩ : Addr) else some ⟨gg, m * 3, none⟩) = some ad ∧ ∀ j v, (flat ((L.drop m).take (n - m)))[j]? = some v → X.drew.cell? (ad.add j) = some v from fun h => ⟨if_neg (by omega), ⟨gg, m * 3, none⟩, if_neg (by omega), tail_cells (w := X.drew) HH.out hTf⟩)
  have Q4 := Lib.hid (show (m + 1) * 3 + (flat ((L.drop m).take (n - m))).length ≤ cur.size by rw [Q2.out, HQ.out]; omega)
  have HLL := Lib.hid hLl
  have HTT := Lib.hid hTf
  have HLe := Lib.hid hL
  have HMX := Lib.hid hmx
  have HCP := Lib.hid hcp
  have Q5 := Lib.hid (own_shift (w := X.drew) (i := m) (r := n - m) (by omega) hgB HH.out hcp (by unfold maxLen; exact hmx) HQ.out hTf hLl)
  clear hLl hTf hL
  go_region_law ((refine step_copyN rfl (.tmp 17) (.tmp 20) 23 23 rfl 34 3 Try.underlying23 Try.size34 (if cap' = m + 1 then some ⟨gg, 0, none⟩ else some ⟨gg, (m + 1) * 3, none⟩) (if cap' = m then some ⟨gg, 0, none⟩ else some ⟨gg, m * 3, none⟩) (n - m) (cap' - (m + 1)) (n + 1 - m) (cap' - m) rfl rfl gg ((m + 1) * 3) cur 34 HH.out (n - m) Q1.out (flat ((L.drop m).take (n - m))) Q2.out Q3.out Q4.out (flat_one _) ?_))
  all_goals
    clear a1 a2 a3 a4 a5 a6
    have y2 := cell_row (g := gg) (cs := (cur.toList.take ((m + 1) * 3) ++ (flat ((L.drop m).take (n - m)) ++ cur.toList.drop ((m + 1) * 3 + (flat ((L.drop m).take (n - m))).length))).toArray) (show X.drew.cell? ⟨w.heap.size, 0, none⟩ = _ from x2) (by show w.heap.size ≠ gg; omega)
    have y3 : Tri (X.drew.setRow gg (cur.toList.take ((m + 1) * 3) ++ (flat ((L.drop m).take (n - m)) ++ cur.toList.drop ((m + 1) * 3 + (flat ((L.drop m).take (n - m))).length))).toArray) (w.heap.size + 1) 0 _ _ _ := ⟨cell_row (show X.drew.cell? _ = _ from x3.1) (by show w.heap.size + 1 ≠ gg; omega), cell_row (show X.drew.cell? _ = _ from x3.2.1) (by show w.heap.size + 1 ≠ gg; omega), cell_row (show X.drew.cell? _ = _ from x3.2.2) (by show w.heap.size + 1 ≠ gg; omega)⟩
    have bY : Below B w (X.drew.setRow gg (cur.toList.take ((m + 1) * 3) ++ (flat ((L.drop m).take (n - m)) ++ cur.toList.drop ((m + 1) * 3 + (flat ((L.drop m).take (n - m))).length))).toArray) := below_setRow (Below.drew bX) hgB _
    generalize X.drew.setRow gg (cur.toList.take ((m + 1) * 3) ++ (flat ((L.drop m).take (n - m)) ++ cur.toList.drop ((m + 1) * 3 + (flat ((L.drop m).take (n - m))).length))).toArray = Y at *
    obtain ⟨z, _, c1, c2, c3, f1, f2, f3, _, hgl⟩ := own3_at Q5.out (show m < n + 1 by omega)
    obtain ⟨t1, t2, t3⟩ := y3
    have HR := Lib.hid (show RowW w B (KA ++ ⟨ha, hb, hc⟩ :: KB) (n + 1) (.returned (.slice (some ⟨gg, 0, none⟩) (n + 1) cap')) (((Y.setCell ⟨gg, m * 3, none⟩ (.int .i64 ha)).setCell ⟨gg, m * 3 + 1, none⟩ (.int .i64 hb)).setCell ⟨gg, m * 3 + 2, none⟩ (.int .i64 hc)) from by
      have hp := own3_put Q5.out m ⟨ha, hb, hc⟩
      have hk : KB.length = n - m := by have := HL.out; rw [List.length_append, HM.out] at this; omega
      have hlist : (L.take (m + 1) ++ (L.drop m).take (n - m)).set m ⟨ha, hb, hc⟩ = KA ++ ⟨ha, hb, hc⟩ :: KB := by
        rw [← HLe.out, ← hk, ← HM.out]; exact ins_list KA KB _
      rw [hlist] at hp
      exact ⟨_, _, rfl, hp, below_row (below_row (below_row bY hgB _) hgB _) hgB _⟩)
    clear Q1 Q2 Q3 Q4 x2 x3 HH HQ HTT HT bX HX
    go_wp2
    all_goals
      go_ret
      first | exact HR.out | (rename_i h; subst h; exact HR.out) | (rename_i h _; subst h; exact HR.out)
end Go.Proofs.Ytobmaajfdpcfmaa
