/- The contract of the program's insertByAngle over the translation: the half plane is put behind those that do not come after it. The contract of the program's cutEdges over the translation: the edges of a polygon cut by a half plane. The contract of the program's RegionFrom over the translation: the frame cut by one half plane after the other. -/
import Derived.Test.YtibkmhmeoelpdaaIj
namespace Go.Proofs.Ytibkmhmeoelpdaa
open Go.RowKit
open Geo (H3)

/-- an owned row that has grown -/
def RowW (w : World) (B : Nat) (hs : List H3) (n : Nat) (e : Ending) (w' : World) : Prop := ∃ ao cp, e = .returned (.slice ao n cp) ∧ w'.ownsRow B 60 3 (.slice ao n cp) n (flat hs) ∧ Below B w w'
theorem cell_far {w w' : World} {row : Option Nat} {p : Addr} {u : Value} (h : w.cell? p = some u) (hg : w.grownBy w' row) (hne : some p.block ≠ row) : w'.cell? p = some u := by
  rw [hg.cell_far _ (block_lt_of_cell h) hne]; exact h
theorem own_other {w : World} {B g n s cap : Nat} {e : TypeId} {xs : List Value} (h : w.ownsRow B e s (.slice (some ⟨g, 0, none⟩) n cap) n xs) {p : Addr} (hp : p.block ≠ g) (u : Value) : (w.setCell p u).ownsRow B e s (.slice (some ⟨g, 0, none⟩) n cap) n xs := by
  refine ⟨h.1, ?_⟩
  rcases h.2 with ⟨h2, _⟩ | ⟨g', cap', cur, hv, hg, hh, r⟩
  · simp at h2
  · have hv' := hv
    simp at hv'
    obtain ⟨rfl, rfl⟩ := hv'
    exact .inr ⟨g, cap, cur, rfl, hg, (Below.heap_setCell w p u g (fun e => hp e.symm)).trans hh, r⟩
theorem own_parts {w : World} {B g n cap s : Nat} {e : TypeId} {xs : List Value} (h : w.ownsRow B e s (.slice (some ⟨g, 0, none⟩) n cap) n xs) : ∃ cur, w.heap[g]? = some (.cells cur e (0, 0)) ∧ n ≤ cap ∧ cap ≤ maxLen ∧ cur.size = cap * s ∧ cur.toList.take (n * s) = xs := by
  rcases h.2 with ⟨h2, _⟩ | ⟨g', cap', cur, hv, hg, hh, r⟩
  · simp at h2
  · simp at hv
    obtain ⟨rfl, rfl⟩ := hv
    exact ⟨cur, hh, r⟩
theorem tri_far {w : World} {g o : Nat} {a b c : Value} (h : Tri w g o a b c) {p : Addr} (hp : p.block ≠ g) (u : Value) : Tri (w.setCell p u) g o a b c :=
  ⟨by rw [World.cell?_setCell_other w p _ u (fun e => hp (by rw [e]))]; exact h.1, by rw [World.cell?_setCell_other w p _ u (fun e => hp (by rw [e]))]; exact h.2.1, by rw [World.cell?_setCell_other w p _ u (fun e => hp (by rw [e]))]; exact h.2.2⟩
theorem cell_row {w : World} {g : Nat} {cs : Array Value} {p : Addr} {u : Value} (h : w.cell? p = some u) (hp : p.block ≠ g) : (w.setRow g cs).cell? p = some u := by
  rw [World.cell?_of_block (setRow_other w g p.block cs (by omega))]; exact h
theorem ins_list (KA KB : List H3) (h : H3) : ((KA ++ KB ++ [h]).take (KA.length + 1) ++ ((KA ++ KB ++ [h]).drop KA.length).take KB.length).set KA.length h = KA ++ h :: KB := by
  rw [List.append_assoc, List.take_length_add_append, List.drop_left, List.take_left]
  cases KB with
  | nil => simp
  | cons x l => simp
theorem Try.size34 : (Try.prog.info? 60).map (·.size) = some 3 := by kernel_rfl
set_option maxRecDepth 100000 in
set_option maxHeartbeats 4000000 in
theorem insert_angle (v : Value) (n B : Nat) (KA KB : List H3) (ha hb hc : Int) (w : World) (hn : n ≤ 1000) (hK : ∀ h ∈ KA ++ KB, okB h = true) (hh : okH ha hb hc = true) (hA : ∀ h ∈ KA, befV ha hb h.a h.b = false) (hB' : ∀ h ∈ KB, befV ha hb h.a h.b = true)
    (hB : B ≤ w.heap.size) (ho : w.ownsRow B 60 3 v n (flat (KA ++ KB))) :
    Calls Try.prog 108 #[v, .agg #[.int .i64 ha, .int .i64 hb, .int .i64 hc]] w (RowW w B (KA ++ ⟨ha, hb, hc⟩ :: KB) (n + 1)) := by
  obtain ⟨i0, hi, hz0, hz1, hz2⟩ := info_parts Try.info34
  obtain ⟨ao, cp, rfl⟩ := own_slice ho
  have hl := (own3_view ho).1
  have far : ∀ p, (Value.slice ao n cp).ownBlock = some p → p < w.heap.size ∧ B ≤ p := by
    intro p hp
    rcases ho.2 with ⟨h1, _⟩ | ⟨g', cap', cur, h1, h2, h3, _⟩
    · rw [h1] at hp; simp [Value.ownBlock] at hp
    · rw [h1] at hp
      simp [Value.ownBlock] at hp
      subst hp
      exact ⟨lt_of_block h3, h2⟩
  have n2 : some w.heap.size ≠ (Value.slice ao n cp).ownBlock := fun h => by have := far _ h.symm; omega
  have n3 : some (w.heap.size + 1) ≠ (Value.slice ao n cp).ownBlock := fun h => by have := far _ h.symm; omega
  have HF := Lib.hid far
  have HO := Lib.hid ho
  have HS := Lib.hid (fun W p q (h1 : Tri W p 0 (.int .i64 ha) (.int .i64 hb) (.int .i64 hc)) (h2 : W.cell? ⟨q, 0, none⟩ = some (.slice ao n cp)) (h3 : HsAt W ao (KA ++ KB)) => search_bef p q n cp ao KA KB ha hb hc W hl hn hK hh hA hB' h1 h2 h3)
  have hle : KA.length ≤ n := by rw [← hl]; simp
  have HL := Lib.hid hl
  clear ho far hK hh hA hB' hl
  go_enter Try.func108, Try.ntmps108
  go_wp2_with fail
  have bV := below_bx2 (below_one w (.cells #[.slice ao n cp] 54)) (.cells #[.int .i64 ha, .int .i64 hb, .int .i64 hc] 60)
  have q3 := tri_new (w.alloc (.cells #[.slice ao n cp] 54)) (.int .i64 ha) (.int .i64 hb) (.int .i64 hc) 60
  have q2 := cell_to (show (w.alloc (.cells #[.slice ao n cp] 54)).cell? ⟨w.heap.size, 0, none⟩ = some (.slice ao n cp) by simp) (below_one _ (.cells #[.int .i64 ha, .int .i64 hb, .int .i64 hc] 60))
  rw [show (w.alloc (.cells #[.slice ao n cp] 54)).heap.size = w.heap.size + 1 by simp] at q3
  have f2 : ((w.alloc (.cells #[.slice ao n cp] 54)).alloc (.cells #[.int .i64 ha, .int .i64 hb, .int .i64 hc] 60)).frozen? ⟨w.heap.size, 0, none⟩ = false := by simp
  have hz : w.heap.size + 1 < ((w.alloc (.cells #[.slice ao n cp] 54)).alloc (.cells #[.int .i64 ha, .int .i64 hb, .int .i64 hc] 60)).heap.size := by simp
  generalize (w.alloc (.cells #[.slice ao n cp] 54)).alloc (.cells #[.int .i64 ha, .int .i64 hb, .int .i64 hc] 60) = V at *
  refine (HS.out V (w.heap.size + 1) w.heap.size q3 q2 (own_hs (own_below HO.out bV))).mono ?_
  rintro e w1 ⟨rfl, bl1⟩
  generalize hm : KA.length = m at *
  have HM := Lib.hid hm
  have b1 := below_to bV bl1
  have p3 := q3.to bl1
  have p2 := cell_to q2 bl1
  have g2 : w1.frozen? ⟨w.heap.size, 0, none⟩ = false := by rw [bl1.frozen (by show w.heap.size < V.heap.size; omega)]; exact f2
  have hz1' : w.heap.size + 1 < w1.heap.size := by have := bl1.size; omega
  have H1 := Lib.hid (own_below HO.out b1)
  have P3 := Lib.hid p3
  obtain ⟨t1, t2, t3⟩ := p3
  have hfz : (w1.alloc (.cells #[.int .i64 ha, .int .i64 hb, .int .i64 hc] 60)).frozen? ⟨w.heap.size, 0, none⟩ = false := by rw [(below_one w1 (.cells #[.int .i64 ha, .int .i64 hb, .int .i64 hc] 60)).frozen (by show w.heap.size < w1.heap.size; omega)]; exact g2
  have HZ := Lib.hid hfz
  clear q3 q2 bV bl1 hz f2 hm hfz
  go_wp2_with (at_builtin; refine wpList_append_lies _ rfl _ _ 54 rfl B 60 i0 (.agg #[.int .i64 0, .int .i64 0, .int .i64 0]) 3 24 Try.underlying54 hi hz0 hz1 hz2 rfl (by decide) (.slice ao n cp) n _ rfl (own_below H1.out (below_one _ _)) ⟨w1.heap.size, 0, none⟩ 1 1 [.int .i64 ha, .int .i64 hb, .int .i64 hc] rfl rfl (World.news_of_block (cs := #[.int .i64 ha, .int .i64 hb, .int .i64 hc]) (t := 60) (fr := (0, 0)) (heap_alloc_new w1 _)) (by simp [Value.oneCell']) (by omega) (by unfold maxLen; omega) (by omega) (by have := b1.size; simp; omega) _ rfl ?_; intro gg cap' w4 hown4 hgrow hat hlt4; have r2 := cell_far (cell_to p2 (below_one _ _)) hgrow n2; have r3 := (P3.out.to (below_one _ _)).far hgrow n3; have rf : w4.frozen? ⟨w.heap.size, 0, none⟩ = false := (by rw [hgrow.frozen_far _ (by simp; omega) n2]; exact HZ.out); have H4 := Lib.hid hown4; have HG := Lib.hid hgrow; have HT := Lib.hid hat; clear hown4 hgrow hat p2 t1 t2 t3 g2; obtain ⟨t1, t2, t3⟩ := r3)
  have hgB : B ≤ gg := (own_free H4.out 0).2.1
  have hgne : gg ≠ w.heap.size := by
    rcases HT.out with h | h
    · have := (HF.out _ h).1; omega
    · simp at h; omega
  have hgne3 : gg ≠ w.heap.size + 1 := by
    rcases HT.out with h | h
    · have := (HF.out _ h).1; omega
    · simp at h; omega
  have bX : Below B w (w4.setCell ⟨w.heap.size, 0, none⟩ (.slice (some ⟨gg, 0, none⟩) (n + 1) cap')) := by
    have b0 : Below B w (w1.alloc (.cells #[.int .i64 ha, .int .i64 hb, .int .i64 hc] 60)) := (below_to b1 (below_one _ _)).mono hB
    exact (b0.grown HG.out (Nat.le_trans hB b0.size) (fun p hp => (HF.out p hp).2)).setCell hB _
  have x2 : (w4.setCell ⟨w.heap.size, 0, none⟩ (.slice (some ⟨gg, 0, none⟩) (n + 1) cap')).cell? ⟨w.heap.size, 0, none⟩ = some (.slice (some ⟨gg, 0, none⟩) (n + 1) cap') := World.cell?_setCell_same _ _ _ r2
  have x3 : Tri (w4.setCell ⟨w.heap.size, 0, none⟩ (.slice (some ⟨gg, 0, none⟩) (n + 1) cap')) (w.heap.size + 1) 0 (.int .i64 ha) (.int .i64 hb) (.int .i64 hc) := tri_far ⟨t1, t2, t3⟩ (by show w.heap.size ≠ w.heap.size + 1; omega) _
  have HX := Lib.hid (own_other (p := ⟨w.heap.size, 0, none⟩) H4.out (by show w.heap.size ≠ gg; omega) (.slice (some ⟨gg, 0, none⟩) (n + 1) cap'))
  clear H4 HG HT t1 t2 t3 r2 rf H1 b1 hlt4 HZ P3 HO HF n2 n3 HS hz1'
  generalize w4.setCell ⟨w.heap.size, 0, none⟩ (.slice (some ⟨gg, 0, none⟩) (n + 1) cap') = X at *
  obtain ⟨cur, hh, hcp, hmx, hsz, htk⟩ := own_parts HX.out
  have HH := Lib.hid hh
  have HT := Lib.hid htk
  clear hh htk
  unfold maxLen at hmx
  have HQ := Lib.hid hsz
  clear hsz
  have a1 : IntKind.i64.wrap ((m : Int) + 1) = (m : Int) + 1 := IntWalk.i64_in _ (by omega)
  have a2 : ((m : Int) + 1).toNat = m + 1 := by omega
  have a3 : (0 : Int) ≤ (m : Int) + 1 := by omega
  have a4 : (m : Int) + 1 ≤ (n : Int) + 1 := by omega
  have a5 : (m : Int) ≤ (n : Int) + 1 := by omega
  have a6 : (0 : Int) ≤ (m : Int) := by omega
  obtain ⟨L, hL⟩ : ∃ L, KA ++ KB ++ [⟨ha, hb, hc⟩] = L := ⟨_, rfl⟩
  have hLl : L.length = n + 1 := by rw [← hL, List.length_append, HL.out]; rfl
  have hTf : cur.toList.take ((n + 1) * 3) = flat L := by rw [HT.out, ← hL, flat_app (KA ++ KB)]; rfl
  have Q1 := Lib.hid (show Nat.min (n + 1 - m) (n - m) = n - m from Nat.min_eq_right (by omega))
  have Q2 := Lib.hid (show (flat ((L.drop m).take (n - m))).length = (n - m) * 3 by rw [flat_len, List.length_take, List.length_drop]; omega)
  have Q3 := Lib.hid (show 0 < n - m → (if cap' = m + 1 then some (⟨gg, 0, none⟩ : Addr) else some ⟨gg, (m + 1) * 3, none⟩) = some ⟨gg, (m + 1) * 3, none⟩ ∧ ∃ ad, (if cap' = m then some (⟨gg, 0, none⟩ : Addr) else some ⟨gg, m * 3, none⟩) = some ad ∧ ∀ j v, (flat ((L.drop m).take (n - m)))[j]? = some v → X.drew.cell? (ad.add j) = some v from fun h => ⟨if_neg (by omega), ⟨gg, m * 3, none⟩, if_neg (by omega), tail_cells (w := X.drew) HH.out hTf⟩)
  have Q4 := Lib.hid (show (m + 1) * 3 + (flat ((L.drop m).take (n - m))).length ≤ cur.size by rw [Q2.out, HQ.out]; omega)
  have HLL := Lib.hid hLl
  have HTT := Lib.hid hTf
  have HLe := Lib.hid hL
  have HMX := Lib.hid hmx
  have HCP := Lib.hid hcp
  have Q5 := Lib.hid (own_shift (w := X.drew) (i := m) (r := n - m) (by omega) hgB HH.out hcp (by unfold maxLen; exact hmx) HQ.out hTf hLl)
  clear hLl hTf hL
  go_region_law ((refine step_copyN rfl (.tmp 17) (.tmp 20) 54 54 rfl 60 3 Try.underlying54 Try.size34 (if cap' = m + 1 then some ⟨gg, 0, none⟩ else some ⟨gg, (m + 1) * 3, none⟩) (if cap' = m then some ⟨gg, 0, none⟩ else some ⟨gg, m * 3, none⟩) (n - m) (cap' - (m + 1)) (n + 1 - m) (cap' - m) rfl rfl gg ((m + 1) * 3) cur 60 HH.out (n - m) Q1.out (flat ((L.drop m).take (n - m))) Q2.out Q3.out Q4.out (flat_one _) ?_))
  all_goals
    clear a1 a2 a3 a4 a5 a6
    have y2 := cell_row (g := gg) (cs := (cur.toList.take ((m + 1) * 3) ++ (flat ((L.drop m).take (n - m)) ++ cur.toList.drop ((m + 1) * 3 + (flat ((L.drop m).take (n - m))).length))).toArray) (show X.drew.cell? ⟨w.heap.size, 0, none⟩ = _ from x2) (by show w.heap.size ≠ gg; omega)
    have y3 : Tri (X.drew.setRow gg (cur.toList.take ((m + 1) * 3) ++ (flat ((L.drop m).take (n - m)) ++ cur.toList.drop ((m + 1) * 3 + (flat ((L.drop m).take (n - m))).length))).toArray) (w.heap.size + 1) 0 _ _ _ := ⟨cell_row (show X.drew.cell? _ = _ from x3.1) (by show w.heap.size + 1 ≠ gg; omega), cell_row (show X.drew.cell? _ = _ from x3.2.1) (by show w.heap.size + 1 ≠ gg; omega), cell_row (show X.drew.cell? _ = _ from x3.2.2) (by show w.heap.size + 1 ≠ gg; omega)⟩
    have bY : Below B w (X.drew.setRow gg (cur.toList.take ((m + 1) * 3) ++ (flat ((L.drop m).take (n - m)) ++ cur.toList.drop ((m + 1) * 3 + (flat ((L.drop m).take (n - m))).length))).toArray) := below_setRow (Below.drew bX) hgB _
    generalize X.drew.setRow gg (cur.toList.take ((m + 1) * 3) ++ (flat ((L.drop m).take (n - m)) ++ cur.toList.drop ((m + 1) * 3 + (flat ((L.drop m).take (n - m))).length))).toArray = Y at *
    obtain ⟨z, _, c1, c2, c3, f1, f2, f3, _, hgl⟩ := own3_at Q5.out (show m < n + 1 by omega)
    obtain ⟨t1, t2, t3⟩ := y3
    have HR := Lib.hid (show RowW w B (KA ++ ⟨ha, hb, hc⟩ :: KB) (n + 1) (.returned (.slice (some ⟨gg, 0, none⟩) (n + 1) cap')) (((Y.setCell ⟨gg, m * 3, none⟩ (.int .i64 ha)).setCell ⟨gg, m * 3 + 1, none⟩ (.int .i64 hb)).setCell ⟨gg, m * 3 + 2, none⟩ (.int .i64 hc)) from by
      have hp := own3_put Q5.out m ⟨ha, hb, hc⟩
      have hk : KB.length = n - m := by have := HL.out; rw [List.length_append, HM.out] at this; omega
      have hlist : (L.take (m + 1) ++ (L.drop m).take (n - m)).set m ⟨ha, hb, hc⟩ = KA ++ ⟨ha, hb, hc⟩ :: KB := by
        rw [← HLe.out, ← hk, ← HM.out]; exact ins_list KA KB _
      rw [hlist] at hp
      exact ⟨_, _, rfl, hp, below_row (below_row (below_row bY hgB _) hgB _) hgB _⟩)
    clear Q1 Q2 Q3 Q4 x2 x3 HH HQ HTT HT bX HX
    go_wp2
    all_goals
      go_ret
      first | exact HR.out | (rename_i h; subst h; exact HR.out) | (rename_i h _; subst h; exact HR.out)

theorem sgP_D (h : H3) (p : H3 × H3) : (sgP h p = -1 ↔ Geo.D p.1 p.2 h < 0) ∧ (sgP h p = 1 ↔ 0 < Geo.D p.1 p.2 h) := by
  unfold sgP sideV Geo.D
  constructor
  · split
    · constructor <;> intro _ <;> first | omega | rfl
    · split <;> constructor <;> intro _ <;> omega
  · split
    · constructor <;> intro _ <;> omega
    · split <;> constructor <;> intro _ <;> first | omega | rfl
theorem has_out (E : List H3) (h : H3) : hasI (sideL E h) 1 = (Geo.cyc E).any (fun p => decide (0 < Geo.D p.1 p.2 h)) := by
  rw [Bool.eq_iff_iff]
  unfold hasI sideL
  simp only [decide_eq_true_eq, List.mem_map, List.any_eq_true]
  constructor
  · rintro ⟨p, m, e⟩; exact ⟨p, m, (sgP_D h p).2.1 e⟩
  · rintro ⟨p, m, e⟩; exact ⟨p, m, (sgP_D h p).2.2 e⟩
theorem has_in (E : List H3) (h : H3) : hasI (sideL E h) (-1) = (Geo.cyc E).any (Geo.ng h) := by
  rw [Bool.eq_iff_iff]
  unfold hasI sideL
  simp only [decide_eq_true_eq, List.mem_map, List.any_eq_true]
  constructor
  · rintro ⟨p, m, e⟩; exact ⟨p, m, (Geo.ng_p h p).2 ((sgP_D h p).1.1 e)⟩
  · rintro ⟨p, m, e⟩; exact ⟨p, m, (sgP_D h p).1.2 ((Geo.ng_p h p).1 e)⟩
theorem ng_sg (h : H3) (p : H3 × H3) : Geo.ng h p = decide (sgP h p = -1) := by
  rw [Bool.eq_iff_iff, Geo.ng_p, decide_eq_true_eq]; exact (sgP_D h p).1.symm
/-- what the loop has kept of the first k edges -/
def kpt (E : List H3) (h : H3) (k : Nat) : List H3 := Geo.keep h (Geo.lastN h false (Geo.cyc E)) ((Geo.cyc E).take k)
def lst (E : List H3) (h : H3) (k : Nat) : Bool := Geo.lastN h (Geo.lastN h false (Geo.cyc E)) ((Geo.cyc E).take k)
theorem kpt_next {E : List H3} {h x y : H3} {k : Nat} (hc : (Geo.cyc E)[k]? = some (x, y)) : kpt E h (k + 1) = kpt E h k ++ (if lst E h k || Geo.ng h (x, y) then [x] else []) ∧ lst E h (k + 1) = Geo.ng h (x, y) := by
  unfold kpt lst
  rw [List.take_add_one, hc, Geo.keep_append, Geo.lastN_append]
  simp only [Option.toList_some, Geo.keep, Geo.lastN]
  constructor <;> trivial
theorem lastN_last {h : H3} {l : List (H3 × H3)} {n : Nat} {p : H3 × H3} (s : Bool) (hl : l.length = n + 1) (hp : l[n]? = some p) : Geo.lastN h s l = Geo.ng h p := by
  have : l = l.take n ++ [p] := by
    have := List.take_add_one (l := l) (i := n)
    rw [hp, List.take_of_length_le (by omega)] at this
    exact this
  rw [this, Geo.lastN_append]; rfl
theorem start_lst {E : List H3} {h : H3} {n : Nat} {z : Int} (hn : 0 < n) (hl : E.length = n) (hz : (sideL E h)[n - 1]? = some z) : decide (z = -1) = lst E h 0 := by
  unfold sideL at hz
  rw [List.getElem?_map] at hz
  cases hc : (Geo.cyc E)[n - 1]? with
  | none => rw [hc] at hz; cases hz
  | some p =>
    rw [hc] at hz
    simp only [Option.map_some, Option.some.injEq] at hz
    unfold lst
    rw [List.take_zero]
    show _ = Geo.lastN h false (Geo.cyc E)
    rw [lastN_last (n := n - 1) false (by rw [cyc_len]; omega) hc, ng_sg, hz]
theorem kpt_all (E : List H3) (h : H3) (n : Nat) (hl : E.length = n) : kpt E h n = Geo.kept E h := by
  unfold kpt Geo.kept
  rw [List.take_of_length_le (by rw [cyc_len]; omega)]
theorem kpt_sub (E : List H3) (h : H3) (k : Nat) : (kpt E h k).length ≤ k ∧ ∀ x ∈ kpt E h k, x ∈ E := by
  have s := Geo.keep_sub h (Geo.lastN h false (Geo.cyc E)) ((Geo.cyc E).take k)
  refine ⟨?_, fun x hx => ?_⟩
  · have := s.length_le; simp at this; unfold kpt; omega
  · have := s.subset hx
    rw [List.map_take] at this
    have := List.mem_of_mem_take this
    unfold Geo.cyc at this
    rwa [Geo.prs_fst] at this
theorem bef_V (f g : H3) : Geo.bef f g = befV f.a f.b g.a g.b := rfl
/-- the edges that are left are handed back in a row of the call's own, or the old ones as they were -/
def CutW (w : World) (B : Nat) (hs : List H3) (e : Ending) (w' : World) : Prop := ∃ ao cp, e = .returned (.slice ao hs.length cp) ∧ w'.ownsRow B 60 3 (.slice ao hs.length cp) hs.length (flat hs) ∧ Below w.heap.size w w'
theorem CutW.same {w w' : World} {B n cp : Nat} {ao : Option Addr} {hs : List H3} (ho : w'.ownsRow B 60 3 (.slice ao n cp) n (flat hs)) (hb : Below w.heap.size w w') : CutW w B hs (.returned (.slice ao n cp)) w' := by
  obtain rfl := (own3_view ho).1
  exact ⟨ao, cp, rfl, ho, hb⟩
theorem cutL_same {E : List H3} {h : H3} (k : hasI (sideL E h) 1 = false) : Geo.cutL E h = E := by
  rw [has_out] at k; unfold Geo.cutL; rw [k]; rfl
theorem cutL_none {E : List H3} {h : H3} (k : hasI (sideL E h) 1 = true) (l : hasI (sideL E h) (-1) = false) : Geo.cutL E h = [] := by
  rw [has_out] at k; rw [has_in] at l; unfold Geo.cutL; rw [k, l]; rfl
theorem cutL_ins {E : List H3} {h : H3} (k : hasI (sideL E h) 1 = true) (l : hasI (sideL E h) (-1) = true) : Geo.cutL E h = Geo.ins (Geo.kept E h) h := by
  rw [has_out] at k; rw [has_in] at l; unfold Geo.cutL; rw [k, l]; rfl
theorem okB_nz {h : H3} (k : okB h = true) : Geo.nz h := by
  obtain ⟨_, _, _, _, h5, _⟩ := (okH_iff _ _ _).1 k
  exact h5
theorem news_at {w : World} {B B' : Nat} {cs : Array Value} {t : TypeId} (e : B = B') (hb : w.heap[B]? = some (.cells cs t (0, 0))) : ∀ j u, cs.toList[j]? = some u → w.cell? ((⟨B', 0, none⟩ : Addr).add j) = some u := by
  subst e; exact World.news_of_block hb
theorem own_base_le {w : World} {B n s p : Nat} {e : TypeId} {v : Value} {xs : List Value} (h : w.ownsRow B e s v n xs) (hp : v.ownBlock = some p) : B ≤ p := by
  rcases h.2 with ⟨rfl, _⟩ | ⟨g, cap, cur, rfl, hg, _⟩
  · simp [Value.ownBlock] at hp
  · simp [Value.ownBlock] at hp; omega
set_option maxRecDepth 100000 in
set_option maxHeartbeats 4000000 in
theorem cut_edges (a : Option Addr) (n cap B : Nat) (E : List H3) (ha hb hc : Int) (w : World) (hn : n ≤ 999) (hE : ∀ h ∈ E, okB h = true) (hp : E.Pairwise (fun f g => Geo.bef f g = true)) (hh : okH ha hb hc = true) (hB : B ≤ w.heap.size) (ho : w.ownsRow B 60 3 (.slice a n cap) n (flat E)) :
    Calls Try.prog 100 #[.slice a n cap, .agg #[.int .i64 ha, .int .i64 hb, .int .i64 hc]] w (CutW w B (Geo.cutL E ⟨ha, hb, hc⟩)) := by
  obtain ⟨i0, hi, hz0, hz1, hz2⟩ := info_parts Try.info34
  have hl := (own3_view ho).1
  have HO := Lib.hid ho
  have HL := Lib.hid hl
  have HP := Lib.hid hp
  have HE := Lib.hid hE
  have HH := Lib.hid hh
  clear ho hl hp hE hh
  go_enter Try.func100, Try.ntmps100
  go_wp2_with fail
  have bV := below_one w (.cells #[.int .i64 ha, .int .i64 hb, .int .i64 hc] 60)
  have q3 := tri_new w (.int .i64 ha) (.int .i64 hb) (.int .i64 hc) 60
  generalize w.alloc (.cells #[.int .i64 ha, .int .i64 hb, .int .i64 hc] 60) = V at *
  refine (sides_of a n cap E ha hb hc V HL.out (by omega) HE.out HH.out (own_hs (own_below HO.out bV))).mono ?_
  rintro e w1 ⟨sa, cs, rfl, ho1, bl1⟩
  have b1 := below_to bV bl1
  have p3 := q3.to bl1
  have hsl := (own_is ho1).1
  have HI := Lib.hid (own_is ho1).2
  have HSL := Lib.hid hsl
  clear q3 bV bl1 ho1 hsl
  go_wp2_with fail
  refine (has_side sa n cs (sideL E ⟨ha, hb, hc⟩) 1 w1 HSL.out (by omega) HI.out).mono ?_
  rintro e w1' ⟨rfl, rfl⟩
  cases h1 : hasI (sideL E ⟨ha, hb, hc⟩) 1 with
  | false =>
    have HC := Lib.hid (cutL_same h1)
    have H1 := Lib.hid (own_below HO.out b1)
    clear h1
    go_wp2
    go_ret
    rw [HC.out]
    exact CutW.same H1.out b1
  | true =>
    have HC1 := Lib.hid h1
    clear h1
    go_wp2_with fail
    refine (has_side sa n cs (sideL E ⟨ha, hb, hc⟩) (-1) w1 HSL.out (by omega) HI.out).mono ?_
    rintro e w1' ⟨rfl, rfl⟩
    cases h2 : hasI (sideL E ⟨ha, hb, hc⟩) (-1) with
    | false =>
      have HC := Lib.hid (cutL_none HC1.out h2)
      clear h2
      go_wp2
      go_ret
      rw [HC.out]
      exact CutW.same own3_none b1
    | true =>
      have HC := Lib.hid (cutL_ins HC1.out h2)
      have hn0 : 0 < n := by
        rcases Nat.eq_zero_or_pos n with h | h
        · have h0 : sideL E ⟨ha, hb, hc⟩ = [] := List.eq_nil_of_length_eq_zero (by rw [HSL.out, h])
          rw [h0] at h2; simp [hasI] at h2
        · exact h
      clear h2
      obtain ⟨zl, hzl⟩ : ∃ z, (sideL E ⟨ha, hb, hc⟩)[n - 1]? = some z := ⟨_, List.getElem?_eq_getElem (by rw [HSL.out]; omega)⟩
      obtain ⟨gs, os, rfl, hcl⟩ := HI.out _ _ hzl
      have HZ := Lib.hid hzl
      have e1 : ((n : Int) - 1).toNat = n - 1 := by omega
      have e2 : (0 : Int) ≤ (n : Int) - 1 := by omega
      have e3 : (n : Int) - 1 < (n : Int) := by omega
      clear hzl
      go_wp2
      clear e1 e2 e3
      have HST := Lib.hid (start_lst (h := ⟨ha, hb, hc⟩) hn0 HL.out HZ.out)
      go_loopw [6, 7, 28] (fun v b i wr => ∃ (k : Nat) (z : Int), k ≤ n ∧ i = .int .i64 k ∧ b = .int .i64 z ∧ decide (z = -1) = lst E ⟨ha, hb, hc⟩ k ∧ wr.ownsRow w1.heap.size 60 3 v (kpt E ⟨ha, hb, hc⟩ k).length (flat (kpt E ⟨ha, hb, hc⟩ k)) ∧ Below w1.heap.size w1 wr) (fun _ _ i _ => n - (intOf i).toNat)
      case atStart => exact ⟨0, zl, Nat.zero_le _, rfl, rfl, HST.out, own3_none, Below.refl _ _⟩
      case round =>
        obtain ⟨k, z, hk, rfl, rfl, hlz, hov, hbel⟩ := hrel
        obtain ⟨av, cv, rfl⟩ := own_slice hov
        have H0 := Lib.hid hov
        have HLZ := Lib.hid hlz
        have hbw := below_to b1 hbel
        clear hov hlz
        by_cases hlt : k < n
        · obtain ⟨⟨xa, xb, xc⟩, hx⟩ : ∃ x, E[k]? = some x := ⟨_, List.getElem?_eq_getElem (by rw [HL.out]; exact hlt)⟩
          obtain ⟨y, hy⟩ : ∃ x, E[(k + 1) % n]? = some x := ⟨_, List.getElem?_eq_getElem (by rw [HL.out]; exact Nat.mod_lt _ (by omega))⟩
          have hcy := cyc_at HL.out hx hy
          have hkn := kpt_next (h := ⟨ha, hb, hc⟩) hcy
          rw [ng_sg] at hkn
          have hzk : (sideL E ⟨ha, hb, hc⟩)[k]? = some (sgP ⟨ha, hb, hc⟩ (⟨xa, xb, xc⟩, y)) := by unfold sideL; rw [List.getElem?_map, hcy]; rfl
          obtain ⟨gs', os', e, hck⟩ := HI.out _ _ hzk
          simp only [Option.some.injEq, Addr.mk.injEq, and_true] at e
          obtain ⟨rfl, rfl⟩ := e
          have ck := cell_to hck hbel
          have lk := block_lt_of_cell ck
          simp only at lk
          generalize sgP ⟨ha, hb, hc⟩ (⟨xa, xb, xc⟩, y) = zk at *
          rw [← HLZ.out] at hkn
          have hln := (kpt_sub E ⟨ha, hb, hc⟩ k).1
          obtain ⟨g, o, rfl, hcx⟩ := (own_hs HO.out) k _ hx
          obtain ⟨t1, t2, t3⟩ := hcx.to hbw
          have l1 := block_lt_of_cell t1
          simp only at t1 t2 t3 l1
          have HKN := Lib.hid hkn
          have HCK := Lib.hid hck
          clear hkn hx hy hcy hzk hck hcx
          by_cases hz : z = -1
          · have HK2 := Lib.hid (show kpt E ⟨ha, hb, hc⟩ (k + 1) = kpt E ⟨ha, hb, hc⟩ k ++ [⟨xa, xb, xc⟩] by rw [HKN.out.1]; simp [hz])
            subst hz
            generalize hKL : (kpt E ⟨ha, hb, hc⟩ k).length = kl at *
            have HKL := Lib.hid hKL
            clear hKL
            go_wp2_with (at_builtin; refine wpList_append_lies _ rfl _ _ 54 rfl w1.heap.size 60 i0 (.agg #[.int .i64 0, .int .i64 0, .int .i64 0]) 3 24 Try.underlying54 hi hz0 hz1 hz2 rfl (by decide) (.slice av kl cv) kl _ rfl (own_below H0.out (below_bx2 (below_one _ _) _)) ⟨wr.heap.size + 1, 0, none⟩ 1 1 [.int .i64 xa, .int .i64 xb, .int .i64 xc] rfl rfl (news_at (by simp) (heap_alloc_new (wr.alloc (.cells #[.int .i64 xa, .int .i64 xb, .int .i64 xc] 60)) (.cells #[.int .i64 xa, .int .i64 xb, .int .i64 xc] 60))) (by simp [Value.oneCell']) (by omega) (by unfold maxLen; omega) (by omega) (by have := hbel.size; simp; omega) _ rfl ?_; intro gg cap' w4 hown4 hgrow hat hlt4; have b4 : Below w1.heap.size w1 w4 := (Below.grown (hbel.trans ((below_bx2 (below_one _ _) _).mono hbel.size)) hgrow (by have := hbel.size; simp; omega) (fun p hp => own_base_le H0.out hp)); have H4 := Lib.hid hown4; have ck4 := cell_to HCK.out b4; clear hown4 hgrow hat)
            go_roundw
            case rel =>
              refine ⟨k + 1, zk, by omega, by go_num, rfl, HKN.out.2.symm, ?_, b4⟩
              have hx := H4.out
              rw [HK2.out, List.length_append, HKL.out, flat_app]
              exact hx
            case measure => simp [intOf]; omega
          · by_cases hz2 : zk = -1
            · have hd : (z == -1) = false := eq_b hz
              have HK2 := Lib.hid (show kpt E ⟨ha, hb, hc⟩ (k + 1) = kpt E ⟨ha, hb, hc⟩ k ++ [⟨xa, xb, xc⟩] by rw [HKN.out.1]; simp [hz2])
              clear hz
              subst hz2
              generalize hKL : (kpt E ⟨ha, hb, hc⟩ k).length = kl at *
              have HKL := Lib.hid hKL
              clear hKL
              go_wp2_with (at_builtin; refine wpList_append_lies _ rfl _ _ 54 rfl w1.heap.size 60 i0 (.agg #[.int .i64 0, .int .i64 0, .int .i64 0]) 3 24 Try.underlying54 hi hz0 hz1 hz2 rfl (by decide) (.slice av kl cv) kl _ rfl (own_below H0.out (below_bx2 (below_one _ _) _)) ⟨wr.heap.size + 1, 0, none⟩ 1 1 [.int .i64 xa, .int .i64 xb, .int .i64 xc] rfl rfl (news_at (by simp) (heap_alloc_new (wr.alloc (.cells #[.int .i64 xa, .int .i64 xb, .int .i64 xc] 60)) (.cells #[.int .i64 xa, .int .i64 xb, .int .i64 xc] 60))) (by simp [Value.oneCell']) (by omega) (by unfold maxLen; omega) (by omega) (by have := hbel.size; simp; omega) _ rfl ?_; intro gg cap' w4 hown4 hgrow hat hlt4; have b4 : Below w1.heap.size w1 w4 := (Below.grown (hbel.trans ((below_bx2 (below_one _ _) _).mono hbel.size)) hgrow (by have := hbel.size; simp; omega) (fun p hp => own_base_le H0.out hp)); have H4 := Lib.hid hown4; have ck4 := cell_to HCK.out b4; clear hown4 hgrow hat)
              go_roundw
              case rel =>
                refine ⟨k + 1, -1, by omega, by go_num, rfl, HKN.out.2.symm, ?_, b4⟩
                have hx := H4.out
                rw [HK2.out, List.length_append, HKL.out, flat_app]
                exact hx
              case measure => simp [intOf]; omega
            · have hd : (z == -1) = false := eq_b hz
              have hd2 : (zk == -1) = false := eq_b hz2
              have HK2 := Lib.hid (show kpt E ⟨ha, hb, hc⟩ (k + 1) = kpt E ⟨ha, hb, hc⟩ k by rw [HKN.out.1]; simp [hz, hz2])
              clear hz hz2
              go_wp2
              go_roundw
              case rel => exact ⟨k + 1, zk, by omega, by go_num, rfl, HKN.out.2.symm, by rw [HK2.out]; exact own_below H0.out (below_one _ _), hbel.trans ((below_one _ _).mono hbel.size)⟩
              case measure => simp [intOf]; omega
        · have hkn : k = n := by omega
          subst hkn
          have hK := H0.out
          rw [kpt_all E ⟨ha, hb, hc⟩ k HL.out] at hK
          have hsub := (kpt_sub E ⟨ha, hb, hc⟩ k)
          rw [kpt_all E ⟨ha, hb, hc⟩ k HL.out] at hsub
          have hpw : (Geo.kept E ⟨ha, hb, hc⟩).Pairwise (fun f g => Geo.bef f g = true) := by
            refine List.Pairwise.sublist ?_ HP.out
            have := Geo.keep_sub ⟨ha, hb, hc⟩ (Geo.lastN ⟨ha, hb, hc⟩ false (Geo.cyc E)) (Geo.cyc E)
            unfold Geo.kept
            unfold Geo.cyc at this ⊢
            rwa [Geo.prs_fst] at this
          obtain ⟨KA, KB, eK, hKA, hKB⟩ := Geo.cut_at (fun e he => okB_nz (HE.out e (hsub.2 e he))) hpw (show Geo.nz ⟨ha, hb, hc⟩ from okB_nz (h := ⟨ha, hb, hc⟩) HH.out)
          have hlen : (kpt E ⟨ha, hb, hc⟩ k).length = (KA ++ KB).length := by rw [kpt_all E ⟨ha, hb, hc⟩ k HL.out, eK]
          have hins : Geo.cutL E ⟨ha, hb, hc⟩ = KA ++ ⟨ha, hb, hc⟩ :: KB := by rw [HC.out, eK]; exact Geo.ins_split hKA hKB
          rw [eK] at hK hsub
          rw [hlen]
          have HN := Lib.hid (insert_angle (.slice av (KA ++ KB).length cv) (KA ++ KB).length w1.heap.size KA KB ha hb hc wr (by omega) (fun h hh => HE.out h (hsub.2 h hh)) HH.out hKA hKB hbel.size hK)
          have HIN := Lib.hid hins
          have hsz : (KA ++ ⟨ha, hb, hc⟩ :: KB).length = (KA ++ KB).length + 1 := by simp [Nat.add_assoc]
          have HSZ := Lib.hid hsz
          obtain ⟨t1, t2, t3⟩ := p3.to hbel
          have hzs := b1.size
          clear hK hsub hpw eK hKA hKB hlen hins hsz
          generalize (KA ++ KB).length = kl at *
          go_wp2_with fail
          refine HN.out.mono ?_
          rintro e w5 ⟨a5, c5, rfl, ho5, bl5⟩
          have H5 := Lib.hid ho5
          clear ho5
          go_wp2
          go_ret
          rw [HIN.out]
          exact CutW.same (own_base H5.out (by omega)) (b1.trans ((hbel.trans bl5).mono hzs))

/-- the edges of the frame cut by all half planes -/
def regL (hs : List H3) : List H3 := hs.foldl Geo.cutL Geo.frame
theorem fold_mem {E l : List H3} {x : H3} (m : x ∈ l.foldl Geo.cutL E) : x ∈ E ∨ x ∈ l := by
  induction l generalizing E with
  | nil => exact Or.inl m
  | cons h l ih =>
    rcases ih m with k | k
    · rcases Geo.cut_mem k with rfl | k
      · exact Or.inr (by simp)
      · exact Or.inl k
    · exact Or.inr (by simp [k])
theorem frame_ok : ∀ x ∈ Geo.frame, okB x = true := by decide
theorem regL_ok {hs : List H3} (h : hs.all okB = true) : ∀ x ∈ regL hs, okB x = true := by
  intro x hx
  rcases fold_mem hx with k | k
  · exact frame_ok x k
  · exact List.all_eq_true.1 h x k
theorem regL_inv {hs : List H3} (h : hs.all okB = true) : Geo.Inv (regL hs) (Geo.frame ++ hs) :=
  Geo.inv_fold Geo.inv_frame hs fun x hx => okB_nz (List.all_eq_true.1 h x hx)
theorem regL_pw {hs : List H3} (h : hs.all okB = true) : (regL hs).Pairwise (fun f g => Geo.bef f g = true) := by
  rcases regL_inv h with ⟨P, _⟩ | ⟨e, _⟩
  · exact P.2.2.1
  · rw [e]; simp
theorem regL_len (hs : List H3) : (regL hs).length ≤ 4 + hs.length := Geo.fold_len Geo.frame hs
theorem regL_next {hs : List H3} {k : Nat} {x : H3} (h : hs[k]? = some x) : regL (hs.take (k + 1)) = Geo.cutL (regL (hs.take k)) x := by
  unfold regL; rw [List.take_add_one, h, List.foldl_append]; rfl
theorem take_ok {hs : List H3} (h : hs.all okB = true) (k : Nat) : (hs.take k).all okB = true := by
  rw [List.all_eq_true] at *; exact fun x hx => h x (List.mem_of_mem_take hx)
/-- whether RegionFrom answers, and with which edges -/
def okF (hs : List H3) : Bool := decide (hs.length ≤ 40) && hs.all okB && decide ((regL hs).length ≤ 40)
def regE (hs : List H3) : List H3 := if okF hs = true then regL hs else []
def FromW (w : World) (hs : List H3) (e : Ending) (w' : World) : Prop := ∃ ao cp, e = .returned (.tuple #[.agg #[.slice ao (regE hs).length cp], .bool (okF hs)]) ∧ w'.ownsRow w.heap.size 60 3 (.slice ao (regE hs).length cp) (regE hs).length (flat (regE hs)) ∧ Below w.heap.size w w'
theorem FromW.no {w w' : World} {hs : List H3} (h : okF hs = false) (hb : Below w.heap.size w w') : FromW w hs (.returned (.tuple #[.agg #[.slice none 0 0], .bool false])) w' := by
  have e : regE hs = [] := if_neg (by rw [h]; simp)
  unfold FromW
  rw [e, h]
  exact ⟨none, 0, rfl, own3_none, hb⟩
theorem FromW.yes {w w' : World} {hs : List H3} {ao : Option Addr} {m cp : Nat} (h : okF hs = true) (ho : w'.ownsRow w.heap.size 60 3 (.slice ao m cp) m (flat (regL hs))) (hb : Below w.heap.size w w') : FromW w hs (.returned (.tuple #[.agg #[.slice ao m cp], .bool true])) w' := by
  have e : regE hs = regL hs := if_pos h
  obtain rfl := (own3_view ho).1
  unfold FromW
  rw [e, h]
  exact ⟨ao, cp, rfl, ho, hb⟩
theorem own_far' {w : World} {B C n s : Nat} {e : TypeId} {v : Value} {xs ys : List Value} (h : w.ownsRow B e s v n xs) (h' : w.ownsRow C e s v n ys) {p : Addr} (hp : p.block < B) (u : Value) : (w.setCell p u).ownsRow C e s v n ys := by
  have k := own_far h hp u
  refine ⟨h'.1, ?_⟩
  rcases h'.2 with h2 | ⟨g, cap, cur, hv, hg, hh, r⟩
  · exact .inl h2
  · refine .inr ⟨g, cap, cur, hv, hg, (Below.heap_setCell w p u g ?_).trans hh, r⟩
    rcases h.2 with ⟨h3, _⟩ | ⟨g', cap', cur', hv', hg', _⟩
    · rw [hv] at h3; simp at h3
    · rw [hv] at hv'; simp at hv'; omega
set_option maxRecDepth 100000 in
set_option maxHeartbeats 4000000 in
theorem impl_from (a : Option Addr) (n cap : Nat) (hs : List H3) (w : World) (hl : hs.length = n) (hn : n ≤ 1048576) (h64 : ∀ h ∈ hs, In64 h) (hA : HsAt w a hs) :
    Calls Try.prog 95 #[.slice a n cap] w (FromW w hs) := by
  have HL := Lib.hid hl
  have HA := Lib.hid hA
  have H6 := Lib.hid h64
  clear hl hA h64
  by_cases h40 : n ≤ 40
  · have HO := Lib.hid (fun W (h : Below w.heap.size w W) => are_ok a n cap hs W HL.out (by omega) H6.out (HA.out.below h))
    have hd : decide ((40 : Int) < (n : Int)) = false := by simpa using by omega
    cases hok : hs.all okB with
    | false =>
      rw [hok] at HO
      have HN := Lib.hid (show okF hs = false by unfold okF; rw [hok]; simp)
      clear hok
      go_enter Try.func95, Try.ntmps95
      go_wp2_with fail
      refine (HO.out _ (below_one _ _)).mono ?_
      rintro e w1 ⟨rfl, bl1⟩
      obtain ⟨hc1, hf1⟩ := bcellr bl1
      have hz := bl1.size
      simp at hz
      go_wp2
      exact bodyPost_ret (v := .tuple #[.agg #[.slice none 0 0], .bool false]) (by simp [results, Try.results95, go_sem, hc1]) rfl (FromW.no HN.out ((below_to (below_one _ _) bl1).setCell (by simp) _))
    | true =>
      rw [hok] at HO
      have HK := Lib.hid hok
      clear hok
      go_enter Try.func95, Try.ntmps95
      go_wp2_with fail
      have bV := below_one w (.cells #[.slice none 0 0] 56)
      have q2 : (w.alloc (.cells #[.slice none 0 0] 56)).cell? ⟨w.heap.size, 0, none⟩ = some (.slice none 0 0) := by simp
      have f2 : (w.alloc (.cells #[.slice none 0 0] 56)).frozen? ⟨w.heap.size, 0, none⟩ = false := by simp
      have hz : w.heap.size < (w.alloc (.cells #[.slice none 0 0] 56)).heap.size := by simp
      generalize w.alloc (.cells #[.slice none 0 0] 56) = V at *
      refine (HO.out _ bV).mono ?_
      rintro e w1 ⟨rfl, bl1⟩
      clear HO
      go_wp2_with fail
      refine (impl_frame w1).mono ?_
      rintro e w2 ⟨a2, c2, rfl, ho2, bl2⟩
      have b2 := below_to bl1 bl2
      have H2 := Lib.hid (own_base ho2 bl1.size)
      clear ho2 bl1 bl2
      go_wp2
      go_loopw [4, 19] (fun v i wr => ∃ (k m : Nat) (ao : Option Addr) (cp : Nat), k ≤ n ∧ i = .int .i64 k ∧ v = .slice ao m cp ∧ wr.ownsRow V.heap.size 60 3 (.slice ao m cp) m (flat (regL (hs.take k))) ∧ Below V.heap.size V wr) (fun _ i _ => n - (intOf i).toNat)
      case atStart => exact ⟨0, 4, a2, c2, Nat.zero_le _, rfl, rfl, by simpa [regL] using H2.out, b2⟩
      case round =>
        obtain ⟨k, m, ao, cp, hk, rfl, rfl, hov, hbel⟩ := hrel
        have hm := (own3_view hov).1
        have hm2 := regL_len (hs.take k)
        rw [hm, List.length_take] at hm2
        have H0 := Lib.hid hov
        have hbw := below_to bV hbel
        clear hov hm
        by_cases hlt : k < n
        · obtain ⟨⟨xa, xb, xc⟩, hx⟩ : ∃ x, hs[k]? = some x := ⟨_, List.getElem?_eq_getElem (by rw [HL.out]; exact hlt)⟩
          have hox : okH xa xb xc = true := List.all_eq_true.1 HK.out _ (List.mem_of_getElem? hx)
          have HX := Lib.hid (regL_next hx)
          obtain ⟨g, o, rfl, hcx⟩ := HA.out k _ hx
          obtain ⟨t1, t2, t3⟩ := hcx.to hbw
          have l1 := block_lt_of_cell t1
          simp only at t1 t2 t3 l1
          have HC := Lib.hid (fun W (h : Below wr.heap.size wr W) => cut_edges ao m cp V.heap.size (regL (hs.take k)) xa xb xc W (by omega) (regL_ok (take_ok HK.out k)) (regL_pw (take_ok HK.out k)) hox (Nat.le_trans hbel.size h.size) (own_below H0.out h))
          clear hx hcx hox
          go_wp2_with (go_at_call 100; (with_reducible refine (HC.out _ (below_one _ _)).mono ?_); rintro e w3 ⟨a3, c3, rfl, ho3, bl3⟩; have H3 := Lib.hid ho3; clear ho3)
          go_roundw
          case rel => exact ⟨k + 1, _, a3, c3, by omega, by go_num, rfl, by rw [HX.out]; exact H3.out, hbel.trans ((below_to (below_one _ _) bl3).mono hbel.size)⟩
          case measure => simp [intOf]; omega
        · have hkn : k = n := by omega
          subst hkn
          have p2 := cell_to q2 hbel
          have g2 : wr.frozen? ⟨w.heap.size, 0, none⟩ = false := by rw [hbel.frozen hz]; exact f2
          have hv0 := bV.size
          have H1 := Lib.hid (show wr.ownsRow w.heap.size 60 3 (.slice ao m cp) m (flat (regL hs)) by
            have := H0.out
            rw [List.take_of_length_le (by rw [HL.out]; omega)] at this
            exact own_base this hv0)
          by_cases hml : m ≤ 40
          · have HN := Lib.hid (show okF hs = true by
              have := (own3_view H1.out).1
              unfold okF; rw [HL.out, HK.out, this]; simp [hml, h40])
            have HW := Lib.hid (FromW.yes HN.out (own_far' (p := ⟨w.heap.size, 0, none⟩) H0.out H1.out hz (.slice ao m cp)) (hbw.setCell (Nat.le_refl _) _))
            go_wp2
            exact bodyPost_ret (v := .tuple #[.agg #[.slice ao m cp], .bool true]) (by simp [results, Try.results95, go_sem, p2]) rfl HW.out
          · have HN := Lib.hid (show okF hs = false by
              have := (own3_view H1.out).1
              unfold okF; rw [HL.out, HK.out, this]; simp [hml])
            go_wp2
            exact bodyPost_ret (v := .tuple #[.agg #[.slice none 0 0], .bool false]) (by simp [results, Try.results95, go_sem, p2]) rfl (FromW.no HN.out (hbw.setCell (Nat.le_refl _) _))
  · have hd : (40 : Int) < (n : Int) := by omega
    have HN := Lib.hid (show okF hs = false by unfold okF; rw [HL.out]; simp [h40])
    go_enter Try.func95, Try.ntmps95
    go_wp2
    exact bodyPost_ret (v := .tuple #[.agg #[.slice none 0 0], .bool false]) (by simp [results, Try.results95, go_sem]) rfl (FromW.no HN.out (below_one _ _))
end Go.Proofs.Ytibkmhmeoelpdaa
