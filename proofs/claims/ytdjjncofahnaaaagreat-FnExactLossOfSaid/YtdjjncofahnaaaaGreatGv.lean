/- GrowAlong's half planes of the model over the translation. GrowAlong of the model over the translation. -/
import Derived.Test.YtdjjncofahnaaaaGreatGs
import Derived.Test.YtdjjncofahnaaaaGreatEz
namespace Go.Proofs.YtdjjncofahnaaaaGreat
open Go.RowKit Go.Shelf
open Geo (H3)

/-- what the model's list of grown half planes is -/
def GrnW (w : World) (L : List H3) (b : Bool) (e : Ending) (w' : World) : Prop :=
  (b = true ∧ ∃ ao cp, e = .returned (.tuple #[.slice ao L.length cp, .bool true]) ∧ w'.ownsRow w.heap.size 39 3 (.slice ao L.length cp) L.length (flat L) ∧ Below w.heap.size w w') ∨ (b = false ∧ e = .returned (.tuple #[.slice none 0 0, .bool false]) ∧ Below w.heap.size w w')
theorem GrnW.yes {w w' : World} {L : List H3} {b : Bool} {ao : Option Addr} {m cp : Nat} (hb : b = true) (hm : L.length = m) (ho : w'.ownsRow w.heap.size 39 3 (.slice ao m cp) m (flat L)) (hbl : Below w.heap.size w w') : GrnW w L b (.returned (.tuple #[.slice ao m cp, .bool true])) w' := by
  subst hm; exact .inl ⟨hb, ao, cp, rfl, ho, hbl⟩
theorem hs_blk {W : World} {g : Nat} {a b c p q r : Int} {T : TypeId} (K : Blk W g #[.int .i64 a, .int .i64 b, .int .i64 c, .int .i64 p, .int .i64 q, .int .i64 r] T) : HsAt W (some ⟨g, 0, none⟩) [⟨a, b, c⟩, ⟨p, q, r⟩] := by
  intro i z hz
  match i with
  | 0 =>
    simp at hz; subst hz
    exact ⟨_, _, rfl, K.cell0 (i := 0) rfl, K.cell0 (i := 1) rfl, K.cell0 (i := 2) rfl⟩
  | 1 =>
    simp at hz; subst hz
    exact ⟨_, _, rfl, K.cell0 (i := 3) rfl, K.cell0 (i := 4) rfl, K.cell0 (i := 5) rfl⟩
  | i + 2 => simp at hz
theorem top_tc {A B : Int} {ps : List H3} (hp : rokB ps = true) (ne : ps ≠ []) (i1 : inB A (-50000) 50000 = true) (i2 : inB B (-50000) 50000 = true) (nz : A ≠ 0 ∨ B ≠ 0) :
    topB A B (farS A B ps ps.length).2.1 (farS A B ps ps.length).2.2 = tcB A B ps ∧ (tcB A B ps = true → topH A B (farS A B ps ps.length).2.1 (farS A B ps ps.length).2.2 = tcH A B ps) := by
  obtain ⟨_, _, q, _, _, _, _⟩ := sup_of rfl hp ne i1 i2
  obtain ⟨_, _, _, _, o5⟩ := (okR_iff _ _).1 q
  by_cases hD : (farS A B ps ps.length).2.2 ≤ 50000
  · exact ⟨(top_yes hD).2, fun _ => (top_yes hD).1⟩
  · have e : tcB A B ps = false := by
      unfold tcB
      generalize farS A B ps ps.length = f at *
      have h := er_big (A := A) (B := B) (C := 0) (N := -f.2.1) (D := f.2.2) (by rw [Int.neg_gcd]; exact o5) (by omega) nz
      rwa [show (0 : Int) * f.2.2 - -f.2.1 = f.2.1 by omega] at h
    rw [e, (top_no hD).2]
    exact ⟨rfl, by simp⟩
theorem gcd_callS (a b : Int) (w : World) (ha : -100 ≤ a) (ha2 : a ≤ 100) (hb : -100 ≤ b) (hb2 : b ≤ 100) :
    Calls Tryz.prog 128 #[.int .i64 a, .int .i64 b] w fun e w' => e = .returned (.int .i64 (Int.gcd a b)) ∧ Below w.heap.size w w' := by
  refine (spec_gcd a b w (by omega) (by omega) (by omega) (by omega)).mono ?_
  rintro e w' ⟨rfl, k, rfl⟩
  exact ⟨by rw [gcdR_of a b (by omega) (by omega)], below_drewN w k⟩
/-- the two directions in which a region does not grow -/
def gwD (bx cy : Int) : List H3 := [⟨-gwa bx cy, gwb bx cy, 0⟩, ⟨gwa bx cy, -gwb bx cy, 0⟩]
noncomputable def tcT (ps : List H3) (x : H3) : Bool := tcB x.a x.b ps
noncomputable def tcU (ps : List H3) (x : H3) : H3 := tcH x.a x.b ps
theorem gw_div {x : Int} {g : Nat} (h : (g : Int) ∣ x) : x.tdiv g = 0 ↔ x = 0 := by
  constructor
  · intro e
    have := Int.tdiv_mul_cancel h
    rw [e] at this
    omega
  · rintro rfl; simp
theorem gw_nz {bx cy : Int} (h : ¬ (bx = 0 ∧ cy = 0)) : ∀ x ∈ gwD bx cy, x.a ≠ 0 ∨ x.b ≠ 0 := by
  have e1 := gw_div (Int.gcd_dvd_left (a := bx) (b := cy))
  have e2 := gw_div (Int.gcd_dvd_right (a := bx) (b := cy))
  intro x hx
  unfold gwD at hx
  simp only [List.mem_cons, List.not_mem_nil, or_false] at hx
  rcases hx with rfl | rfl <;> simp only [gwa, gwb] <;> omega
theorem gw_in5 {bx cy : Int} (hx : In100 bx) (hy : In100 cy) : ∀ x ∈ gwD bx cy, (-100 ≤ x.a ∧ x.a ≤ 100) ∧ (-100 ≤ x.b ∧ x.b ≤ 100) := by
  obtain ⟨t1, t2⟩ := td_in (g := Int.gcd bx cy) hx.1 hx.2
  obtain ⟨t3, t4⟩ := td_in (g := Int.gcd bx cy) hy.1 hy.2
  intro x hx
  unfold gwD at hx
  simp only [List.mem_cons, List.not_mem_nil, or_false] at hx
  rcases hx with rfl | rfl <;> simp only [gwa, gwb] <;> omega
theorem gw_DU (ps : List H3) (bx cy : Int) : (gwD bx cy).map (tcU ps) = gwU ps bx cy ∧ (gwD bx cy).all (tcT ps) = gwT ps bx cy := by
  refine ⟨rfl, ?_⟩
  simp [gwD, tcT, gwT]
theorem take_ne {α : Type} {l : List α} {k : Nat} {x : α} (h : l[k]? = some x) : k < l.length := (List.getElem?_eq_some_iff.1 h).1
theorem all_no1 {α : Type} {B : α → Bool} {l : List α} {k : Nat} {x : α} (h : l[k]? = some x) (n : B x = false) : l.all B = false := by
  rw [List.all_eq_false]; exact ⟨x, List.mem_of_getElem? h, by simp [n]⟩
theorem map_tk1 {α β : Type} {M : α → β} {l : List α} {k : Nat} {x : α} (h : l[k]? = some x) : (l.take (k + 1)).map M = (l.take k).map M ++ [M x] := by
  rw [List.take_add_one, h]; simp
set_option maxRecDepth 100000 in
set_option maxHeartbeats 4000000 in
theorem spec_grn (a : Option Addr) (n ca : Nat) (ps : List H3) (bx cy lo hi : Int) (w : World) (hl : ps.length = n) (hn : n ≤ 38) (hp : rokB ps = true) (ne : ps ≠ []) (hx : In100 bx) (hy : In100 cy) (hlo : In1k lo) (hhi : In1k hi) (hz : ¬ (bx = 0 ∧ cy = 0)) (hA : HsAt w a ps) :
    Calls Tryz.prog 176 #[.agg #[.slice a n ca], .int .i64 bx, .int .i64 cy, .int .i64 lo, .int .i64 hi] w (GrnW w (ps.map (grM bx cy lo hi) ++ (gwD bx cy).map (tcU ps)) (ps.all (grB bx cy lo hi) && (gwD bx cy).all (tcT ps))) := by
  obtain ⟨i0, hi0, hz0, hz1, hz2⟩ := info_parts Tryz.info34
  have bV := below_bx2 (below_one w (.cells #[.slice a n ca] 26)) (.cells #[] 39)
  have q0 := cell_to (show (w.alloc (.cells #[.slice a n ca] 26)).cell? ⟨w.heap.size, 0, none⟩ = some (.slice a n ca) by simp) (below_one _ (.cells #[] 39))
  have HO2 := Lib.hid (own3_empty' (B := w.heap.size + 1) (w.alloc (.cells #[.slice a n ca] 26)) (b := w.heap.size + 1) (by simp) (Nat.le_refl _))
  have hzV : ((w.alloc (.cells #[.slice a n ca] 26)).alloc (.cells #[] 39)).heap.size = w.heap.size + 2 := by simp
  have hok := rok_all hp
  have HB := Lib.hid (fun (h : H3) (k : h ∈ ps) => gr_in hx hy hlo hhi (hok h k))
  have HF := Lib.hid (fun V A B (h : Below w.heap.size w V) (iA : In5 A) (iB : In5 B) => spec_far a n ca ps A B V hl (by omega) hp iA iB (hA.below h))
  have HD := Lib.hid (gw_in5 hx hy)
  have HNZ := Lib.hid (gw_nz hz)
  have HP := Lib.hid hp
  have HNE := Lib.hid ne
  have HA := Lib.hid hA
  have HL := Lib.hid hl
  have HG := Lib.hid (fun W => gcd_callS bx cy W hx.1 hx.2 hy.1 hy.2)
  have HDD := Lib.hid (show gwD bx cy = [⟨-gwa bx cy, gwb bx cy, 0⟩, ⟨gwa bx cy, -gwb bx cy, 0⟩] from rfl)
  have hgp : 0 < Int.gcd bx cy := Int.gcd_pos_iff.2 (by omega)
  have HGB := Lib.hid (show ∀ h : H3, grB bx cy lo hi h = hasH h.a h.b (h.c + max (-lo * (h.a * bx + h.b * cy)) (-hi * (h.a * bx + h.b * cy))) from fun _ => rfl)
  have HGM := Lib.hid (show ∀ h : H3, grM bx cy lo hi h = redH h.a h.b (h.c + max (-lo * (h.a * bx + h.b * cy)) (-hi * (h.a * bx + h.b * cy))) from fun _ => rfl)
  obtain ⟨x1, x2⟩ := hx
  obtain ⟨y1, y2⟩ := hy
  obtain ⟨lo1, lo2⟩ := hlo
  obtain ⟨hi1, hi2⟩ := hhi
  obtain ⟨t1, t2⟩ := td_in (g := Int.gcd bx cy) x1 x2
  obtain ⟨t3, t4⟩ := td_in (g := Int.gcd bx cy) y1 y2
  have ea : cy.tdiv (Int.gcd bx cy) = gwa bx cy := rfl
  have eb : bx.tdiv (Int.gcd bx cy) = gwb bx cy := rfl
  rw [ea] at t3 t4
  rw [eb] at t1 t2
  generalize grB bx cy lo hi = B at *
  generalize grM bx cy lo hi = M at *
  generalize gwD bx cy = D at *
  clear hl hA hok hp ne hz
  go_enter Tryz.func176, Tryz.ntmps176
  go_wp2
  generalize (w.alloc (.cells #[.slice a n ca] 26)).alloc (.cells #[] 39) = V at *
  go_loopw [12, 29] (fun v i wr => ∃ (k : Nat) (ao : Option Addr) (cp : Nat), k ≤ n ∧ i = .int .i64 k ∧ v = .slice ao k cp ∧ (ps.take k).all B = true ∧ wr.ownsRow (w.heap.size + 1) 39 3 (.slice ao k cp) k (flat ((ps.take k).map M)) ∧ Below w.heap.size w wr ∧ wr.cell? ⟨w.heap.size, 0, none⟩ = some (.slice a n ca) ∧ w.heap.size + 1 ≤ wr.heap.size) (fun _ i _ => n - (intOf i).toNat)
  case atStart => exact ⟨0, _, 0, Nat.zero_le _, rfl, rfl, by simp, by simpa using HO2.out, bV, q0, by omega⟩
  case round =>
    obtain ⟨k, ao, cp, hk, rfl, rfl, hall, hov, hbw, r0, hzr⟩ := hrel
    have H0 := Lib.hid hov
    have HT := Lib.hid hall
    clear hov hall
    by_cases hlt : k < n
    · obtain ⟨⟨xa, xb, xc⟩, hx⟩ : ∃ x, ps[k]? = some x := ⟨_, List.getElem?_eq_getElem (by rw [HL.out]; exact hlt)⟩
      have HX := Lib.hid hx
      obtain ⟨g, o, rfl, hcx⟩ := HA.out k _ hx
      obtain ⟨c1, c2, c3⟩ := hcx.to hbw
      obtain ⟨⟨m1, m2⟩, ⟨m3, m4⟩, ⟨m5, m6⟩, ⟨m7, m8⟩, ⟨a1, a2⟩, ⟨b1, b2⟩, d1, d2⟩ := HB.out _ (List.mem_of_getElem? hx)
      unfold slp at m5 m6 m7 m8
      simp only at c1 c2 c3 m1 m2 m3 m4 m5 m6 m7 m8 a1 a2 b1 b2 d1 d2
      have HH := Lib.hid (fun W => spec_hof xa xb (xc + max (-lo * (xa * bx + xb * cy)) (-hi * (xa * bx + xb * cy))) W (by omega) (by omega) (by omega) (by omega) (by omega) (by omega))
      have HSB := Lib.hid (HGB.out ⟨xa, xb, xc⟩)
      have HSM := Lib.hid (HGM.out ⟨xa, xb, xc⟩)
      simp only at HSB HSM
      rw [ans_red, ← HSB.out, ← HSM.out] at HH
      obtain ⟨⟨qa, qb, qc⟩, hq⟩ : ∃ q, M ⟨xa, xb, xc⟩ = q := ⟨_, rfl⟩
      have HQ := Lib.hid hq
      rw [hq] at HH
      simp only at HH
      obtain ⟨rB, hrB⟩ : ∃ b, B ⟨xa, xb, xc⟩ = b := ⟨_, rfl⟩
      rw [hrB] at HH
      have HRB := Lib.hid hrB
      clear hx hcx hq HSB HSM hrB ea eb t1 t2 t3 t4
      generalize eu1 : xa * bx = u1 at *
      generalize eu2 : xb * cy = u2 at *
      generalize eu3 : u1 + u2 = u3 at *
      have w3 : -9223372036854775808 ≤ u3 ∧ u3 ≤ 9223372036854775807 := by omega
      generalize eu4 : -lo * u3 = u4 at *
      generalize eu5 : -hi * u3 = u5 at *
      have v6 : IntKind.i64.wrap (xc + max u4 u5) = xc + max u4 u5 := IntWalk.i64_in _ (by omega)
      have v7 : IntKind.i64.wrap (-lo) = -lo := IntWalk.i64_in _ (by omega)
      have v8 : IntKind.i64.wrap (-hi) = -hi := IntWalk.i64_in _ (by omega)
      go_wp2_with fail
      refine (HH.out _).mono ?_
      rintro e w4 ⟨rfl, bl4⟩
      have bY := below_to (below_one wr (.cells #[.int .i64 xa, .int .i64 xb, .int .i64 xc] 39)) bl4
      have b4 := below_to hbw bY
      have s0 := cell_to r0 bY
      have H4 := Lib.hid (own_below H0.out bY)
      have z4 := bY.size
      clear bY bl4 r0 H0 HH c1 c2 c3 hbw eu1 eu2 eu3 eu4 eu5 v6 v7 v8
      cases rB with
      | false =>
        have HN := Lib.hid (all_no1 HX.out HRB.out)
        have b5 := below_bx2 b4 (.cells #[.int .i64 qa, .int .i64 qb, .int .i64 qc] 39)
        go_wp2_with fail
        exact bodyPost_ret (v := .tuple #[.slice none 0 0, .bool false]) (by simp [results, Tryz.results176, go_sem]) rfl (.inr ⟨by rw [HN.out]; rfl, rfl, b5⟩)
      | true =>
        have HT2 := Lib.hid (mv_take HX.out HRB.out HT.out)
        have HS := Lib.hid (show (ps.take (k + 1)).map M = (ps.take k).map M ++ [⟨qa, qb, qc⟩] by rw [map_tk1 HX.out, HQ.out])
        have bZ := below_bx2 (below_one w4 (.cells #[.int .i64 qa, .int .i64 qb, .int .i64 qc] 39)) (.cells #[.int .i64 qa, .int .i64 qb, .int .i64 qc] 39)
        have HZ := Lib.hid bZ
        have b5 := below_to b4 bZ
        obtain ⟨v1, v2, v3⟩ := tri_new w4 (.int .i64 qa) (.int .i64 qb) (.int .i64 qc) 39
        have HN1 : ((w4.alloc (.cells #[.int .i64 qa, .int .i64 qb, .int .i64 qc] 39)).alloc (.cells #[.int .i64 qa, .int .i64 qb, .int .i64 qc] 39)).heap[w4.heap.size + 1]? = some (.cells #[.int .i64 qa, .int .i64 qb, .int .i64 qc] 39 (0, 0)) := by
          have := heap_alloc_new (w4.alloc (.cells #[.int .i64 qa, .int .i64 qb, .int .i64 qc] 39)) (.cells #[.int .i64 qa, .int .i64 qb, .int .i64 qc] 39)
          rwa [World.size_alloc] at this
        have H5 := Lib.hid (own_below H4.out bZ)
        clear bZ
        go_wp2_with (at_builtin; refine wpList_append_lies _ rfl _ _ 24 rfl (w.heap.size + 1) 39 i0 (.agg #[.int .i64 0, .int .i64 0, .int .i64 0]) 3 24 Tryz.underlying24 hi0 hz0 hz1 hz2 rfl (by decide) (.slice ao k cp) k _ rfl H5.out ⟨w4.heap.size + 1, 0, none⟩ 1 1 [.int .i64 qa, .int .i64 qb, .int .i64 qc] rfl rfl (World.news_of_block (cs := #[.int .i64 qa, .int .i64 qb, .int .i64 qc]) (t := 39) (fr := (0, 0)) HN1) (by simp [Value.oneCell']) (by omega) (by unfold maxLen; omega) (by omega) (by simp; omega) _ rfl ?_; intro gg cap' w7 hown7 hgrow hat hlt7; have H7 := Lib.hid hown7; have HG2 := Lib.hid hgrow; clear hown7 hgrow hat)
        have b7 : Below w.heap.size w w7 := b5.grown HG2.out b5.size (fun p hp => Nat.le_trans (Nat.le_add_right _ _) (own_base_le H5.out hp))
        have far : ∀ q, q < w.heap.size + 1 → some q ≠ (Value.slice ao k cp).ownBlock := fun q hq e => by have := own_base_le H5.out e.symm; omega
        have e0 := cell_far (cell_to s0 HZ.out) HG2.out (far w.heap.size (by omega))
        have z7 : w.heap.size + 1 ≤ w7.heap.size := by
          have := HG2.out.size
          have := HZ.out.size
          omega
        go_roundw
        case rel => exact ⟨k + 1, _, _, by omega, by go_num, rfl, HT2.out, by rw [HS.out, flat_app]; exact H7.out, b7, e0, z7⟩
        case measure => simp [intOf]; omega
    · obtain rfl : k = n := by omega
      have HE := Lib.hid (show ps.take k = ps from List.take_of_length_le (by rw [HL.out]; exact Nat.le_refl _))
      rw [HE.out] at HT H0
      clear HE
      generalize Int.gcd bx cy = g at *
      generalize gwa bx cy = ga at *
      generalize gwb bx cy = gb at *
      go_wp2_with fail
      refine (HG.out _).mono ?_
      rintro e w4 ⟨rfl, bl4⟩
      have b4 := below_to hbw bl4
      have s0 := cell_to r0 bl4
      have H4 := Lib.hid (own_below H0.out bl4)
      have z4 := bl4.size
      have HBK := Lib.hid (fun p (hp : (Value.slice ao k cp).ownBlock = some p) => (own_block_lt H4.out hp).2)
      have nz1 : ¬ g = 0 := by omega
      have nz2 : ¬ (g : Int) = 0 := by omega
      have w1' : IntKind.i64.wrap (-cy) = -cy := IntWalk.i64_in _ (by omega)
      have w2' : IntKind.i64.wrap (-bx) = -bx := IntWalk.i64_in _ (by omega)
      have w3' : IntKind.i64.wrap ga = ga := IntWalk.i64_in _ (by omega)
      have w4' : IntKind.i64.wrap gb = gb := IntWalk.i64_in _ (by omega)
      have w5' : IntKind.i64.wrap (-ga) = -ga := IntWalk.i64_in _ (by omega)
      have w6' : IntKind.i64.wrap (-gb) = -gb := IntWalk.i64_in _ (by omega)
      have en1 : (-cy).tdiv (g : Int) = -ga := by rw [Int.neg_tdiv, ea]
      have en2 : (-bx).tdiv (g : Int) = -gb := by rw [Int.neg_tdiv, eb]
      clear r0 H0 hbw bl4 HG
      have hDl : D.length = 2 := by rw [HDD.out]; rfl
      have HDL := Lib.hid hDl
      go_wp2
      go_cut [88, 89, 90] from 72 to 90 (fun s88 s89 s90 wx => ∃ gD, s88 = .slice (some ⟨gD, 0, none⟩) 2 2 ∧ s89 = .int .i64 2 ∧ s90 = .int .i64 0 ∧ w4.heap.size ≤ gD ∧ Blk wx gD #[.int .i64 (-ga), .int .i64 gb, .int .i64 0, .int .i64 ga, .int .i64 (-gb), .int .i64 0] 39 ∧ Below w4.heap.size w4 wx)
      case first =>
        go_region
        all_goals
          go_wp2_with fail
          go_meet
          first
            | exact ⟨_, rfl, rfl, rfl, Nat.le_refl _, blk_new w4 _ _ rfl, below_one w4 _⟩
            | exact ⟨_, rfl, rfl, rfl, Nat.le_refl _, (blk_new w4 _ _ rfl).to (below_drw (Below.refl _ _)), below_drw (below_one w4 _)⟩
            | exact ⟨_, rfl, rfl, rfl, Nat.le_refl _, blk_new w4.drew _ _ rfl, below_bx2 (below_drw (Below.refl _ _)) _⟩
      case rest =>
        obtain ⟨gD, rfl, rfl, rfl, hgD, kD, blD⟩ := hcut
        rename World => w5
        have b5 := below_to b4 blD
        have s5 := cell_to s0 blD
        have H5 := Lib.hid (own_below H4.out blD)
        have z5 := blD.size
        have HFL := Lib.hid (show (ps.map M).length = k by rw [List.length_map, HL.out])
        clear b4 blD s0 H4 nz1 nz2 w1' w2' w3' w4' w5' w6' en1 en2 ea eb hDl
        go_wp2
        go_loopw [12, 90] (fun v i wx => ∃ (m : Nat) (ao : Option Addr) (cp : Nat), m ≤ 2 ∧ i = .int .i64 m ∧ v = .slice ao (k + m) cp ∧ (D.take m).all (tcT ps) = true ∧ wx.ownsRow (w.heap.size + 1) 39 3 (.slice ao (k + m) cp) (k + m) (flat (ps.map M ++ (D.take m).map (tcU ps))) ∧ Below w.heap.size w wx ∧ wx.cell? ⟨w.heap.size, 0, none⟩ = some (.slice a k ca) ∧ Blk wx gD #[.int .i64 (-ga), .int .i64 gb, .int .i64 0, .int .i64 ga, .int .i64 (-gb), .int .i64 0] 39 ∧ w4.heap.size ≤ wx.heap.size ∧ (∀ p, (Value.slice ao (k + m) cp).ownBlock = some p → p ≠ gD)) (fun _ i _ => 2 - (intOf i).toNat)
        case atStart =>
          refine ⟨0, ao, cp, Nat.zero_le _, rfl, rfl, by simp, by simpa using H5.out, b5, s5, kD, z5, ?_⟩
          intro p hp e
          have := HBK.out p hp
          omega
        case round =>
          obtain ⟨m, ao', cp', hm, rfl, rfl, hall, hov, hbw, r0, kx, hzx, hne⟩ := hrel
          rename World => wy
          have H0 := Lib.hid hov
          have HT2 := Lib.hid hall
          have HNB := Lib.hid hne
          clear hov hall hne
          by_cases hlt2 : m < 2
          · obtain ⟨⟨xa, xb, xc⟩, hx⟩ : ∃ x, D[m]? = some x := ⟨_, List.getElem?_eq_getElem (by rw [HDL.out]; exact hlt2)⟩
            have HX := Lib.hid hx
            obtain ⟨g', o', e', c1, c2, c3⟩ := (show HsAt _ (some ⟨gD, 0, none⟩) D by rw [HDD.out]; exact hs_blk kx) m _ hx
            simp only [Option.some.injEq, Addr.mk.injEq, and_true] at e'
            obtain ⟨rfl, rfl⟩ := e'
            simp only [Nat.zero_add] at c1 c2 c3
            obtain ⟨⟨a1, a2⟩, b1, b2⟩ := HD.out _ (List.mem_of_getElem? hx)
            have nz := HNZ.out _ (List.mem_of_getElem? hx)
            simp only at a1 a2 b1 b2 nz
            obtain ⟨_, _, q, _, ⟨n1, n2⟩, d1, d2⟩ := sup_of (A := xa) (B := xb) HL.out HP.out HNE.out (inB_of (by omega) (by omega)) (inB_of (by omega) (by omega))
            obtain ⟨o1, o2, o3, o4, o5⟩ := (okR_iff _ _).1 q
            obtain ⟨tt1, tt2⟩ := top_tc (A := xa) (B := xb) HP.out HNE.out (inB_of (by omega) (by omega)) (inB_of (by omega) (by omega)) nz
            rw [HL.out] at tt1 tt2
            have HFF := Lib.hid (fun V (h : Below w.heap.size w V) => HF.out V xa xb h ⟨by omega, by omega⟩ ⟨by omega, by omega⟩)
            have HTP := Lib.hid (fun V => spec_top xa xb (farS xa xb ps k).2.1 (farS xa xb ps k).2.2 V ⟨by omega, by omega⟩ ⟨by omega, by omega⟩ (by omega) (by omega) o1 (by omega) o5)
            have HTT1 := Lib.hid (show topB xa xb (farS xa xb ps k).2.1 (farS xa xb ps k).2.2 = tcT ps ⟨xa, xb, xc⟩ from tt1)
            have HTT2 := Lib.hid (show tcT ps ⟨xa, xb, xc⟩ = true → topH xa xb (farS xa xb ps k).2.1 (farS xa xb ps k).2.2 = tcU ps ⟨xa, xb, xc⟩ from tt2)
            obtain ⟨rB, hrB⟩ : ∃ b, tcT ps ⟨xa, xb, xc⟩ = b := ⟨_, rfl⟩
            have HRB := Lib.hid hrB
            rw [HTT1.out, hrB] at HTP
            rw [hrB] at HTT2
            obtain ⟨⟨qa, qb, qc⟩, hq⟩ : ∃ q, topH xa xb (farS xa xb ps k).2.1 (farS xa xb ps k).2.2 = q := ⟨_, rfl⟩
            rw [hq] at HTP HTT2
            simp only at HTP
            clear hx hq hrB tt1 tt2 q n1 n2 d1 d2 o1 o2 o3 o4 o5 HTT1 a1 a2 b1 b2 nz
            generalize (farS xa xb ps k).1 = fi at *
            generalize (farS xa xb ps k).2.1 = fN at *
            generalize (farS xa xb ps k).2.2 = fD at *
            have bX := below_one wy (.cells #[.int .i64 xa, .int .i64 xb, .int .i64 xc] 39)
            have bxx := below_bx2 hbw (.cells #[.int .i64 xa, .int .i64 xb, .int .i64 xc] 39)
            obtain ⟨y1, y2, y3⟩ := tri_new wy (.int .i64 xa) (.int .i64 xb) (.int .i64 xc) 39
            simp only [Nat.zero_add] at y1 y2 y3
            have d0 := cell_to r0 bX
            go_wp2_with fail
            generalize wy.alloc (.cells #[.int .i64 xa, .int .i64 xb, .int .i64 xc] 39) = X at *
            refine (HFF.out _ bxx).mono ?_
            rintro e w6 ⟨rfl, bl6⟩
            have bQ := below_to bl6 (below_one w6 (.cells #[.int .i64 fN, .int .i64 fD] 50))
            have bQQ := below_to bX bQ
            have b6 := below_to bxx bQ
            have k1 := cell_to y1 bQ
            have k2 := cell_to y2 bQ
            obtain ⟨v1, v2, _, _⟩ := two_new w6 (.int .i64 fN) (.int .i64 fD) 50
            clear bl6 y1 y2 y3 d0 c1 c2 c3 bxx bX
            go_wp2_with fail
            generalize w6.alloc (.cells #[.int .i64 fN, .int .i64 fD] 50) = X6 at *
            refine (HTP.out _).mono ?_
            rintro e w7 ⟨rfl, bl7⟩
            have bY := below_to bQQ bl7
            have b7 := below_to b6 bl7
            have s0 := cell_to r0 bY
            have k7 := kx.to bY
            have H4 := Lib.hid (own_below H0.out bY)
            have z7 := bY.size
            clear bQ bQQ b6 bl7 bY r0 kx H0 k1 k2 v1 v2 hbw HFF HTP
            cases rB with
            | false =>
              have HN := Lib.hid (all_no1 HX.out HRB.out)
              have b8 := below_bx2 b7 (.cells #[.int .i64 qa, .int .i64 qb, .int .i64 qc] 39)
              go_wp2_with fail
              exact bodyPost_ret (v := .tuple #[.slice none 0 0, .bool false]) (by simp [results, Tryz.results176, go_sem]) rfl (.inr ⟨by rw [HN.out]; simp, rfl, b8⟩)
            | true =>
              have HT3 := Lib.hid (mv_take HX.out HRB.out HT2.out)
              have HS := Lib.hid (show ps.map M ++ (D.take (m + 1)).map (tcU ps) = (ps.map M ++ (D.take m).map (tcU ps)) ++ [⟨qa, qb, qc⟩] by rw [map_tk1 HX.out, ← HTT2.out rfl, List.append_assoc])
              have bZ := below_bx2 (below_one w7 (.cells #[.int .i64 qa, .int .i64 qb, .int .i64 qc] 39)) (.cells #[.int .i64 qa, .int .i64 qb, .int .i64 qc] 39)
              have HZ := Lib.hid bZ
              have b8 := below_to b7 bZ
              obtain ⟨v1, v2, v3⟩ := tri_new w7 (.int .i64 qa) (.int .i64 qb) (.int .i64 qc) 39
              have HN1 : ((w7.alloc (.cells #[.int .i64 qa, .int .i64 qb, .int .i64 qc] 39)).alloc (.cells #[.int .i64 qa, .int .i64 qb, .int .i64 qc] 39)).heap[w7.heap.size + 1]? = some (.cells #[.int .i64 qa, .int .i64 qb, .int .i64 qc] 39 (0, 0)) := by
                have := heap_alloc_new (w7.alloc (.cells #[.int .i64 qa, .int .i64 qb, .int .i64 qc] 39)) (.cells #[.int .i64 qa, .int .i64 qb, .int .i64 qc] 39)
                rwa [World.size_alloc] at this
              have H5' := Lib.hid (own_below H4.out bZ)
              clear bZ
              go_wp2_with (at_builtin; refine wpList_append_lies _ rfl _ _ 24 rfl (w.heap.size + 1) 39 i0 (.agg #[.int .i64 0, .int .i64 0, .int .i64 0]) 3 24 Tryz.underlying24 hi0 hz0 hz1 hz2 rfl (by decide) (.slice ao' (k + m) cp') (k + m) _ rfl H5'.out ⟨w7.heap.size + 1, 0, none⟩ 1 1 [.int .i64 qa, .int .i64 qb, .int .i64 qc] rfl rfl (World.news_of_block (cs := #[.int .i64 qa, .int .i64 qb, .int .i64 qc]) (t := 39) (fr := (0, 0)) HN1) (by simp [Value.oneCell']) (by omega) (by unfold maxLen; omega) (by omega) (by simp; omega) _ rfl ?_; intro gg cap' w9 hown9 hgrow hat hlt9; have H9 := Lib.hid hown9; have HG2 := Lib.hid hgrow; have HAT := Lib.hid hat; clear hown9 hgrow hat)
              have b9 : Below w.heap.size w w9 := b8.grown HG2.out b8.size (fun p hp => Nat.le_trans (Nat.le_add_right _ _) (own_base_le H5'.out hp))
              have far : ∀ q, q < w.heap.size + 1 → some q ≠ (Value.slice ao' (k + m) cp').ownBlock := fun q hq e => by have := own_base_le H5'.out e.symm; omega
              have e0 := cell_far (cell_to s0 HZ.out) HG2.out (far w.heap.size (by omega))
              have k9 : Blk w9 gD #[.int .i64 (-ga), .int .i64 gb, .int .i64 0, .int .i64 ga, .int .i64 (-gb), .int .i64 0] 39 := (HG2.out.block gD (k7.to HZ.out).lt (fun e => HNB.out gD e.symm rfl)).trans (k7.to HZ.out)
              have z9 : w4.heap.size ≤ w9.heap.size := by
                have := HG2.out.size
                have := HZ.out.size
                omega
              go_roundw
              case rel =>
                refine ⟨m + 1, _, _, by omega, by go_num, rfl, HT3.out, by rw [HS.out, flat_app]; exact H9.out, b9, e0, k9, z9, ?_⟩
                intro p hp e
                have l7 := k7.lt
                simp only [Value.ownBlock, Option.some.injEq] at hp
                rcases HAT.out with h | h
                · exact HNB.out _ h (by rw [hp]; exact e)
                · simp only [World.size_alloc] at h
                  omega
              case measure => simp [intOf]; omega
          · obtain rfl : m = 2 := by omega
            have HE := Lib.hid (show D.take 2 = D from List.take_of_length_le (by rw [HDL.out]; exact Nat.le_refl _))
            rw [HE.out] at HT2 H0
            have hw : w.heap.size ≤ w.heap.size + 1 := Nat.le_succ _
            go_wp2_with fail
            exact bodyPost_ret (v := .tuple #[.slice ao' (k + 2) cp', .bool true]) (by simp [results, Tryz.results176, go_sem]) rfl (GrnW.yes (by rw [HT.out, HT2.out]; rfl) (by rw [List.length_append, List.length_map, List.length_map, HL.out, HDL.out]) (own_base H0.out hw) hbw)

theorem regL_swap {fu xs : List H3} (hok : (xs ++ fu).all okB = true) : regL (fu ++ xs) = regL (xs ++ fu) := by
  have h2 : (fu ++ xs).all okB = true := by rw [List.all_append, Bool.and_comm, ← List.all_append]; exact hok
  rw [← mod_reg hok]
  exact (mod_of hok (Inv_swap (regL_inv h2) fun x => by
    simp only [List.mem_append]
    constructor
    · rintro (h | h | h) <;> simp [h]
    · rintro ((h | h) | h) <;> simp [h])).symm
theorem okF_swap (fu xs : List H3) : okF (xs ++ fu) = okF (fu ++ xs) ∧ regE (xs ++ fu) = regE (fu ++ xs) := by
  by_cases hok : (xs ++ fu).all okB = true
  · have h2 : (fu ++ xs).all okB = true := by rw [List.all_append, Bool.and_comm, ← List.all_append]; exact hok
    have e : okF (xs ++ fu) = okF (fu ++ xs) := by
      unfold okF
      rw [hok, h2, regL_swap hok, List.length_append, List.length_append, Nat.add_comm]
    refine ⟨e, ?_⟩
    unfold regE
    rw [e, regL_swap hok]
  · have h2 : ¬ (fu ++ xs).all okB = true := by rw [List.all_append, Bool.and_comm, ← List.all_append]; exact hok
    have e1 : okF (xs ++ fu) = false := by unfold okF; simp [hok]
    have e2 : okF (fu ++ xs) = false := by unfold okF; simp [h2]
    exact ⟨by rw [e1, e2], by unfold regE; rw [e1, e2]; simp⟩
/-- the model's list gives the program's answer -/
theorem grn_yes {ps : List H3} {bx cy lo hi : Int} (h : gwC ps bx cy lo hi = true) (n : ps ≠ []) (z : ¬ (bx = 0 ∧ cy = 0)) (t : (ps.all (grB bx cy lo hi) && (gwD bx cy).all (tcT ps)) = true) :
    gwL ps bx cy lo hi = regE (ps.map (grM bx cy lo hi) ++ (gwD bx cy).map (tcU ps)) ∧ gwB ps bx cy lo hi = okF (ps.map (grM bx cy lo hi) ++ (gwD bx cy).map (tcU ps)) ∧ (ps.map (grM bx cy lo hi) ++ (gwD bx cy).map (tcU ps)).all okB = true := by
  rw [Bool.and_eq_true] at t
  obtain ⟨t1, t2⟩ := t
  rw [(gw_DU ps bx cy).2] at t2
  rw [(gw_DU ps bx cy).1]
  obtain ⟨y1, y2⟩ := gw_yes (lo := lo) (hi := hi) h n z t2
  obtain ⟨m1, m2⟩ := mv_yes (M := grM bx cy lo hi) (fu := gwU ps bx cy) n t1
  obtain ⟨s1, s2⟩ := okF_swap (gwU ps bx cy) (ps.map (grM bx cy lo hi))
  refine ⟨by rw [y1, m1, s2], by rw [y2, m2, s1], ?_⟩
  rw [List.all_append, map_ok (gr_ok bx cy lo hi) t1, Bool.true_and, List.all_eq_true]
  intro x hx
  unfold gwT at t2
  rw [Bool.and_eq_true] at t2
  unfold gwU at hx
  simp only [List.mem_cons, List.not_mem_nil, or_false] at hx
  rcases hx with rfl | rfl
  · exact red_ok t2.1
  · exact red_ok t2.2
theorem grn_no {ps : List H3} {bx cy lo hi : Int} (n : ps ≠ []) (z : ¬ (bx = 0 ∧ cy = 0)) (t : (ps.all (grB bx cy lo hi) && (gwD bx cy).all (tcT ps)) = false) : gwL ps bx cy lo hi = [] ∧ gwB ps bx cy lo hi = false := by
  rw [(gw_DU ps bx cy).2] at t
  cases t2 : gwT ps bx cy with
  | false => exact gw_tno n z t2
  | true =>
    rw [t2, Bool.and_true] at t
    have mb : mvB (grB bx cy lo hi) (grM bx cy lo hi) (gwU ps bx cy) ps = false := by unfold mvB; rw [t]; simp [n]
    cases h : gwC ps bx cy lo hi with
    | false => exact gw_no h
    | true =>
      obtain ⟨y1, y2⟩ := gw_yes (lo := lo) (hi := hi) h n z t2
      refine ⟨by rw [y1]; unfold mvL; rw [if_neg (by rw [mb]; simp)], by rw [y2, mb]⟩

set_option maxRecDepth 100000 in
set_option maxHeartbeats 3200000 in
theorem spec_grw (a : Option Addr) (n ca : Nat) (ps : List H3) (bx cy lo hi : Int) (w : World) (hl : ps.length = n) (hn : n ≤ 1048576) (h64 : ∀ h ∈ ps, In64 h) (hz : a = none → n = 0 ∧ ca = 0) (hA : HsAt w a ps) :
    Calls Tryz.prog 151 #[.agg #[.slice a n ca], .int .i64 bx, .int .i64 cy, .int .i64 lo, .int .i64 hi] w (AnsR w (gwL ps bx cy lo hi) (gwB ps bx cy lo hi)) := by
  obtain ⟨i0, hi0, hz0, hz1, hz2⟩ := info_parts Tryz.info34
  have bV := below_bx2 (below_one w (.cells #[.slice a n ca] 26)) (.cells #[.slice none 0 0] 26)
  have K0 := (blk_new w #[.slice a n ca] 26 rfl).to (below_one _ (.cells #[.slice none 0 0] 26))
  have K1 := blk_new (w.alloc (.cells #[.slice a n ca] 26)) #[.slice none 0 0] 26 (b := w.heap.size + 1) (by simp)
  have HR := Lib.hid (fun V (h : Below w.heap.size w V) => spec_rok a n ca ps V hl hn h64 hz (hA.below h))
  have HG := Lib.hid (fun V (h : Below w.heap.size w V) (n38 : n ≤ 38) (hp : rokB ps = true) (ne : ps ≠ []) (hx : In100 bx) (hy : In100 cy) (hlo : In1k lo) (hhi : In1k hi) (z : ¬ (bx = 0 ∧ cy = 0)) => spec_grn a n ca ps bx cy lo hi V hl n38 hp ne hx hy hlo hhi z (hA.below h))
  have HV := Lib.hid (fun V => spec_void a n ca V)
  have HA := Lib.hid hA
  have HL := Lib.hid hl
  have HNIL := Lib.hid hz
  clear hl hA h64 hz
  have q0 := K0.cell0 (i := 0) (v := .slice a n ca) rfl
  go_enter Tryz.func151, Tryz.ntmps151
  go_wp2_with fail
  generalize ((w.alloc (.cells #[.slice a n ca] 26)).alloc (.cells #[.slice none 0 0] 26)) = V at *
  refine (HR.out _ bV).mono ?_
  rintro e w1 ⟨rfl, bl1⟩
  have b1 := below_to bV bl1
  have L0 := K0.to bl1
  have L1 := K1.to bl1
  clear bV bl1 q0 K0 K1 HR
  have q0 := L0.cell0 (i := 0) (v := .slice a n ca) rfl
  have q1 := L1.cell0 (i := 0) (v := .slice none 0 0) rfl
  have f1 := L1.free 0
  cases hk : rokB ps with
  | false =>
    have HN := Lib.hid (gw_no (ps := ps) (bx := bx) (cy := cy) (lo := lo) (hi := hi) (by unfold gwC; rw [hk]; simp))
    clear hk
    go_wp2_with fail
    exact bodyPost_ret (v := .tuple #[.agg #[.slice none 0 0], .bool false]) (by simp [results, Tryz.results151, go_sem, q1]) rfl (AnsR.no HN.out.1 HN.out.2 (b1.setCell (p := ⟨w.heap.size + 1, 0, none⟩) (Nat.le_add_right _ _) _))
  | true =>
    by_cases h38 : (38 : Int) < (n : Int)
    · have HN := Lib.hid (gw_no (ps := ps) (bx := bx) (cy := cy) (lo := lo) (hi := hi) (by unfold gwC; rw [HL.out, decide_eq_false (show ¬ n ≤ 38 by omega)]; simp))
      have hdd : decide ((38 : Int) < (n : Int)) = true := decide_eq_true h38
      clear hk
      go_wp2_with fail
      exact bodyPost_ret (v := .tuple #[.agg #[.slice none 0 0], .bool false]) (by simp [results, Tryz.results151, go_sem, q1]) rfl (AnsR.no HN.out.1 HN.out.2 (b1.setCell (p := ⟨w.heap.size + 1, 0, none⟩) (Nat.le_add_right _ _) _))
    have hdd : decide ((38 : Int) < (n : Int)) = false := decide_eq_false h38
    have HC0 := Lib.hid (show gwC ps bx cy lo hi = (inB bx (-100) 100 && inB cy (-100) 100 && inB lo (-1000) 1000 && inB hi lo 1000) by unfold gwC; rw [hk, HL.out, decide_eq_true (show n ≤ 38 by omega)]; simp)
    have HKK := Lib.hid hk
    clear hk
    rcases inB_cases bx (-100) 100 with ⟨c0, s0, t0⟩ | ⟨c0, _⟩
    rotate_left
    · have HN := Lib.hid (gw_no (ps := ps) (bx := bx) (cy := cy) (lo := lo) (hi := hi) (by rw [HC0.out, c0]; simp))
      have HI0 := Lib.hid (fun W => in_spec_is bx (-100) 100 W _ c0)
      go_wp2_with fail
      refine (HI0.out _).mono ?_
      rintro e ww0 ⟨rfl, hww0⟩
      subst hww0
      go_wp2_with fail
      exact bodyPost_ret (v := .tuple #[.agg #[.slice none 0 0], .bool false]) (by simp [results, Tryz.results151, go_sem, q1]) rfl (AnsR.no HN.out.1 HN.out.2 (b1.setCell (p := ⟨w.heap.size + 1, 0, none⟩) (Nat.le_add_right _ _) _))
    rcases inB_cases cy (-100) 100 with ⟨c1, s1, t1⟩ | ⟨c1, _⟩
    rotate_left
    · have HN := Lib.hid (gw_no (ps := ps) (bx := bx) (cy := cy) (lo := lo) (hi := hi) (by rw [HC0.out, c1]; simp))
      have HI0 := Lib.hid (fun W => in_spec_is bx (-100) 100 W _ c0)
      have HI1 := Lib.hid (fun W => in_spec_is cy (-100) 100 W _ c1)
      go_wp2_with fail
      refine (HI0.out _).mono ?_
      rintro e ww0 ⟨rfl, hww0⟩
      subst hww0
      go_wp2_with fail
      refine (HI1.out _).mono ?_
      rintro e ww1 ⟨rfl, hww1⟩
      subst hww1
      go_wp2_with fail
      exact bodyPost_ret (v := .tuple #[.agg #[.slice none 0 0], .bool false]) (by simp [results, Tryz.results151, go_sem, q1]) rfl (AnsR.no HN.out.1 HN.out.2 (b1.setCell (p := ⟨w.heap.size + 1, 0, none⟩) (Nat.le_add_right _ _) _))
    rcases inB_cases lo (-1000) 1000 with ⟨c2, s2, t2⟩ | ⟨c2, _⟩
    rotate_left
    · have HN := Lib.hid (gw_no (ps := ps) (bx := bx) (cy := cy) (lo := lo) (hi := hi) (by rw [HC0.out, c2]; simp))
      have HI0 := Lib.hid (fun W => in_spec_is bx (-100) 100 W _ c0)
      have HI1 := Lib.hid (fun W => in_spec_is cy (-100) 100 W _ c1)
      have HI2 := Lib.hid (fun W => in_spec_is lo (-1000) 1000 W _ c2)
      go_wp2_with fail
      refine (HI0.out _).mono ?_
      rintro e ww0 ⟨rfl, hww0⟩
      subst hww0
      go_wp2_with fail
      refine (HI1.out _).mono ?_
      rintro e ww1 ⟨rfl, hww1⟩
      subst hww1
      go_wp2_with fail
      refine (HI2.out _).mono ?_
      rintro e ww2 ⟨rfl, hww2⟩
      subst hww2
      go_wp2_with fail
      exact bodyPost_ret (v := .tuple #[.agg #[.slice none 0 0], .bool false]) (by simp [results, Tryz.results151, go_sem, q1]) rfl (AnsR.no HN.out.1 HN.out.2 (b1.setCell (p := ⟨w.heap.size + 1, 0, none⟩) (Nat.le_add_right _ _) _))
    rcases inB_cases hi lo 1000 with ⟨c3, s3, t3⟩ | ⟨c3, _⟩
    rotate_left
    · have HN := Lib.hid (gw_no (ps := ps) (bx := bx) (cy := cy) (lo := lo) (hi := hi) (by rw [HC0.out, c3]; simp))
      have HI0 := Lib.hid (fun W => in_spec_is bx (-100) 100 W _ c0)
      have HI1 := Lib.hid (fun W => in_spec_is cy (-100) 100 W _ c1)
      have HI2 := Lib.hid (fun W => in_spec_is lo (-1000) 1000 W _ c2)
      have HI3 := Lib.hid (fun W => in_spec_is hi lo 1000 W _ c3)
      go_wp2_with fail
      refine (HI0.out _).mono ?_
      rintro e ww0 ⟨rfl, hww0⟩
      subst hww0
      go_wp2_with fail
      refine (HI1.out _).mono ?_
      rintro e ww1 ⟨rfl, hww1⟩
      subst hww1
      go_wp2_with fail
      refine (HI2.out _).mono ?_
      rintro e ww2 ⟨rfl, hww2⟩
      subst hww2
      go_wp2_with fail
      refine (HI3.out _).mono ?_
      rintro e ww3 ⟨rfl, hww3⟩
      subst hww3
      go_wp2_with fail
      exact bodyPost_ret (v := .tuple #[.agg #[.slice none 0 0], .bool false]) (by simp [results, Tryz.results151, go_sem, q1]) rfl (AnsR.no HN.out.1 HN.out.2 (b1.setCell (p := ⟨w.heap.size + 1, 0, none⟩) (Nat.le_add_right _ _) _))
    have HI0 := Lib.hid (fun W => in_spec_is bx (-100) 100 W _ c0)
    have HI1 := Lib.hid (fun W => in_spec_is cy (-100) 100 W _ c1)
    have HI2 := Lib.hid (fun W => in_spec_is lo (-1000) 1000 W _ c2)
    have HI3 := Lib.hid (fun W => in_spec_is hi lo 1000 W _ c3)
    have HCC := Lib.hid (show gwC ps bx cy lo hi = true by rw [HC0.out, c0, c1, c2, c3]; rfl)
    clear c0 c1 c2 c3 HC0
    go_wp2_with fail
    refine (HI0.out _).mono ?_
    rintro e ww0 ⟨rfl, hww0⟩
    subst hww0
    go_wp2_with fail
    refine (HI1.out _).mono ?_
    rintro e ww1 ⟨rfl, hww1⟩
    subst hww1
    go_wp2_with fail
    refine (HI2.out _).mono ?_
    rintro e ww2 ⟨rfl, hww2⟩
    subst hww2
    go_wp2_with fail
    refine (HI3.out _).mono ?_
    rintro e ww3 ⟨rfl, hww3⟩
    subst hww3
    clear HI0 HI1 HI2 HI3
    go_upto_region 3 with fail
    go_cut [54] from 45 to 54 (fun s54 wx => s54 = .bool (decide (n = 0 ∨ (bx = 0 ∧ cy = 0))) ∧ Below ww3.heap.size ww3 wx)
    case first =>
      go_wp2_with fail
      refine (HV.out _).mono ?_
      rintro e w2 ⟨rfl, bl2⟩
      by_cases h0 : n = 0
      · have e0 : ((n : Int) == 0) = true := by subst h0; rfl
        have HS := Lib.hid (show decide (n = 0 ∨ (bx = 0 ∧ cy = 0)) = true from decide_eq_true (.inl h0))
        clear h0
        go_wp2_with fail
        go_meet
        exact ⟨by rw [HS.out], bl2⟩
      · have e0 : ((n : Int) == 0) = false := eq_b (by omega)
        by_cases hb : bx = 0
        · have e1 : (bx == 0) = true := by simpa using hb
          by_cases hc : cy = 0
          · have HS := Lib.hid (show decide (n = 0 ∨ (bx = 0 ∧ cy = 0)) = true from decide_eq_true (.inr ⟨hb, hc⟩))
            have e2 : (cy == 0) = true := by simpa using hc
            clear hb hc
            go_wp2_with fail
            go_meet
            exact ⟨by rw [HS.out], bl2⟩
          · have HS := Lib.hid (show decide (n = 0 ∨ (bx = 0 ∧ cy = 0)) = false from decide_eq_false (by rintro (h | h); exact h0 h; exact hc h.2))
            have e2 : (cy == 0) = false := eq_b hc
            clear hb hc
            go_wp2_with fail
            go_meet
            exact ⟨by rw [HS.out], bl2⟩
        · have e1 : (bx == 0) = false := eq_b hb
          have HS := Lib.hid (show decide (n = 0 ∨ (bx = 0 ∧ cy = 0)) = false from decide_eq_false (by rintro (h | h); exact h0 h; exact hb h.1))
          go_wp2_with fail
          go_meet
          exact ⟨by rw [HS.out], bl2⟩
    case rest =>
      obtain ⟨rfl, bl2⟩ := hcut
      rename World => w2
      have b2 := below_to b1 bl2
      have M0 := L0.to bl2
      have M1 := L1.to bl2
      clear b1 bl2 q0 q1 f1 L0 L1 HV
      have q0 := M0.cell0 (i := 0) (v := .slice a n ca) rfl
      have q1 := M1.cell0 (i := 0) (v := .slice none 0 0) rfl
      have f1 := M1.free 0
      have lq1 := M1.lt
      by_cases hsame : n = 0 ∨ (bx = 0 ∧ cy = 0)
      · have HN := Lib.hid (gw_same HCC.out (hsame.imp (fun h => len_nil HL.out h) id))
        rw [decide_eq_true hsame]
        clear hsame
        cases a with
        | none =>
          obtain ⟨rfl, rfl⟩ := HNIL.out rfl
          have HP0 := Lib.hid (len_nil HL.out rfl)
          have q2 := cell_to q1 (below_one w2 (.cells #[] 39))
          have r0 := cell_to q0 (below_one w2 (.cells #[] 39))
          have f2 := ((below_one w2 (.cells #[] 39)).frozen lq1).trans f1
          have HO := Lib.hid (own3_empty' (B := w2.heap.size) (w2.setCell ⟨w.heap.size + 1, 0, none⟩ (.slice (some ⟨w2.heap.size, 0, none⟩) 0 0)) (b := w2.heap.size) (by simp) (Nat.le_refl _))
          have qq := (blk_set M1 (.slice (some ⟨w2.heap.size, 0, none⟩) 0 0)).to (below_one _ (.cells #[] 39))
          have qv := qq.cell0 (i := 0) (v := (.slice (some ⟨w2.heap.size, 0, none⟩) 0 0)) rfl
          have HFF := Lib.hid (AnsR.yes (w := w) (L := gwL ps bx cy lo hi) (b := gwB ps bx cy lo hi) (M := []) (by rw [HN.out.1, HP0.out]) HN.out.2 (own_base HO.out b2.size) (below_bx2 (b2.setCell (p := ⟨w.heap.size + 1, 0, none⟩) (Nat.le_add_right _ _) (.slice (some ⟨w2.heap.size, 0, none⟩) 0 0)) (.cells #[] 39)))
          clear HO
          go_wp2_with fail
          exact bodyPost_ret (v := .tuple #[.agg #[.slice (some ⟨w2.heap.size, 0, none⟩) 0 0], .bool true]) (by simp [results, Tryz.results151, go_sem, qv]) rfl HFF.out
        | some ad =>
          have HO := Lib.hid (own3_empty' (B := w2.heap.size) w2 rfl (Nat.le_refl _))
          have HC := Lib.hid (hs_cells (HA.out.below (below_bx2 b2 (.cells #[] 39))))
          have q2 := cell_to q1 (below_one w2 (.cells #[] 39))
          have f2 := ((below_one w2 (.cells #[] 39)).frozen lq1).trans f1
          have r0 := cell_to q0 (below_one w2 (.cells #[] 39))
          go_wp2_with (at_builtin; refine wpList_append_own_at _ rfl _ _ 24 rfl w2.heap.size 39 i0 (.agg #[.int .i64 0, .int .i64 0, .int .i64 0]) 3 24 Tryz.underlying24 hi0 hz0 hz1 hz2 rfl (by decide) (.slice (some ⟨w2.heap.size, 0, none⟩) 0 0) 0 _ rfl HO.out ad n ca (flat ps) rfl (by rw [flat_len, HL.out]) HC.out (flat_one _) (by unfold maxLen; omega) (by omega) (by simp) ?_; intro v3 w3 ho3 hg3 hn3 _; have b3 : Below w2.heap.size w2 w3 := (below_one w2 _).grown hg3 (by simp) (fun p hp => own_base_le HO.out hp); rw [Nat.zero_add, show flat [] ++ flat ps = flat ps from List.nil_append _] at ho3; obtain ⟨a3, c3, e3⟩ := own_slice ho3; subst e3; have hne3 : some (w.heap.size + 1) ≠ (Value.slice (some ⟨w2.heap.size, 0, none⟩) 0 0).ownBlock := (by simp only [Value.ownBlock, ne_eq, Option.some.injEq]; omega); have q3 := cell_far q2 hg3 hne3; have f3 : w3.frozen? ⟨w.heap.size + 1, 0, none⟩ = false := (World.frozen?_of_block (hg3.block _ (block_lt_of_cell q2) hne3)).trans f2; have HQ3 := Lib.hid ho3; have HB3 := Lib.hid b3; clear ho3 hg3 hn3 b3 q2 f2 r0 hne3)
          have HFF := Lib.hid (AnsR.put (p := ⟨w.heap.size + 1, 0, none⟩) (w := w) HQ3.out HN.out.1 HN.out.2 b2 HB3.out lq1 (Nat.le_add_right _ _))
          exact bodyPost_ret (v := .tuple #[.agg #[.slice a3 n c3], .bool true]) (by simp [results, Tryz.results151, go_sem, q3]) rfl HFF.out
      · rw [decide_eq_false hsame]
        have h0 : n ≠ 0 := fun h => hsame (.inl h)
        have z : ¬ (bx = 0 ∧ cy = 0) := fun h => hsame (.inr h)
        have hne := len_ne HL.out h0
        have HGG := Lib.hid (HG.out w2 b2 (by omega) HKK.out hne ⟨s0, t0⟩ ⟨s1, t1⟩ ⟨s2, t2⟩ ⟨by omega, t3⟩ z)
        have HY := Lib.hid (fun t => grn_yes HCC.out hne z t)
        have HN0 := Lib.hid (fun t => grn_no (lo := lo) (hi := hi) hne z t)
        have HLL := Lib.hid (show (ps.map (grM bx cy lo hi) ++ (gwD bx cy).map (tcU ps)).length = n + 2 by rw [List.length_append, List.length_map, List.length_map, HL.out]; rfl)
        generalize (ps.map (grM bx cy lo hi) ++ (gwD bx cy).map (tcU ps)) = L at *
        generalize (ps.all (grB bx cy lo hi) && (gwD bx cy).all (tcT ps)) = rB at *
        clear hsame h0 z hne HG
        go_wp2_with fail
        refine HGG.out.mono ?_
        rintro e w3 (⟨hb, ao, cp, rfl, ho, hbl⟩ | ⟨hb, rfl, hbl⟩)
        · obtain ⟨y1, y2, y3⟩ := HY.out hb
          have b3 := below_to b2 hbl
          have q3 := cell_to q1 hbl
          have f3 := (hbl.frozen lq1).trans f1
          have lq3 := block_lt_of_cell q3
          have HO := Lib.hid ho
          have Y1 := Lib.hid y1
          have Y2 := Lib.hid y2
          have HFT := Lib.hid (spec_fit ao L.length cp L w3 rfl (by rw [HLL.out]; omega) y3 (own_nil ho) (own_hs ho))
          clear ho hbl q0 q1 f1 y1 y2 y3 hb HY HN0 HGG
          go_wp2_with fail
          refine HFT.out.mono ?_
          rintro e w4 ⟨ad, cd, rfl, ho4, bl4⟩
          have q4 := cell_to q3 bl4
          have f4 := (bl4.frozen lq3).trans f3
          have HFF := Lib.hid (AnsR.put (p := ⟨w.heap.size + 1, 0, none⟩) (w := w) ho4 Y1.out Y2.out b3 bl4 lq3 (Nat.le_add_right _ _))
          clear ho4 bl4
          generalize (regE L).length = len at *
          go_wp2_with fail
          exact bodyPost_ret (v := .tuple #[.agg #[.slice ad len cd], .bool (okF L)]) (by simp [results, Tryz.results151, go_sem, q4]) rfl HFF.out
        · have HN := Lib.hid (HN0.out hb)
          have b3 := below_to b2 hbl
          have q3 := cell_to q1 hbl
          have f3 := (hbl.frozen lq1).trans f1
          clear hbl q0 q1 f1 hb HY HN0 HGG
          go_wp2_with fail
          exact bodyPost_ret (v := .tuple #[.agg #[.slice none 0 0], .bool false]) (by simp [results, Tryz.results151, go_sem, q3]) rfl (AnsR.no HN.out.1 HN.out.2 (b3.setCell (p := ⟨w.heap.size + 1, 0, none⟩) (Nat.le_add_right _ _) _))
end Go.Proofs.YtdjjncofahnaaaaGreat
