/- GrowAlong's half planes of the model over the translation. -/
import Derived.Test.YtefafkainfhhkaaGs
import Derived.Test.YtefafkainfhhkaaEu
namespace Go.Proofs.Ytefafkainfhhkaa
open Go.RowKit Go.Shelf
open Geo (H3)

/-- what the model's list of grown half planes is -/
def GrnW (w : World) (L : List H3) (b : Bool) (e : Ending) (w' : World) : Prop :=
  (b = true ∧ ∃ ao cp, e = .returned (.tuple #[.slice ao L.length cp, .bool true]) ∧ w'.ownsRow w.heap.size 88 3 (.slice ao L.length cp) L.length (flat L) ∧ Below w.heap.size w w') ∨ (b = false ∧ e = .returned (.tuple #[.slice none 0 0, .bool false]) ∧ Below w.heap.size w w')
theorem GrnW.yes {w w' : World} {L : List H3} {b : Bool} {ao : Option Addr} {m cp : Nat} (hb : b = true) (hm : L.length = m) (ho : w'.ownsRow w.heap.size 88 3 (.slice ao m cp) m (flat L)) (hbl : Below w.heap.size w w') : GrnW w L b (.returned (.tuple #[.slice ao m cp, .bool true])) w' := by
  subst hm; exact .inl ⟨hb, ao, cp, rfl, ho, hbl⟩
theorem hs_blk {W : World} {g : Nat} {a b c p q r : Int} {T : TypeId} (K : Blk W g #[.int .i64 a, .int .i64 b, .int .i64 c, .int .i64 p, .int .i64 q, .int .i64 r] T) : HsAt W (some ⟨g, 0, none⟩) [⟨a, b, c⟩, ⟨p, q, r⟩] := by
  intro i z hz
  match i with
  | 0 =>
    simp at hz; subst hz
    exact ⟨_, _, rfl, K.cell0 (i := 0) rfl, K.cell0 (i := 1) rfl, K.cell0 (i := 2) rfl⟩
  | 1 =>
    simp at hz; subst hz
    exact ⟨_, _, rfl, K.cell0 (i := 3) rfl, K.cell0 (i := 4) rfl, K.cell0 (i := 5) rfl⟩
  | i + 2 => simp at hz
theorem top_tc {A B : Int} {ps : List H3} (hp : rokB ps = true) (ne : ps ≠ []) (i1 : inB A (-50000) 50000 = true) (i2 : inB B (-50000) 50000 = true) (nz : A ≠ 0 ∨ B ≠ 0) :
    topB A B (farS A B ps ps.length).2.1 (farS A B ps ps.length).2.2 = tcB A B ps ∧ (tcB A B ps = true → topH A B (farS A B ps ps.length).2.1 (farS A B ps ps.length).2.2 = tcH A B ps) := by
  obtain ⟨_, _, q, _, _, _, _⟩ := sup_of rfl hp ne i1 i2
  obtain ⟨_, _, _, _, o5⟩ := (okR_iff _ _).1 q
  by_cases hD : (farS A B ps ps.length).2.2 ≤ 50000
  · exact ⟨(top_yes hD).2, fun _ => (top_yes hD).1⟩
  · have e : tcB A B ps = false := by
      unfold tcB
      generalize farS A B ps ps.length = f at *
      have h := er_big (A := A) (B := B) (C := 0) (N := -f.2.1) (D := f.2.2) (by rw [Int.neg_gcd]; exact o5) (by omega) nz
      rwa [show (0 : Int) * f.2.2 - -f.2.1 = f.2.1 by omega] at h
    rw [e, (top_no hD).2]
    exact ⟨rfl, by simp⟩
theorem gcd_callS (a b : Int) (w : World) (ha : -100 ≤ a) (ha2 : a ≤ 100) (hb : -100 ≤ b) (hb2 : b ≤ 100) :
    Calls Try.prog 88 #[.int .i64 a, .int .i64 b] w fun e w' => e = .returned (.int .i64 (Int.gcd a b)) ∧ Below w.heap.size w w' := by
  refine (spec_gcd a b w (by omega) (by omega) (by omega) (by omega)).mono ?_
  rintro e w' ⟨rfl, k, rfl⟩
  exact ⟨by rw [gcdR_of a b (by omega) (by omega)], below_drewN w k⟩
/-- the two directions in which a region does not grow -/
def gwD (bx cy : Int) : List H3 := [⟨-gwa bx cy, gwb bx cy, 0⟩, ⟨gwa bx cy, -gwb bx cy, 0⟩]
noncomputable def tcT (ps : List H3) (x : H3) : Bool := tcB x.a x.b ps
noncomputable def tcU (ps : List H3) (x : H3) : H3 := tcH x.a x.b ps
theorem gw_div {x : Int} {g : Nat} (h : (g : Int) ∣ x) : x.tdiv g = 0 ↔ x = 0 := by
  constructor
  · intro e
    have := Int.tdiv_mul_cancel h
    rw [e] at this
    omega
  · rintro rfl; simp
theorem gw_nz {bx cy : Int} (h : ¬ (bx = 0 ∧ cy = 0)) : ∀ x ∈ gwD bx cy, x.a ≠ 0 ∨ x.b ≠ 0 := by
  have e1 := gw_div (Int.gcd_dvd_left (a := bx) (b := cy))
  have e2 := gw_div (Int.gcd_dvd_right (a := bx) (b := cy))
  intro x hx
  unfold gwD at hx
  simp only [List.mem_cons, List.not_mem_nil, or_false] at hx
  rcases hx with rfl | rfl <;> simp only [gwa, gwb] <;> omega
theorem gw_in5 {bx cy : Int} (hx : In100 bx) (hy : In100 cy) : ∀ x ∈ gwD bx cy, (-100 ≤ x.a ∧ x.a ≤ 100) ∧ (-100 ≤ x.b ∧ x.b ≤ 100) := by
  obtain ⟨t1, t2⟩ := td_in (g := Int.gcd bx cy) hx.1 hx.2
  obtain ⟨t3, t4⟩ := td_in (g := Int.gcd bx cy) hy.1 hy.2
  intro x hx
  unfold gwD at hx
  simp only [List.mem_cons, List.not_mem_nil, or_false] at hx
  rcases hx with rfl | rfl <;> simp only [gwa, gwb] <;> omega
theorem gw_DU (ps : List H3) (bx cy : Int) : (gwD bx cy).map (tcU ps) = gwU ps bx cy ∧ (gwD bx cy).all (tcT ps) = gwT ps bx cy := by
  refine ⟨rfl, ?_⟩
  simp [gwD, tcT, gwT]
theorem take_ne {α : Type} {l : List α} {k : Nat} {x : α} (h : l[k]? = some x) : k < l.length := (List.getElem?_eq_some_iff.1 h).1
theorem all_no1 {α : Type} {B : α → Bool} {l : List α} {k : Nat} {x : α} (h : l[k]? = some x) (n : B x = false) : l.all B = false := by
  rw [List.all_eq_false]; exact ⟨x, List.mem_of_getElem? h, by simp [n]⟩
theorem map_tk1 {α β : Type} {M : α → β} {l : List α} {k : Nat} {x : α} (h : l[k]? = some x) : (l.take (k + 1)).map M = (l.take k).map M ++ [M x] := by
  rw [List.take_add_one, h]; simp
set_option maxRecDepth 100000 in
set_option maxHeartbeats 4000000 in
theorem spec_grn (a : Option Addr) (n ca : Nat) (ps : List H3) (bx cy lo hi : Int) (w : World) (hl : ps.length = n) (hn : n ≤ 38) (hp : rokB ps = true) (ne : ps ≠ []) (hx : In100 bx) (hy : In100 cy) (hlo : In1k lo) (hhi : In1k hi) (hz : ¬ (bx = 0 ∧ cy = 0)) (hA : HsAt w a ps) :
    Calls Try.prog 60 #[.agg #[.slice a n ca], .int .i64 bx, .int .i64 cy, .int .i64 lo, .int .i64 hi] w (GrnW w (ps.map (grM bx cy lo hi) ++ (gwD bx cy).map (tcU ps)) (ps.all (grB bx cy lo hi) && (gwD bx cy).all (tcT ps))) := by
  obtain ⟨i0, hi0, hz0, hz1, hz2⟩ := info_parts Try.info34
  have bV := below_bx2 (below_one w (.cells #[.slice a n ca] 32)) (.cells #[] 88)
  have q0 := cell_to (show (w.alloc (.cells #[.slice a n ca] 32)).cell? ⟨w.heap.size, 0, none⟩ = some (.slice a n ca) by simp) (below_one _ (.cells #[] 88))
  have HO2 := Lib.hid (own3_empty' (B := w.heap.size + 1) (w.alloc (.cells #[.slice a n ca] 32)) (b := w.heap.size + 1) (by simp) (Nat.le_refl _))
  have hzV : ((w.alloc (.cells #[.slice a n ca] 32)).alloc (.cells #[] 88)).heap.size = w.heap.size + 2 := by simp
  have hok := rok_all hp
  have HB := Lib.hid (fun (h : H3) (k : h ∈ ps) => gr_in hx hy hlo hhi (hok h k))
  have HF := Lib.hid (fun V A B (h : Below w.heap.size w V) (iA : In5 A) (iB : In5 B) => spec_far a n ca ps A B V hl (by omega) hp iA iB (hA.below h))
  have HD := Lib.hid (gw_in5 hx hy)
  have HNZ := Lib.hid (gw_nz hz)
  have HP := Lib.hid hp
  have HNE := Lib.hid ne
  have HA := Lib.hid hA
  have HL := Lib.hid hl
  have HG := Lib.hid (fun W => gcd_callS bx cy W hx.1 hx.2 hy.1 hy.2)
  have HDD := Lib.hid (show gwD bx cy = [⟨-gwa bx cy, gwb bx cy, 0⟩, ⟨gwa bx cy, -gwb bx cy, 0⟩] from rfl)
  have hgp : 0 < Int.gcd bx cy := Int.gcd_pos_iff.2 (by omega)
  have HGB := Lib.hid (show ∀ h : H3, grB bx cy lo hi h = hasH h.a h.b (h.c + max (-lo * (h.a * bx + h.b * cy)) (-hi * (h.a * bx + h.b * cy))) from fun _ => rfl)
  have HGM := Lib.hid (show ∀ h : H3, grM bx cy lo hi h = redH h.a h.b (h.c + max (-lo * (h.a * bx + h.b * cy)) (-hi * (h.a * bx + h.b * cy))) from fun _ => rfl)
  obtain ⟨x1, x2⟩ := hx
  obtain ⟨y1, y2⟩ := hy
  obtain ⟨lo1, lo2⟩ := hlo
  obtain ⟨hi1, hi2⟩ := hhi
  obtain ⟨t1, t2⟩ := td_in (g := Int.gcd bx cy) x1 x2
  obtain ⟨t3, t4⟩ := td_in (g := Int.gcd bx cy) y1 y2
  have ea : cy.tdiv (Int.gcd bx cy) = gwa bx cy := rfl
  have eb : bx.tdiv (Int.gcd bx cy) = gwb bx cy := rfl
  rw [ea] at t3 t4
  rw [eb] at t1 t2
  generalize grB bx cy lo hi = B at *
  generalize grM bx cy lo hi = M at *
  generalize gwD bx cy = D at *
  clear hl hA hok hp ne hz
  go_enter Try.func60, Try.ntmps60
  go_wp2
  generalize (w.alloc (.cells #[.slice a n ca] 32)).alloc (.cells #[] 88) = V at *
  go_loopw [12, 29] (fun v i wr => ∃ (k : Nat) (ao : Option Addr) (cp : Nat), k ≤ n ∧ i = .int .i64 k ∧ v = .slice ao k cp ∧ (ps.take k).all B = true ∧ wr.ownsRow (w.heap.size + 1) 88 3 (.slice ao k cp) k (flat ((ps.take k).map M)) ∧ Below w.heap.size w wr ∧ wr.cell? ⟨w.heap.size, 0, none⟩ = some (.slice a n ca) ∧ w.heap.size + 1 ≤ wr.heap.size) (fun _ i _ => n - (intOf i).toNat)
  case atStart => exact ⟨0, _, 0, Nat.zero_le _, rfl, rfl, by simp, by simpa using HO2.out, bV, q0, by omega⟩
  case round =>
    obtain ⟨k, ao, cp, hk, rfl, rfl, hall, hov, hbw, r0, hzr⟩ := hrel
    have H0 := Lib.hid hov
    have HT := Lib.hid hall
    clear hov hall
    by_cases hlt : k < n
    · obtain ⟨⟨xa, xb, xc⟩, hx⟩ : ∃ x, ps[k]? = some x := ⟨_, List.getElem?_eq_getElem (by rw [HL.out]; exact hlt)⟩
      have HX := Lib.hid hx
      obtain ⟨g, o, rfl, hcx⟩ := HA.out k _ hx
      obtain ⟨c1, c2, c3⟩ := hcx.to hbw
      obtain ⟨⟨m1, m2⟩, ⟨m3, m4⟩, ⟨m5, m6⟩, ⟨m7, m8⟩, ⟨a1, a2⟩, ⟨b1, b2⟩, d1, d2⟩ := HB.out _ (List.mem_of_getElem? hx)
      unfold slp at m5 m6 m7 m8
      simp only at c1 c2 c3 m1 m2 m3 m4 m5 m6 m7 m8 a1 a2 b1 b2 d1 d2
      have HH := Lib.hid (fun W => spec_hof xa xb (xc + max (-lo * (xa * bx + xb * cy)) (-hi * (xa * bx + xb * cy))) W (by omega) (by omega) (by omega) (by omega) (by omega) (by omega))
      have HSB := Lib.hid (HGB.out ⟨xa, xb, xc⟩)
      have HSM := Lib.hid (HGM.out ⟨xa, xb, xc⟩)
      simp only at HSB HSM
      rw [ans_red, ← HSB.out, ← HSM.out] at HH
      obtain ⟨⟨qa, qb, qc⟩, hq⟩ : ∃ q, M ⟨xa, xb, xc⟩ = q := ⟨_, rfl⟩
      have HQ := Lib.hid hq
      rw [hq] at HH
      simp only at HH
      obtain ⟨rB, hrB⟩ : ∃ b, B ⟨xa, xb, xc⟩ = b := ⟨_, rfl⟩
      rw [hrB] at HH
      have HRB := Lib.hid hrB
      clear hx hcx hq HSB HSM hrB ea eb t1 t2 t3 t4
      generalize eu1 : xa * bx = u1 at *
      generalize eu2 : xb * cy = u2 at *
      generalize eu3 : u1 + u2 = u3 at *
      have w3 : -9223372036854775808 ≤ u3 ∧ u3 ≤ 9223372036854775807 := by omega
      generalize eu4 : -lo * u3 = u4 at *
      generalize eu5 : -hi * u3 = u5 at *
      have v6 : IntKind.i64.wrap (xc + max u4 u5) = xc + max u4 u5 := IntWalk.i64_in _ (by omega)
      have v7 : IntKind.i64.wrap (-lo) = -lo := IntWalk.i64_in _ (by omega)
      have v8 : IntKind.i64.wrap (-hi) = -hi := IntWalk.i64_in _ (by omega)
      go_wp2_with fail
      refine (HH.out _).mono ?_
      rintro e w4 ⟨rfl, bl4⟩
      have bY := below_to (below_one wr (.cells #[.int .i64 xa, .int .i64 xb, .int .i64 xc] 88)) bl4
      have b4 := below_to hbw bY
      have s0 := cell_to r0 bY
      have H4 := Lib.hid (own_below H0.out bY)
      have z4 := bY.size
      clear bY bl4 r0 H0 HH c1 c2 c3 hbw eu1 eu2 eu3 eu4 eu5 v6 v7 v8
      cases rB with
      | false =>
        have HN := Lib.hid (all_no1 HX.out HRB.out)
        have b5 := below_bx2 b4 (.cells #[.int .i64 qa, .int .i64 qb, .int .i64 qc] 88)
        go_wp2_with fail
        exact bodyPost_ret (v := .tuple #[.slice none 0 0, .bool false]) (by simp [results, Try.results60, go_sem]) rfl (.inr ⟨by rw [HN.out]; rfl, rfl, b5⟩)
      | true =>
        have HT2 := Lib.hid (mv_take HX.out HRB.out HT.out)
        have HS := Lib.hid (show (ps.take (k + 1)).map M = (ps.take k).map M ++ [⟨qa, qb, qc⟩] by rw [map_tk1 HX.out, HQ.out])
        have bZ := below_bx2 (below_one w4 (.cells #[.int .i64 qa, .int .i64 qb, .int .i64 qc] 88)) (.cells #[.int .i64 qa, .int .i64 qb, .int .i64 qc] 88)
        have HZ := Lib.hid bZ
        have b5 := below_to b4 bZ
        obtain ⟨v1, v2, v3⟩ := tri_new w4 (.int .i64 qa) (.int .i64 qb) (.int .i64 qc) 88
        have HN1 : ((w4.alloc (.cells #[.int .i64 qa, .int .i64 qb, .int .i64 qc] 88)).alloc (.cells #[.int .i64 qa, .int .i64 qb, .int .i64 qc] 88)).heap[w4.heap.size + 1]? = some (.cells #[.int .i64 qa, .int .i64 qb, .int .i64 qc] 88 (0, 0)) := by
          have := heap_alloc_new (w4.alloc (.cells #[.int .i64 qa, .int .i64 qb, .int .i64 qc] 88)) (.cells #[.int .i64 qa, .int .i64 qb, .int .i64 qc] 88)
          rwa [World.size_alloc] at this
        have H5 := Lib.hid (own_below H4.out bZ)
        clear bZ
        go_wp2_with (at_builtin; refine wpList_append_lies _ rfl _ _ 30 rfl (w.heap.size + 1) 88 i0 (.agg #[.int .i64 0, .int .i64 0, .int .i64 0]) 3 24 Try.underlying30 hi0 hz0 hz1 hz2 rfl (by decide) (.slice ao k cp) k _ rfl H5.out ⟨w4.heap.size + 1, 0, none⟩ 1 1 [.int .i64 qa, .int .i64 qb, .int .i64 qc] rfl rfl (World.news_of_block (cs := #[.int .i64 qa, .int .i64 qb, .int .i64 qc]) (t := 88) (fr := (0, 0)) HN1) (by simp [Value.oneCell']) (by omega) (by unfold maxLen; omega) (by omega) (by simp; omega) _ rfl ?_; intro gg cap' w7 hown7 hgrow hat hlt7; have H7 := Lib.hid hown7; have HG2 := Lib.hid hgrow; clear hown7 hgrow hat)
        have b7 : Below w.heap.size w w7 := b5.grown HG2.out b5.size (fun p hp => Nat.le_trans (Nat.le_add_right _ _) (own_base_le H5.out hp))
        have far : ∀ q, q < w.heap.size + 1 → some q ≠ (Value.slice ao k cp).ownBlock := fun q hq e => by have := own_base_le H5.out e.symm; omega
        have e0 := cell_far (cell_to s0 HZ.out) HG2.out (far w.heap.size (by omega))
        have z7 : w.heap.size + 1 ≤ w7.heap.size := by
          have := HG2.out.size
          have := HZ.out.size
          omega
        go_roundw
        case rel => exact ⟨k + 1, _, _, by omega, by go_num, rfl, HT2.out, by rw [HS.out, flat_app]; exact H7.out, b7, e0, z7⟩
        case measure => simp [intOf]; omega
    · obtain rfl : k = n := by omega
      have HE := Lib.hid (show ps.take k = ps from List.take_of_length_le (by rw [HL.out]; exact Nat.le_refl _))
      rw [HE.out] at HT H0
      clear HE
      generalize Int.gcd bx cy = g at *
      generalize gwa bx cy = ga at *
      generalize gwb bx cy = gb at *
      go_wp2_with fail
      refine (HG.out _).mono ?_
      rintro e w4 ⟨rfl, bl4⟩
      have b4 := below_to hbw bl4
      have s0 := cell_to r0 bl4
      have H4 := Lib.hid (own_below H0.out bl4)
      have z4 := bl4.size
      have HBK := Lib.hid (fun p (hp : (Value.slice ao k cp).ownBlock = some p) => (own_block_lt H4.out hp).2)
      have nz1 : ¬ g = 0 := by omega
      have nz2 : ¬ (g : Int) = 0 := by omega
      have w1' : IntKind.i64.wrap (-cy) = -cy := IntWalk.i64_in _ (by omega)
      have w2' : IntKind.i64.wrap (-bx) = -bx := IntWalk.i64_in _ (by omega)
      have w3' : IntKind.i64.wrap ga = ga := IntWalk.i64_in _ (by omega)
      have w4' : IntKind.i64.wrap gb = gb := IntWalk.i64_in _ (by omega)
      have w5' : IntKind.i64.wrap (-ga) = -ga := IntWalk.i64_in _ (by omega)
      have w6' : IntKind.i64.wrap (-gb) = -gb := IntWalk.i64_in _ (by omega)
      have en1 : (-cy).tdiv (g : Int) = -ga := by rw [Int.neg_tdiv, ea]
      have en2 : (-bx).tdiv (g : Int) = -gb := by rw [Int.neg_tdiv, eb]
      clear r0 H0 hbw bl4 HG
      have hDl : D.length = 2 := by rw [HDD.out]; rfl
      have HDL := Lib.hid hDl
      go_wp2
      go_cut [88, 89, 90] from 72 to 90 (fun s88 s89 s90 wx => ∃ gD, s88 = .slice (some ⟨gD, 0, none⟩) 2 2 ∧ s89 = .int .i64 2 ∧ s90 = .int .i64 0 ∧ w4.heap.size ≤ gD ∧ Blk wx gD #[.int .i64 (-ga), .int .i64 gb, .int .i64 0, .int .i64 ga, .int .i64 (-gb), .int .i64 0] 88 ∧ Below w4.heap.size w4 wx)
      case first =>
        go_region
        all_goals
          go_wp2_with fail
          go_meet
          first
            | exact ⟨_, rfl, rfl, rfl, Nat.le_refl _, blk_new w4 _ _ rfl, below_one w4 _⟩
            | exact ⟨_, rfl, rfl, rfl, Nat.le_refl _, (blk_new w4 _ _ rfl).to (below_drw (Below.refl _ _)), below_drw (below_one w4 _)⟩
            | exact ⟨_, rfl, rfl, rfl, Nat.le_refl _, blk_new w4.drew _ _ rfl, below_bx2 (below_drw (Below.refl _ _)) _⟩
      case rest =>
        obtain ⟨gD, rfl, rfl, rfl, hgD, kD, blD⟩ := hcut
        rename World => w5
        have b5 := below_to b4 blD
        have s5 := cell_to s0 blD
        have H5 := Lib.hid (own_below H4.out blD)
        have z5 := blD.size
        have HFL := Lib.hid (show (ps.map M).length = k by rw [List.length_map, HL.out])
        clear b4 blD s0 H4 nz1 nz2 w1' w2' w3' w4' w5' w6' en1 en2 ea eb hDl
        go_wp2
        go_loopw [12, 90] (fun v i wx => ∃ (m : Nat) (ao : Option Addr) (cp : Nat), m ≤ 2 ∧ i = .int .i64 m ∧ v = .slice ao (k + m) cp ∧ (D.take m).all (tcT ps) = true ∧ wx.ownsRow (w.heap.size + 1) 88 3 (.slice ao (k + m) cp) (k + m) (flat (ps.map M ++ (D.take m).map (tcU ps))) ∧ Below w.heap.size w wx ∧ wx.cell? ⟨w.heap.size, 0, none⟩ = some (.slice a k ca) ∧ Blk wx gD #[.int .i64 (-ga), .int .i64 gb, .int .i64 0, .int .i64 ga, .int .i64 (-gb), .int .i64 0] 88 ∧ w4.heap.size ≤ wx.heap.size ∧ (∀ p, (Value.slice ao (k + m) cp).ownBlock = some p → p ≠ gD)) (fun _ i _ => 2 - (intOf i).toNat)
        case atStart =>
          refine ⟨0, ao, cp, Nat.zero_le _, rfl, rfl, by simp, by simpa using H5.out, b5, s5, kD, z5, ?_⟩
          intro p hp e
          have := HBK.out p hp
          omega
        case round =>
          obtain ⟨m, ao', cp', hm, rfl, rfl, hall, hov, hbw, r0, kx, hzx, hne⟩ := hrel
          rename World => wy
          have H0 := Lib.hid hov
          have HT2 := Lib.hid hall
          have HNB := Lib.hid hne
          clear hov hall hne
          by_cases hlt2 : m < 2
          · obtain ⟨⟨xa, xb, xc⟩, hx⟩ : ∃ x, D[m]? = some x := ⟨_, List.getElem?_eq_getElem (by rw [HDL.out]; exact hlt2)⟩
            have HX := Lib.hid hx
            obtain ⟨g', o', e', c1, c2, c3⟩ := (show HsAt _ (some ⟨gD, 0, none⟩) D by rw [HDD.out]; exact hs_blk kx) m _ hx
            simp only [Option.some.injEq, Addr.mk.injEq, and_true] at e'
            obtain ⟨rfl, rfl⟩ := e'
            simp only [Nat.zero_add] at c1 c2 c3
            obtain ⟨⟨a1, a2⟩, b1, b2⟩ := HD.out _ (List.mem_of_getElem? hx)
            have nz := HNZ.out _ (List.mem_of_getElem? hx)
            simp only at a1 a2 b1 b2 nz
            obtain ⟨_, _, q, _, ⟨n1, n2⟩, d1, d2⟩ := sup_of (A := xa) (B := xb) HL.out HP.out HNE.out (inB_of (by omega) (by omega)) (inB_of (by omega) (by omega))
            obtain ⟨o1, o2, o3, o4, o5⟩ := (okR_iff _ _).1 q
            obtain ⟨tt1, tt2⟩ := top_tc (A := xa) (B := xb) HP.out HNE.out (inB_of (by omega) (by omega)) (inB_of (by omega) (by omega)) nz
            rw [HL.out] at tt1 tt2
            have HFF := Lib.hid (fun V (h : Below w.heap.size w V) => HF.out V xa xb h ⟨by omega, by omega⟩ ⟨by omega, by omega⟩)
            have HTP := Lib.hid (fun V => spec_top xa xb (farS xa xb ps k).2.1 (farS xa xb ps k).2.2 V ⟨by omega, by omega⟩ ⟨by omega, by omega⟩ (by omega) (by omega) o1 (by omega) o5)
            have HTT1 := Lib.hid (show topB xa xb (farS xa xb ps k).2.1 (farS xa xb ps k).2.2 = tcT ps ⟨xa, xb, xc⟩ from tt1)
            have HTT2 := Lib.hid (show tcT ps ⟨xa, xb, xc⟩ = true → topH xa xb (farS xa xb ps k).2.1 (farS xa xb ps k).2.2 = tcU ps ⟨xa, xb, xc⟩ from tt2)
            obtain ⟨rB, hrB⟩ : ∃ b, tcT ps ⟨xa, xb, xc⟩ = b := ⟨_, rfl⟩
            have HRB := Lib.hid hrB
            rw [HTT1.out, hrB] at HTP
            rw [hrB] at HTT2
            obtain ⟨⟨qa, qb, qc⟩, hq⟩ : ∃ q, topH xa xb (farS xa xb ps k).2.1 (farS xa xb ps k).2.2 = q := ⟨_, rfl⟩
            rw [hq] at HTP HTT2
            simp only at HTP
            clear hx hq hrB tt1 tt2 q n1 n2 d1 d2 o1 o2 o3 o4 o5 HTT1 a1 a2 b1 b2 nz
            generalize (farS xa xb ps k).1 = fi at *
            generalize (farS xa xb ps k).2.1 = fN at *
            generalize (farS xa xb ps k).2.2 = fD at *
            have bX := below_one wy (.cells #[.int .i64 xa, .int .i64 xb, .int .i64 xc] 88)
            have bxx := below_bx2 hbw (.cells #[.int .i64 xa, .int .i64 xb, .int .i64 xc] 88)
            obtain ⟨y1, y2, y3⟩ := tri_new wy (.int .i64 xa) (.int .i64 xb) (.int .i64 xc) 88
            simp only [Nat.zero_add] at y1 y2 y3
            have d0 := cell_to r0 bX
            go_wp2_with fail
            generalize wy.alloc (.cells #[.int .i64 xa, .int .i64 xb, .int .i64 xc] 88) = X at *
            refine (HFF.out _ bxx).mono ?_
            rintro e w6 ⟨rfl, bl6⟩
            have bQ := below_to bl6 (below_one w6 (.cells #[.int .i64 fN, .int .i64 fD] 27))
            have bQQ := below_to bX bQ
            have b6 := below_to bxx bQ
            have k1 := cell_to y1 bQ
            have k2 := cell_to y2 bQ
            obtain ⟨v1, v2, _, _⟩ := two_new w6 (.int .i64 fN) (.int .i64 fD) 27
            clear bl6 y1 y2 y3 d0 c1 c2 c3 bxx bX
            go_wp2_with fail
            generalize w6.alloc (.cells #[.int .i64 fN, .int .i64 fD] 27) = X6 at *
            refine (HTP.out _).mono ?_
            rintro e w7 ⟨rfl, bl7⟩
            have bY := below_to bQQ bl7
            have b7 := below_to b6 bl7
            have s0 := cell_to r0 bY
            have k7 := kx.to bY
            have H4 := Lib.hid (own_below H0.out bY)
            have z7 := bY.size
            clear bQ bQQ b6 bl7 bY r0 kx H0 k1 k2 v1 v2 hbw HFF HTP
            cases rB with
            | false =>
              have HN := Lib.hid (all_no1 HX.out HRB.out)
              have b8 := below_bx2 b7 (.cells #[.int .i64 qa, .int .i64 qb, .int .i64 qc] 88)
              go_wp2_with fail
              exact bodyPost_ret (v := .tuple #[.slice none 0 0, .bool false]) (by simp [results, Try.results60, go_sem]) rfl (.inr ⟨by rw [HN.out]; simp, rfl, b8⟩)
            | true =>
              have HT3 := Lib.hid (mv_take HX.out HRB.out HT2.out)
              have HS := Lib.hid (show ps.map M ++ (D.take (m + 1)).map (tcU ps) = (ps.map M ++ (D.take m).map (tcU ps)) ++ [⟨qa, qb, qc⟩] by rw [map_tk1 HX.out, ← HTT2.out rfl, List.append_assoc])
              have bZ := below_bx2 (below_one w7 (.cells #[.int .i64 qa, .int .i64 qb, .int .i64 qc] 88)) (.cells #[.int .i64 qa, .int .i64 qb, .int .i64 qc] 88)
              have HZ := Lib.hid bZ
              have b8 := below_to b7 bZ
              obtain ⟨v1, v2, v3⟩ := tri_new w7 (.int .i64 qa) (.int .i64 qb) (.int .i64 qc) 88
              have HN1 : ((w7.alloc (.cells #[.int .i64 qa, .int .i64 qb, .int .i64 qc] 88)).alloc (.cells #[.int .i64 qa, .int .i64 qb, .int .i64 qc] 88)).heap[w7.heap.size + 1]? = some (.cells #[.int .i64 qa, .int .i64 qb, .int .i64 qc] 88 (0, 0)) := by
                have := heap_alloc_new (w7.alloc (.cells #[.int .i64 qa, .int .i64 qb, .int .i64 qc] 88)) (.cells #[.int .i64 qa, .int .i64 qb, .int .i64 qc] 88)
                rwa [World.size_alloc] at this
              have H5' := Lib.hid (own_below H4.out bZ)
              clear bZ
              go_wp2_with (at_builtin; refine wpList_append_lies _ rfl _ _ 30 rfl (w.heap.size + 1) 88 i0 (.agg #[.int .i64 0, .int .i64 0, .int .i64 0]) 3 24 Try.underlying30 hi0 hz0 hz1 hz2 rfl (by decide) (.slice ao' (k + m) cp') (k + m) _ rfl H5'.out ⟨w7.heap.size + 1, 0, none⟩ 1 1 [.int .i64 qa, .int .i64 qb, .int .i64 qc] rfl rfl (World.news_of_block (cs := #[.int .i64 qa, .int .i64 qb, .int .i64 qc]) (t := 88) (fr := (0, 0)) HN1) (by simp [Value.oneCell']) (by omega) (by unfold maxLen; omega) (by omega) (by simp; omega) _ rfl ?_; intro gg cap' w9 hown9 hgrow hat hlt9; have H9 := Lib.hid hown9; have HG2 := Lib.hid hgrow; have HAT := Lib.hid hat; clear hown9 hgrow hat)
              have b9 : Below w.heap.size w w9 := b8.grown HG2.out b8.size (fun p hp => Nat.le_trans (Nat.le_add_right _ _) (own_base_le H5'.out hp))
              have far : ∀ q, q < w.heap.size + 1 → some q ≠ (Value.slice ao' (k + m) cp').ownBlock := fun q hq e => by have := own_base_le H5'.out e.symm; omega
              have e0 := cell_far (cell_to s0 HZ.out) HG2.out (far w.heap.size (by omega))
              have k9 : Blk w9 gD #[.int .i64 (-ga), .int .i64 gb, .int .i64 0, .int .i64 ga, .int .i64 (-gb), .int .i64 0] 88 := (HG2.out.block gD (k7.to HZ.out).lt (fun e => HNB.out gD e.symm rfl)).trans (k7.to HZ.out)
              have z9 : w4.heap.size ≤ w9.heap.size := by
                have := HG2.out.size
                have := HZ.out.size
                omega
              go_roundw
              case rel =>
                refine ⟨m + 1, _, _, by omega, by go_num, rfl, HT3.out, by rw [HS.out, flat_app]; exact H9.out, b9, e0, k9, z9, ?_⟩
                intro p hp e
                have l7 := k7.lt
                simp only [Value.ownBlock, Option.some.injEq] at hp
                rcases HAT.out with h | h
                · exact HNB.out _ h (by rw [hp]; exact e)
                · simp only [World.size_alloc] at h
                  omega
              case measure => simp [intOf]; omega
          · obtain rfl : m = 2 := by omega
            have HE := Lib.hid (show D.take 2 = D from List.take_of_length_le (by rw [HDL.out]; exact Nat.le_refl _))
            rw [HE.out] at HT2 H0
            have hw : w.heap.size ≤ w.heap.size + 1 := Nat.le_succ _
            go_wp2_with fail
            exact bodyPost_ret (v := .tuple #[.slice ao' (k + 2) cp', .bool true]) (by simp [results, Try.results60, go_sem]) rfl (GrnW.yes (by rw [HT.out, HT2.out]; rfl) (by rw [List.length_append, List.length_map, List.length_map, HL.out, HDL.out]) (own_base H0.out hw) hbw)
end Go.Proofs.Ytefafkainfhhkaa
