/- The contracts of both CornersOf functions over the translation, and the walk of their law. The contracts of the model's CornersOf over the translation. The walk of the law of CornersOf. -/
import Derived.Test.YtibkmhmeoelpdaaGreatWm
namespace Go.Proofs.YtibkmhmeoelpdaaGreat
open Go.RowKit
open Geo (H3)

theorem Tryz.info31 : (Tryz.prog.info? 45).map (fun i => (i.zero, i.size, i.bytes)) = some (some (.agg #[.int .i64 0, .int .i64 0, .int .i64 0]), 3, 24) := by kernel_rfl
theorem crn_ex (f g : H3) : ∃ (p : H3) (B : Bool), crsV f.a f.b f.c g.a g.b g.c = .tuple #[.agg #[.int .i64 p.a, .int .i64 p.b, .int .i64 p.c], .bool B] := by
  obtain ⟨X, Y, D, B, h⟩ := crsV_ex f.a f.b f.c g.a g.b g.c
  exact ⟨⟨X, Y, D⟩, B, h⟩
/-- where two borders cross -/
noncomputable def crn (f g : H3) : H3 := Classical.choose (crn_ex f g)
theorem crn_eq (f g : H3) : ∃ B : Bool, crsV f.a f.b f.c g.a g.b g.c = .tuple #[.agg #[.int .i64 (crn f g).a, .int .i64 (crn f g).b, .int .i64 (crn f g).c], .bool B] := Classical.choose_spec (crn_ex f g)
/-- the first crossings of a region's edges -/
noncomputable def corL (hs : List H3) (k : Nat) : List H3 := (List.range k).map fun i => crn (atI hs i) (atI hs ((i + 1) % hs.length))
theorem corL_next (hs : List H3) (k : Nat) : corL hs (k + 1) = corL hs k ++ [crn (atI hs k) (atI hs ((k + 1) % hs.length))] := by
  unfold corL; rw [List.range_succ]; simp
theorem corL_len (hs : List H3) (k : Nat) : (corL hs k).length = k := by simp [corL]
/-- the corners of a region -/
noncomputable def corR (hs : List H3) : List H3 := if rokB hs = true then corL hs hs.length else []
/-- a new row of spots is handed back -/
def SpW (w : World) (ps : List H3) (e : Ending) (w' : World) : Prop := ∃ ao cp, e = .returned (.slice ao ps.length cp) ∧ w'.ownsRow w.heap.size 45 3 (.slice ao ps.length cp) ps.length (flat ps) ∧ Below w.heap.size w w'
theorem SpW.no {w w' : World} {hs : List H3} (h : rokB hs = false) (hb : Below w.heap.size w w') : SpW w (corR hs) (.returned (.slice none 0 0)) w' := by
  unfold corR; rw [if_neg (by rw [h]; simp)]
  exact ⟨none, 0, rfl, own3_none, hb⟩
theorem SpW.yes {w w' : World} {hs : List H3} {n cp : Nat} {ao : Option Addr} (h : rokB hs = true) (hl : hs.length = n) (ho : w'.ownsRow w.heap.size 45 3 (.slice ao n cp) n (flat (corL hs n))) (hb : Below w.heap.size w w') : SpW w (corR hs) (.returned (.slice ao n cp)) w' := by
  subst hl
  unfold corR; rw [if_pos h]
  unfold SpW; rw [corL_len]
  exact ⟨ao, cp, rfl, ho, hb⟩
theorem bl_next {W X Y : World} (h : Below W.heap.size W X) (k : Below X.heap.size X Y) : Below W.heap.size W Y := below_to h k
theorem cor_at {hs : List H3} {n k : Nat} {x y : H3} (hl : hs.length = n) (hx : hs[k]? = some x) (hy : hs[(k + 1) % n]? = some y) : corL hs (k + 1) = corL hs k ++ [crn x y] := by
  rw [corL_next, hl, atI_of hx, atI_of hy]
set_option maxRecDepth 100000 in
set_option maxHeartbeats 4000000 in
theorem impl_cor (a : Option Addr) (n cap : Nat) (hs : List H3) (w : World) (hl : hs.length = n) (hn : n ≤ 1048576) (h64 : ∀ h ∈ hs, In64 h) (hA : HsAt w a hs) :
    Calls Tryz.prog 38 #[.agg #[.slice a n cap]] w (SpW w (corR hs)) := by
  obtain ⟨i0, hi, hz0, hz1, hz2⟩ := info_parts Tryz.info31
  have bV := below_one w (.cells #[.slice a n cap] 40)
  have q2 : (w.alloc (.cells #[.slice a n cap] 40)).cell? ⟨w.heap.size, 0, none⟩ = some (.slice a n cap) := by simp
  have HR := Lib.hid (fun V (h : Below w.heap.size w V) => impl_rok a n cap hs V hl hn h64 (hA.below h))
  have HL := Lib.hid hl
  have HA := Lib.hid hA
  clear hl hA h64
  go_enter Tryz.func38, Tryz.ntmps38
  go_wp2_with fail
  generalize w.alloc (.cells #[.slice a n cap] 40) = V at *
  refine (HR.out _ bV).mono ?_
  rintro e w1 ⟨rfl, bl1⟩
  have b1 := below_to bV bl1
  have q3 := cell_to q2 bl1
  clear bl1 bV q2
  cases hr : rokB hs with
  | false =>
    have HN := Lib.hid hr
    clear hr
    go_wp2
    go_ret
    exact SpW.no HN.out b1
  | true =>
    have HQ := Lib.hid hr
    have HO := Lib.hid (rok_all hr)
    clear hr
    go_wp2
    go_loopw [3, 14] (fun v i wr => ∃ (k : Nat) (ao : Option Addr) (cp : Nat), k ≤ n ∧ i = .int .i64 k ∧ v = .slice ao k cp ∧ wr.ownsRow w1.heap.size 45 3 (.slice ao k cp) k (flat (corL hs k)) ∧ Below w1.heap.size w1 wr) (fun _ i _ => n - (intOf i).toNat)
    case atStart => exact ⟨0, none, 0, Nat.zero_le _, rfl, rfl, own3_none, Below.refl _ _⟩
    case round =>
      obtain ⟨k, ao, cp, hk, rfl, rfl, hov, hbel⟩ := hrel
      have H0 := Lib.hid hov
      have hbw := below_to b1 hbel
      have p3 := cell_to q3 hbel
      have l3 := block_lt_of_cell p3
      simp only at l3
      clear hov
      by_cases hlt : k < n
      · obtain ⟨⟨xa, xb, xc⟩, hx⟩ : ∃ x, hs[k]? = some x := ⟨_, List.getElem?_eq_getElem (by rw [HL.out]; exact hlt)⟩
        obtain ⟨⟨ya, yb, yc⟩, hy⟩ : ∃ y, hs[(k + 1) % n]? = some y := ⟨_, List.getElem?_eq_getElem (by rw [HL.out]; exact Nat.mod_lt _ (by omega))⟩
        have HC := Lib.hid (cor_at HL.out hx hy)
        have HE := Lib.hid (fun W (h : Below w.heap.size w W) => next_edge a n cap k hs ⟨ya, yb, yc⟩ W hlt (by omega) hy (HA.out.below h))
        obtain ⟨B, hB⟩ := crn_eq ⟨xa, xb, xc⟩ ⟨ya, yb, yc⟩
        have ox := HO.out _ (List.mem_of_getElem? hx)
        have oy := HO.out _ (List.mem_of_getElem? hy)
        have HD := Lib.hid (fun W => crs_call (a := xa) (b := xb) (c := xc) (x := ya) (y := yb) (d := yc) ox oy (show crsH xa xb xc ya yb yc = _ from (if_pos ⟨ox, oy⟩).trans hB) W)
        obtain ⟨g, o, rfl, hcx⟩ := HA.out k _ hx
        obtain ⟨t1, t2, t3⟩ := hcx.to hbw
        have l1 := block_lt_of_cell t1
        simp only at t1 t2 t3 l1
        generalize crn ⟨xa, xb, xc⟩ ⟨ya, yb, yc⟩ = q at *
        obtain ⟨qa, qb, qc⟩ := q
        simp only at HD HE
        clear hx hy hB ox oy hcx
        go_wp2_with fail
        have r7 := tri_new wr (.int .i64 xa) (.int .i64 xb) (.int .i64 xc) 104
        have bX := below_bx2 hbel (.cells #[.int .i64 xa, .int .i64 xb, .int .i64 xc] 104)
        have bXw := below_bx2 hbw (.cells #[.int .i64 xa, .int .i64 xb, .int .i64 xc] 104)
        have p5 := cell_to p3 (below_one wr (.cells #[.int .i64 xa, .int .i64 xb, .int .i64 xc] 104))
        have H5 := Lib.hid (own_below H0.out (below_one wr (.cells #[.int .i64 xa, .int .i64 xb, .int .i64 xc] 104)))
        clear t1 t2 t3 l1 H0 p3 l3
        generalize wr.alloc (.cells #[.int .i64 xa, .int .i64 xb, .int .i64 xc] 104) = X at *
        generalize wr.heap.size = b7 at *
        obtain ⟨s1, s2, s3⟩ := id r7
        go_cut [6, 7] from 19 to 27 (fun s6 s7 wx => LiesT 45 X qa qb qc s6 wx ∧ s7 = .bool B)
        case first =>
          go_region_held3 (fun w' => w'.cell? ⟨w.heap.size, 0, none⟩ = some (.slice (some ⟨g, o, none⟩) n cap) ∧ w'.cell? ⟨b7, 0, none⟩ = some (.int .i64 xa) ∧ w'.cell? ⟨b7, 1, none⟩ = some (.int .i64 xb) ∧ w'.cell? ⟨b7, 2, none⟩ = some (.int .i64 xc))
            ((refine fourc p5 s1 s2 s3 ?_; repeat (first | exact Below.refl _ _ | refine Below.setCell ?_ (by first | (simp; done) | (simp; omega)) _ | refine below_bx2 ?_ _ | refine below_drw ?_ | refine below_to ?_ (by assumption))))
            (first | (go_at_call 83; (with_reducible refine (HE.out _ ?_).mono ?_); (focus (repeat (first | exact bXw | refine below_bx2 ?_ _ | refine below_drw ?_ | refine below_to ?_ (by assumption)))); rintro e w4 ⟨rfl, bl4⟩; have hs4 := bl4.size; (try simp at hs4)) | (go_at_call 82; (with_reducible refine (HD.out _).mono ?_); rintro e w3 ⟨rfl, bl3⟩; obtain ⟨hc3, hf3⟩ := bcl3 bl3; obtain ⟨hc5, hf5⟩ := bcl3 (bl_next (Y := w3) bl4 (by refine below_to ?_ bl3; repeat (first | exact Below.refl _ _ | refine below_bx2 ?_ _ | refine below_drw ?_))); have hs3 := bl3.size; (try simp at hs3)))
          all_goals
            go_wp2_with fail
            go_meet
            refine ⟨⟨_, rfl, ?_, ?_, ?_⟩, rfl⟩
            · first | exact Nat.le_refl _ | omega | (simp; omega)
            · first
                | exact heap_alloc_new _ _
                | (refine heap_set3 (x := .int .i64 0) (y := .int .i64 0) (z := .int .i64 0) _ _ _ ?_
                   apply at_new3 (Z := .cells #[.int .i64 0, .int .i64 0, .int .i64 0] 45)
                   · repeat (first | exact Below.refl _ _ | refine below_bx2 ?_ _ | refine below_drw ?_ | refine below_to ?_ (by assumption))
                   · first | rfl | (simp; done))
            · repeat (first | exact Below.refl _ _ | refine Below.setCell ?_ (by first | (simp; done) | (simp; omega)) _ | refine below_bx2 ?_ _ | refine below_drw ?_ | refine below_to ?_ (by assumption))
        case rest =>
          obtain ⟨⟨g6, rfl, hg6, hh6, hb6⟩, rfl⟩ := hcut
          have b6 := below_to bX hb6
          have H6 := Lib.hid (own_below H5.out hb6)
          obtain ⟨v1, v2, v3⟩ : Tri wc g6 0 (.int .i64 qa) (.int .i64 qb) (.int .i64 qc) := ⟨cell_of_row _ _ _ _ _ _ hh6, cell_of_row _ _ _ _ _ _ hh6, cell_of_row _ _ _ _ _ _ hh6⟩
          have l6 := block_lt_of_cell v1
          simp only at v1 v2 v3 l6
          clear hh6 hb6 bX bXw p5 s1 s2 s3 r7 H5 HE HD
          go_wp2_with (at_builtin; refine wpList_append_lies _ rfl _ _ 73 rfl w1.heap.size 45 i0 (.agg #[.int .i64 0, .int .i64 0, .int .i64 0]) 3 24 Tryz.underlying73 hi hz0 hz1 hz2 rfl (by decide) (.slice ao k cp) k _ rfl (own_below H6.out (below_one _ _)) ⟨wc.heap.size, 0, none⟩ 1 1 [.int .i64 qa, .int .i64 qb, .int .i64 qc] rfl rfl (World.news_of_block (cs := #[.int .i64 qa, .int .i64 qb, .int .i64 qc]) (t := 45) (fr := (0, 0)) (heap_alloc_new wc _)) (by simp [Value.oneCell']) (by omega) (by unfold maxLen; omega) (by omega) (by have := b6.size; simp; omega) _ rfl ?_; intro gg cap' w7 hown7 hgrow hat hlt7; have b7' : Below w1.heap.size w1 w7 := (Below.grown (b6.trans ((below_one _ _).mono b6.size)) hgrow (by have := b6.size; simp; omega) (fun p hp => own_base_le H6.out hp)); have H7 := Lib.hid hown7; clear hown7 hgrow hat)
          go_roundw
          case rel => exact ⟨k + 1, _, _, by omega, by go_num, rfl, by rw [HC.out, flat_app]; exact H7.out, b7'⟩
          case measure => simp [intOf]; omega
      · obtain rfl : k = n := by omega
        go_wp2
        go_ret
        exact SpW.yes HQ.out HL.out (own_base H0.out b1.size) hbw

theorem sevenc {V X : World} {p1 p2 p3 p4 p5 p6 p7 : Addr} {a1 a2 a3 a4 a5 a6 a7 : Value} (h1 : V.cell? p1 = some a1) (h2 : V.cell? p2 = some a2) (h3 : V.cell? p3 = some a3) (h4 : V.cell? p4 = some a4) (h5 : V.cell? p5 = some a5) (h6 : V.cell? p6 = some a6) (h7 : V.cell? p7 = some a7) (hb : Below V.heap.size V X) :
    X.cell? p1 = some a1 ∧ X.cell? p2 = some a2 ∧ X.cell? p3 = some a3 ∧ X.cell? p4 = some a4 ∧ X.cell? p5 = some a5 ∧ X.cell? p6 = some a6 ∧ X.cell? p7 = some a7 :=
  ⟨cell_to h1 hb, cell_to h2 hb, cell_to h3 hb, cell_to h4 hb, cell_to h5 hb, cell_to h6 hb, cell_to h7 hb⟩
theorem own3_empty31 (w : World) {B b : Nat} (hb : w.heap.size = b) (h : B ≤ b) : (w.alloc (.cells #[] 45)).ownsRow B 45 3 (.slice (some ⟨b, 0, none⟩) 0 0) 0 (flat []) := by
  subst hb; exact own3_new w B 45 [] 0 #[] rfl rfl (Nat.zero_le _) h
set_option maxRecDepth 100000 in
set_option maxHeartbeats 4000000 in
theorem spec_lcor (a : Option Addr) (n cap : Nat) (hs : List H3) (w : World) (hl : hs.length = n) (hn : n ≤ 1048576) (hok : ∀ h ∈ hs, okB h = true) (hA : HsAt w a hs) :
    Calls Tryz.prog 151 #[.agg #[.slice a n cap]] w (SpW w (corL hs n)) := by
  obtain ⟨i0, hi, hz0, hz1, hz2⟩ := info_parts Tryz.info31
  have b1 := below_one w (.cells #[.slice a n cap] 40)
  have q3 : (w.alloc (.cells #[.slice a n cap] 40)).cell? ⟨w.heap.size, 0, none⟩ = some (.slice a n cap) := by simp
  have HI := Lib.hid (own3_empty31 (w.alloc (.cells #[.slice a n cap] 40)) (B := (w.alloc (.cells #[.slice a n cap] 40)).heap.size) (b := w.heap.size + 1) (by simp) (by simp))
  have HL := Lib.hid hl
  have HA := Lib.hid hA
  have HO := Lib.hid hok
  clear hl hA hok
  go_enter Tryz.func151, Tryz.ntmps151
  go_wp2
  generalize w.alloc (.cells #[.slice a n cap] 40) = w1 at *
  go_loopw [3, 12] (fun v i wr => ∃ (k : Nat) (ao : Option Addr) (cp : Nat), k ≤ n ∧ i = .int .i64 k ∧ v = .slice ao k cp ∧ wr.ownsRow w1.heap.size 45 3 (.slice ao k cp) k (flat (corL hs k)) ∧ Below w1.heap.size w1 wr) (fun _ i _ => n - (intOf i).toNat)
  case atStart => exact ⟨0, _, 0, Nat.zero_le _, rfl, rfl, HI.out, below_one _ _⟩
  case round =>
    obtain ⟨k, ao, cp, hk, rfl, rfl, hov, hbel⟩ := hrel
    have H0 := Lib.hid hov
    have hbw := below_to b1 hbel
    have p3 := cell_to q3 hbel
    have l3 := block_lt_of_cell p3
    simp only at l3
    clear hov
    by_cases hlt : k < n
    · obtain ⟨⟨xa, xb, xc⟩, hx⟩ : ∃ x, hs[k]? = some x := ⟨_, List.getElem?_eq_getElem (by rw [HL.out]; exact hlt)⟩
      obtain ⟨⟨ya, yb, yc⟩, hy⟩ : ∃ y, hs[(k + 1) % n]? = some y := ⟨_, List.getElem?_eq_getElem (by rw [HL.out]; exact Nat.mod_lt _ (by omega))⟩
      have HC := Lib.hid (cor_at HL.out hx hy)
      obtain ⟨B, hB⟩ := crn_eq ⟨xa, xb, xc⟩ ⟨ya, yb, yc⟩
      have ox := HO.out _ (List.mem_of_getElem? hx)
      have oy := HO.out _ (List.mem_of_getElem? hy)
      have HD := Lib.hid (fun W => spec_crs0 xa xb xc ya yb yc W ox oy)
      simp only at hB
      rw [hB] at HD
      obtain ⟨g, o, rfl, hcx⟩ := HA.out k _ hx
      obtain ⟨g', o', e, hcy⟩ := HA.out _ _ hy
      simp only [Option.some.injEq, Addr.mk.injEq, and_true] at e
      obtain ⟨rfl, rfl⟩ := e
      obtain ⟨t1, t2, t3⟩ := hcx.to hbw
      have l1 := block_lt_of_cell t1
      simp only at t1 t2 t3 l1
      generalize crn ⟨xa, xb, xc⟩ ⟨ya, yb, yc⟩ = q at *
      obtain ⟨qa, qb, qc⟩ := q
      (try simp only at HD)
      have hm : (((k : Int) + 1) % (n : Int)) = (((k + 1) % n : Nat) : Int) := by simp
      have hjl : (k + 1) % n < n := Nat.mod_lt _ (by omega)
      have hn1 : (n : Int) ≠ 0 := by omega
      have hn0 : ((n : Int) == 0) = false := eq_b hn1
      have hn2 : ¬ n = 0 := by omega
      have hn3 : ¬ (n : Int) = 0 := by omega
      have hw1 : IntKind.i64.wrap ((k : Int) + 1) = (k : Int) + 1 := IntWalk.i64_in _ (by omega)
      have hw3 : IntKind.i64.wrap (((k + 1) % n : Nat) : Int) = (((k + 1) % n : Nat) : Int) := IntWalk.i64_in _ (by omega)
      have hw2 : Int.tmod ((k : Int) + 1) (n : Int) = (((k + 1) % n : Nat) : Int) := by rw [Int.tmod_eq_emod_of_nonneg (by omega)]; exact hm
      have hj0 : (0 : Int) ≤ (((k + 1) % n : Nat) : Int) := Int.natCast_nonneg _
      have hj1 : (((k + 1) % n : Nat) : Int) < (n : Int) := by exact_mod_cast hjl
      clear hx hy hB ox oy hcx
      generalize (k + 1) % n = j at *
      go_wp2_with fail
      have r7 := tri_new wr (.int .i64 xa) (.int .i64 xb) (.int .i64 xc) 104
      have bX := below_bx2 hbel (.cells #[.int .i64 xa, .int .i64 xb, .int .i64 xc] 104)
      have bXw := below_bx2 hbw (.cells #[.int .i64 xa, .int .i64 xb, .int .i64 xc] 104)
      have p5 := cell_to p3 (below_one wr (.cells #[.int .i64 xa, .int .i64 xb, .int .i64 xc] 104))
      have H5 := Lib.hid (own_below H0.out (below_one wr (.cells #[.int .i64 xa, .int .i64 xb, .int .i64 xc] 104)))
      obtain ⟨y1, y2, y3⟩ := hcy.to bXw
      (try simp only at y1 y2 y3)
      clear t1 t2 t3 l1 H0 p3 l3 hcy
      generalize wr.alloc (.cells #[.int .i64 xa, .int .i64 xb, .int .i64 xc] 104) = X at *
      generalize wr.heap.size = b7 at *
      obtain ⟨s1, s2, s3⟩ := id r7
      go_cut [6, 7] from 17 to 31 (fun s6 s7 wx => LiesT 45 X qa qb qc s6 wx ∧ s7 = .bool B)
      case first =>
        go_region_held3 (fun w' => w'.cell? ⟨w.heap.size, 0, none⟩ = some (.slice (some ⟨g, o, none⟩) n cap) ∧ w'.cell? ⟨b7, 0, none⟩ = some (.int .i64 xa) ∧ w'.cell? ⟨b7, 1, none⟩ = some (.int .i64 xb) ∧ w'.cell? ⟨b7, 2, none⟩ = some (.int .i64 xc) ∧ w'.cell? ⟨g, o + j * 3, none⟩ = some (.int .i64 ya) ∧ w'.cell? ⟨g, o + j * 3 + 1, none⟩ = some (.int .i64 yb) ∧ w'.cell? ⟨g, o + j * 3 + 2, none⟩ = some (.int .i64 yc))
          ((refine sevenc p5 s1 s2 s3 y1 y2 y3 ?_; repeat (first | exact Below.refl _ _ | refine Below.setCell ?_ (by first | (simp; done) | (simp; omega)) _ | refine below_bx2 ?_ _ | refine below_drw ?_ | refine below_to ?_ (by assumption))))
          ((go_at_call 162; (with_reducible refine (HD.out _).mono ?_); rintro e w3 ⟨rfl, bl3⟩; obtain ⟨hc3, hf3⟩ := bcl3 bl3; have hs3 := bl3.size; (try simp at hs3)))
        all_goals
          go_wp2_with fail
          go_meet
          refine ⟨⟨_, rfl, ?_, ?_, ?_⟩, rfl⟩
          · first | exact Nat.le_refl _ | omega | (simp; omega)
          · first
              | exact heap_alloc_new _ _
              | (refine heap_set3 (x := .int .i64 0) (y := .int .i64 0) (z := .int .i64 0) _ _ _ ?_
                 apply at_new3 (Z := .cells #[.int .i64 0, .int .i64 0, .int .i64 0] 45)
                 · repeat (first | exact Below.refl _ _ | refine below_bx2 ?_ _ | refine below_drw ?_ | refine below_to ?_ (by assumption))
                 · first | rfl | (simp; done))
          · repeat (first | exact Below.refl _ _ | refine Below.setCell ?_ (by first | (simp; done) | (simp; omega)) _ | refine below_bx2 ?_ _ | refine below_drw ?_ | refine below_to ?_ (by assumption))
      case rest =>
        obtain ⟨⟨g6, rfl, hg6, hh6, hb6⟩, rfl⟩ := hcut
        have b6 := below_to bX hb6
        have H6 := Lib.hid (own_below H5.out hb6)
        obtain ⟨v1, v2, v3⟩ : Tri wc g6 0 (.int .i64 qa) (.int .i64 qb) (.int .i64 qc) := ⟨cell_of_row _ _ _ _ _ _ hh6, cell_of_row _ _ _ _ _ _ hh6, cell_of_row _ _ _ _ _ _ hh6⟩
        have l6 := block_lt_of_cell v1
        simp only at v1 v2 v3 l6
        clear hh6 hb6 bX bXw p5 s1 s2 s3 r7 H5 HD y1 y2 y3
        go_wp2_with (at_builtin; refine wpList_append_lies _ rfl _ _ 73 rfl w1.heap.size 45 i0 (.agg #[.int .i64 0, .int .i64 0, .int .i64 0]) 3 24 Tryz.underlying73 hi hz0 hz1 hz2 rfl (by decide) (.slice ao k cp) k _ rfl (own_below H6.out (below_one _ _)) ⟨wc.heap.size, 0, none⟩ 1 1 [.int .i64 qa, .int .i64 qb, .int .i64 qc] rfl rfl (World.news_of_block (cs := #[.int .i64 qa, .int .i64 qb, .int .i64 qc]) (t := 45) (fr := (0, 0)) (heap_alloc_new wc _)) (by simp [Value.oneCell']) (by omega) (by unfold maxLen; omega) (by omega) (by have := b6.size; simp; omega) _ rfl ?_; intro gg cap' w7 hown7 hgrow hat hlt7; have b7' : Below w1.heap.size w1 w7 := (Below.grown (b6.trans ((below_one _ _).mono b6.size)) hgrow (by have := b6.size; simp; omega) (fun p hp => own_base_le H6.out hp)); have H7 := Lib.hid hown7; clear hown7 hgrow hat)
        go_roundw
        case rel => exact ⟨k + 1, _, _, by omega, by go_num, rfl, by rw [HC.out, flat_app]; exact H7.out, b7'⟩
        case measure => simp [intOf]; omega
    · obtain rfl : k = n := by omega
      have HF := Lib.hid (show SpW w (corL hs k) (.returned (.slice ao k cp)) wr by unfold SpW; rw [corL_len]; exact ⟨ao, cp, rfl, own_base H0.out b1.size, hbw⟩)
      go_wp2
      go_ret
      exact HF.out
theorem cor_nil {hs : List H3} {n : Nat} (hl : hs.length = n) (h : n = 0) : corR hs = [] := by
  have : hs = [] := List.eq_nil_of_length_eq_zero (by omega)
  subst this
  unfold corR; split <;> simp [corL]
theorem cor_pos {hs : List H3} {n : Nat} (hl : hs.length = n) (r : rokB hs = true) : corR hs = corL hs n := by unfold corR; rw [if_pos r, hl]
theorem corR_le {hs : List H3} {n : Nat} (hl : hs.length = n) : (corR hs).length ≤ n := by
  unfold corR; split
  · rw [corL_len]; omega
  · simp
end Go.Proofs.YtibkmhmeoelpdaaGreat
