/- ErodeRegion of the program over the translation. -/
import Derived.Test.YtibkmhmeoelpdaaGreatEg
namespace Go.Proofs.YtibkmhmeoelpdaaGreat
open Go.RowKit Go.Shelf
open Geo (H3)

set_option maxRecDepth 100000 in
set_option maxHeartbeats 1600000 in
theorem impl_ero (a b : Option Addr) (n m ca cb : Nat) (ps qs : List H3) (w : World) (hl : ps.length = n) (hk : qs.length = m) (hn : n ≤ 1048576) (hm : m ≤ 1048576) (h64 : ∀ h ∈ ps, In64 h) (k64 : ∀ h ∈ qs, In64 h) (hA : HsAt w a ps) (hB : HsAt w b qs) :
    Calls Tryz.prog 111 #[.agg #[.slice a n ca], .agg #[.slice b m cb]] w (AnsR w (eroL ps qs) (eroB ps qs)) := by
  have bV := below_bx2 (below_bx2 (below_one w (.cells #[.slice a n ca] 40)) (.cells #[.slice b m cb] 40)) (.cells #[.slice none 0 0] 40)
  have q0 := cell_to (show (w.alloc (.cells #[.slice a n ca] 40)).cell? ⟨w.heap.size, 0, none⟩ = some (.slice a n ca) by simp) (below_bx2 (below_one _ (.cells #[.slice b m cb] 40)) (.cells #[.slice none 0 0] 40))
  have q1 := cell_to (box_one (U := w.alloc (.cells #[.slice a n ca] 40)) (b := w.heap.size + 1) (by simp) (.slice b m cb) 40).1 (below_one _ (.cells #[.slice none 0 0] 40))
  obtain ⟨q3, f3⟩ := box_one (U := (w.alloc (.cells #[.slice a n ca] 40)).alloc (.cells #[.slice b m cb] 40)) (b := w.heap.size + 1 + 1) (by simp) (.slice none 0 0) 40
  have HR := Lib.hid (fun V (h : Below w.heap.size w V) => impl_rok a n ca ps V hl hn h64 (hA.below h))
  have HQ := Lib.hid (fun V (h : Below w.heap.size w V) => impl_rok b m cb qs V hk hm k64 (hB.below h))
  have HV := Lib.hid (fun V => impl_void b m cb V)
  have HA := Lib.hid hA
  have HL := Lib.hid hl
  have HB := Lib.hid hB
  have HK := Lib.hid hk
  have H64 := Lib.hid k64
  clear hl hA h64 hk hB k64
  go_enter Tryz.func111, Tryz.ntmps111
  go_wp2_with fail
  generalize ((w.alloc (.cells #[.slice a n ca] 40)).alloc (.cells #[.slice b m cb] 40)).alloc (.cells #[.slice none 0 0] 40) = V at *
  refine (HV.out _).mono ?_
  rintro e w1 ⟨rfl, bl1⟩
  have b1 := below_to bV bl1
  have p0 := cell_to q0 bl1
  have p1 := cell_to q1 bl1
  have p3 := cell_to q3 bl1
  have g3 : w1.frozen? ⟨w.heap.size + 1 + 1, 0, none⟩ = false := by rw [bl1.frozen (block_lt_of_cell q3)]; exact f3
  clear bV bl1 q0 q1 q3 f3 HV
  by_cases h0 : m = 0
  · have HN := Lib.hid (ero_no (ps := ps) (.inr (.inr (len_nil HK.out h0))))
    have hb0 : ((m : Int) == 0) = true := by subst h0; rfl
    go_wp2_with fail
    exact bodyPost_ret (v := .tuple #[.agg #[.slice none 0 0], .bool false]) (by simp [results, Tryz.results111, go_sem, p3]) rfl (AnsR.no HN.out.1 HN.out.2 (b1.setCell (p := ⟨w.heap.size + 1 + 1, 0, none⟩) (Nat.le_add_right _ 2) _))
  · have hb0 : ((m : Int) == 0) = false := eq_b (by omega)
    have HE := Lib.hid (len_ne HK.out h0)
    clear h0
    go_wp2_with fail
    refine (HQ.out _ b1).mono ?_
    rintro e w2 ⟨rfl, bl2⟩
    have b2 := below_to b1 bl2
    have q0 := cell_to p0 bl2
    have q1 := cell_to p1 bl2
    have q3 := cell_to p3 bl2
    have f3 : w2.frozen? ⟨w.heap.size + 1 + 1, 0, none⟩ = false := by rw [bl2.frozen (block_lt_of_cell p3)]; exact g3
    clear b1 bl2 p0 p1 p3 g3 HQ
    cases hq : rokB qs with
    | false =>
      have HN := Lib.hid (ero_no (ps := ps) (.inr (.inl hq)))
      clear hq
      go_wp2_with fail
      exact bodyPost_ret (v := .tuple #[.agg #[.slice none 0 0], .bool false]) (by simp [results, Tryz.results111, go_sem, q3]) rfl (AnsR.no HN.out.1 HN.out.2 (b2.setCell (p := ⟨w.heap.size + 1 + 1, 0, none⟩) (Nat.le_add_right _ 2) _))
    | true =>
      have HO := Lib.hid hq
      clear hq
      go_wp2_with fail
      refine (HR.out _ b2).mono ?_
      rintro e w3 ⟨rfl, bl3⟩
      have b3 := below_to b2 bl3
      have p0 := cell_to q0 bl3
      have p1 := cell_to q1 bl3
      have p3 := cell_to q3 bl3
      have g3 : w3.frozen? ⟨w.heap.size + 1 + 1, 0, none⟩ = false := by rw [bl3.frozen (block_lt_of_cell q3)]; exact f3
      clear b2 bl3 q0 q1 q3 f3 HR
      cases hr : rokB ps with
      | false =>
        have HN := Lib.hid (ero_no (qs := qs) (.inl hr))
        clear hr
        go_wp2_with fail
        exact bodyPost_ret (v := .tuple #[.agg #[.slice none 0 0], .bool false]) (by simp [results, Tryz.results111, go_sem, p3]) rfl (AnsR.no HN.out.1 HN.out.2 (b3.setCell (p := ⟨w.heap.size + 1 + 1, 0, none⟩) (Nat.le_add_right _ 2) _))
      | true =>
        have HN := Lib.hid (ero_yes hr HO.out HE.out)
        have h40 := rok_len hr
        have HM := Lib.hid (impl_move 138 [.pointer (some ⟨w.heap.size + 1, 0, none⟩)] (enters_of Tryz.func138 (by kernel_rfl) rfl) (erB qs) (erM qs) a none n ca 0 0 ps [] w3 HL.out (by rw [← HL.out]; exact h40) (HA.out.below b3) rfl (by omega) (.inl ⟨rfl, rfl, rfl⟩) (fun i x hx => by simp at hx) (by simp) (fun h _ hb => ok_in64 (er_ok qs h hb))
          (fun h X hh hX => ⟨erM qs h, fun _ => rfl, er_call (w.heap.size + 1) b m cb qs h X HK.out hm H64.out HO.out HE.out (rok_all hr h hh) ((HB.out.below b3).below hX) (cell_to p1 hX)⟩))
        clear hr h40
        go_wp2_with fail
        refine HM.out.mono ?_
        rintro e w4 ⟨ad, cd, rfl, ho3, bl3⟩
        have l3 := block_lt_of_cell p3
        simp only at l3
        have r3 := cell_to p3 bl3
        have k3 : w4.frozen? ⟨w.heap.size + 1 + 1, 0, none⟩ = false := by rw [bl3.frozen l3]; exact g3
        have HO3 := Lib.hid ho3
        have HB3 := Lib.hid bl3
        clear ho3 bl3 HM
        obtain ⟨LL, hLL⟩ : ∃ LL, mvL (erB qs) (erM qs) [] ps = LL := ⟨_, rfl⟩
        obtain ⟨len, hlen⟩ : ∃ len, LL.length = len := ⟨_, rfl⟩
        rw [hLL] at HO3 HN ⊢
        rw [hlen] at HO3 ⊢
        generalize mvB (erB qs) (erM qs) [] ps = r at *
        have HF := Lib.hid (AnsR.put (p := ⟨w.heap.size + 1 + 1, 0, none⟩) (w := w) HO3.out HN.out.1 HN.out.2 b3 HB3.out l3 (Nat.le_add_right _ 2))
        go_wp2_with fail
        exact bodyPost_ret (v := .tuple #[.agg #[.slice ad len cd], .bool r]) (by simp [results, Tryz.results111, go_sem, r3]) rfl HF.out
end Go.Proofs.YtibkmhmeoelpdaaGreat
