/- The contract of the program's RegionFrom over the translation: the frame cut by one half plane after the other. -/
import Derived.Test.YtobmaajfdpcfmaaIe
namespace Go.Proofs.Ytobmaajfdpcfmaa
open Go.RowKit
open Geo (H3)

/-- the edges of the frame cut by all half planes -/
def regL (hs : List H3) : List H3 := hs.foldl Geo.cutL Geo.frame
theorem fold_mem {E l : List H3} {x : H3} (m : x ∈ l.foldl Geo.cutL E) : x ∈ E ∨ x ∈ l := by
  induction l generalizing E with
  | nil => exact Or.inl m
  | cons h l ih =>
    rcases ih m with k | k
    · rcases Geo.cut_mem k with rfl | k
      · exact Or.inr (by simp)
      · exact Or.inl k
    · exact Or.inr (by simp [k])
theorem frame_ok : ∀ x ∈ Geo.frame, okB x = true := by decide
theorem regL_ok {hs : List H3} (h : hs.all okB = true) : ∀ x ∈ regL hs, okB x = true := by
  intro x hx
  rcases fold_mem hx with k | k
  · exact frame_ok x k
  · exact List.all_eq_true.1 h x k
theorem regL_inv {hs : List H3} (h : hs.all okB = true) : Geo.Inv (regL hs) (Geo.frame ++ hs) :=
  Geo.inv_fold Geo.inv_frame hs fun x hx => okB_nz (List.all_eq_true.1 h x hx)
theorem regL_pw {hs : List H3} (h : hs.all okB = true) : (regL hs).Pairwise (fun f g => Geo.bef f g = true) := by
  rcases regL_inv h with ⟨P, _⟩ | ⟨e, _⟩
  · exact P.2.2.1
  · rw [e]; simp
theorem regL_len (hs : List H3) : (regL hs).length ≤ 4 + hs.length := Geo.fold_len Geo.frame hs
theorem regL_next {hs : List H3} {k : Nat} {x : H3} (h : hs[k]? = some x) : regL (hs.take (k + 1)) = Geo.cutL (regL (hs.take k)) x := by
  unfold regL; rw [List.take_add_one, h, List.foldl_append]; rfl
theorem take_ok {hs : List H3} (h : hs.all okB = true) (k : Nat) : (hs.take k).all okB = true := by
  rw [List.all_eq_true] at *; exact fun x hx => h x (List.mem_of_mem_take hx)
/-- whether RegionFrom answers, and with which edges -/
def okF (hs : List H3) : Bool := decide (hs.length ≤ 40) && hs.all okB && decide ((regL hs).length ≤ 40)
def regE (hs : List H3) : List H3 := if okF hs = true then regL hs else []
def FromW (w : World) (hs : List H3) (e : Ending) (w' : World) : Prop := ∃ ao cp, e = .returned (.tuple #[.agg #[.slice ao (regE hs).length cp], .bool (okF hs)]) ∧ w'.ownsRow w.heap.size 34 3 (.slice ao (regE hs).length cp) (regE hs).length (flat (regE hs)) ∧ Below w.heap.size w w'
theorem FromW.no {w w' : World} {hs : List H3} (h : okF hs = false) (hb : Below w.heap.size w w') : FromW w hs (.returned (.tuple #[.agg #[.slice none 0 0], .bool false])) w' := by
  have e : regE hs = [] := if_neg (by rw [h]; simp)
  unfold FromW
  rw [e, h]
  exact ⟨none, 0, rfl, own3_none, hb⟩
theorem FromW.yes {w w' : World} {hs : List H3} {ao : Option Addr} {m cp : Nat} (h : okF hs = true) (ho : w'.ownsRow w.heap.size 34 3 (.slice ao m cp) m (flat (regL hs))) (hb : Below w.heap.size w w') : FromW w hs (.returned (.tuple #[.agg #[.slice ao m cp], .bool true])) w' := by
  have e : regE hs = regL hs := if_pos h
  obtain rfl := (own3_view ho).1
  unfold FromW
  rw [e, h]
  exact ⟨ao, cp, rfl, ho, hb⟩
theorem own_far' {w : World} {B C n s : Nat} {e : TypeId} {v : Value} {xs ys : List Value} (h : w.ownsRow B e s v n xs) (h' : w.ownsRow C e s v n ys) {p : Addr} (hp : p.block < B) (u : Value) : (w.setCell p u).ownsRow C e s v n ys := by
  have k := own_far h hp u
  refine ⟨h'.1, ?_⟩
  rcases h'.2 with h2 | ⟨g, cap, cur, hv, hg, hh, r⟩
  · exact .inl h2
  · refine .inr ⟨g, cap, cur, hv, hg, (Below.heap_setCell w p u g ?_).trans hh, r⟩
    rcases h.2 with ⟨h3, _⟩ | ⟨g', cap', cur', hv', hg', _⟩
    · rw [hv] at h3; simp at h3
    · rw [hv] at hv'; simp at hv'; omega
set_option maxRecDepth 100000 in
set_option maxHeartbeats 4000000 in
theorem impl_from (a : Option Addr) (n cap : Nat) (hs : List H3) (w : World) (hl : hs.length = n) (hn : n ≤ 1048576) (h64 : ∀ h ∈ hs, In64 h) (hA : HsAt w a hs) :
    Calls Try.prog 17 #[.slice a n cap] w (FromW w hs) := by
  have HL := Lib.hid hl
  have HA := Lib.hid hA
  have H6 := Lib.hid h64
  clear hl hA h64
  by_cases h40 : n ≤ 40
  · have HO := Lib.hid (fun W (h : Below w.heap.size w W) => are_ok a n cap hs W HL.out (by omega) H6.out (HA.out.below h))
    have hd : decide ((40 : Int) < (n : Int)) = false := by simpa using by omega
    cases hok : hs.all okB with
    | false =>
      rw [hok] at HO
      have HN := Lib.hid (show okF hs = false by unfold okF; rw [hok]; simp)
      clear hok
      go_enter Try.func17, Try.ntmps17
      go_wp2_with fail
      refine (HO.out _ (below_one _ _)).mono ?_
      rintro e w1 ⟨rfl, bl1⟩
      obtain ⟨hc1, hf1⟩ := bcellr bl1
      have hz := bl1.size
      simp at hz
      go_wp2
      exact bodyPost_ret (v := .tuple #[.agg #[.slice none 0 0], .bool false]) (by simp [results, Try.results17, go_sem, hc1]) rfl (FromW.no HN.out ((below_to (below_one _ _) bl1).setCell (by simp) _))
    | true =>
      rw [hok] at HO
      have HK := Lib.hid hok
      clear hok
      go_enter Try.func17, Try.ntmps17
      go_wp2_with fail
      have bV := below_one w (.cells #[.slice none 0 0] 26)
      have q2 : (w.alloc (.cells #[.slice none 0 0] 26)).cell? ⟨w.heap.size, 0, none⟩ = some (.slice none 0 0) := by simp
      have f2 : (w.alloc (.cells #[.slice none 0 0] 26)).frozen? ⟨w.heap.size, 0, none⟩ = false := by simp
      have hz : w.heap.size < (w.alloc (.cells #[.slice none 0 0] 26)).heap.size := by simp
      generalize w.alloc (.cells #[.slice none 0 0] 26) = V at *
      refine (HO.out _ bV).mono ?_
      rintro e w1 ⟨rfl, bl1⟩
      clear HO
      go_wp2_with fail
      refine (impl_frame w1).mono ?_
      rintro e w2 ⟨a2, c2, rfl, ho2, bl2⟩
      have b2 := below_to bl1 bl2
      have H2 := Lib.hid (own_base ho2 bl1.size)
      clear ho2 bl1 bl2
      go_wp2
      go_loopw [4, 19] (fun v i wr => ∃ (k m : Nat) (ao : Option Addr) (cp : Nat), k ≤ n ∧ i = .int .i64 k ∧ v = .slice ao m cp ∧ wr.ownsRow V.heap.size 34 3 (.slice ao m cp) m (flat (regL (hs.take k))) ∧ Below V.heap.size V wr) (fun _ i _ => n - (intOf i).toNat)
      case atStart => exact ⟨0, 4, a2, c2, Nat.zero_le _, rfl, rfl, by simpa [regL] using H2.out, b2⟩
      case round =>
        obtain ⟨k, m, ao, cp, hk, rfl, rfl, hov, hbel⟩ := hrel
        have hm := (own3_view hov).1
        have hm2 := regL_len (hs.take k)
        rw [hm, List.length_take] at hm2
        have H0 := Lib.hid hov
        have hbw := below_to bV hbel
        clear hov hm
        by_cases hlt : k < n
        · obtain ⟨⟨xa, xb, xc⟩, hx⟩ : ∃ x, hs[k]? = some x := ⟨_, List.getElem?_eq_getElem (by rw [HL.out]; exact hlt)⟩
          have hox : okH xa xb xc = true := List.all_eq_true.1 HK.out _ (List.mem_of_getElem? hx)
          have HX := Lib.hid (regL_next hx)
          obtain ⟨g, o, rfl, hcx⟩ := HA.out k _ hx
          obtain ⟨t1, t2, t3⟩ := hcx.to hbw
          have l1 := block_lt_of_cell t1
          simp only at t1 t2 t3 l1
          have HC := Lib.hid (fun W (h : Below wr.heap.size wr W) => cut_edges ao m cp V.heap.size (regL (hs.take k)) xa xb xc W (by omega) (regL_ok (take_ok HK.out k)) (regL_pw (take_ok HK.out k)) hox (Nat.le_trans hbel.size h.size) (own_below H0.out h))
          clear hx hcx hox
          go_wp2_with (go_at_call 67; (with_reducible refine (HC.out _ (below_one _ _)).mono ?_); rintro e w3 ⟨a3, c3, rfl, ho3, bl3⟩; have H3 := Lib.hid ho3; clear ho3)
          go_roundw
          case rel => exact ⟨k + 1, _, a3, c3, by omega, by go_num, rfl, by rw [HX.out]; exact H3.out, hbel.trans ((below_to (below_one _ _) bl3).mono hbel.size)⟩
          case measure => simp [intOf]; omega
        · have hkn : k = n := by omega
          subst hkn
          have p2 := cell_to q2 hbel
          have g2 : wr.frozen? ⟨w.heap.size, 0, none⟩ = false := by rw [hbel.frozen hz]; exact f2
          have hv0 := bV.size
          have H1 := Lib.hid (show wr.ownsRow w.heap.size 34 3 (.slice ao m cp) m (flat (regL hs)) by
            have := H0.out
            rw [List.take_of_length_le (by rw [HL.out]; omega)] at this
            exact own_base this hv0)
          by_cases hml : m ≤ 40
          · have HN := Lib.hid (show okF hs = true by
              have := (own3_view H1.out).1
              unfold okF; rw [HL.out, HK.out, this]; simp [hml, h40])
            have HW := Lib.hid (FromW.yes HN.out (own_far' (p := ⟨w.heap.size, 0, none⟩) H0.out H1.out hz (.slice ao m cp)) (hbw.setCell (Nat.le_refl _) _))
            go_wp2
            exact bodyPost_ret (v := .tuple #[.agg #[.slice ao m cp], .bool true]) (by simp [results, Try.results17, go_sem, p2]) rfl HW.out
          · have HN := Lib.hid (show okF hs = false by
              have := (own3_view H1.out).1
              unfold okF; rw [HL.out, HK.out, this]; simp [hml])
            go_wp2
            exact bodyPost_ret (v := .tuple #[.agg #[.slice none 0 0], .bool false]) (by simp [results, Try.results17, go_sem, p2]) rfl (FromW.no HN.out (hbw.setCell (Nat.le_refl _) _))
  · have hd : (40 : Int) < (n : Int) := by omega
    have HN := Lib.hid (show okF hs = false by unfold okF; rw [HL.out]; simp [h40])
    go_enter Try.func17, Try.ntmps17
    go_wp2
    exact bodyPost_ret (v := .tuple #[.agg #[.slice none 0 0], .bool false]) (by simp [results, Try.results17, go_sem]) rfl (FromW.no HN.out (below_one _ _))
end Go.Proofs.Ytobmaajfdpcfmaa
