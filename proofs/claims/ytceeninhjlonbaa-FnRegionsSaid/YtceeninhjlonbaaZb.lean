/- The laws' MakeHalves over the translation. -/
import Derived.Test.YtceeninhjlonbaaZa
import Derived.Test.YtceeninhjlonbaaGv
import Derived.Test.YtceeninhjlonbaaHq
namespace Go.Proofs.Ytceeninhjlonbaa
open Go.RowKit
open Geo (H3)

theorem Src.lt {w : World} {g len cap : Nat} {a : Option Addr} (h : Src w g a len cap) : g < w.heap.size := by
  obtain ⟨⟨_, _, hq, _⟩, _⟩ := h
  exact lt_of_block hq
/-- a new row of at most five valid half planes -/
def MadeHs (w : World) (e : Ending) (w' : World) : Prop := ∃ (hs : List H3) (ao : Option Addr) (cp : Nat), e = .returned (.slice ao hs.length cp) ∧ hs.length ≤ 5 ∧ hs.all okB = true ∧ w'.ownsRow w.heap.size 67 3 (.slice ao hs.length cp) hs.length (flat hs) ∧ Below w.heap.size w w'
set_option maxRecDepth 100000 in
set_option maxHeartbeats 1600000 in
theorem make_halves (w : World) (a : Option Addr) (len cap : Nat) (hl : len ≤ 1048576) (hB : BytesAt w a len) : Calls Try.prog 31 #[.slice a len cap] w (MadeHs w) := by
  obtain ⟨i0, hi, hz0, hz1, hz2⟩ := info_parts Try.info34
  have HB := Lib.hid hB
  clear hB
  go_enter Try.func31, Try.ntmps31
  go_wp2_with fail
  refine (new_cur w a len cap hl HB.out).mono ?_
  rintro e w1 ⟨g, rfl, hg, hs, hb⟩
  have HN := Lib.hid hs.2.2.2
  have hgw := hs.lt
  have hC1 : Cur (w1.alloc (.cells #[] 67)) g a len cap := hs.1.kept ((below_one w1 _).block g hgw)
  have HC1 := Lib.hid hC1
  have bA := below_bx2 hb (.cells #[] 67)
  have HO := Lib.hid (own3_empty' (B := w1.heap.size) w1 rfl (Nat.le_refl _))
  have zU : (w1.alloc (.cells #[] 67)).heap.size = w1.heap.size + 1 := by simp
  clear hs hb hC1
  go_wp2_with fail
  generalize w1.alloc (.cells #[] 67) = U at *
  refine (below_cur 6 ⟨HC1.out, hl, HB.out.below bA, HN.out⟩ (by omega) (by omega)).mono ?_
  rintro e w2 ⟨x, hx, rfl, hd⟩
  obtain ⟨k0, rfl⟩ : ∃ k : Nat, x = (k : Int) := ⟨x.toNat, by omega⟩
  have HO2 := Lib.hid (own_base (own_grow HO.out hd.1 (fun p hp e => by have := (own_block_lt HO.out hp).1; simp only [Option.some.injEq] at e; omega)) (show g + 1 ≤ w1.heap.size by omega))
  have b2 : Below w.heap.size w w2 := bA.grown hd.1 bA.size (fun p hp => by cases hp; exact hg)
  have HC2 := Lib.hid hd.2
  have zg : g < w2.heap.size := by have := hd.1.size; omega
  have hx5 : k0 ≤ 5 := by omega
  have zw1 : w1.heap.size = w1.heap.size := rfl
  clear HO HC1 hd bA hx
  generalize w1.heap.size = b1 at *
  go_wp2
  go_loopw [4, 5] (fun v i wr => ∃ (k m : Nat) (hs : List H3) (ao : Option Addr) (cp : Nat), v = .slice ao m cp ∧ hs.length = m ∧ i = .int .i64 k ∧ m + k ≤ 5 ∧ hs.all okB = true ∧ wr.ownsRow (g + 1) 67 3 (.slice ao m cp) m (flat hs) ∧ Below w.heap.size w wr ∧ Cur wr g a len cap ∧ g < wr.heap.size) (fun _ i _ => (intOf i).toNat)
  case atStart => exact ⟨k0, 0, [], some ⟨b1, 0, none⟩, 0, rfl, rfl, rfl, by simpa using hx5, rfl, HO2.out, b2, HC2.out, zg⟩
  case round =>
    obtain ⟨k, m, hs, ao, cp, rfl, hm, rfl, hk, hall, hown, hbw, hcur, hgr⟩ := hrel
    have H0 := Lib.hid hown
    have HA := Lib.hid hall
    have HCU := Lib.hid hcur
    have HBW := Lib.hid hbw
    clear hown hall hcur hbw
    have HM := Lib.hid hm
    clear hm
    by_cases h0 : 0 < k
    · go_wp2_with fail
      refine (draw_half ⟨HCU.out, hl, HB.out.below HBW.out, HN.out⟩).mono ?_
      rintro e w3 ⟨X, Y, D, hsm, rfl, hd⟩
      have HS := Lib.hid hsm
      have H3o := Lib.hid (own_below (own_grow H0.out hd.1 (fun p hp e => by have := (own_block_lt H0.out hp).1; simp only [Option.some.injEq] at e; omega)) (below_one w3 (.cells #[.int .i64 X, .int .i64 Y, .int .i64 D] 67)))
      have b3 : Below w.heap.size w w3 := HBW.out.grown hd.1 HBW.out.size (fun p hp => by cases hp; exact hg)
      have hg3 : g < w3.heap.size := by have := hd.1.size; omega
      have HC3 := Lib.hid (hd.2.kept ((below_one w3 (.cells #[.int .i64 X, .int .i64 Y, .int .i64 D] 67)).block g hg3))
      have b4 := Lib.hid (below_bx2 b3 (.cells #[.int .i64 X, .int .i64 Y, .int .i64 D] 67))
      have HN1 := heap_alloc_new w3 (.cells #[.int .i64 X, .int .i64 Y, .int .i64 D] 67)
      have zs : (w3.alloc (.cells #[.int .i64 X, .int .i64 Y, .int .i64 D] 67)).heap.size = w3.heap.size + 1 := by simp
      clear hsm hd b3 H0 HCU HBW
      go_wp2_with (at_builtin; refine wpList_append_lies _ rfl _ _ 35 rfl (g + 1) 67 i0 (.agg #[.int .i64 0, .int .i64 0, .int .i64 0]) 3 24 Try.underlying35 hi hz0 hz1 hz2 rfl (by decide) (.slice ao m cp) m _ rfl H3o.out ⟨w3.heap.size, 0, none⟩ 1 1 [.int .i64 X, .int .i64 Y, .int .i64 D] rfl rfl (World.news_of_block (cs := #[.int .i64 X, .int .i64 Y, .int .i64 D]) (t := 67) (fr := (0, 0)) HN1) (by simp [Value.oneCell']) (by omega) (by unfold maxLen; omega) (by omega) (by simp; omega) _ rfl ?_; intro gg cap' w7 hown7 hgrow hat hlt7; have H7 := Lib.hid hown7; have HG := Lib.hid hgrow; clear hown7 hgrow hat)
      have b7 : Below w.heap.size w w7 := b4.out.grown HG.out b4.out.size (fun p hp => by have := own_base_le H3o.out hp; omega)
      have hne : some g ≠ (Value.slice ao m cp).ownBlock := fun e => by have := own_base_le H3o.out e.symm; omega
      have HC7 := Lib.hid (HC3.out.kept (HG.out.block g (by omega) hne))
      have z7 : g < w7.heap.size := by have := HG.out.size; omega
      have HL := Lib.hid (show (hs ++ [(⟨X, Y, D⟩ : H3)]).length = m + 1 by rw [List.length_append, HM.out]; rfl)
      go_roundw
      case rel => exact ⟨k - 1, m + 1, hs ++ [⟨X, Y, D⟩], _, _, rfl, HL.out, by go_num, by omega, by rw [List.all_append, HA.out]; simp only [List.all_cons, List.all_nil, Bool.and_true, Bool.true_and]; exact HS.out.1, by rw [flat_app]; exact H7.out, b7, HC7.out, z7⟩
      case measure => simp [intOf]; omega
    · obtain rfl : k = 0 := by omega
      go_wp2
      go_ret
      have hm := HM.out
      subst hm
      exact ⟨hs, ao, cp, rfl, by omega, HA.out, own_base H0.out (by omega), HBW.out⟩
end Go.Proofs.Ytceeninhjlonbaa
