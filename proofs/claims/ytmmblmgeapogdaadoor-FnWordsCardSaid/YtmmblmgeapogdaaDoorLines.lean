/- What SplitLines answers; the contracts of both SplitLines over the translation, and the walk of their law. -/
import Derived.Test.YtmmblmgeapogdaaDoorSplit
import Derived.Lib.OthersKept
import Derived.WalkSmall
namespace Go.Proofs.YtmmblmgeapogdaaDoor
open Go.RowKit

/-- the newline -/
def nl : ByteArray := ⟨#[10]⟩
theorem hit_nl (c : UInt8) : hit nl c = decide (c.toNat = 10) := by
  unfold hit nl
  simp only [List.contains_cons, List.contains_nil, Bool.or_false]
  by_cases h : c = 10
  · subst h; decide
  · have : c.toNat ≠ 10 := fun e => h (UInt8.toNat_inj.1 (by simpa using e))
    simp [h, this]

theorem decode_cont (s : ByteArray) (i : Nat) (h : i < s.size) :
    1 ≤ (Utf8.decode s i).2 ∧ i + (Utf8.decode s i).2 ≤ s.size ∧ ∀ k, 1 ≤ k → k < (Utf8.decode s i).2 → 128 ≤ (s.get! (i + k)).toNat := by
  simp only [Utf8.decode]
  repeat' split
  all_goals simp_all only [Bool.and_eq_true, decide_eq_true_eq, beq_iff_eq]
  all_goals refine ⟨by omega, by omega, ?_⟩
  all_goals intro k hk1 hk2
  · omega
  · have : k = 1 := by omega
    subst this; omega
  · omega
  · have : k = 1 ∨ k = 2 := by omega
    rcases this with rfl | rfl <;> omega
  · omega
  · have : k = 1 ∨ k = 2 ∨ k = 3 := by omega
    rcases this with rfl | rfl | rfl <;> omega
  · omega
  · omega
theorem getx (s : ByteArray) (k : Nat) (h : k < s.size) : s.get! k = s[k] := by
  simp [ByteArray.get!, getElem!_pos, h]; rfl
theorem sp_skip (s : ByteArray) (i : Nat) : ∀ n, i + n ≤ s.size → (∀ k, k < n → (s.get! (i + k)).toNat ≠ 10) → sp s nl (i + n) = sp s nl i
  | 0, _, _ => rfl
  | n + 1, hn, hk => by
    rw [← Nat.add_assoc, sp_miss s nl (i + n) (by omega) (by rw [hit_nl, ← getx]; simpa using hk n (by omega))]
    exact sp_skip s i n (by omega) fun k h => hk k (by omega)
theorem emp_no' (s : ByteArray) (h : 0 < s.size) : s.toList.isEmpty = false := by rw [empty_iff]; simpa using h
theorem emp_yes' (s : ByteArray) (h : s.size = 0) : s.toList.isEmpty = true := by rw [empty_iff]; simpa using h
/-- the lines -/
def lines (s : ByteArray) : List ByteArray := if (sp s nl s.size).2 < s.size then split s nl else (sp s nl s.size).1
theorem ext_size (s : ByteArray) (f : Nat) : (s.extract f s.size).size = s.size - f := by simp

theorem own_mono {w : World} {B B' : Nat} {e : TypeId} {s : Nat} {v : Value} {n : Nat} {xs : List Value} (h : w.ownsRow B e s v n xs) (hB : B' ≤ B) : w.ownsRow B' e s v n xs := by
  refine ⟨h.1, ?_⟩
  rcases h.2 with h2 | ⟨g, cap, cur, hv, hg, r⟩
  · exact .inl h2
  · exact .inr ⟨g, cap, cur, hv, Nat.le_trans hB hg, r⟩

/-- a rune that is a newline is the byte, and no other rune holds one -/
theorem rune_nl (s : ByteArray) (k : Nat) (h : k < s.size) (h10 : ¬ s[k].toNat = 10) : ((Utf8.decode s k).1 : Int) ≠ 10 ∧ sp s nl (k + (Utf8.decode s k).2) = sp s nl k := by
  obtain ⟨d1, d2, d3⟩ := decode_cont s k h
  constructor
  · by_cases h8 : s[k].toNat < 128
    · rw [decode_ascii s k h h8]; simp; omega
    · have := decode_high s k h (by omega); omega
  · refine sp_skip s k _ d2 ?_
    intro j hj
    by_cases h0 : j = 0
    · subst h0; rw [Nat.add_zero, getx s k h]; exact h10
    · have := d3 j (by omega) hj; omega

set_option maxHeartbeats 1600000 in
theorem impl_lines (s : ByteArray) (w : World) (hs : s.size ≤ 1048576) :
    Calls Tryd.prog 13 #[.string s] w (Gives w (lines s)) := by
  obtain ⟨i0, hi, hz0, hz1, hz2⟩ := info_parts Tryd.info9
  have hk0 : (w.iter s 0).heap[w.heap.size]? = some (.stringIter s 0) := World.iter_heap w s 0
  have hb0 : Below w.heap.size w (w.iter s 0) := (Below.refl _ w).alloc (Nat.le_refl _) _
  go_enter Tryd.func13, Tryd.ntmps13
  go_wp2
  go_loopw [3, 4, 5, 6] (fun v f _ _ wr => ∃ k : Nat, k ≤ s.size ∧ f = .int .i64 ((sp s nl k).2 : Nat) ∧ wr.heap[w.heap.size]? = some (.stringIter s k) ∧ wr.ownsRow (w.heap.size + 1) 9 1 v (sp s nl k).1.length ((sp s nl k).1.map Value.string) ∧ Below w.heap.size w wr)
    (fun _ _ _ _ wr => s.size - wr.iterPos w.heap.size)
  case atStart => exact ⟨0, Nat.zero_le _, rfl, hk0, World.ownsRow_nil _ _ _ _, hb0⟩
  case round =>
    obtain ⟨k, hk, rfl, hit0, hown, hbel⟩ := hrel
    clear hk0 hb0
    have hlen := sp_len s nl k
    obtain ⟨hlen1, hlen2⟩ := hlen
    obtain ⟨v, rfl⟩ : ∃ v : Value, v = u3 := ⟨_, rfl⟩
    have HP := Lib.hid (iterPos_of hit0)
    have HI := Lib.hid hit0
    have hsz := hbel.size
    have hszl := lt_of_block hit0
    by_cases hlt : k < s.size
    · by_cases h10 : s[k].toNat = 10
      · have HS := Lib.hid (sp_hit s nl k hlt (by rw [hit_nl]; simpa using h10))
        generalize (sp s nl k).1 = out at *
        generalize (sp s nl k).2 = fr at *
        have hnx : ∀ ty, (Instr.next (.pointer (some ⟨w.heap.size, 0, none⟩)) true ty).run Tryd.prog wr = _ := fun ty => Lib.run_next_ascii_at wr w.heap.size s k ty hit0 hlt (by omega)
        have e10 : ((s[k].toNat : Int) == 10) = true := by simp; omega
        have hit1 := Lib.iterAt_heap wr w.heap.size s k (k + 1) hit0
        have hbel1 := Lib.below_iterAt hbel (Nat.le_refl _) s (k + 1)
        have hown1 := ownsRow_iterAt hown (k := w.heap.size) (by omega) s (k + 1)
        have hsz1 := Lib.iterAt_size wr w.heap.size s (k + 1)
        have hszq : w.heap.size < (wr.iterAt w.heap.size s (k + 1)).heap.size := by omega
        clear hit0 hown hsz1 h10
        generalize wr.iterAt w.heap.size s (k + 1) = wq at *
        have HI1 := Lib.hid hit1
        clear hit1
        go_wp2_with (at_builtin; refine wpList_append_own _ rfl _ _ 29 rfl (w.heap.size + 1) 9 i0 (.string ByteArray.empty) 1 16 Tryd.underlying29 hi hz0 hz1 hz2 rfl (by decide) _ _ _ rfl (hown1.alloc _) ⟨wq.heap.size, 0, none⟩ 1 1 [.string (s.extract fr k)] rfl rfl ?c1 ?c2 ?c3 ?c4 ?c5 ?_)
        case c1 => exact cell_new1 _ _ _
        case c2 => intro u hu; simp at hu; subst hu; rfl
        case c3 => unfold maxLen; omega
        case c4 => omega
        case c5 => simp; omega
        intro v' w1 hown' hgrow _
        have hb4 : Below w.heap.size w w1 := (hbel1.alloc (by omega) _).grown hgrow (by simp; omega) (fun g hg => by have := (hown1.lt g hg).1; omega)
        have hit4 : w1.heap[w.heap.size]? = some (.stringIter s (k + 1)) := by
          rw [hgrow.block w.heap.size (by simp; omega) (fun e => by have := (hown1.lt _ e.symm).1; omega), Below.heap_alloc _ _ _ hszq]
          exact HI1.out
        have HI4 := Lib.hid hit4
        clear hit4
        go_wp2
        go_roundw
        case rel => exact ⟨k + 1, by omega, by rw [HS.out]; go_num, HI4.out, by rw [HS.out]; simpa using hown', hb4⟩
        case measure => rw [HP.out, iterPos_of HI4.out]; omega
      · obtain ⟨hr, hsk⟩ := rune_nl s k hlt h10
        obtain ⟨d1, d2, _⟩ := decode_cont s k hlt
        have HSK := Lib.hid hsk
        have e10 : (((Utf8.decode s k).1 : Int) == 10) = false := by simp; omega
        have hnx : ∀ ty, (Instr.next (.pointer (some ⟨w.heap.size, 0, none⟩)) true ty).run Tryd.prog wr = _ := fun ty => Lib.run_next_any_at wr w.heap.size s k ty hit0 hlt
        have hit1 := Lib.iterAt_heap wr w.heap.size s k (k + (Utf8.decode s k).2) hit0
        have hbel1 := Lib.below_iterAt hbel (Nat.le_refl _) s (k + (Utf8.decode s k).2)
        have hown1 := ownsRow_iterAt hown (k := w.heap.size) (by omega) s (k + (Utf8.decode s k).2)
        clear hit0 hown hsk h10 hr
        generalize wr.iterAt w.heap.size s (k + (Utf8.decode s k).2) = wq at *
        generalize (Utf8.decode s k).2 = r2 at *
        generalize (Utf8.decode s k).1 = r1 at *
        have HI1 := Lib.hid hit1
        clear hit1
        go_wp2
        go_roundw
        case rel => exact ⟨k + r2, by omega, by rw [HSK.out], HI1.out, by rw [HSK.out]; exact hown1, hbel1⟩
        case measure => rw [HP.out, iterPos_of HI1.out]; omega
    · have hks : k = s.size := by omega
      have hnx : ∀ ty, (Instr.next (.pointer (some ⟨w.heap.size, 0, none⟩)) true ty).run Tryd.prog wr = _ := fun ty => Lib.run_next_end_at wr w.heap.size s k ty hit0 hlt
      clear hit0
      by_cases hfr : (sp s nl k).2 < s.size
      · have HQ := Lib.hid (show lines s = (sp s nl k).1 ++ [s.extract (sp s nl k).2 s.size] by rw [hks] at hfr ⊢; unfold lines; rw [if_pos hfr]; rfl)
        clear hks
        generalize (sp s nl k).1 = out at *
        generalize (sp s nl k).2 = fr at *
        go_wp2_with (at_builtin; refine wpList_append_own _ rfl _ _ 29 rfl (w.heap.size + 1) 9 i0 (.string ByteArray.empty) 1 16 Tryd.underlying29 hi hz0 hz1 hz2 rfl (by decide) _ _ _ rfl (hown.alloc _) ⟨wr.heap.size, 0, none⟩ 1 1 [.string (s.extract fr s.size)] rfl rfl ?d1 ?d2 ?d3 ?d4 ?d5 ?_)
        case d1 => exact cell_new1 _ _ _
        case d2 => intro u hu; simp at hu; subst hu; rfl
        case d3 => unfold maxLen; omega
        case d4 => omega
        case d5 => simp; omega
        intro v' w1 hown' hgrow _
        have hb4 : Below w.heap.size w w1 := (hbel.alloc hsz _).grown hgrow (by simp; omega) (fun g hg => by have := (hown.lt g hg).1; omega)
        go_wp2
        go_ret
        exact Gives.mk' (own_mono hown' (by omega)) (by rw [HQ.out]; simp) (by rw [HQ.out]; simp) hb4
      · have HQ := Lib.hid (show lines s = (sp s nl k).1 by rw [hks] at hfr ⊢; unfold lines; rw [if_neg hfr])
        clear hks
        generalize (sp s nl k).1 = out at *
        generalize (sp s nl k).2 = fr at *
        go_wp2
        go_ret
        exact Gives.mk' (own_mono hown (by omega)) (by rw [HQ.out]) (by rw [HQ.out]) hbel
end Go.Proofs.YtmmblmgeapogdaaDoor
