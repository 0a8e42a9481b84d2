/- What SplitAny answers, as a function on bytes; the contract of the model's SplitAny over the translation. -/
import Derived.Test.YtbdehelcpfkcmaaDoorStrs
import Derived.OwnWalk
import Derived.Deep.DeepCutAuto
namespace Go.Proofs.YtbdehelcpfkcmaaDoor
open Go.RowKit

/-- the byte occurs in by -/
def hit (by' : ByteArray) (c : UInt8) : Bool := by'.data.toList.contains c
/-- the parts that are complete before place k, and where the open one begins -/
def sp (s by' : ByteArray) : Nat → List ByteArray × Nat
  | 0 => ([], 0)
  | k + 1 => if hit by' (s.data.toList.getD k 0) then ((sp s by' k).1 ++ [s.extract (sp s by' k).2 k], k + 1) else sp s by' k
/-- the parts -/
def split (s by' : ByteArray) : List ByteArray := (sp s by' s.size).1 ++ [s.extract (sp s by' s.size).2 s.size]

theorem sp_len (s by' : ByteArray) : ∀ k, (sp s by' k).1.length ≤ k ∧ (sp s by' k).2 ≤ k
  | 0 => by simp [sp]
  | k + 1 => by
    have := sp_len s by' k
    unfold sp
    split
    · simp; omega
    · omega
theorem sp_hit (s by' : ByteArray) (k : Nat) (h : k < s.size) (hh : hit by' s[k] = true) : sp s by' (k + 1) = ((sp s by' k).1 ++ [s.extract (sp s by' k).2 k], k + 1) := by
  have e : s.data.toList.getD k 0 = s[k] := by
    have h' : k < s.data.toList.length := by simpa using h
    rw [List.getD_eq_getElem?_getD, List.getElem?_eq_getElem h']; rfl
  rw [sp, e, if_pos hh]
theorem sp_miss (s by' : ByteArray) (k : Nat) (h : k < s.size) (hh : hit by' s[k] = false) : sp s by' (k + 1) = sp s by' k := by
  have e : s.data.toList.getD k 0 = s[k] := by
    have h' : k < s.data.toList.length := by simpa using h
    rw [List.getD_eq_getElem?_getD, List.getElem?_eq_getElem h']; rfl
  rw [sp, e, if_neg (by simp [hh])]

/-- where a byte that occurs in by occurs first -/
theorem hit_first (by' : ByteArray) (c : UInt8) (h : hit by' c = true) : ∃ j, ∃ hj : j < by'.size, by'[j] = c ∧ ∀ i (hi : i < by'.size), i < j → by'[i] ≠ c := by
  unfold hit at h
  rw [List.contains_iff_mem] at h
  have hlen : by'.data.toList.length = by'.size := by simp
  have hex : ∃ j, ∃ hj : j < by'.size, by'[j] = c := by
    obtain ⟨j, hj, e⟩ := List.getElem_of_mem h
    exact ⟨j, by omega, by rw [← e]; rfl⟩
  suffices ∀ n, (∃ j, ∃ hj : j < by'.size, by'[j] = c ∧ j ≤ n) → ∃ j, ∃ hj : j < by'.size, by'[j] = c ∧ ∀ i (hi : i < by'.size), i < j → by'[i] ≠ c by
    obtain ⟨j, hj, e⟩ := hex
    exact this j ⟨j, hj, e, Nat.le_refl _⟩
  intro n
  induction n with
  | zero =>
    rintro ⟨j, hj, e, hle⟩
    exact ⟨j, hj, e, fun i _ hij => by omega⟩
  | succ n ih =>
    rintro ⟨j, hj, e, hle⟩
    by_cases hb : ∃ i, ∃ hi : i < by'.size, by'[i] = c ∧ i ≤ n
    · exact ih hb
    · refine ⟨j, hj, e, fun i hi hij he => hb ⟨i, hi, he, by omega⟩⟩
theorem miss_all (by' : ByteArray) (c : UInt8) (h : hit by' c = false) : ∀ i (hi : i < by'.size), by'[i] ≠ c := by
  intro i hi he
  have : hit by' c = true := by
    unfold hit
    rw [List.contains_iff_mem, ← he]
    exact List.getElem_mem (by simpa using hi : i < by'.data.toList.length)
  rw [h] at this
  cases this
theorem byte_ne (a b : UInt8) (h : a ≠ b) : ((a.toNat : Int) == (b.toNat : Int)) = false := by
  have : a.toNat ≠ b.toNat := fun e => h (UInt8.toNat_inj.1 e)
  simp; omega
theorem byte_eq (a b : UInt8) (h : a = b) : ((a.toNat : Int) == (b.toNat : Int)) = true := by rw [h]; simp

theorem Tryd.info9 : (Tryd.prog.info? 9).map (fun i => (i.zero, i.size, i.bytes)) = some (some (.string ByteArray.empty), 1, 16) := by kernel_rfl

theorem cell_new1 (w : World) (x : Value) (t : TypeId) : ∀ j u, [x][j]? = some u → (w.alloc (.cells #[x] t)).cell? ((⟨w.heap.size, 0, none⟩ : Addr).add j) = some u := by
  intro j u hj
  match j, hj with
  | 0, hj => simp at hj; subst hj; simp [Addr.add]
/-- the call hands back a slice of its own that reads as xs -/
def Gives (w : World) (xs : List ByteArray) (e : Ending) (w' : World) : Prop := ∃ v, e = .returned v ∧ w'.ownsRow w.heap.size 9 1 v xs.length (xs.map Value.string) ∧ Below w.heap.size w w'
theorem Gives.mk' {w w' : World} {xs : List ByteArray} {v : Value} {n : Nat} {ys : List Value} (h : w'.ownsRow w.heap.size 9 1 v n ys) (hn : n = xs.length) (hy : ys = xs.map Value.string) (hb : Below w.heap.size w w') : Gives w xs (.returned v) w' := by
  subst hn; subst hy; exact ⟨v, rfl, h, hb⟩

set_option maxHeartbeats 1600000 in
theorem spec_split (s by' : ByteArray) (w : World) (hs : s.size ≤ 1048576) (hby : by'.size ≤ 1048576) :
    Calls Tryd.prog 36 #[.string s, .string by'] w (Gives w (split s by')) := by
  obtain ⟨i0, hi, hz0, hz1, hz2⟩ := info_parts Tryd.info9
  go_enter Tryd.func36, Tryd.ntmps36
  go_wp2
  go_loopw [5, 6, 7, 8] (fun v f i _ wr => ∃ k : Nat, k ≤ s.size ∧ i = .int .i64 k ∧ f = .int .i64 ((sp s by' k).2 : Nat) ∧ wr.ownsRow w.heap.size 9 1 v (sp s by' k).1.length ((sp s by' k).1.map Value.string) ∧ Below w.heap.size w wr) (fun _ _ i _ _ => s.size - (intOf i).toNat)
  case atStart => exact ⟨0, Nat.zero_le _, rfl, rfl, World.ownsRow_made w #[] 0 (Nat.le_refl _) (by simp [maxLen]) (by simp), (Below.refl _ _).alloc (Nat.le_refl _) _⟩
  case round =>
    obtain ⟨k, hk, rfl, rfl, hown, hbel⟩ := hrel
    have hlen := sp_len s by' k
    obtain ⟨hlen1, hlen2⟩ := hlen
    obtain ⟨v, rfl⟩ : ∃ v : Value, v = u5 := ⟨_, rfl⟩
    by_cases hlt : k < s.size
    · cases hh : hit by' s[k] with
      | true =>
        have HS := Lib.hid (sp_hit s by' k hlt hh)
        obtain ⟨j0, hj0, hje, hjn⟩ := hit_first by' s[k] hh
        have HJE := Lib.hid hje
        have HJN := Lib.hid hjn
        clear hh hje hjn
        generalize (sp s by' k).1 = out at *
        generalize (sp s by' k).2 = fr at *
        obtain ⟨wo, rfl⟩ : ∃ wo : World, wo = wr := ⟨_, rfl⟩
        go_wp2
        go_loopw [5, 6, 8] (fun x f i wr => ∃ j : Nat, j ≤ j0 ∧ x = v ∧ f = .int .i64 (fr : Nat) ∧ i = .int .i64 j ∧ wr.ownsRow w.heap.size 9 1 v out.length (out.map Value.string) ∧ Below w.heap.size w wr) (fun _ _ i _ => by'.size - (intOf i).toNat)
        case atStart => exact ⟨0, Nat.zero_le _, rfl, rfl, rfl, hown, hbel⟩
        case round =>
          obtain ⟨j, hj, rfl, rfl, rfl, hown2, hbel2⟩ := hrel
          have hjs : j < by'.size := by omega
          by_cases hj2 : j = j0
          · subst hj2
            have e1 := byte_eq s[k] by'[j] HJE.out.symm
            go_wp2
            go_quiet (fail)
            have hsz := hbel2.size
            have hown3 := own_drewN hown2 nq
            have hbel3 := below_drewN hbel2 nq
            generalize wr.drewN nq = wq at *
            have hsq := hbel3.size
            go_wp2_with (at_builtin; refine wpList_append_own _ rfl _ _ 60 rfl w.heap.size 9 i0 (.string ByteArray.empty) 1 16 Tryd.underlying60 hi hz0 hz1 hz2 rfl (by decide) _ _ _ rfl (hown3.alloc _) ⟨wq.heap.size, 0, none⟩ 1 1 [.string (s.extract fr k)] rfl rfl ?c1 ?c2 ?c3 ?c4 ?c5 ?_)
            case c1 => exact cell_new1 _ _ _
            case c2 => intro u hu; simp at hu; subst hu; rfl
            case c3 => unfold maxLen; omega
            case c4 => omega
            case c5 => simp; omega
            intro v' w1 hown' hgrow _
            have hb4 : Below w.heap.size w w1 := (hbel3.alloc hsq _).grown hgrow (by simp; omega) (fun g hg => (hown3.lt g hg).1)
            go_wp2
            go_roundw
            case rel => exact ⟨k + 1, by omega, by go_num, by rw [HS.out]; go_num, by rw [HS.out]; simpa using hown', hb4⟩
            case measure => simp [intOf]; omega
          · have e1 := byte_ne s[k] by'[j] (fun e => HJN.out j hjs (by omega) e.symm)
            go_wp2
            go_quiet (fail)
            go_wp2
            go_roundw
            case rel => exact ⟨j + 1, by omega, rfl, rfl, by go_num, hown2, hbel2.trans ⟨rfl, rfl, rfl, Nat.le_refl _, fun _ _ => rfl⟩⟩
            case measure => simp [intOf]; omega
      | false =>
        have HS := Lib.hid (sp_miss s by' k hlt hh)
        have HM := Lib.hid (miss_all by' s[k] hh)
        clear hh
        generalize hq : sp s by' k = q at *
        clear hq
        obtain ⟨out, fr⟩ := q
        simp only at hown hlen1 hlen2
        obtain ⟨wo, rfl⟩ : ∃ wo : World, wo = wr := ⟨_, rfl⟩
        go_wp2
        go_loopw [5, 6, 8] (fun x f i wr => ∃ j : Nat, j ≤ by'.size ∧ x = v ∧ f = .int .i64 (fr : Nat) ∧ i = .int .i64 j ∧ wr.ownsRow w.heap.size 9 1 v out.length (out.map Value.string) ∧ Below w.heap.size w wr) (fun _ _ i _ => by'.size - (intOf i).toNat)
        case atStart => exact ⟨0, Nat.zero_le _, rfl, rfl, rfl, hown, hbel⟩
        case round =>
          obtain ⟨j, hj, rfl, rfl, rfl, hown2, hbel2⟩ := hrel
          by_cases hjs : j < by'.size
          · have e1 := byte_ne s[k] by'[j] (fun e => HM.out j hjs e.symm)
            go_wp2
            go_quiet (fail)
            go_wp2
            go_roundw
            case rel => exact ⟨j + 1, by omega, rfl, rfl, by go_num, hown2, hbel2.trans ⟨rfl, rfl, rfl, Nat.le_refl _, fun _ _ => rfl⟩⟩
            case measure => simp [intOf]; omega
          · go_wp2
            go_roundw
            case rel => exact ⟨k + 1, by omega, by go_num, by rw [HS.out], by rw [HS.out]; exact hown2, hbel2⟩
            case measure => simp [intOf]; omega
    · have hks : k = s.size := by omega
      have HQ := Lib.hid (show split s by' = (sp s by' k).1 ++ [s.extract (sp s by' k).2 s.size] by rw [hks]; rfl)
      clear hks
      generalize (sp s by' k).1 = out at *
      generalize (sp s by' k).2 = fr at *
      have hsq := hbel.size
      go_wp2_with (at_builtin; refine wpList_append_own _ rfl _ _ 60 rfl w.heap.size 9 i0 (.string ByteArray.empty) 1 16 Tryd.underlying60 hi hz0 hz1 hz2 rfl (by decide) _ _ _ rfl (hown.alloc _) ⟨wr.heap.size, 0, none⟩ 1 1 [.string (s.extract fr s.size)] rfl rfl ?d1 ?d2 ?d3 ?d4 ?d5 ?_)
      case d1 => exact cell_new1 _ _ _
      case d2 => intro u hu; simp at hu; subst hu; rfl
      case d3 => unfold maxLen; omega
      case d4 => omega
      case d5 => simp; omega
      intro v' w1 hown' hgrow _
      have hb4 : Below w.heap.size w w1 := (hbel.alloc hsq _).grown hgrow (by simp; omega) (fun g hg => (hown.lt g hg).1)
      go_wp2
      go_ret
      exact Gives.mk' hown' (by rw [HQ.out]; simp) (by rw [HQ.out]; simp) hb4
end Go.Proofs.YtbdehelcpfkcmaaDoor
