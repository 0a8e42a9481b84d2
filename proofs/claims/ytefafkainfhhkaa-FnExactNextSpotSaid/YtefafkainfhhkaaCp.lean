/- copy within a row of the call's own whose elements take several cells. -/
import Derived.Test.YtefafkainfhhkaaRw
import Derived.Laws.CopyOwn
namespace Go.Proofs.Ytefafkainfhhkaa
open Go.RowKit
open Geo (H3)

theorem run_copyN {P : Program} (w : World) (dT sT ty elem : TypeId) (sz : Nat) (hu : P.underlying dT = some (.slice elem)) (hs : (P.info? elem).map (·.size) = some sz)
    (dp sp : Option Addr) (dLen dCap sLen sCap g off : Nat) (cur : Array Value) (t : TypeId) (hg : w.heap[g]? = some (.cells cur t (0, 0))) (m : Nat) (hm : Nat.min sLen dLen = m) (cs : List Value) (hn : cs.length = m * sz)
    (hpos : 0 < m → dp = some ⟨g, off, none⟩ ∧ ∃ ad, sp = some ad ∧ ∀ j v, cs[j]? = some v → w.cell? (ad.add j) = some v) (hfit : off + cs.length ≤ cur.size) (h1 : ∀ v ∈ cs, v.oneCell' = true) :
    (Builtin.copy_ #[dT, sT] ty #[.slice dp dLen dCap, .slice sp sLen sCap]).run P w = .ok (goInt m) (w.setRow g (cur.toList.take off ++ cs ++ cur.toList.drop (off + cs.length)).toArray) := by
  cases hq : P.info? elem with
  | none => simp [hq] at hs
  | some i =>
    have hi : i.size = sz := by simpa [hq] using hs
    have hsl : sLen.min dLen = m := hm
    rcases Nat.eq_zero_or_pos m with h0 | h0
    · subst h0
      have hc : cs = [] := List.eq_nil_of_length_eq_zero (by simpa using hn)
      subst hc
      have hself : w.setRow g (cur.toList.take off ++ [] ++ cur.toList.drop (off + ([] : List Value).length)).toArray = w := by
        simp only [List.append_nil, List.length_nil, Nat.add_zero, List.take_append_drop, Array.toArray_toList]
        exact setRow_self w g cur t (0, 0) hg
      rw [hself]
      cases dp <;> cases sp <;> simp [Builtin.copy_, run_underlying hu, Builtin.lenOf, Builtin.firstCells, sizeOf, typeInfo, hq, hsl, storeCells, loadCells, loadCellsFrom]
    · obtain ⟨rfl, ad, rfl, hsrc⟩ := hpos h0
      have hl := run_loadCells_list (P := P) w ad cs hsrc
      have hst := run_storeCells_at P g off t cs 0 cur w hg (by simpa using hfit) h1
      simp [Builtin.copy_, run_underlying hu, Builtin.lenOf, Builtin.firstCells, sizeOf, typeInfo, hq, hi, hsl, ← hn, hl, hst]
theorem step_copyN {P : Program} {ops : Array Oper} {o : Oper} {a : Act} {w : World} {K : Act → World → Prop} {Q : Exit → Act → World → Prop} {E : Prop} (hgd : o.guard = none) (d s : Operand) (dT sT : TypeId)
    (ho : o.op = .call { callee := .builtin .copy, args := #[d, s], argTypes := #[dT, sT] }) (elem : TypeId) (sz : Nat) (hu : P.underlying dT = some (.slice elem)) (hsz : (P.info? elem).map (·.size) = some sz)
    (dp sp : Option Addr) (dLen dCap sLen sCap : Nat) (hd : a.eval d = .slice dp dLen dCap) (hs : a.eval s = .slice sp sLen sCap)
    (g off : Nat) (cur : Array Value) (t : TypeId) (hg : w.heap[g]? = some (.cells cur t (0, 0))) (m : Nat) (hm : Nat.min sLen dLen = m) (cs : List Value) (hn : cs.length = m * sz)
    (hpos : 0 < m → dp = some ⟨g, off, none⟩ ∧ ∃ ad, sp = some ad ∧ ∀ j v, cs[j]? = some v → w.cell? (ad.add j) = some v) (hfit : off + cs.length ≤ cur.size) (h1 : ∀ v ∈ cs, v.oneCell' = true)
    (h : K (a.put o.dst (goInt m)) (w.setRow g (cur.toList.take off ++ (cs ++ cur.toList.drop (off + cs.length))).toArray)) :
    if Region.wanted o (yielded ops a.tmps) = true then Oper.wp P o a w K Q else E := by
  have hw : Region.wanted o (yielded ops a.tmps) = true := by simp [Region.wanted, hgd]
  rw [if_pos hw]
  have hrun := run_copyN (P := P) w dT sT o.type elem sz hu hsz dp sp dLen dCap sLen sCap g off cur t hg m hm cs hn hpos hfit h1
  unfold Oper.wp
  simp [execOp, ho, resolve, invoke, builtin, hd, hs, hrun, Result.andThen]
  exact h
theorem flat_drop (hs : List H3) (k : Nat) : flat (hs.drop k) = (flat hs).drop (k * 3) := by
  induction hs generalizing k with
  | nil => simp [flat]
  | cons h hs ih =>
    cases k with
    | zero => simp
    | succ k => rw [List.drop_succ_cons, ih, flat_cons, show (k + 1) * 3 = k * 3 + 1 + 1 + 1 by omega, List.drop_succ_cons, List.drop_succ_cons, List.drop_succ_cons]
/-- what is owned behind the tail's copy: element i is there twice -/
theorem own_shift {w : World} {B g n cap : Nat} {e : TypeId} {L : List H3} {cur : Array Value} {i r : Nat} (hr : r + (i + 1) = n) (hg : B ≤ g) (hh : w.heap[g]? = some (.cells cur e (0, 0))) (hc : n ≤ cap) (hm : cap ≤ maxLen) (hs : cur.size = cap * 3) (ht : cur.toList.take (n * 3) = flat L) (hl : L.length = n) :
    (w.setRow g (cur.toList.take ((i + 1) * 3) ++ (flat ((L.drop i).take r) ++ cur.toList.drop ((i + 1) * 3 + (flat ((L.drop i).take r)).length))).toArray).ownsRow B e 3 (.slice (some ⟨g, 0, none⟩) n cap) n (flat (L.take (i + 1) ++ (L.drop i).take r)) := by
  have hl2 : ((L.drop i).take r).length = r := by rw [List.length_take, List.length_drop]; omega
  have ht2 : flat (L.take (i + 1)) = cur.toList.take ((i + 1) * 3) := by rw [flat_take, ← ht, List.take_take, show min ((i + 1) * 3) (n * 3) = (i + 1) * 3 by omega]
  have hg2 := flat_len ((L.drop i).take r)
  rw [hl2] at hg2
  rw [flat_app, ht2]
  generalize flat ((L.drop i).take r) = G at *
  refine ⟨by rw [List.length_append, List.length_take, Array.length_toList, hg2]; omega, .inr ⟨g, cap, _, rfl, hg, setRow_heap w g cur _ e _ hh, hc, hm, ?_, ?_⟩⟩
  · simp only [List.size_toArray, List.length_append, List.length_take, List.length_drop, Array.length_toList, hg2]; omega
  · rw [List.toList_toArray, ← List.append_assoc]
    rw [List.take_append_of_le_length (by simp only [List.length_append, List.length_take, Array.length_toList, hg2]; omega)]
    exact List.take_of_length_le (by simp only [List.length_append, List.length_take, Array.length_toList, hg2]; omega)
/-- the cells of the tail -/
theorem tail_cells {w : World} {g n i m : Nat} {e : TypeId} {L : List H3} {cur : Array Value} (hh : w.heap[g]? = some (.cells cur e (0, 0))) (ht : cur.toList.take (n * 3) = flat L) :
    ∀ j v, (flat ((L.drop i).take m))[j]? = some v → w.cell? ((⟨g, i * 3, none⟩ : Addr).add j) = some v := by
  intro j v h
  rw [addr_add, cell_of_row w g (i * 3 + j) cur e (0, 0) hh]
  rw [flat_take, flat_drop, List.getElem?_take] at h
  split at h
  · rw [List.getElem?_drop, ← ht, List.getElem?_take] at h
    split at h
    · simpa using h
    · cases h
  · cases h
theorem flat_one (hs : List H3) : ∀ v ∈ flat hs, v.oneCell' = true := by
  intro v h
  unfold flat trip at h
  rw [List.mem_flatMap] at h
  obtain ⟨x, _, h⟩ := h
  simp at h
  rcases h with rfl | rfl | rfl <;> rfl
end Go.Proofs.Ytefafkainfhhkaa
