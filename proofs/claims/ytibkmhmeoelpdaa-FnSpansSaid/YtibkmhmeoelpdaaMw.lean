/- The contracts of slices.Grow (of nil) and of slices.Concat (of two rows that are not empty) at half planes, over the translation. What MeetRegions and CutRegion answer, and the contracts of the program's functions over the translation. The contracts of the model's MeetRegions over the translation. The contract of the model's MeetRegions over the translation. Marks that begin at any number, and the walk of the law of MeetRegions. -/
import Derived.Test.YtibkmhmeoelpdaaWm
import Derived.Lib.AppendZerosOnto
import Derived.Lib.Walk
import Derived.Lib.SliceRun
namespace Go.Proofs.Ytibkmhmeoelpdaa
open Go.RowKit
open Geo (H3)

theorem zero_cells_size (z : Array Value) (k : Nat) : (Builtin.zeroCells z k).size = k * z.size := by
  unfold Builtin.zeroCells
  induction k with
  | zero => simp
  | succ k ih => simp_all [Nat.add_mul]
theorem own3_room (w : World) (B e : Nat) (cs : Array Value) (c : Nat) (hc : cs.size = c * 3) (hm : c ≤ maxLen) (hB : B ≤ w.heap.size) : (w.alloc (.cells cs e)).ownsRow B e 3 (.slice (some ⟨w.heap.size, 0, none⟩) 0 c) 0 (flat []) :=
  ⟨by simp [flat], .inr ⟨w.heap.size, c, cs, rfl, hB, heap_alloc_new w _, Nat.zero_le _, hm, hc, by simp [flat]⟩⟩
/-- a new row of half planes is handed back -/
def CatW (w : World) (hs : List H3) (e : Ending) (w' : World) : Prop := ∃ ao cp, e = .returned (.slice ao hs.length cp) ∧ w'.ownsRow w.heap.size 60 3 (.slice ao hs.length cp) hs.length (flat hs) ∧ Below w.heap.size w w'
def preC (hs ks : List H3) (k : Nat) : List H3 := if k = 0 then [] else if k = 1 then hs else hs ++ ks
theorem rok_reg {hs : List H3} (h : rokB hs = true) (n : hs ≠ []) : regL hs = hs := by
  unfold rokB at h
  rw [Bool.or_eq_true, decide_eq_true_eq, Bool.and_eq_true] at h
  rcases h with h | ⟨h, k⟩
  · exact absurd h n
  · unfold sameB regE at k
    rw [if_pos h] at k
    simpa using (by simpa using k : hs = regL hs).symm
theorem rok_len {hs : List H3} (h : rokB hs = true) : hs.length ≤ 40 := by
  unfold rokB at h
  rw [Bool.or_eq_true, decide_eq_true_eq, Bool.and_eq_true] at h
  rcases h with rfl | ⟨h, _⟩
  · simp
  · unfold okF at h
    simp only [Bool.and_eq_true, decide_eq_true_eq] at h
    exact h.1.1
theorem rok_allB {hs : List H3} (h : rokB hs = true) : hs.all okB = true := List.all_eq_true.2 (rok_all h)
theorem reg_more {hs ks : List H3} (h : rokB hs = true) (n : hs ≠ []) : (regL (hs ++ ks)).length ≤ hs.length + ks.length := by
  have e : regL (hs ++ ks) = ks.foldl Geo.cutL (regL hs) := by unfold regL; rw [List.foldl_append]
  rw [e, rok_reg h n]
  exact Geo.fold_len _ _
theorem okF_more {hs ks : List H3} (h : rokB hs = true) (n : hs ≠ []) (k : ks.all okB = true) : okF (hs ++ ks) = decide (hs.length + ks.length ≤ 40) := by
  have l := reg_more (ks := ks) h n
  unfold okF
  rw [List.all_append, rok_allB h, k, List.length_append]
  by_cases q : hs.length + ks.length ≤ 40
  · have : (regL (hs ++ ks)).length ≤ 40 := by omega
    simp [q, this]
  · simp [q]
theorem in64_app {hs ks : List H3} (a : ∀ h ∈ hs, In64 h) (b : ∀ h ∈ ks, In64 h) : ∀ h ∈ hs ++ ks, In64 h := by
  intro x hx
  rcases List.mem_append.1 hx with h | h
  · exact a x h
  · exact b x h
/-- a new region and a bool are handed back -/
def AnsR (w : World) (L : List H3) (b : Bool) (e : Ending) (w' : World) : Prop := ∃ ao cp, e = .returned (.tuple #[.agg #[.slice ao L.length cp], .bool b]) ∧ w'.ownsRow w.heap.size 60 3 (.slice ao L.length cp) L.length (flat L) ∧ Below w.heap.size w w'
theorem AnsR.no {w w' : World} {L : List H3} {b c : Bool} (h : L = []) (k : b = c) (hb : Below w.heap.size w w') : AnsR w L b (.returned (.tuple #[.agg #[.slice none 0 0], .bool c])) w' := by
  subst h; subst k
  exact ⟨none, 0, rfl, own3_none, hb⟩
theorem AnsR.yes {w w' : World} {L M : List H3} {b c : Bool} {ao : Option Addr} {m cp : Nat} (h : M = L) (k : b = c) (ho : w'.ownsRow w.heap.size 60 3 (.slice ao m cp) m (flat M)) (hb : Below w.heap.size w w') : AnsR w L b (.returned (.tuple #[.agg #[.slice ao m cp], .bool c])) w' := by
  subst h; subst k
  obtain rfl := (own3_view ho).1
  exact ⟨ao, cp, rfl, ho, hb⟩
/-- whether MeetRegions answers, and with which edges -/
def metB (ps qs : List H3) : Bool := rokB ps && rokB qs && decide (ps.length + qs.length ≤ 40)
def metL (ps qs : List H3) : List H3 := if metB ps qs = true ∧ ps ≠ [] ∧ qs ≠ [] then regL (ps ++ qs) else []
theorem met_no1 {ps qs : List H3} (h : rokB ps = false) : metL ps qs = [] ∧ metB ps qs = false := by
  have : metB ps qs = false := by unfold metB; rw [h]; rfl
  exact ⟨by unfold metL; simp [this], this⟩
theorem met_no2 {ps qs : List H3} (h : rokB qs = false) : metL ps qs = [] ∧ metB ps qs = false := by
  have : metB ps qs = false := by unfold metB; rw [h]; simp
  exact ⟨by unfold metL; simp [this], this⟩
theorem met_void {ps qs : List H3} (h : rokB ps = true) (k : rokB qs = true) (n : ps = [] ∨ qs = []) : metL ps qs = [] ∧ metB ps qs = true := by
  have a := rok_len h
  have b := rok_len k
  refine ⟨?_, ?_⟩
  · unfold metL; rw [if_neg]; rintro ⟨_, h1, h2⟩; rcases n with n | n <;> contradiction
  · unfold metB; rw [h, k]
    have : ps.length + qs.length ≤ 40 := by rcases n with rfl | rfl <;> simp <;> omega
    simp [this]
theorem met_yes {ps qs : List H3} (h : rokB ps = true) (k : rokB qs = true) (n : ps ≠ []) (m : qs ≠ []) : metL ps qs = regE (ps ++ qs) ∧ metB ps qs = okF (ps ++ qs) := by
  have e := okF_more h n (rok_allB k)
  have e2 : metB ps qs = okF (ps ++ qs) := by rw [e]; unfold metB; rw [h, k]; rfl
  refine ⟨?_, e2⟩
  unfold metL regE
  rw [e2]
  by_cases q : okF (ps ++ qs) = true
  · rw [if_pos ⟨q, n, m⟩, if_pos q]
  · rw [if_neg (fun z => q z.1), if_neg q]
theorem len_ne {hs : List H3} {n : Nat} (hl : hs.length = n) (h : n ≠ 0) : hs ≠ [] := by rintro rfl; simp at hl; omega
theorem len_nil {hs : List H3} {n : Nat} (hl : hs.length = n) (h : n = 0) : hs = [] := List.eq_nil_of_length_eq_zero (by omega)
theorem box_one {U : World} {b : Nat} (h : U.heap.size = b) (v : Value) (T : TypeId) : (U.alloc (.cells #[v] T)).cell? ⟨b, 0, none⟩ = some v ∧ (U.alloc (.cells #[v] T)).frozen? ⟨b, 0, none⟩ = false := by
  subst h
  exact ⟨cell_of_row _ _ 0 _ _ _ (heap_alloc_new U _), frozen_of_row _ _ 0 _ _ (heap_alloc_new U _)⟩
theorem box_two (w : World) (a b : Value) (T : TypeId) : (w.alloc (.cells #[a, b] T)).cell? ⟨w.heap.size, 0, none⟩ = some a ∧ (w.alloc (.cells #[a, b] T)).cell? ⟨w.heap.size, 1, none⟩ = some b :=
  ⟨cell_of_row _ _ 0 _ _ _ (heap_alloc_new w _), cell_of_row _ _ 1 _ _ _ (heap_alloc_new w _)⟩
def lmL (ps qs : List H3) : List H3 := if ps = [] ∨ qs = [] then [] else regL (ps ++ qs)
theorem MakW.no {w w' : World} {L : List H3} (h : L = []) (hb : Below w.heap.size w w') : MakW w L (.returned (.agg #[.slice none 0 0])) w' := by
  subst h; exact ⟨none, 0, rfl, own3_none, hb⟩
theorem MakW.yes {w w' : World} {L M : List H3} {ao : Option Addr} {m cp : Nat} (h : M = L) (ho : w'.ownsRow w.heap.size 60 3 (.slice ao m cp) m (flat M)) (hb : Below w.heap.size w w') : MakW w L (.returned (.agg #[.slice ao m cp])) w' := by
  subst h; exact MakW.of ho hb
theorem grown_cell {V X : World} {row : Option Nat} {p : Addr} {u : Value} (h : V.cell? p = some u) (hg : V.grownBy X row) (hne : ∀ q, row = some q → q ≠ p.block) : X.cell? p = some u :=
  cell_far h hg (fun e => hne _ e.symm rfl)
theorem two_set {V X : World} {p q r : Addr} {a b u : Value} (h : V.cell? p = some a) (k : V.cell? q = some b) (hb : Below V.heap.size V X) (h1 : r.block ≠ p.block) (h2 : r.block ≠ q.block) : (X.setCell r u).cell? p = some a ∧ (X.setCell r u).cell? q = some b :=
  ⟨(World.cell?_setCell_far X r p u h1).trans (cell_to h hb), (World.cell?_setCell_far X r q u h2).trans (cell_to k hb)⟩
theorem met_big {ps qs : List H3} {n m : Nat} (hl : ps.length = n) (hk : qs.length = m) (h : ¬ n + m ≤ 40) : metL ps qs = [] ∧ metB ps qs = false := by
  have : metB ps qs = false := by unfold metB; rw [hl, hk]; simp [h]
  exact ⟨by unfold metL; simp [this], this⟩
theorem met_lm {ps qs : List H3} {n m : Nat} (hl : ps.length = n) (hk : qs.length = m) (p : rokB ps = true) (q : rokB qs = true) (h : n + m ≤ 40) : lmL ps qs = metL ps qs ∧ metB ps qs = true := by
  have e : metB ps qs = true := by unfold metB; rw [p, q, hl, hk]; simp [h]
  refine ⟨?_, e⟩
  unfold lmL metL
  by_cases k : ps = [] ∨ qs = []
  · rw [if_pos k, if_neg]; rintro ⟨_, h1, h2⟩; rcases k with k | k <;> contradiction
  · rw [if_neg k, if_pos ⟨e, fun z => k (.inl z), fun z => k (.inr z)⟩]
end Go.Proofs.Ytibkmhmeoelpdaa
