/- The contracts of the program's slices.Clone of half planes and of its moveRegion, whatever function value moves the edges, over the translation. What ShiftRegion answers, and the contracts of the model's functions over the translation. ShiftRegion of the program and of the model over the translation. -/
import Derived.Test.YtibkmhmeoelpdaaMw
import Derived.Shelf.Abstract
namespace Go.Proofs.Ytibkmhmeoelpdaa
open Go.RowKit
open Geo (H3)
open Go.RowKit Go.Shelf

theorem eql_nil {P : Program} (w : World) {t e : TypeId} (a : Option Addr) (l c : Nat) (h : P.underlying t = some (.slice e)) : (binOp .eql t (.slice a l c) (.slice none 0 0)).run P w = .ok (.bool a.isNone) w := by
  have h' : ∀ d : Nat, (Op.equalIn (d + 1) t (.slice a l c) (.slice none 0 0)).run P w = .ok a.isNone w := fun d => by
    cases a <;> simp [Op.equalIn, run_underlying h]
  simp only [binOp]
  simp [Op.equal, Op.maxDepth, h' 9999]
/-- a region whose edges are moved, cut by further half planes: its edges, and whether there is one -/
def mvB (B : H3 → Bool) (M : H3 → H3) (fu ps : List H3) : Bool := decide (ps = []) || (ps.all B && okF (fu ++ ps.map M))
def mvL (B : H3 → Bool) (M : H3 → H3) (fu ps : List H3) : List H3 := if mvB B M fu ps = true ∧ ps ≠ [] then regL (fu ++ ps.map M) else []
theorem mv_nil {B : H3 → Bool} {M : H3 → H3} {fu ps : List H3} (h : ps = []) : mvL B M fu ps = [] ∧ mvB B M fu ps = true := by
  subst h; exact ⟨by simp [mvL], by simp [mvB]⟩
theorem mv_no {B : H3 → Bool} {M : H3 → H3} {fu ps : List H3} {k : Nat} {x : H3} (h : ps[k]? = some x) (n : B x = false) : mvL B M fu ps = [] ∧ mvB B M fu ps = false := by
  have e : mvB B M fu ps = false := by
    unfold mvB
    have : ps.all B = false := by rw [List.all_eq_false]; exact ⟨x, List.mem_of_getElem? h, by simp [n]⟩
    rw [this]
    have : ps ≠ [] := by rintro rfl; simp at h
    simp [this]
  exact ⟨by unfold mvL; simp [e], e⟩
theorem mv_yes {B : H3 → Bool} {M : H3 → H3} {fu ps : List H3} (n : ps ≠ []) (h : ps.all B = true) : mvL B M fu ps = regE (fu ++ ps.map M) ∧ mvB B M fu ps = okF (fu ++ ps.map M) := by
  have e : mvB B M fu ps = okF (fu ++ ps.map M) := by unfold mvB; rw [h]; simp [n]
  refine ⟨?_, e⟩
  unfold mvL regE
  rw [e]
  by_cases q : okF (fu ++ ps.map M) = true
  · rw [if_pos ⟨q, n⟩, if_pos q]
  · rw [if_neg (fun z => q z.1), if_neg q]
theorem mv_step {M : H3 → H3} {fu ps : List H3} {k : Nat} {x : H3} (h : ps[k]? = some x) : fu ++ (ps.take (k + 1)).map M = (fu ++ (ps.take k).map M) ++ [M x] := by
  rw [List.take_add_one, h]; simp
theorem mv_take {B : H3 → Bool} {ps : List H3} {k : Nat} {x : H3} (h : ps[k]? = some x) (y : B x = true) (t : (ps.take k).all B = true) : (ps.take (k + 1)).all B = true := by
  rw [List.take_add_one, h, List.all_append, t]; simp [y]
/-- a half plane in lowest terms, zeros if it is not valid -/
def redH (a b c : Int) : H3 := ⟨kp (hasH a b c) (a.tdiv (gS a b c)), kp (hasH a b c) (b.tdiv (gS a b c)), kp (hasH a b c) (c.tdiv (gS a b c))⟩
theorem ans_red (a b c : Int) : ansH a b c = .tuple #[.agg #[.int .i64 (redH a b c).a, .int .i64 (redH a b c).b, .int .i64 (redH a b c).c], .bool (hasH a b c)] := rfl
theorem red_ok {a b c : Int} (h : hasH a b c = true) : okB (redH a b c) = true := by
  unfold redH okB
  rw [h]
  unfold hasH at h
  rw [Bool.and_eq_true] at h
  exact h.2
theorem ok_in64 {h : H3} (k : okB h = true) : In64 h := by
  obtain ⟨a1, a2, b1, b2, _, c1, c2, _⟩ := (okH_iff _ _ _).1 k
  exact ⟨⟨by omega, by omega⟩, ⟨by omega, by omega⟩, by omega, by omega⟩
theorem map_ok {B : H3 → Bool} {M : H3 → H3} (hM : ∀ h, B h = true → okB (M h) = true) {ps : List H3} (h : ps.all B = true) : (ps.map M).all okB = true := by
  rw [List.all_eq_true]
  intro x hx
  obtain ⟨y, hy, rfl⟩ := List.mem_map.1 hx
  exact hM y (List.all_eq_true.1 h y hy)
theorem AnsR.from {w V w' : World} {hs L : List H3} {b : Bool} {ao : Option Addr} {cp : Nat} (hL : L = regE hs) (hb : b = okF hs) (ho : w'.ownsRow V.heap.size 60 3 (.slice ao (regE hs).length cp) (regE hs).length (flat (regE hs))) (hV : w.heap.size ≤ V.heap.size) (hbl : Below w.heap.size w w') : AnsR w L b (.returned (.tuple #[.agg #[.slice ao (regE hs).length cp], .bool (okF hs)])) w' := by
  subst hL; subst hb
  exact ⟨ao, cp, rfl, own_base ho hV, hbl⟩
/-- an edge that is moved by whole numbers -/
def shB (dx dy : Int) (h : H3) : Bool := hasH h.a h.b (h.c + h.a * dx + h.b * dy)
def shM (dx dy : Int) (h : H3) : H3 := redH h.a h.b (h.c + h.a * dx + h.b * dy)
theorem sh_ok (dx dy : Int) (h : H3) (k : shB dx dy h = true) : okB (shM dx dy h) = true := red_ok k
def In2k (d : Int) : Prop := -2000 ≤ d ∧ d ≤ 2000
theorem sh_in {dx dy : Int} (hx : In2k dx) (hy : In2k dy) {h : H3} (k : okB h = true) : (-100000000 ≤ h.a * dx ∧ h.a * dx ≤ 100000000) ∧ (-100000000 ≤ h.b * dy ∧ h.b * dy ≤ 100000000) ∧ (-50000 ≤ h.a ∧ h.a ≤ 50000) ∧ (-50000 ≤ h.b ∧ h.b ≤ 50000) ∧ (-100000000 ≤ h.c ∧ h.c ≤ 100000000) := by
  obtain ⟨a1, a2, b1, b2, _, c1, c2, _⟩ := (okH_iff _ _ _).1 k
  have m1 := mul_in h.a dx 50000 2000 a1 a2 hx.1 hx.2
  have m2 := mul_in h.b dy 50000 2000 b1 b2 hy.1 hy.2
  omega
/-- what ShiftRegion answers -/
def shiB (ps : List H3) (dx dy : Int) : Bool := inB dx (-2000) 2000 && inB dy (-2000) 2000 && rokB ps && mvB (shB dx dy) (shM dx dy) [] ps
def shiL (ps : List H3) (dx dy : Int) : List H3 := if inB dx (-2000) 2000 = true ∧ inB dy (-2000) 2000 = true ∧ rokB ps = true then mvL (shB dx dy) (shM dx dy) [] ps else []
theorem shi_no {ps : List H3} {dx dy : Int} (h : inB dx (-2000) 2000 = false ∨ inB dy (-2000) 2000 = false ∨ rokB ps = false) : shiL ps dx dy = [] ∧ shiB ps dx dy = false := by
  refine ⟨?_, ?_⟩
  · unfold shiL; rw [if_neg]; rintro ⟨a, b, c⟩; rcases h with h | h | h <;> simp_all
  · unfold shiB; rcases h with h | h | h <;> simp [h]
theorem shi_yes {ps : List H3} {dx dy : Int} (h1 : inB dx (-2000) 2000 = true) (h2 : inB dy (-2000) 2000 = true) (h3 : rokB ps = true) : shiL ps dx dy = mvL (shB dx dy) (shM dx dy) [] ps ∧ shiB ps dx dy = mvB (shB dx dy) (shM dx dy) [] ps :=
  ⟨if_pos ⟨h1, h2, h3⟩, by unfold shiB; rw [h1, h2, h3]; simp⟩
theorem in2_of {d : Int} (h : inB d (-2000) 2000 = true) : In2k d := by unfold inB at h; simpa [In2k] using h
theorem mvL_len (B : H3 → Bool) (M : H3 → H3) (fu ps : List H3) : (mvL B M fu ps).length ≤ 40 := by
  unfold mvL
  split
  · rename_i h
    obtain ⟨h, n⟩ := h
    unfold mvB at h
    simp only [n, decide_false, Bool.false_or, Bool.and_eq_true] at h
    unfold okF at h
    simp only [Bool.and_eq_true, decide_eq_true_eq] at h
    exact h.2.2
  · simp
theorem AnsR.to {w V w' : World} {L M : List H3} {b c : Bool} {e : Ending} (h : AnsR V M c e w') (hL : L = M) (hb : b = c) (hV : Below w.heap.size w V) : AnsR w L b e w' := by
  subst hL; subst hb
  obtain ⟨ao, cp, e1, ho, hbl⟩ := h
  exact ⟨ao, cp, e1, own_base ho hV.size, below_to hV hbl⟩
theorem AnsR.put {w V w' : World} {L M : List H3} {b c : Bool} {ao : Option Addr} {m cp : Nat} {p : Addr} (ho : w'.ownsRow V.heap.size 60 3 (.slice ao m cp) m (flat M)) (hL : L = M) (hb : b = c) (hV : Below w.heap.size w V) (hbl : Below V.heap.size V w') (hp : p.block < V.heap.size) (hw : w.heap.size ≤ p.block) : AnsR w L b (.returned (.tuple #[.agg #[.slice ao m cp], .bool c])) (w'.setCell p (.slice ao m cp)) :=
  AnsR.yes hL.symm hb (own_base (own_far ho hp _) hV.size) ((below_to hV hbl).setCell hw _)
end Go.Proofs.Ytibkmhmeoelpdaa
