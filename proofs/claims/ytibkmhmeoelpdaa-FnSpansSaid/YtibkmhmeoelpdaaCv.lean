/- The contracts of both CornersOf functions over the translation, and the walk of their law. The contracts of the model's CornersOf over the translation. The walk of the law of CornersOf. -/
import Derived.Test.YtibkmhmeoelpdaaWm
namespace Go.Proofs.Ytibkmhmeoelpdaa
open Go.RowKit
open Geo (H3)

theorem Try.info31 : (Try.prog.info? 139).map (fun i => (i.zero, i.size, i.bytes)) = some (some (.agg #[.int .i64 0, .int .i64 0, .int .i64 0]), 3, 24) := by kernel_rfl
theorem crn_ex (f g : H3) : ∃ (p : H3) (B : Bool), crsV f.a f.b f.c g.a g.b g.c = .tuple #[.agg #[.int .i64 p.a, .int .i64 p.b, .int .i64 p.c], .bool B] := by
  obtain ⟨X, Y, D, B, h⟩ := crsV_ex f.a f.b f.c g.a g.b g.c
  exact ⟨⟨X, Y, D⟩, B, h⟩
/-- where two borders cross -/
noncomputable def crn (f g : H3) : H3 := Classical.choose (crn_ex f g)
theorem crn_eq (f g : H3) : ∃ B : Bool, crsV f.a f.b f.c g.a g.b g.c = .tuple #[.agg #[.int .i64 (crn f g).a, .int .i64 (crn f g).b, .int .i64 (crn f g).c], .bool B] := Classical.choose_spec (crn_ex f g)
/-- the first crossings of a region's edges -/
noncomputable def corL (hs : List H3) (k : Nat) : List H3 := (List.range k).map fun i => crn (atI hs i) (atI hs ((i + 1) % hs.length))
theorem corL_next (hs : List H3) (k : Nat) : corL hs (k + 1) = corL hs k ++ [crn (atI hs k) (atI hs ((k + 1) % hs.length))] := by
  unfold corL; rw [List.range_succ]; simp
theorem corL_len (hs : List H3) (k : Nat) : (corL hs k).length = k := by simp [corL]
/-- the corners of a region -/
noncomputable def corR (hs : List H3) : List H3 := if rokB hs = true then corL hs hs.length else []
/-- a new row of spots is handed back -/
def SpW (w : World) (ps : List H3) (e : Ending) (w' : World) : Prop := ∃ ao cp, e = .returned (.slice ao ps.length cp) ∧ w'.ownsRow w.heap.size 139 3 (.slice ao ps.length cp) ps.length (flat ps) ∧ Below w.heap.size w w'
theorem SpW.no {w w' : World} {hs : List H3} (h : rokB hs = false) (hb : Below w.heap.size w w') : SpW w (corR hs) (.returned (.slice none 0 0)) w' := by
  unfold corR; rw [if_neg (by rw [h]; simp)]
  exact ⟨none, 0, rfl, own3_none, hb⟩
theorem SpW.yes {w w' : World} {hs : List H3} {n cp : Nat} {ao : Option Addr} (h : rokB hs = true) (hl : hs.length = n) (ho : w'.ownsRow w.heap.size 139 3 (.slice ao n cp) n (flat (corL hs n))) (hb : Below w.heap.size w w') : SpW w (corR hs) (.returned (.slice ao n cp)) w' := by
  subst hl
  unfold corR; rw [if_pos h]
  unfold SpW; rw [corL_len]
  exact ⟨ao, cp, rfl, ho, hb⟩
theorem bl_next {W X Y : World} (h : Below W.heap.size W X) (k : Below X.heap.size X Y) : Below W.heap.size W Y := below_to h k
theorem cor_at {hs : List H3} {n k : Nat} {x y : H3} (hl : hs.length = n) (hx : hs[k]? = some x) (hy : hs[(k + 1) % n]? = some y) : corL hs (k + 1) = corL hs k ++ [crn x y] := by
  rw [corL_next, hl, atI_of hx, atI_of hy]
theorem sevenc {V X : World} {p1 p2 p3 p4 p5 p6 p7 : Addr} {a1 a2 a3 a4 a5 a6 a7 : Value} (h1 : V.cell? p1 = some a1) (h2 : V.cell? p2 = some a2) (h3 : V.cell? p3 = some a3) (h4 : V.cell? p4 = some a4) (h5 : V.cell? p5 = some a5) (h6 : V.cell? p6 = some a6) (h7 : V.cell? p7 = some a7) (hb : Below V.heap.size V X) :
    X.cell? p1 = some a1 ∧ X.cell? p2 = some a2 ∧ X.cell? p3 = some a3 ∧ X.cell? p4 = some a4 ∧ X.cell? p5 = some a5 ∧ X.cell? p6 = some a6 ∧ X.cell? p7 = some a7 :=
  ⟨cell_to h1 hb, cell_to h2 hb, cell_to h3 hb, cell_to h4 hb, cell_to h5 hb, cell_to h6 hb, cell_to h7 hb⟩
theorem own3_empty31 (w : World) {B b : Nat} (hb : w.heap.size = b) (h : B ≤ b) : (w.alloc (.cells #[] 139)).ownsRow B 139 3 (.slice (some ⟨b, 0, none⟩) 0 0) 0 (flat []) := by
  subst hb; exact own3_new w B 139 [] 0 #[] rfl rfl (Nat.zero_le _) h
theorem cor_nil {hs : List H3} {n : Nat} (hl : hs.length = n) (h : n = 0) : corR hs = [] := by
  have : hs = [] := List.eq_nil_of_length_eq_zero (by omega)
  subst this
  unfold corR; split <;> simp [corL]
theorem cor_pos {hs : List H3} {n : Nat} (hl : hs.length = n) (r : rokB hs = true) : corR hs = corL hs n := by unfold corR; rw [if_pos r, hl]
theorem corR_le {hs : List H3} {n : Nat} (hl : hs.length = n) : (corR hs).length ≤ n := by
  unfold corR; split
  · rw [corL_len]; omega
  · simp
end Go.Proofs.Ytibkmhmeoelpdaa
