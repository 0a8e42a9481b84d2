/- The law FnExactAdmitHalf, at every input: the walk of YtibkmhmeoelpdaaTf closed into the given statement. No condition is added. -/
import Derived.Test.YtibkmhmeoelpdaaRows
import Derived.Test.YtibkmhmeoelpdaaTf
import Derived.ProofKit
import Derived.OpenShut
import Derived.ShutString
import Derived.Below
import Derived.Lib.SmallJoins
import Derived.Test.YtibkmhmeoelpdaaKz
namespace Go.Proofs.Ytibkmhmeoelpdaa
open Go.ChangeShapes Go.WideShapes Go.ChangeAt Go.RowKit
open Go.ChangeMaps (open_string shut_string)

theorem laidOut_fnExactAdmitHalf : laidOutB Try.prog = true := by kernel_rfl
theorem fnExactAdmitHalf_own : ownKnob Try.prog.godebug = none := by kernel_rfl

set_option maxRecDepth 100000 in
theorem fnExactAdmitHalf_lifted (os : Os) (started : os.Started) (H : Type) (enc : TypeId × Value → H) :
    ReturnsInHanded {} Try.checked os 8 .any (Rows.fnExactAdmitHalfSpec.pre6 enc Try.prog Try.f8 Rows.fnExactAdmitHalfRow.domain false) (Rows.fnExactAdmitHalfSpec.post enc Try.prog Try.f8 false true false false) := by
  refine returnsInHanded_of_change (C := Try.checked) fnExactAdmitHalf_own started (by kernel_rfl) Try.func8
    (ChangeSpec.witness6 (enc := enc) (C := Try.checked) false ⟨#[], #[.agg #[.slice none 0 0, .int .i64 0, .int .i64 0, .int .i64 0, .int .i64 0, .int .i64 0, .slice none 0 0, .slice none 0 0], .agg #[.int .i64 0, .int .i64 0, .int .i64 0]], []⟩ 8 (by kernel_rfl) (by kernel_rfl) (by kernel_rfl) (by kernel_rfl)) ?_
  intro W base args ds gs before hval0 hW _ _
  have hval : ∀ (j : Nat) t v, Try.f8.params[j]? = some t → args[j]? = some v → Value.okWide Try.prog W .any base t v := hval0
  have hW' := hW
  obtain ⟨p, q, hA0, hV, rfl, _, _⟩ := hW
  have hA : DataW.TrodAll enc Try.prog W 0 (fun _ => true) true Try.f8.params.toList args.toList ds p := hA0
  rw [Try.params8] at hA hval
  obtain ⟨v0, vs0, d0, ds0, p0, q0, hargs, rfl, rfl, h0, r0⟩ := trodAll_cons hA
  obtain ⟨v1, vs1, d1, ds1, p1, q1, rfl, rfl, rfl, h1, r1⟩ := trodAll_cons r0
  obtain ⟨rfl, rfl, rfl⟩ := trodAll_nil r1
  obtain rfl : args = #[v0, v1] := by cases args; simp_all
  obtain ⟨rfl, rfl⟩ := trodVars_none hV
  have k0 := h0
  have lt0 : ∀ x ∈ p0, x.block < W.heap.size := by obtain ⟨m, hm⟩ := k0; exact DataW.trod_lt m _ _ _ hm
  obtain ⟨c00, c01, c02, c03, c04, c05, c06, c07, y00, y01, y02, y03, y04, y05, y06, y07, n0, rfl, t00, t01, t02, t03, t04, t05, t06, t07⟩ := open_agg8 Try.underlying48 (by kernel_rfl) (by kernel_rfl) (hval 0 48 v0 rfl rfl) h0
  obtain ⟨am0, nm0, cm0, rfl, zs0, hlm0, hnm0, him0, hAm0⟩ := open_ilist' Try.underlying43 Try.underlying3 (by kernel_rfl) t00
  obtain ⟨a01, e01, rfl, w01⟩ := DataW.trod_int Try.underlying3 t01
  obtain rfl : c01 = .int .i64 a01 := by simpa using e01
  obtain ⟨a02, e02, rfl, w02⟩ := DataW.trod_int Try.underlying3 t02
  obtain rfl : c02 = .int .i64 a02 := by simpa using e02
  obtain ⟨a03, e03, rfl, w03⟩ := DataW.trod_int Try.underlying3 t03
  obtain rfl : c03 = .int .i64 a03 := by simpa using e03
  obtain ⟨a04, e04, rfl, w04⟩ := DataW.trod_int Try.underlying3 t04
  obtain rfl : c04 = .int .i64 a04 := by simpa using e04
  obtain ⟨a05, e05, rfl, w05⟩ := DataW.trod_int Try.underlying3 t05
  obtain rfl : c05 = .int .i64 a05 := by simpa using e05
  obtain ⟨yy06, nn06, tt06⟩ := trod_one Try.underlying46 (by kernel_rfl) t06
  obtain ⟨an0, nn0, cn0, rfl⟩ := trod_slice_form Try.underlying44 tt06
  obtain ⟨hsn0, hln0, hnn0, hin0, hAn0⟩ := open_triples Try.underlying44 Try.underlying50 (by kernel_rfl) (by kernel_rfl) Try.underlying3 Try.underlying3 Try.underlying3 tt06
  obtain ⟨yy07, nn07, tt07⟩ := trod_one Try.underlying46 (by kernel_rfl) t07
  obtain ⟨al0, nl0, cl0, rfl⟩ := trod_slice_form Try.underlying44 tt07
  obtain ⟨hsl0, hll0, hnl0, hil0, hAl0⟩ := open_triples Try.underlying44 Try.underlying50 (by kernel_rfl) (by kernel_rfl) Try.underlying3 Try.underlying3 Try.underlying3 tt07
  have k1 := h1
  have lt1 : ∀ x ∈ p1, x.block < W.heap.size := by obtain ⟨m, hm⟩ := k1; exact DataW.trod_lt m _ _ _ hm
  obtain ⟨c10, c11, c12, y10, y11, y12, n1, rfl, rfl, rfl, t10, t11, t12⟩ := Go.Joins.open_agg3 Try.underlying50 (by kernel_rfl) (by kernel_rfl) (hval 1 50 v1 rfl rfl) h1
  obtain ⟨a10, e10, rfl, w10⟩ := DataW.trod_int Try.underlying3 t10
  obtain rfl : c10 = .int .i64 a10 := by simpa using e10
  obtain ⟨a11, e11, rfl, w11⟩ := DataW.trod_int Try.underlying3 t11
  obtain rfl : c11 = .int .i64 a11 := by simpa using e11
  obtain ⟨a12, e12, rfl, w12⟩ := DataW.trod_int Try.underlying3 t12
  obtain rfl : c12 = .int .i64 a12 := by simpa using e12
  clear hA0 hval0
  refine (law_adh am0 nm0 cm0 zs0 a01 a02 a03 a04 a05 an0 nn0 cn0 hsn0 al0 nl0 cl0 hsl0 a10 a11 a12 w10 w11 w12 W ⟨bounds_i64 w01, bounds_i64 w02, bounds_i64 w03, bounds_i64 w04, bounds_i64 w05, hin0, hil0⟩ hnm0 hnn0 hnl0 ⟨hlm0, hln0, hll0, hAm0, hAn0, hAl0⟩).mono fun e W' ⟨he, bel⟩ => ?_
  subst he
  exact ⟨_, rfl, _, _, _, [], _, [], hW', trodAll_mk1 (shut_bool Try.underlying4 _), (trodAll_cons_mk (Below.trod laidOut_fnExactAdmitHalf (by kernel_rfl) (of_decide_eq_true (by kernel_rfl)) k0 bel lt0) (trodAll_cons_mk (Below.trod laidOut_fnExactAdmitHalf (by kernel_rfl) (of_decide_eq_true (by kernel_rfl)) k1 bel lt1) trodAll_mk0)), rfl, bel.frame _, fun h => by cases h⟩

theorem fnExactAdmitHalf_holds : Rows.FnExactAdmitHalfSaid :=
  OpenClaim.holds_of_wide 8 Try.f8 rfl rfl rfl rfl rfl rfl rfl ⟨rfl, rfl, rfl, rfl, rfl⟩ rfl rfl rfl rfl rfl (by kernel_rfl) Try.func8 (by kernel_rfl)
    (of_decide_eq_true (by kernel_rfl)) (by unfold Func.isWrapper; first | (rw [if_pos (by decide +kernel)]; kernel_rfl) | (rw [if_neg (by decide +kernel)]; exact ⟨rfl, rfl⟩))
    (fun os started H enc _ => fnExactAdmitHalf_lifted os started H enc)
#print axioms fnExactAdmitHalf_holds
end Go.Proofs.Ytibkmhmeoelpdaa
