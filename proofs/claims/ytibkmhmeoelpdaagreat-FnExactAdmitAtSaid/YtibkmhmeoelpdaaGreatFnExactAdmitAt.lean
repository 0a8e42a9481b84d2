/- The law FnExactAdmitAt, at every input: the walk of YtibkmhmeoelpdaaGreatUn closed into the given statement. No condition is added. -/
import Derived.Test.YtibkmhmeoelpdaaGreatRows
import Derived.Test.YtibkmhmeoelpdaaGreatUn
import Derived.ProofKit
import Derived.OpenShut
import Derived.ShutString
import Derived.Below
import Derived.Lib.SmallJoins
import Derived.Test.YtibkmhmeoelpdaaGreatRl
import Derived.Test.YtibkmhmeoelpdaaGreatKz
namespace Go.Proofs.YtibkmhmeoelpdaaGreat
open Go.ChangeShapes Go.WideShapes Go.ChangeAt Go.RowKit
open Go.ChangeMaps (open_string shut_string)

theorem laidOut_fnExactAdmitAt : laidOutB Tryz.prog = true := by kernel_rfl
theorem fnExactAdmitAt_own : ownKnob Tryz.prog.godebug = none := by kernel_rfl

set_option maxRecDepth 100000 in
theorem fnExactAdmitAt_lifted (os : Os) (started : os.Started) (H : Type) (enc : TypeId × Value → H) :
    ReturnsInHanded {} Tryz.checked os 3 .any (Rows.fnExactAdmitAtSpec.pre6 enc Tryz.prog Tryz.f3 Rows.fnExactAdmitAtRow.domain false) (Rows.fnExactAdmitAtSpec.post enc Tryz.prog Tryz.f3 false true false false) := by
  refine returnsInHanded_of_change (C := Tryz.checked) fnExactAdmitAt_own started (by kernel_rfl) Tryz.func3
    (ChangeSpec.witness6 (enc := enc) (C := Tryz.checked) false ⟨#[], #[.agg #[.slice none 0 0, .int .i64 0, .int .i64 0, .int .i64 0, .int .i64 0, .int .i64 0, .slice none 0 0, .slice none 0 0], .agg #[.slice none 0 0], .agg #[.int .i64 0, .int .i64 0, .int .i64 0]], []⟩ 8 (by kernel_rfl) (by kernel_rfl) (by kernel_rfl) (by kernel_rfl)) ?_
  intro W base args ds gs before hval0 hW _ _
  have hval : ∀ (j : Nat) t v, Tryz.f3.params[j]? = some t → args[j]? = some v → Value.okWide Tryz.prog W .any base t v := hval0
  have hW' := hW
  obtain ⟨p, q, hA0, hV, rfl, _, _⟩ := hW
  have hA : DataW.TrodAll enc Tryz.prog W 0 (fun _ => true) true Tryz.f3.params.toList args.toList ds p := hA0
  rw [Tryz.params3] at hA hval
  obtain ⟨v0, vs0, d0, ds0, p0, q0, hargs, rfl, rfl, h0, r0⟩ := trodAll_cons hA
  obtain ⟨v1, vs1, d1, ds1, p1, q1, rfl, rfl, rfl, h1, r1⟩ := trodAll_cons r0
  obtain ⟨v2, vs2, d2, ds2, p2, q2, rfl, rfl, rfl, h2, r2⟩ := trodAll_cons r1
  obtain ⟨rfl, rfl, rfl⟩ := trodAll_nil r2
  obtain rfl : args = #[v0, v1, v2] := by cases args; simp_all
  obtain ⟨rfl, rfl⟩ := trodVars_none hV
  have k0 := h0
  have lt0 : ∀ x ∈ p0, x.block < W.heap.size := by obtain ⟨m, hm⟩ := k0; exact DataW.trod_lt m _ _ _ hm
  obtain ⟨c00, c01, c02, c03, c04, c05, c06, c07, y00, y01, y02, y03, y04, y05, y06, y07, n0, rfl, t00, t01, t02, t03, t04, t05, t06, t07⟩ := open_agg8 Tryz.underlying27 (by kernel_rfl) (by kernel_rfl) (hval 0 27 v0 rfl rfl) h0
  obtain ⟨am0, nm0, cm0, rfl, zs0, hlm0, hnm0, him0, hAm0⟩ := open_ilist' Tryz.underlying22 Tryz.underlying3 (by kernel_rfl) t00
  obtain ⟨a01, e01, rfl, w01⟩ := DataW.trod_int Tryz.underlying3 t01
  obtain rfl : c01 = .int .i64 a01 := by simpa using e01
  obtain ⟨a02, e02, rfl, w02⟩ := DataW.trod_int Tryz.underlying3 t02
  obtain rfl : c02 = .int .i64 a02 := by simpa using e02
  obtain ⟨a03, e03, rfl, w03⟩ := DataW.trod_int Tryz.underlying3 t03
  obtain rfl : c03 = .int .i64 a03 := by simpa using e03
  obtain ⟨a04, e04, rfl, w04⟩ := DataW.trod_int Tryz.underlying3 t04
  obtain rfl : c04 = .int .i64 a04 := by simpa using e04
  obtain ⟨a05, e05, rfl, w05⟩ := DataW.trod_int Tryz.underlying3 t05
  obtain rfl : c05 = .int .i64 a05 := by simpa using e05
  obtain ⟨yy06, nn06, tt06⟩ := trod_one Tryz.underlying25 (by kernel_rfl) t06
  obtain ⟨an0, nn0, cn0, rfl⟩ := trod_slice_form Tryz.underlying23 tt06
  obtain ⟨hsn0, hln0, hnn0, hin0, hAn0⟩ := open_triples Tryz.underlying23 Tryz.underlying127 (by kernel_rfl) (by kernel_rfl) Tryz.underlying3 Tryz.underlying3 Tryz.underlying3 tt06
  obtain ⟨yy07, nn07, tt07⟩ := trod_one Tryz.underlying25 (by kernel_rfl) t07
  obtain ⟨al0, nl0, cl0, rfl⟩ := trod_slice_form Tryz.underlying23 tt07
  obtain ⟨hsl0, hll0, hnl0, hil0, hAl0⟩ := open_triples Tryz.underlying23 Tryz.underlying127 (by kernel_rfl) (by kernel_rfl) Tryz.underlying3 Tryz.underlying3 Tryz.underlying3 tt07
  have k1 := h1
  have lt1 : ∀ x ∈ p1, x.block < W.heap.size := by obtain ⟨m, hm⟩ := k1; exact DataW.trod_lt m _ _ _ hm
  obtain ⟨s1, y1, n1, rfl, hf1⟩ := open_agg1 Tryz.underlying25 (by kernel_rfl) (by kernel_rfl) (hval 1 25 v1 rfl rfl) h1
  obtain ⟨a1, len1, cap1, rfl⟩ := trod_slice_form Tryz.underlying23 hf1
  obtain ⟨hs1, hl1, hn1, hi1, hAt1⟩ := open_triples Tryz.underlying23 Tryz.underlying127 (by kernel_rfl) (by kernel_rfl) Tryz.underlying3 Tryz.underlying3 Tryz.underlying3 hf1
  have k2 := h2
  have lt2 : ∀ x ∈ p2, x.block < W.heap.size := by obtain ⟨m, hm⟩ := k2; exact DataW.trod_lt m _ _ _ hm
  obtain ⟨c20, c21, c22, y20, y21, y22, n2, rfl, rfl, rfl, t20, t21, t22⟩ := Go.Joins.open_agg3 Tryz.underlying29 (by kernel_rfl) (by kernel_rfl) (hval 2 29 v2 rfl rfl) h2
  obtain ⟨a20, e20, rfl, w20⟩ := DataW.trod_int Tryz.underlying3 t20
  obtain rfl : c20 = .int .i64 a20 := by simpa using e20
  obtain ⟨a21, e21, rfl, w21⟩ := DataW.trod_int Tryz.underlying3 t21
  obtain rfl : c21 = .int .i64 a21 := by simpa using e21
  obtain ⟨a22, e22, rfl, w22⟩ := DataW.trod_int Tryz.underlying3 t22
  obtain rfl : c22 = .int .i64 a22 := by simpa using e22
  clear hA0 hval0
  refine (law_adt am0 nm0 cm0 zs0 a01 a02 a03 a04 a05 an0 nn0 cn0 hsn0 al0 nl0 cl0 hsl0 a1 len1 cap1 hs1 a20 a21 a22 w20 w21 w22 W ⟨bounds_i64 w01, bounds_i64 w02, bounds_i64 w03, bounds_i64 w04, bounds_i64 w05, hin0, hil0⟩ hnm0 hnn0 hnl0 ⟨hlm0, hln0, hll0, hAm0, hAn0, hAl0⟩ hl1 hn1 hi1 hAt1).mono fun e W' ⟨he, bel⟩ => ?_
  subst he
  exact ⟨_, rfl, _, _, _, [], _, [], hW', trodAll_mk1 (shut_bool Tryz.underlying4 _), (trodAll_cons_mk (Below.trod laidOut_fnExactAdmitAt (by kernel_rfl) (of_decide_eq_true (by kernel_rfl)) k0 bel lt0) (trodAll_cons_mk (Below.trod laidOut_fnExactAdmitAt (by kernel_rfl) (of_decide_eq_true (by kernel_rfl)) k1 bel lt1) (trodAll_cons_mk (Below.trod laidOut_fnExactAdmitAt (by kernel_rfl) (of_decide_eq_true (by kernel_rfl)) k2 bel lt2) trodAll_mk0))), rfl, bel.frame _, fun h => by cases h⟩

theorem fnExactAdmitAt_holds : Rows.FnExactAdmitAtSaid :=
  OpenClaim.holds_of_wide 3 Tryz.f3 rfl rfl rfl rfl rfl rfl rfl ⟨rfl, rfl, rfl, rfl, rfl⟩ rfl rfl rfl rfl rfl (by kernel_rfl) Tryz.func3 (by kernel_rfl)
    (of_decide_eq_true (by kernel_rfl)) (by unfold Func.isWrapper; first | (rw [if_pos (by decide +kernel)]; kernel_rfl) | (rw [if_neg (by decide +kernel)]; exact ⟨rfl, rfl⟩))
    (fun os started H enc _ => fnExactAdmitAt_lifted os started H enc)
#print axioms fnExactAdmitAt_holds
end Go.Proofs.YtibkmhmeoelpdaaGreat
