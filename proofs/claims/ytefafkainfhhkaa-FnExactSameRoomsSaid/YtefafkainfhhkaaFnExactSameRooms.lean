/- The law FnExactSameRooms, at every input: the walk of YtefafkainfhhkaaKu closed into the given statement. No condition is added. -/
import Derived.Test.YtefafkainfhhkaaRows
import Derived.Test.YtefafkainfhhkaaKu
import Derived.ProofKit
import Derived.OpenShut
import Derived.ShutString
import Derived.Below
import Derived.Lib.SmallJoins
import Derived.Test.YtefafkainfhhkaaKb
namespace Go.Proofs.Ytefafkainfhhkaa
open Go.ChangeShapes Go.WideShapes Go.ChangeAt Go.RowKit
open Go.ChangeMaps (open_string shut_string)

theorem laidOut_fnExactSameRooms : laidOutB Try.prog = true := by kernel_rfl
theorem fnExactSameRooms_own : ownKnob Try.prog.godebug = none := by kernel_rfl

set_option maxRecDepth 100000 in
theorem fnExactSameRooms_lifted (os : Os) (started : os.Started) (H : Type) (enc : TypeId × Value → H) :
    ReturnsInHanded {} Try.checked os 7 .any (Rows.fnExactSameRoomsSpec.pre6 enc Try.prog Try.f7 Rows.fnExactSameRoomsRow.domain false) (Rows.fnExactSameRoomsSpec.post enc Try.prog Try.f7 false true false false) := by
  refine returnsInHanded_of_change (C := Try.checked) fnExactSameRooms_own started (by kernel_rfl) Try.func7
    (ChangeSpec.witness6 (enc := enc) (C := Try.checked) false ⟨#[], #[.agg #[.slice none 0 0, .int .i64 0, .int .i64 0, .int .i64 0, .int .i64 0, .int .i64 0, .slice none 0 0, .slice none 0 0], .agg #[.slice none 0 0, .int .i64 0, .int .i64 0, .int .i64 0, .int .i64 0, .int .i64 0, .slice none 0 0, .slice none 0 0]], []⟩ 8 (by kernel_rfl) (by kernel_rfl) (by kernel_rfl) (by kernel_rfl)) ?_
  intro W base args ds gs before hval0 hW _ _
  have hval : ∀ (j : Nat) t v, Try.f7.params[j]? = some t → args[j]? = some v → Value.okWide Try.prog W .any base t v := hval0
  have hW' := hW
  obtain ⟨p, q, hA0, hV, rfl, _, _⟩ := hW
  have hA : DataW.TrodAll enc Try.prog W 0 (fun _ => true) true Try.f7.params.toList args.toList ds p := hA0
  rw [Try.params7] at hA hval
  obtain ⟨v0, vs0, d0, ds0, p0, q0, hargs, rfl, rfl, h0, r0⟩ := trodAll_cons hA
  obtain ⟨v1, vs1, d1, ds1, p1, q1, rfl, rfl, rfl, h1, r1⟩ := trodAll_cons r0
  obtain ⟨rfl, rfl, rfl⟩ := trodAll_nil r1
  obtain rfl : args = #[v0, v1] := by cases args; simp_all
  obtain ⟨rfl, rfl⟩ := trodVars_none hV
  have k0 := h0
  have lt0 : ∀ x ∈ p0, x.block < W.heap.size := by obtain ⟨m, hm⟩ := k0; exact DataW.trod_lt m _ _ _ hm
  obtain ⟨c00, c01, c02, c03, c04, c05, c06, c07, y00, y01, y02, y03, y04, y05, y06, y07, n0, rfl, t00, t01, t02, t03, t04, t05, t06, t07⟩ := open_agg8 Try.underlying48 (by kernel_rfl) (by kernel_rfl) (hval 0 48 v0 rfl rfl) h0
  obtain ⟨am0, nm0, cm0, rfl, zs0, hlm0, hnm0, him0, hAm0⟩ := open_ilist' Try.underlying41 Try.underlying3 (by kernel_rfl) t00
  obtain ⟨a01, e01, rfl, w01⟩ := DataW.trod_int Try.underlying3 t01
  obtain rfl : c01 = .int .i64 a01 := by simpa using e01
  obtain ⟨a02, e02, rfl, w02⟩ := DataW.trod_int Try.underlying3 t02
  obtain rfl : c02 = .int .i64 a02 := by simpa using e02
  obtain ⟨a03, e03, rfl, w03⟩ := DataW.trod_int Try.underlying3 t03
  obtain rfl : c03 = .int .i64 a03 := by simpa using e03
  obtain ⟨a04, e04, rfl, w04⟩ := DataW.trod_int Try.underlying3 t04
  obtain rfl : c04 = .int .i64 a04 := by simpa using e04
  obtain ⟨a05, e05, rfl, w05⟩ := DataW.trod_int Try.underlying3 t05
  obtain rfl : c05 = .int .i64 a05 := by simpa using e05
  obtain ⟨yy06, nn06, tt06⟩ := trod_one Try.underlying24 (by kernel_rfl) t06
  obtain ⟨an0, nn0, cn0, rfl⟩ := trod_slice_form Try.underlying22 tt06
  obtain ⟨hsn0, hln0, hnn0, hin0, hAn0⟩ := open_triples Try.underlying22 Try.underlying117 (by kernel_rfl) (by kernel_rfl) Try.underlying3 Try.underlying3 Try.underlying3 tt06
  obtain ⟨yy07, nn07, tt07⟩ := trod_one Try.underlying24 (by kernel_rfl) t07
  obtain ⟨al0, nl0, cl0, rfl⟩ := trod_slice_form Try.underlying22 tt07
  obtain ⟨hsl0, hll0, hnl0, hil0, hAl0⟩ := open_triples Try.underlying22 Try.underlying117 (by kernel_rfl) (by kernel_rfl) Try.underlying3 Try.underlying3 Try.underlying3 tt07
  have k1 := h1
  have lt1 : ∀ x ∈ p1, x.block < W.heap.size := by obtain ⟨m, hm⟩ := k1; exact DataW.trod_lt m _ _ _ hm
  obtain ⟨c10, c11, c12, c13, c14, c15, c16, c17, y10, y11, y12, y13, y14, y15, y16, y17, n1, rfl, t10, t11, t12, t13, t14, t15, t16, t17⟩ := open_agg8 Try.underlying48 (by kernel_rfl) (by kernel_rfl) (hval 1 48 v1 rfl rfl) h1
  obtain ⟨am1, nm1, cm1, rfl, zs1, hlm1, hnm1, him1, hAm1⟩ := open_ilist' Try.underlying41 Try.underlying3 (by kernel_rfl) t10
  obtain ⟨a11, e11, rfl, w11⟩ := DataW.trod_int Try.underlying3 t11
  obtain rfl : c11 = .int .i64 a11 := by simpa using e11
  obtain ⟨a12, e12, rfl, w12⟩ := DataW.trod_int Try.underlying3 t12
  obtain rfl : c12 = .int .i64 a12 := by simpa using e12
  obtain ⟨a13, e13, rfl, w13⟩ := DataW.trod_int Try.underlying3 t13
  obtain rfl : c13 = .int .i64 a13 := by simpa using e13
  obtain ⟨a14, e14, rfl, w14⟩ := DataW.trod_int Try.underlying3 t14
  obtain rfl : c14 = .int .i64 a14 := by simpa using e14
  obtain ⟨a15, e15, rfl, w15⟩ := DataW.trod_int Try.underlying3 t15
  obtain rfl : c15 = .int .i64 a15 := by simpa using e15
  obtain ⟨yy16, nn16, tt16⟩ := trod_one Try.underlying24 (by kernel_rfl) t16
  obtain ⟨an1, nn1, cn1, rfl⟩ := trod_slice_form Try.underlying22 tt16
  obtain ⟨hsn1, hln1, hnn1, hin1, hAn1⟩ := open_triples Try.underlying22 Try.underlying117 (by kernel_rfl) (by kernel_rfl) Try.underlying3 Try.underlying3 Try.underlying3 tt16
  obtain ⟨yy17, nn17, tt17⟩ := trod_one Try.underlying24 (by kernel_rfl) t17
  obtain ⟨al1, nl1, cl1, rfl⟩ := trod_slice_form Try.underlying22 tt17
  obtain ⟨hsl1, hll1, hnl1, hil1, hAl1⟩ := open_triples Try.underlying22 Try.underlying117 (by kernel_rfl) (by kernel_rfl) Try.underlying3 Try.underlying3 Try.underlying3 tt17
  clear hA0 hval0
  refine (law_sro am0 nm0 cm0 zs0 a01 a02 a03 a04 a05 an0 nn0 cn0 hsn0 al0 nl0 cl0 hsl0 am1 nm1 cm1 zs1 a11 a12 a13 a14 a15 an1 nn1 cn1 hsn1 al1 nl1 cl1 hsl1  W ⟨bounds_i64 w01, bounds_i64 w02, bounds_i64 w03, bounds_i64 w04, bounds_i64 w05, hin0, hil0⟩ hnm0 hnn0 hnl0 ⟨hlm0, hln0, hll0, hAm0, hAn0, hAl0⟩ ⟨bounds_i64 w11, bounds_i64 w12, bounds_i64 w13, bounds_i64 w14, bounds_i64 w15, hin1, hil1⟩ hnm1 hnn1 hnl1 ⟨hlm1, hln1, hll1, hAm1, hAn1, hAl1⟩).mono fun e W' ⟨he, bel⟩ => ?_
  subst he
  exact ⟨_, rfl, _, _, _, [], _, [], hW', trodAll_mk1 (shut_bool Try.underlying4 _), (trodAll_cons_mk (Below.trod laidOut_fnExactSameRooms (by kernel_rfl) (of_decide_eq_true (by kernel_rfl)) k0 bel lt0) (trodAll_cons_mk (Below.trod laidOut_fnExactSameRooms (by kernel_rfl) (of_decide_eq_true (by kernel_rfl)) k1 bel lt1) trodAll_mk0)), rfl, bel.frame _, fun h => by cases h⟩

theorem fnExactSameRooms_holds : Rows.FnExactSameRoomsSaid :=
  OpenClaim.holds_of_wide 7 Try.f7 rfl rfl rfl rfl rfl rfl rfl ⟨rfl, rfl, rfl, rfl, rfl⟩ rfl rfl rfl rfl rfl (by kernel_rfl) Try.func7 (by kernel_rfl)
    (of_decide_eq_true (by kernel_rfl)) (by unfold Func.isWrapper; first | (rw [if_pos (by decide +kernel)]; kernel_rfl) | (rw [if_neg (by decide +kernel)]; exact ⟨rfl, rfl⟩))
    (fun os started H enc _ => fnExactSameRooms_lifted os started H enc)
#print axioms fnExactSameRooms_holds
end Go.Proofs.Ytefafkainfhhkaa
