/- A struct of eight fields of one cell each that came in: its cells; a room by value. Rooms over the translation: what is known of one that came in or was made, and the laws' toRoom, eqRoom, szRoom. -/
import Derived.Test.YtibkmhmeoelpdaaIz
import Derived.Test.YtibkmhmeoelpdaaCg
import Derived.Test.YtibkmhmeoelpdaaMw
namespace Go.Proofs.Ytibkmhmeoelpdaa
open Go.ChangeShapes Go.WideShapes Go.ChangeAt Go.RowKit Go.Deep
open Geo (H3)
open Go.RowKit

theorem array8 {α : Type} {cs : Array α} (h : cs.size = 8) : ∃ c0 c1 c2 c3 c4 c5 c6 c7, cs = #[c0, c1, c2, c3, c4, c5, c6, c7] := by
  obtain ⟨l⟩ := cs
  match l, h with
  | [c0, c1, c2, c3, c4, c5, c6, c7], _ => exact ⟨c0, c1, c2, c3, c4, c5, c6, c7, rfl⟩
theorem list8 {α : Type} {l : List α} (h : l.length = 8) : ∃ c0 c1 c2 c3 c4 c5 c6 c7, l = [c0, c1, c2, c3, c4, c5, c6, c7] := by
  match l, h with
  | [c0, c1, c2, c3, c4, c5, c6, c7], _ => exact ⟨c0, c1, c2, c3, c4, c5, c6, c7, rfl⟩
/-- a struct of eight fields by value -/
theorem open_agg8 {H : Type} {enc : TypeId × Value → H} {P : Program} {w : World} {base : Nat} {spare : Nat → Bool} {held : Bool} {r : Reach} {b0 : Nat} {t : TypeId} {f0 f1 f2 f3 f4 f5 f6 f7 : Field} {v : Value} {d : DataW H} {p : List MemPlace}
    (hs : P.underlying t = some (.struct #[f0, f1, f2, f3, f4, f5, f6, f7])) (hone : oneCellFields P #[f0, f1, f2, f3, f4, f5, f6, f7] = true) (hC : P.cellsOf t = 8) (hv : Value.okWide P w r b0 t v) (h : DataW.Trod enc P w base spare held t v d p) :
    ∃ (v0 v1 v2 v3 v4 v5 v6 v7 : Value) (y0 y1 y2 y3 y4 y5 y6 y7 : DataW H × List MemPlace) (n : Nat), v = .agg #[v0, v1, v2, v3, v4, v5, v6, v7] ∧ DataW.trod enc P w base spare held n f0.type [v0] = some y0 ∧ DataW.trod enc P w base spare held n f1.type [v1] = some y1 ∧ DataW.trod enc P w base spare held n f2.type [v2] = some y2 ∧ DataW.trod enc P w base spare held n f3.type [v3] = some y3 ∧ DataW.trod enc P w base spare held n f4.type [v4] = some y4 ∧ DataW.trod enc P w base spare held n f5.type [v5] = some y5 ∧ DataW.trod enc P w base spare held n f6.type [v6] = some y6 ∧ DataW.trod enc P w base spare held n f7.type [v7] = some y7 := by
  obtain ⟨cs, rfl, hsz⟩ := okWide_struct hs hv
  obtain ⟨c0, c1, c2, c3, c4, c5, c6, c7, rfl⟩ := array8 (hsz.trans hC)
  obtain ⟨fuel, hf⟩ := h
  obtain ⟨xs, n, _, _, _, hlen, hg⟩ := DataW.trod_struct hs hf
  obtain ⟨y0, y1, y2, y3, y4, y5, y6, y7, rfl⟩ := list8 (show xs.length = 8 by simpa using hlen)
  obtain ⟨o0, k0⟩ := hone_of hone 0 f0 rfl
  obtain ⟨o1, k1⟩ := hone_of hone 1 f1 rfl
  obtain ⟨o2, k2⟩ := hone_of hone 2 f2 rfl
  obtain ⟨o3, k3⟩ := hone_of hone 3 f3 rfl
  obtain ⟨o4, k4⟩ := hone_of hone 4 f4 rfl
  obtain ⟨o5, k5⟩ := hone_of hone 5 f5 rfl
  obtain ⟨o6, k6⟩ := hone_of hone 6 f6 rfl
  obtain ⟨o7, k7⟩ := hone_of hone 7 f7 rfl
  refine ⟨c0, c1, c2, c3, c4, c5, c6, c7, y0, y1, y2, y3, y4, y5, y6, y7, n, rfl, ?_, ?_, ?_, ?_, ?_, ?_, ?_, ?_⟩
  · simpa [Value.cells, o0, k0] using hg 0 f0 rfl
  · simpa [Value.cells, o1, k1] using hg 1 f1 rfl
  · simpa [Value.cells, o2, k2] using hg 2 f2 rfl
  · simpa [Value.cells, o3, k3] using hg 3 f3 rfl
  · simpa [Value.cells, o4, k4] using hg 4 f4 rfl
  · simpa [Value.cells, o5, k5] using hg 5 f5 rfl
  · simpa [Value.cells, o6, k6] using hg 6 f6 rfl
  · simpa [Value.cells, o7, k7] using hg 7 f7 rfl
/-- a field that is a struct of one field -/
theorem trod_one {H : Type} {enc : TypeId × Value → H} {P : Program} {w : World} {base : Nat} {spare : Nat → Bool} {held : Bool} {t : TypeId} {f0 : Field} {v : Value} {n : Nat} {y : DataW H × List MemPlace}
    (hs : P.underlying t = some (.struct #[f0])) (hone : oneCellFields P #[f0] = true) (h : DataW.trod enc P w base spare held n t [v] = some y) : ∃ y' n', DataW.trod enc P w base spare held n' f0.type [v] = some y' := by
  obtain ⟨xs, n, _, _, _, hlen, hg⟩ := DataW.trod_struct hs h
  obtain ⟨o0, k0⟩ := hone_of hone 0 f0 rfl
  match xs, hlen with
  | [y0], _ => exact ⟨y0, n, by simpa [Value.cells, o0, k0] using hg 0 f0 rfl⟩
theorem open_ilist' {H : Type} {enc : TypeId × Value → H} {P : Program} {W : World} {base : Nat} {t e : TypeId} {held : Bool} {v : Value} {n : Nat} {y : DataW H × List MemPlace}
    (ht : P.underlying t = some (.slice e)) (he : P.underlying e = some (.int .i64)) (hc : P.cellsOf e = 1)
    (h : DataW.trod enc P W base (fun _ => true) held n t [v] = some y) : ∃ a len cap, v = .slice a len cap ∧ ∃ zs : List Int, zs.length = len ∧ len ≤ maxLen ∧ (∀ z ∈ zs, (Lit.int .i64 z).wf = true) ∧ IsAt W a zs := by
  obtain ⟨a, len, cap, rfl⟩ := trod_slice_form ht h
  exact ⟨a, len, cap, rfl, open_ilist ht he hc (d := y.1) (p := y.2) ⟨n, by simpa [Value.cells] using h⟩⟩

theorem Blk.set {W : World} {B : Nat} {cs : Array Value} {t : TypeId} (h : Blk W B cs t) (i : Nat) (u : Value) : Blk (W.setCell ⟨B, i, none⟩ u) B (cs.setIfInBounds i u) t := heap_setCell_same W B i cs t u h
theorem Blk.c8_0 {W : World} {B : Nat} {t : TypeId} {a0 a1 a2 a3 a4 a5 a6 a7 : Value} (h : Blk W B #[a0, a1, a2, a3, a4, a5, a6, a7] t) : W.cell? ⟨B, 0, none⟩ = some a0 := h.cell0 (i := 0) rfl
theorem Blk.c8_1 {W : World} {B : Nat} {t : TypeId} {a0 a1 a2 a3 a4 a5 a6 a7 : Value} (h : Blk W B #[a0, a1, a2, a3, a4, a5, a6, a7] t) : W.cell? ⟨B, 1, none⟩ = some a1 := h.cell0 (i := 1) rfl
theorem Blk.c8_2 {W : World} {B : Nat} {t : TypeId} {a0 a1 a2 a3 a4 a5 a6 a7 : Value} (h : Blk W B #[a0, a1, a2, a3, a4, a5, a6, a7] t) : W.cell? ⟨B, 2, none⟩ = some a2 := h.cell0 (i := 2) rfl
theorem Blk.c8_3 {W : World} {B : Nat} {t : TypeId} {a0 a1 a2 a3 a4 a5 a6 a7 : Value} (h : Blk W B #[a0, a1, a2, a3, a4, a5, a6, a7] t) : W.cell? ⟨B, 3, none⟩ = some a3 := h.cell0 (i := 3) rfl
theorem Blk.c8_4 {W : World} {B : Nat} {t : TypeId} {a0 a1 a2 a3 a4 a5 a6 a7 : Value} (h : Blk W B #[a0, a1, a2, a3, a4, a5, a6, a7] t) : W.cell? ⟨B, 4, none⟩ = some a4 := h.cell0 (i := 4) rfl
theorem Blk.c8_5 {W : World} {B : Nat} {t : TypeId} {a0 a1 a2 a3 a4 a5 a6 a7 : Value} (h : Blk W B #[a0, a1, a2, a3, a4, a5, a6, a7] t) : W.cell? ⟨B, 5, none⟩ = some a5 := h.cell0 (i := 5) rfl
theorem Blk.c8_6 {W : World} {B : Nat} {t : TypeId} {a0 a1 a2 a3 a4 a5 a6 a7 : Value} (h : Blk W B #[a0, a1, a2, a3, a4, a5, a6, a7] t) : W.cell? ⟨B, 6, none⟩ = some a6 := h.cell0 (i := 6) rfl
theorem Blk.c8_7 {W : World} {B : Nat} {t : TypeId} {a0 a1 a2 a3 a4 a5 a6 a7 : Value} (h : Blk W B #[a0, a1, a2, a3, a4, a5, a6, a7] t) : W.cell? ⟨B, 7, none⟩ = some a7 := h.cell0 (i := 7) rfl
theorem Blk.s8_0 {W : World} {B : Nat} {t : TypeId} {a0 a1 a2 a3 a4 a5 a6 a7 : Value} (h : Blk W B #[a0, a1, a2, a3, a4, a5, a6, a7] t) (u : Value) : Blk (W.setCell ⟨B, 0, none⟩ u) B #[u, a1, a2, a3, a4, a5, a6, a7] t := h.set 0 u
theorem Blk.s8_1 {W : World} {B : Nat} {t : TypeId} {a0 a1 a2 a3 a4 a5 a6 a7 : Value} (h : Blk W B #[a0, a1, a2, a3, a4, a5, a6, a7] t) (u : Value) : Blk (W.setCell ⟨B, 1, none⟩ u) B #[a0, u, a2, a3, a4, a5, a6, a7] t := h.set 1 u
theorem Blk.s8_2 {W : World} {B : Nat} {t : TypeId} {a0 a1 a2 a3 a4 a5 a6 a7 : Value} (h : Blk W B #[a0, a1, a2, a3, a4, a5, a6, a7] t) (u : Value) : Blk (W.setCell ⟨B, 2, none⟩ u) B #[a0, a1, u, a3, a4, a5, a6, a7] t := h.set 2 u
theorem Blk.s8_3 {W : World} {B : Nat} {t : TypeId} {a0 a1 a2 a3 a4 a5 a6 a7 : Value} (h : Blk W B #[a0, a1, a2, a3, a4, a5, a6, a7] t) (u : Value) : Blk (W.setCell ⟨B, 3, none⟩ u) B #[a0, a1, a2, u, a4, a5, a6, a7] t := h.set 3 u
theorem Blk.s8_4 {W : World} {B : Nat} {t : TypeId} {a0 a1 a2 a3 a4 a5 a6 a7 : Value} (h : Blk W B #[a0, a1, a2, a3, a4, a5, a6, a7] t) (u : Value) : Blk (W.setCell ⟨B, 4, none⟩ u) B #[a0, a1, a2, a3, u, a5, a6, a7] t := h.set 4 u
theorem Blk.s8_5 {W : World} {B : Nat} {t : TypeId} {a0 a1 a2 a3 a4 a5 a6 a7 : Value} (h : Blk W B #[a0, a1, a2, a3, a4, a5, a6, a7] t) (u : Value) : Blk (W.setCell ⟨B, 5, none⟩ u) B #[a0, a1, a2, a3, a4, u, a6, a7] t := h.set 5 u
theorem Blk.s8_6 {W : World} {B : Nat} {t : TypeId} {a0 a1 a2 a3 a4 a5 a6 a7 : Value} (h : Blk W B #[a0, a1, a2, a3, a4, a5, a6, a7] t) (u : Value) : Blk (W.setCell ⟨B, 6, none⟩ u) B #[a0, a1, a2, a3, a4, a5, u, a7] t := h.set 6 u
theorem Blk.s8_7 {W : World} {B : Nat} {t : TypeId} {a0 a1 a2 a3 a4 a5 a6 a7 : Value} (h : Blk W B #[a0, a1, a2, a3, a4, a5, a6, a7] t) (u : Value) : Blk (W.setCell ⟨B, 7, none⟩ u) B #[a0, a1, a2, a3, a4, a5, a6, u] t := h.set 7 u
/-- what a room's slices hold -/
structure RAt (w : World) (am : Option Addr) (nm : Nat) (zs : List Int) (an : Option Addr) (nn : Nat) (ps : List H3) (al : Option Addr) (nl : Nat) (qs : List H3) : Prop where
  lm : zs.length = nm
  ln : ps.length = nn
  ll : qs.length = nl
  hm : IsAt w am zs
  hn : HsAt w an ps
  hl : HsAt w al qs
theorem RAt.below {w w' : World} {am an al : Option Addr} {nm nn nl : Nat} {zs : List Int} {ps qs : List H3} (h : RAt w am nm zs an nn ps al nl qs) (hb : Below w.heap.size w w') : RAt w' am nm zs an nn ps al nl qs :=
  ⟨h.lm, h.ln, h.ll, h.hm.below hb, h.hn.below hb, h.hl.below hb⟩
/-- its numbers are ints -/
structure R64 (q bx cy lo hi : Int) (ps qs : List H3) : Prop where
  q : -9223372036854775808 ≤ q ∧ q ≤ 9223372036854775807
  bx : -9223372036854775808 ≤ bx ∧ bx ≤ 9223372036854775807
  cy : -9223372036854775808 ≤ cy ∧ cy ≤ 9223372036854775807
  lo : -9223372036854775808 ≤ lo ∧ lo ≤ 9223372036854775807
  hi : -9223372036854775808 ≤ hi ∧ hi ≤ 9223372036854775807
  ps : ∀ h ∈ ps, In64 h
  qs : ∀ h ∈ qs, In64 h
/-- a room of the call's own: three rows in three blocks -/
structure ROwn (w : World) (B : Nat) (am : Option Addr) (nm cm : Nat) (zs : List Int) (an : Option Addr) (nn cn : Nat) (ps : List H3) (al : Option Addr) (nl cl : Nat) (qs : List H3) : Prop where
  om : w.ownsRow B 3 1 (.slice am nm cm) nm (zs.map (Value.int .i64))
  on : w.ownsRow B 60 3 (.slice an nn cn) nn (flat ps)
  ol : w.ownsRow B 60 3 (.slice al nl cl) nl (flat qs)
  d1 : ∀ p, (Value.slice am nm cm).ownBlock = some p → (Value.slice an nn cn).ownBlock ≠ some p
  d2 : ∀ p, (Value.slice am nm cm).ownBlock = some p → (Value.slice al nl cl).ownBlock ≠ some p
  d3 : ∀ p, (Value.slice an nn cn).ownBlock = some p → (Value.slice al nl cl).ownBlock ≠ some p
theorem flat_ln {w : World} {B n cp : Nat} {e : TypeId} {ao : Option Addr} {hs : List H3} (h : w.ownsRow B e 3 (.slice ao n cp) n (flat hs)) : hs.length = n := by
  have h1 := h.1
  rw [flat_len] at h1
  omega
theorem ROwn.at {w : World} {B nm cm nn cn nl cl : Nat} {am an al : Option Addr} {zs : List Int} {ps qs : List H3} (h : ROwn w B am nm cm zs an nn cn ps al nl cl qs) : RAt w am nm zs an nn ps al nl qs :=
  ⟨by have := h.om.1; simpa using this, flat_ln h.on, flat_ln h.ol, own_ints h.om, own_hs h.on, own_hs h.ol⟩
theorem ROwn.below {w w' : World} {B nm cm nn cn nl cl : Nat} {am an al : Option Addr} {zs : List Int} {ps qs : List H3} (h : ROwn w B am nm cm zs an nn cn ps al nl cl qs) (hb : Below w.heap.size w w') : ROwn w' B am nm cm zs an nn cn ps al nl cl qs :=
  ⟨own_below h.om hb, own_below h.on hb, own_below h.ol hb, h.d1, h.d2, h.d3⟩
theorem ROwn.mono {w : World} {B B' nm cm nn cn nl cl : Nat} {am an al : Option Addr} {zs : List Int} {ps qs : List H3} (h : ROwn w B am nm cm zs an nn cn ps al nl cl qs) (hb : B' ≤ B) : ROwn w B' am nm cm zs an nn cn ps al nl cl qs :=
  ⟨own_base h.om hb, own_base h.on hb, own_base h.ol hb, h.d1, h.d2, h.d3⟩
/-- a nil slice has nothing -/
structure RNil (am : Option Addr) (nm cm : Nat) (an : Option Addr) (nn cn : Nat) (al : Option Addr) (nl cl : Nat) : Prop where
  m : am = none → nm = 0 ∧ cm = 0
  n : an = none → nn = 0 ∧ cn = 0
  l : al = none → nl = 0 ∧ cl = 0
theorem ROwn.nil {w : World} {B nm cm nn cn nl cl : Nat} {am an al : Option Addr} {zs : List Int} {ps qs : List H3} (h : ROwn w B am nm cm zs an nn cn ps al nl cl qs) : RNil am nm cm an nn cn al nl cl :=
  ⟨own_nil h.om, own_nil h.on, own_nil h.ol⟩
theorem blk_lt2 {w : World} {B n s cp : Nat} {e : TypeId} {a : Option Addr} {xs : List Value} (h : w.ownsRow B e s (.slice a n cp) n xs) {p : Nat} (hp : (Value.slice a n cp).ownBlock = some p) : B ≤ p ∧ p < w.heap.size := own_block_lt h hp
/-- a new room is handed back -/
def GivesRm (w : World) (nm : Nat) (zs : List Int) (q bx cy lo hi : Int) (nn : Nat) (ps : List H3) (nl : Nat) (qs : List H3) (e : Ending) (w' : World) : Prop :=
  ∃ am cm an cn al cl, e = .returned (.agg #[.slice am nm cm, .int .i64 q, .int .i64 bx, .int .i64 cy, .int .i64 lo, .int .i64 hi, .slice an nn cn, .slice al nl cl]) ∧ ROwn w' w.heap.size am nm cm zs an nn cn ps al nl cl qs ∧ Below w.heap.size w w'

set_option maxRecDepth 100000 in
set_option maxHeartbeats 1600000 in
theorem to_room (am : Option Addr) (nm cm : Nat) (zs : List Int) (q bx cy lo hi : Int) (an : Option Addr) (nn cn : Nat) (ps : List H3) (al : Option Addr) (nl cl : Nat) (qs : List H3) (w : World) (hA : RAt w am nm zs an nn ps al nl qs) (hle : nm + nn + nl ≤ 1048576) :
    Calls Try.prog 26 #[.agg #[.slice am nm cm, .int .i64 q, .int .i64 bx, .int .i64 cy, .int .i64 lo, .int .i64 hi, .slice an nn cn, .slice al nl cl]] w (GivesRm w nm zs q bx cy lo hi nn ps nl qs) := by
  have bV := below_bx2 (below_bx2 (below_one w (.cells #[.slice am nm cm, .int .i64 q, .int .i64 bx, .int .i64 cy, .int .i64 lo, .int .i64 hi, .slice an nn cn, .slice al nl cl] 48)) (.cells #[.slice none 0 0, .int .i64 0, .int .i64 0, .int .i64 0, .int .i64 0, .int .i64 0, .slice none 0 0, .slice none 0 0] 58)) (.cells #[.slice none 0 0, .int .i64 0, .int .i64 0, .int .i64 0, .int .i64 0, .int .i64 0, .slice none 0 0, .slice none 0 0] 58)
  have K0 := ((blk_new w #[.slice am nm cm, .int .i64 q, .int .i64 bx, .int .i64 cy, .int .i64 lo, .int .i64 hi, .slice an nn cn, .slice al nl cl] 48 rfl).to (below_one _ (.cells #[.slice none 0 0, .int .i64 0, .int .i64 0, .int .i64 0, .int .i64 0, .int .i64 0, .slice none 0 0, .slice none 0 0] 58))).to (below_one _ (.cells #[.slice none 0 0, .int .i64 0, .int .i64 0, .int .i64 0, .int .i64 0, .int .i64 0, .slice none 0 0, .slice none 0 0] 58))
  have K1 := (blk_new (w.alloc (.cells #[.slice am nm cm, .int .i64 q, .int .i64 bx, .int .i64 cy, .int .i64 lo, .int .i64 hi, .slice an nn cn, .slice al nl cl] 48)) #[.slice none 0 0, .int .i64 0, .int .i64 0, .int .i64 0, .int .i64 0, .int .i64 0, .slice none 0 0, .slice none 0 0] 58 (b := w.heap.size + 1) (by simp)).to (below_one _ (.cells #[.slice none 0 0, .int .i64 0, .int .i64 0, .int .i64 0, .int .i64 0, .int .i64 0, .slice none 0 0, .slice none 0 0] 58))
  have K2 := blk_new ((w.alloc (.cells #[.slice am nm cm, .int .i64 q, .int .i64 bx, .int .i64 cy, .int .i64 lo, .int .i64 hi, .slice an nn cn, .slice al nl cl] 48)).alloc (.cells #[.slice none 0 0, .int .i64 0, .int .i64 0, .int .i64 0, .int .i64 0, .int .i64 0, .slice none 0 0, .slice none 0 0] 58)) #[.slice none 0 0, .int .i64 0, .int .i64 0, .int .i64 0, .int .i64 0, .int .i64 0, .slice none 0 0, .slice none 0 0] 58 (b := w.heap.size + 2) (by simp)
  have HM := Lib.hid (fun V (h : Below w.heap.size w V) => to_ints am nm cm zs V hA.lm (by omega) (hA.hm.below h))
  have HP := Lib.hid (fun V (h : Below w.heap.size w V) => to_region2 an nn cn ps V hA.ln (by omega) (hA.hn.below h))
  have HQ := Lib.hid (fun V (h : Below w.heap.size w V) => to_region2 al nl cl qs V hA.ll (by omega) (hA.hl.below h))
  clear hA
  go_enter Try.func26, Try.ntmps26
  obtain k00 := K0.c8_0
  go_wp2_with fail
  clear k00
  generalize (((w.alloc (.cells #[.slice am nm cm, .int .i64 q, .int .i64 bx, .int .i64 cy, .int .i64 lo, .int .i64 hi, .slice an nn cn, .slice al nl cl] 48)).alloc (.cells #[.slice none 0 0, .int .i64 0, .int .i64 0, .int .i64 0, .int .i64 0, .int .i64 0, .slice none 0 0, .slice none 0 0] 58)).alloc (.cells #[.slice none 0 0, .int .i64 0, .int .i64 0, .int .i64 0, .int .i64 0, .int .i64 0, .slice none 0 0, .slice none 0 0] 58)) = V at *
  refine (HM.out _ bV).mono ?_
  rintro e w1 ⟨am', cm', rfl, ho1, bl1⟩
  have b1 := below_to bV bl1
  have L0 := K0.to bl1
  have L1 := K1.to bl1
  have L2 := K2.to bl1
  have XM := Lib.hid (fun p (hp : (Value.slice am' nm cm').ownBlock = some p) => (own_block_lt ho1 hp).2)
  have HO := Lib.hid ho1
  have zV := K2.lt
  have zW := L2.lt
  clear bl1 bV K0 K1 K2 ho1 HM
  have k0 := L0.c8_0
  have k1 := L0.c8_1
  have k2 := L0.c8_2
  have k3 := L0.c8_3
  have k4 := L0.c8_4
  have k5 := L0.c8_5
  have k6 := L0.c8_6
  have k7 := L0.c8_7
  have f0 := L2.free 0
  have f1 := L2.free 1
  have f2 := L2.free 2
  have f3 := L2.free 3
  have f4 := L2.free 4
  have f5 := L2.free 5
  have f6 := L2.free 6
  have f7 := L2.free 7
  have u0 := L2.c8_0
  have u1 := L2.c8_1
  have u2 := L2.c8_2
  have u3 := L2.c8_3
  have u4 := L2.c8_4
  have u5 := L2.c8_5
  have u6 := L2.c8_6
  have u7 := L2.c8_7
  go_wp2_with fail
  clear k0 f0 u0 k1 f1 u1 k2 f2 u2 k3 f3 u3 k4 f4 u4 k5 f5 u5 k6 f6 u6 k7 f7 u7
  have M0 := (blk_far (blk_far (blk_far (blk_far (blk_far (blk_far L0 (p := ⟨w.heap.size + 2, 0, none⟩) (.slice am' nm cm') (by simp)) (p := ⟨w.heap.size + 2, 1, none⟩) (.int .i64 q) (by simp)) (p := ⟨w.heap.size + 2, 2, none⟩) (.int .i64 bx) (by simp)) (p := ⟨w.heap.size + 2, 3, none⟩) (.int .i64 cy) (by simp)) (p := ⟨w.heap.size + 2, 4, none⟩) (.int .i64 lo) (by simp)) (p := ⟨w.heap.size + 2, 5, none⟩) (.int .i64 hi) (by simp))
  have M1 := (blk_far (blk_far (blk_far (blk_far (blk_far (blk_far L1 (p := ⟨w.heap.size + 2, 0, none⟩) (.slice am' nm cm') (by simp)) (p := ⟨w.heap.size + 2, 1, none⟩) (.int .i64 q) (by simp)) (p := ⟨w.heap.size + 2, 2, none⟩) (.int .i64 bx) (by simp)) (p := ⟨w.heap.size + 2, 3, none⟩) (.int .i64 cy) (by simp)) (p := ⟨w.heap.size + 2, 4, none⟩) (.int .i64 lo) (by simp)) (p := ⟨w.heap.size + 2, 5, none⟩) (.int .i64 hi) (by simp))
  have M2 := ((((((L2.s8_0 (.slice am' nm cm')).s8_1 (.int .i64 q)).s8_2 (.int .i64 bx)).s8_3 (.int .i64 cy)).s8_4 (.int .i64 lo)).s8_5 (.int .i64 hi))
  have b2 := ((((((b1.setCell (p := ⟨w.heap.size + 2, 0, none⟩) (by simp) (.slice am' nm cm')).setCell (p := ⟨w.heap.size + 2, 1, none⟩) (by simp) (.int .i64 q)).setCell (p := ⟨w.heap.size + 2, 2, none⟩) (by simp) (.int .i64 bx)).setCell (p := ⟨w.heap.size + 2, 3, none⟩) (by simp) (.int .i64 cy)).setCell (p := ⟨w.heap.size + 2, 4, none⟩) (by simp) (.int .i64 lo)).setCell (p := ⟨w.heap.size + 2, 5, none⟩) (by simp) (.int .i64 hi))
  have H2 := Lib.hid (own_far (p := ⟨w.heap.size + 2, 5, none⟩) (own_far (p := ⟨w.heap.size + 2, 4, none⟩) (own_far (p := ⟨w.heap.size + 2, 3, none⟩) (own_far (p := ⟨w.heap.size + 2, 2, none⟩) (own_far (p := ⟨w.heap.size + 2, 1, none⟩) (own_far (p := ⟨w.heap.size + 2, 0, none⟩) HO.out (by simpa using zV) (.slice am' nm cm')) (by simpa using zV) (.int .i64 q)) (by simpa using zV) (.int .i64 bx)) (by simpa using zV) (.int .i64 cy)) (by simpa using zV) (.int .i64 lo)) (by simpa using zV) (.int .i64 hi))
  have z2 : (((((((w1.setCell ⟨w.heap.size + 2, 0, none⟩ (.slice am' nm cm')).setCell ⟨w.heap.size + 2, 1, none⟩ (.int .i64 q)).setCell ⟨w.heap.size + 2, 2, none⟩ (.int .i64 bx)).setCell ⟨w.heap.size + 2, 3, none⟩ (.int .i64 cy)).setCell ⟨w.heap.size + 2, 4, none⟩ (.int .i64 lo)).setCell ⟨w.heap.size + 2, 5, none⟩ (.int .i64 hi))).heap.size = w1.heap.size := by simp
  clear L0 L1 L2 b1 HO
  generalize ((((((w1.setCell ⟨w.heap.size + 2, 0, none⟩ (.slice am' nm cm')).setCell ⟨w.heap.size + 2, 1, none⟩ (.int .i64 q)).setCell ⟨w.heap.size + 2, 2, none⟩ (.int .i64 bx)).setCell ⟨w.heap.size + 2, 3, none⟩ (.int .i64 cy)).setCell ⟨w.heap.size + 2, 4, none⟩ (.int .i64 lo)).setCell ⟨w.heap.size + 2, 5, none⟩ (.int .i64 hi)) = X at *
  refine (HP.out _ b2).mono ?_
  rintro e w3 ⟨an', cn', rfl, ho3, bl3⟩
  have b3 := below_to b2 bl3
  have N0 := M0.to bl3
  have N1 := M1.to bl3
  have N2 := M2.to bl3
  have XN := Lib.hid (fun p (hp : (Value.slice an' nn cn').ownBlock = some p) => own_block_lt ho3 hp)
  have H3' := Lib.hid (own_below H2.out bl3)
  have HN := Lib.hid ho3
  have z3 := bl3.size
  clear M0 M1 M2 b2 H2 ho3 bl3 HP
  have k7 := N0.c8_7
  have f6 := N2.free 6
  have u6 := N2.c8_6
  go_wp2_with fail
  clear k7 f6 u6
  have M0 := (blk_far N0 (p := ⟨w.heap.size + 2, 6, none⟩) (.slice an' nn cn') (by simp))
  have M1 := (blk_far N1 (p := ⟨w.heap.size + 2, 6, none⟩) (.slice an' nn cn') (by simp))
  have M2 := (N2.s8_6 (.slice an' nn cn'))
  have b4 := (b3.setCell (p := ⟨w.heap.size + 2, 6, none⟩) (by simp) (.slice an' nn cn'))
  have H4 := Lib.hid (own_far (p := ⟨w.heap.size + 2, 6, none⟩) H3'.out (by simpa using zV) (.slice an' nn cn'))
  have hx3 : w.heap.size + 2 < X.heap.size := by rw [z2]; exact zW
  have HN4 := Lib.hid (own_far (p := ⟨w.heap.size + 2, 6, none⟩) HN.out (by simpa using hx3) (.slice an' nn cn'))
  have z4 : ((w3.setCell ⟨w.heap.size + 2, 6, none⟩ (.slice an' nn cn'))).heap.size = w3.heap.size := by simp
  clear N0 N1 N2 b3 H3' HN
  generalize (w3.setCell ⟨w.heap.size + 2, 6, none⟩ (.slice an' nn cn')) = X2 at *
  refine (HQ.out _ b4).mono ?_
  rintro e w5 ⟨al', cl', rfl, ho5, bl5⟩
  have b5 := below_to b4 bl5
  have N0 := M0.to bl5
  have N1 := M1.to bl5
  have N2 := M2.to bl5
  have H5 := Lib.hid (own_below H4.out bl5)
  have HN5 := Lib.hid (own_below HN4.out bl5)
  have HL := Lib.hid ho5
  have z5 := bl5.size
  clear M0 M1 M2 b4 H4 HN4 ho5 bl5 HQ
  have k0 := N2.c8_0
  have k1 := N2.c8_1
  have k2 := N2.c8_2
  have k3 := N2.c8_3
  have k4 := N2.c8_4
  have k5 := N2.c8_5
  have k6 := N2.c8_6
  have f7 := N2.free 7
  have u7 := N2.c8_7
  have g0 := N1.free 0
  have v0 := N1.c8_0
  have g1 := N1.free 1
  have v1 := N1.c8_1
  have g2 := N1.free 2
  have v2 := N1.c8_2
  have g3 := N1.free 3
  have v3 := N1.c8_3
  have g4 := N1.free 4
  have v4 := N1.c8_4
  have g5 := N1.free 5
  have v5 := N1.c8_5
  have g6 := N1.free 6
  have v6 := N1.c8_6
  have g7 := N1.free 7
  have v7 := N1.c8_7
  have x1 : ∀ p, (Value.slice am' nm cm').ownBlock = some p → p < w1.heap.size := XM.out
  have x2 : ∀ p, (Value.slice an' nn cn').ownBlock = some p → X.heap.size ≤ p ∧ p < w3.heap.size := XN.out
  have x3 : ∀ p, (Value.slice al' nl cl').ownBlock = some p → X2.heap.size ≤ p := fun p hp => (own_block_lt HL.out hp).1
  have zX : w.heap.size + 2 < X2.heap.size := by omega
  have HF := Lib.hid (show ROwn (((((((((w5.setCell ⟨w.heap.size + 1 + 1, 7, none⟩ (.slice al' nl cl')).setCell ⟨w.heap.size + 1, 0, none⟩ (.slice am' nm cm')).setCell ⟨w.heap.size + 1, 1, none⟩ (.int .i64 q)).setCell ⟨w.heap.size + 1, 2, none⟩ (.int .i64 bx)).setCell ⟨w.heap.size + 1, 3, none⟩ (.int .i64 cy)).setCell ⟨w.heap.size + 1, 4, none⟩ (.int .i64 lo)).setCell ⟨w.heap.size + 1, 5, none⟩ (.int .i64 hi)).setCell ⟨w.heap.size + 1, 6, none⟩ (.slice an' nn cn')).setCell ⟨w.heap.size + 1, 7, none⟩ (.slice al' nl cl')) w.heap.size am' nm cm' zs an' nn cn' ps al' nl cl' qs from ⟨own_base (own_far (p := ⟨w.heap.size + 1, 7, none⟩) (own_far (p := ⟨w.heap.size + 1, 6, none⟩) (own_far (p := ⟨w.heap.size + 1, 5, none⟩) (own_far (p := ⟨w.heap.size + 1, 4, none⟩) (own_far (p := ⟨w.heap.size + 1, 3, none⟩) (own_far (p := ⟨w.heap.size + 1, 2, none⟩) (own_far (p := ⟨w.heap.size + 1, 1, none⟩) (own_far (p := ⟨w.heap.size + 1, 0, none⟩) (own_far (p := ⟨w.heap.size + 1 + 1, 7, none⟩) H5.out (by simp only; omega) (.slice al' nl cl')) (by simp only; omega) (.slice am' nm cm')) (by simp only; omega) (.int .i64 q)) (by simp only; omega) (.int .i64 bx)) (by simp only; omega) (.int .i64 cy)) (by simp only; omega) (.int .i64 lo)) (by simp only; omega) (.int .i64 hi)) (by simp only; omega) (.slice an' nn cn')) (by simp only; omega) (.slice al' nl cl')) (by omega), own_base (own_far (p := ⟨w.heap.size + 1, 7, none⟩) (own_far (p := ⟨w.heap.size + 1, 6, none⟩) (own_far (p := ⟨w.heap.size + 1, 5, none⟩) (own_far (p := ⟨w.heap.size + 1, 4, none⟩) (own_far (p := ⟨w.heap.size + 1, 3, none⟩) (own_far (p := ⟨w.heap.size + 1, 2, none⟩) (own_far (p := ⟨w.heap.size + 1, 1, none⟩) (own_far (p := ⟨w.heap.size + 1, 0, none⟩) (own_far (p := ⟨w.heap.size + 1 + 1, 7, none⟩) HN5.out (by simp only; omega) (.slice al' nl cl')) (by simp only; omega) (.slice am' nm cm')) (by simp only; omega) (.int .i64 q)) (by simp only; omega) (.int .i64 bx)) (by simp only; omega) (.int .i64 cy)) (by simp only; omega) (.int .i64 lo)) (by simp only; omega) (.int .i64 hi)) (by simp only; omega) (.slice an' nn cn')) (by simp only; omega) (.slice al' nl cl')) (by omega), own_base (own_far (p := ⟨w.heap.size + 1, 7, none⟩) (own_far (p := ⟨w.heap.size + 1, 6, none⟩) (own_far (p := ⟨w.heap.size + 1, 5, none⟩) (own_far (p := ⟨w.heap.size + 1, 4, none⟩) (own_far (p := ⟨w.heap.size + 1, 3, none⟩) (own_far (p := ⟨w.heap.size + 1, 2, none⟩) (own_far (p := ⟨w.heap.size + 1, 1, none⟩) (own_far (p := ⟨w.heap.size + 1, 0, none⟩) (own_far (p := ⟨w.heap.size + 1 + 1, 7, none⟩) HL.out (by simp only; omega) (.slice al' nl cl')) (by simp only; omega) (.slice am' nm cm')) (by simp only; omega) (.int .i64 q)) (by simp only; omega) (.int .i64 bx)) (by simp only; omega) (.int .i64 cy)) (by simp only; omega) (.int .i64 lo)) (by simp only; omega) (.int .i64 hi)) (by simp only; omega) (.slice an' nn cn')) (by simp only; omega) (.slice al' nl cl')) (by omega), fun p h k => by have := x1 p h; have := (x2 p k).1; omega, fun p h k => by have := x1 p h; have := x3 p k; omega, fun p h k => by have := (x2 p h).2; have := x3 p k; omega⟩)
  have HBF := Lib.hid (((((((((b5.setCell (p := ⟨w.heap.size + 1 + 1, 7, none⟩) (by simp only; omega) (.slice al' nl cl')).setCell (p := ⟨w.heap.size + 1, 0, none⟩) (by simp only; omega) (.slice am' nm cm')).setCell (p := ⟨w.heap.size + 1, 1, none⟩) (by simp only; omega) (.int .i64 q)).setCell (p := ⟨w.heap.size + 1, 2, none⟩) (by simp only; omega) (.int .i64 bx)).setCell (p := ⟨w.heap.size + 1, 3, none⟩) (by simp only; omega) (.int .i64 cy)).setCell (p := ⟨w.heap.size + 1, 4, none⟩) (by simp only; omega) (.int .i64 lo)).setCell (p := ⟨w.heap.size + 1, 5, none⟩) (by simp only; omega) (.int .i64 hi)).setCell (p := ⟨w.heap.size + 1, 6, none⟩) (by simp only; omega) (.slice an' nn cn')).setCell (p := ⟨w.heap.size + 1, 7, none⟩) (by simp only; omega) (.slice al' nl cl'))
  have HR := Lib.hid (((((((((blk_far N1 (p := ⟨w.heap.size + 1 + 1, 7, none⟩) (.slice al' nl cl') (by simp)).s8_0 (.slice am' nm cm')).s8_1 (.int .i64 q)).s8_2 (.int .i64 bx)).s8_3 (.int .i64 cy)).s8_4 (.int .i64 lo)).s8_5 (.int .i64 hi)).s8_6 (.slice an' nn cn')).s8_7 (.slice al' nl cl'))
  clear x1 x2 x3 H5 HN5 HL XM XN
  go_wp2_with fail
  clear k0 k1 k2 k3 k4 k5 k6 f7 u7 g0 v0 g1 v1 g2 v2 g3 v3 g4 v4 g5 v5 g6 v6 g7 v7
  generalize (((((((((w5.setCell ⟨w.heap.size + 1 + 1, 7, none⟩ (.slice al' nl cl')).setCell ⟨w.heap.size + 1, 0, none⟩ (.slice am' nm cm')).setCell ⟨w.heap.size + 1, 1, none⟩ (.int .i64 q)).setCell ⟨w.heap.size + 1, 2, none⟩ (.int .i64 bx)).setCell ⟨w.heap.size + 1, 3, none⟩ (.int .i64 cy)).setCell ⟨w.heap.size + 1, 4, none⟩ (.int .i64 lo)).setCell ⟨w.heap.size + 1, 5, none⟩ (.int .i64 hi)).setCell ⟨w.heap.size + 1, 6, none⟩ (.slice an' nn cn')).setCell ⟨w.heap.size + 1, 7, none⟩ (.slice al' nl cl')) = Y at *
  have hr := HR.out
  have r0 := hr.c8_0
  have r1 := hr.c8_1
  have r2 := hr.c8_2
  have r3 := hr.c8_3
  have r4 := hr.c8_4
  have r5 := hr.c8_5
  have r6 := hr.c8_6
  have r7 := hr.c8_7
  exact bodyPost_ret (v := .agg #[.slice am' nm cm', .int .i64 q, .int .i64 bx, .int .i64 cy, .int .i64 lo, .int .i64 hi, .slice an' nn cn', .slice al' nl cl']) (by simp [results, Try.results26, go_sem, r0, r1, r2, r3, r4, r5, r6, r7]) rfl ⟨_, _, _, _, _, _, rfl, HF.out, HBF.out⟩
set_option maxRecDepth 100000 in
set_option maxHeartbeats 1600000 in
theorem eq_room (am : Option Addr) (nm cm : Nat) (zs : List Int) (q bx cy lo hi : Int) (an : Option Addr) (nn cn : Nat) (ps : List H3) (al : Option Addr) (nl cl : Nat) (qs : List H3) (am2 : Option Addr) (cm2 : Nat) (an2 : Option Addr) (cn2 : Nat) (al2 : Option Addr) (cl2 : Nat) (w : World) (hA : RAt w am nm zs an nn ps al nl qs) (hB : RAt w am2 nm zs an2 nn ps al2 nl qs) (hle : nm + nn + nl ≤ 1048576) :
    Calls Try.prog 29 #[.agg #[.slice am nm cm, .int .i64 q, .int .i64 bx, .int .i64 cy, .int .i64 lo, .int .i64 hi, .slice an nn cn, .slice al nl cl], .agg #[.slice am2 nm cm2, .int .i64 q, .int .i64 bx, .int .i64 cy, .int .i64 lo, .int .i64 hi, .slice an2 nn cn2, .slice al2 nl cl2]] w fun e w' => e = .returned (.bool true) ∧ Below w.heap.size w w' := by
  have bV := below_bx2 (below_one w (.cells #[.slice am nm cm, .int .i64 q, .int .i64 bx, .int .i64 cy, .int .i64 lo, .int .i64 hi, .slice an nn cn, .slice al nl cl] 58)) (.cells #[.slice am2 nm cm2, .int .i64 q, .int .i64 bx, .int .i64 cy, .int .i64 lo, .int .i64 hi, .slice an2 nn cn2, .slice al2 nl cl2] 58)
  have K0 := (blk_new w #[.slice am nm cm, .int .i64 q, .int .i64 bx, .int .i64 cy, .int .i64 lo, .int .i64 hi, .slice an nn cn, .slice al nl cl] 58 rfl).to (below_one _ (.cells #[.slice am2 nm cm2, .int .i64 q, .int .i64 bx, .int .i64 cy, .int .i64 lo, .int .i64 hi, .slice an2 nn cn2, .slice al2 nl cl2] 58))
  have K1 := blk_new (w.alloc (.cells #[.slice am nm cm, .int .i64 q, .int .i64 bx, .int .i64 cy, .int .i64 lo, .int .i64 hi, .slice an nn cn, .slice al nl cl] 58)) #[.slice am2 nm cm2, .int .i64 q, .int .i64 bx, .int .i64 cy, .int .i64 lo, .int .i64 hi, .slice an2 nn cn2, .slice al2 nl cl2] 58 (b := w.heap.size + 1) (by simp)
  have HM := Lib.hid (fun V (h : Below w.heap.size w V) => eq_ints am am2 nm cm cm2 zs V hA.lm (by omega) (hA.hm.below h) (hB.hm.below h))
  have HP := Lib.hid (fun V (h : Below w.heap.size w V) => eq_region an an2 nn cn cn2 ps V hA.ln (by omega) (hA.hn.below h) (hB.hn.below h))
  have HQ := Lib.hid (fun V (h : Below w.heap.size w V) => eq_region al al2 nl cl cl2 qs V hA.ll (by omega) (hA.hl.below h) (hB.hl.below h))
  clear hA hB
  go_enter Try.func29, Try.ntmps29
  have k0 := K0.c8_0
  have l0 := K1.c8_0
  go_wp2_with fail
  generalize ((w.alloc (.cells #[.slice am nm cm, .int .i64 q, .int .i64 bx, .int .i64 cy, .int .i64 lo, .int .i64 hi, .slice an nn cn, .slice al nl cl] 58)).alloc (.cells #[.slice am2 nm cm2, .int .i64 q, .int .i64 bx, .int .i64 cy, .int .i64 lo, .int .i64 hi, .slice an2 nn cn2, .slice al2 nl cl2] 58)) = V at *
  refine (HM.out _ bV).mono ?_
  rintro e w1 ⟨rfl, bl1⟩
  have b1 := below_to bV bl1
  have L0 := K0.to bl1
  have L1 := K1.to bl1
  clear bl1 bV K0 K1 k0 l0 HM
  have k1 := L0.c8_1
  have l1 := L1.c8_1
  have k2 := L0.c8_2
  have l2 := L1.c8_2
  have k3 := L0.c8_3
  have l3 := L1.c8_3
  have k4 := L0.c8_4
  have l4 := L1.c8_4
  have k5 := L0.c8_5
  have l5 := L1.c8_5
  have k6 := L0.c8_6
  have l6 := L1.c8_6
  go_wp2_with fail
  refine (HP.out _ b1).mono ?_
  rintro e w2 ⟨rfl, bl2⟩
  have b2 := below_to b1 bl2
  have K0 := L0.to bl2
  have K1 := L1.to bl2
  clear bl2 b1 L0 L1 k1 l1 k2 l2 k3 l3 k4 l4 k5 l5 k6 l6 HP
  have k7 := K0.c8_7
  have l7 := K1.c8_7
  go_wp2_with fail
  refine (HQ.out _ b2).mono ?_
  rintro e w3 ⟨rfl, bl3⟩
  have b3 := below_to b2 bl3
  go_wp2
  go_ret
  exact ⟨rfl, b3⟩
set_option maxHeartbeats 800000 in
theorem sz_ints (a : Option Addr) (n cap : Nat) (w : World) (hn : n ≤ maxLen) (s : Int) (hs : 0 ≤ s) (hs2 : s ≤ 1048576) (r : Int) (hr : r = if (n : Int) ≤ s then s - n else -1) :
    Calls Try.prog 49 #[.slice a n cap, .int .i64 s] w fun e w' => e = .returned (.int .i64 r) ∧ w = w' := by
  unfold maxLen at hn
  by_cases h : (n : Int) ≤ s
  · rw [if_pos h] at hr
    subst hr
    go_enter Try.func49, Try.ntmps49
    go_wp2
    go_ret
    exact ⟨rfl, rfl⟩
  · rw [if_neg h] at hr
    subst hr
    go_enter Try.func49, Try.ntmps49
    go_wp2
    go_ret
    exact ⟨rfl, rfl⟩
set_option maxRecDepth 100000 in
set_option maxHeartbeats 1600000 in
theorem sz_room (am : Option Addr) (nm cm : Nat) (q bx cy lo hi : Int) (an : Option Addr) (nn cn : Nat) (al : Option Addr) (nl cl : Nat)  (w : World) (h1 : nm ≤ maxLen) (h2 : nn ≤ maxLen) (h3 : nl ≤ maxLen) (s : Int) (hs : 0 ≤ s) (hs2 : s ≤ 1048576) (r : Int) (hr : r = if (nm : Int) + nn + nl ≤ s then s - nm - nn - nl else -1) :
    Calls Try.prog 24 #[.agg #[.slice am nm cm, .int .i64 q, .int .i64 bx, .int .i64 cy, .int .i64 lo, .int .i64 hi, .slice an nn cn, .slice al nl cl], .int .i64 s] w fun e w' => e = .returned (.int .i64 r) ∧ Below w.heap.size w w' := by
  have bV := below_one w (.cells #[.slice am nm cm, .int .i64 q, .int .i64 bx, .int .i64 cy, .int .i64 lo, .int .i64 hi, .slice an nn cn, .slice al nl cl] 48)
  have K0 := blk_new w #[.slice am nm cm, .int .i64 q, .int .i64 bx, .int .i64 cy, .int .i64 lo, .int .i64 hi, .slice an nn cn, .slice al nl cl] 48 rfl
  by_cases c1 : (nm : Int) ≤ s
  · have HM := Lib.hid (fun V => sz_ints am nm cm V h1 s hs hs2 (s - nm) (by rw [if_pos c1]))
    have n1 : ¬ (s - (nm : Int) < 0) := by omega
    by_cases c2 : (nn : Int) ≤ s - nm
    · have HP := Lib.hid (fun V => sz_region an nn cn V h2 (s - nm) (by omega) (by omega) (s - nm - nn) (by rw [if_pos c2]))
      have n2 : ¬ (s - (nm : Int) - nn < 0) := by omega
      by_cases c3 : (nl : Int) ≤ s - nm - nn
      · have HQ := Lib.hid (fun V => sz_region al nl cl V h3 (s - nm - nn) (by omega) (by omega) (s - nm - nn - nl) (by rw [if_pos c3]))
        have n3 : ¬ (s - (nm : Int) - nn - nl < 0) := by omega
        rw [if_pos (by omega)] at hr
        subst hr
        clear h1 h2 h3
        go_enter Try.func24, Try.ntmps24
        have k0 := K0.c8_0
        go_wp2_with fail
        generalize (w.alloc (.cells #[.slice am nm cm, .int .i64 q, .int .i64 bx, .int .i64 cy, .int .i64 lo, .int .i64 hi, .slice an nn cn, .slice al nl cl] 48)) = V at *
        refine (HM.out _).mono ?_
        rintro e w1 ⟨rfl, hw1⟩
        subst hw1
        have k6 := K0.c8_6
        go_wp2_with fail
        refine (HP.out _).mono ?_
        rintro e w2 ⟨rfl, bl2⟩
        have b2 := below_to bV bl2
        have K2 := K0.to bl2
        clear k0 k6 K0 bl2
        have k7 := K2.c8_7
        go_wp2_with fail
        refine (HQ.out _).mono ?_
        rintro e w3 ⟨rfl, bl3⟩
        have b3 := below_to b2 bl3
        go_wp2
        go_ret
        exact ⟨rfl, b3⟩
      · have HQ := Lib.hid (fun V => sz_region al nl cl V h3 (s - nm - nn) (by omega) (by omega) (-1) (by rw [if_neg c3]))
        rw [if_neg (by omega)] at hr
        subst hr
        clear h1 h2 h3
        go_enter Try.func24, Try.ntmps24
        have k0 := K0.c8_0
        go_wp2_with fail
        generalize (w.alloc (.cells #[.slice am nm cm, .int .i64 q, .int .i64 bx, .int .i64 cy, .int .i64 lo, .int .i64 hi, .slice an nn cn, .slice al nl cl] 48)) = V at *
        refine (HM.out _).mono ?_
        rintro e w1 ⟨rfl, hw1⟩
        subst hw1
        have k6 := K0.c8_6
        go_wp2_with fail
        refine (HP.out _).mono ?_
        rintro e w2 ⟨rfl, bl2⟩
        have b2 := below_to bV bl2
        have K2 := K0.to bl2
        clear k0 k6 K0 bl2
        have k7 := K2.c8_7
        go_wp2_with fail
        refine (HQ.out _).mono ?_
        rintro e w3 ⟨rfl, bl3⟩
        have b3 := below_to b2 bl3
        go_wp2
        go_ret
        exact ⟨rfl, b3⟩
    · have HP := Lib.hid (fun V => sz_region an nn cn V h2 (s - nm) (by omega) (by omega) (-1) (by rw [if_neg c2]))
      rw [if_neg (by omega)] at hr
      subst hr
      clear h1 h2 h3
      go_enter Try.func24, Try.ntmps24
      have k0 := K0.c8_0
      go_wp2_with fail
      generalize (w.alloc (.cells #[.slice am nm cm, .int .i64 q, .int .i64 bx, .int .i64 cy, .int .i64 lo, .int .i64 hi, .slice an nn cn, .slice al nl cl] 48)) = V at *
      refine (HM.out _).mono ?_
      rintro e w1 ⟨rfl, hw1⟩
      subst hw1
      have k6 := K0.c8_6
      go_wp2_with fail
      refine (HP.out _).mono ?_
      rintro e w2 ⟨rfl, bl2⟩
      have b2 := below_to bV bl2
      have K2 := K0.to bl2
      clear k0 k6 K0 bl2
      go_wp2
      go_ret
      exact ⟨rfl, b2⟩
  · have HM := Lib.hid (fun V => sz_ints am nm cm V h1 s hs hs2 (-1) (by rw [if_neg c1]))
    rw [if_neg (by omega)] at hr
    subst hr
    clear h1 h2 h3
    go_enter Try.func24, Try.ntmps24
    have k0 := K0.c8_0
    go_wp2_with fail
    generalize (w.alloc (.cells #[.slice am nm cm, .int .i64 q, .int .i64 bx, .int .i64 cy, .int .i64 lo, .int .i64 hi, .slice an nn cn, .slice al nl cl] 48)) = V at *
    refine (HM.out _).mono ?_
    rintro e w1 ⟨rfl, hw1⟩
    subst hw1
    go_wp2
    go_ret
    exact ⟨rfl, bV⟩
end Go.Proofs.Ytibkmhmeoelpdaa
