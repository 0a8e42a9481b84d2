/- A struct of eight fields of one cell each that came in: its cells; a room by value. Rooms over the translation: what is known of one that came in or was made, and the laws' toRoom, eqRoom, szRoom. -/
import Derived.Test.YtibkmhmeoelpdaaGreatIz
import Derived.Test.YtibkmhmeoelpdaaGreatCg
import Derived.Test.YtibkmhmeoelpdaaGreatMw
namespace Go.Proofs.YtibkmhmeoelpdaaGreat
open Go.ChangeShapes Go.WideShapes Go.ChangeAt Go.RowKit Go.Deep
open Geo (H3)
open Go.RowKit
theorem Blk.set {W : World} {B : Nat} {cs : Array Value} {t : TypeId} (h : Blk W B cs t) (i : Nat) (u : Value) : Blk (W.setCell ⟨B, i, none⟩ u) B (cs.setIfInBounds i u) t := heap_setCell_same W B i cs t u h
theorem Blk.c8_0 {W : World} {B : Nat} {t : TypeId} {a0 a1 a2 a3 a4 a5 a6 a7 : Value} (h : Blk W B #[a0, a1, a2, a3, a4, a5, a6, a7] t) : W.cell? ⟨B, 0, none⟩ = some a0 := h.cell0 (i := 0) rfl
theorem Blk.c8_1 {W : World} {B : Nat} {t : TypeId} {a0 a1 a2 a3 a4 a5 a6 a7 : Value} (h : Blk W B #[a0, a1, a2, a3, a4, a5, a6, a7] t) : W.cell? ⟨B, 1, none⟩ = some a1 := h.cell0 (i := 1) rfl
theorem Blk.c8_2 {W : World} {B : Nat} {t : TypeId} {a0 a1 a2 a3 a4 a5 a6 a7 : Value} (h : Blk W B #[a0, a1, a2, a3, a4, a5, a6, a7] t) : W.cell? ⟨B, 2, none⟩ = some a2 := h.cell0 (i := 2) rfl
theorem Blk.c8_3 {W : World} {B : Nat} {t : TypeId} {a0 a1 a2 a3 a4 a5 a6 a7 : Value} (h : Blk W B #[a0, a1, a2, a3, a4, a5, a6, a7] t) : W.cell? ⟨B, 3, none⟩ = some a3 := h.cell0 (i := 3) rfl
theorem Blk.c8_4 {W : World} {B : Nat} {t : TypeId} {a0 a1 a2 a3 a4 a5 a6 a7 : Value} (h : Blk W B #[a0, a1, a2, a3, a4, a5, a6, a7] t) : W.cell? ⟨B, 4, none⟩ = some a4 := h.cell0 (i := 4) rfl
theorem Blk.c8_5 {W : World} {B : Nat} {t : TypeId} {a0 a1 a2 a3 a4 a5 a6 a7 : Value} (h : Blk W B #[a0, a1, a2, a3, a4, a5, a6, a7] t) : W.cell? ⟨B, 5, none⟩ = some a5 := h.cell0 (i := 5) rfl
theorem Blk.c8_6 {W : World} {B : Nat} {t : TypeId} {a0 a1 a2 a3 a4 a5 a6 a7 : Value} (h : Blk W B #[a0, a1, a2, a3, a4, a5, a6, a7] t) : W.cell? ⟨B, 6, none⟩ = some a6 := h.cell0 (i := 6) rfl
theorem Blk.c8_7 {W : World} {B : Nat} {t : TypeId} {a0 a1 a2 a3 a4 a5 a6 a7 : Value} (h : Blk W B #[a0, a1, a2, a3, a4, a5, a6, a7] t) : W.cell? ⟨B, 7, none⟩ = some a7 := h.cell0 (i := 7) rfl
theorem Blk.s8_4 {W : World} {B : Nat} {t : TypeId} {a0 a1 a2 a3 a4 a5 a6 a7 : Value} (h : Blk W B #[a0, a1, a2, a3, a4, a5, a6, a7] t) (u : Value) : Blk (W.setCell ⟨B, 4, none⟩ u) B #[a0, a1, a2, a3, u, a5, a6, a7] t := h.set 4 u
theorem Blk.s8_5 {W : World} {B : Nat} {t : TypeId} {a0 a1 a2 a3 a4 a5 a6 a7 : Value} (h : Blk W B #[a0, a1, a2, a3, a4, a5, a6, a7] t) (u : Value) : Blk (W.setCell ⟨B, 5, none⟩ u) B #[a0, a1, a2, a3, a4, u, a6, a7] t := h.set 5 u
theorem Blk.s8_6 {W : World} {B : Nat} {t : TypeId} {a0 a1 a2 a3 a4 a5 a6 a7 : Value} (h : Blk W B #[a0, a1, a2, a3, a4, a5, a6, a7] t) (u : Value) : Blk (W.setCell ⟨B, 6, none⟩ u) B #[a0, a1, a2, a3, a4, a5, u, a7] t := h.set 6 u
theorem Blk.s8_7 {W : World} {B : Nat} {t : TypeId} {a0 a1 a2 a3 a4 a5 a6 a7 : Value} (h : Blk W B #[a0, a1, a2, a3, a4, a5, a6, a7] t) (u : Value) : Blk (W.setCell ⟨B, 7, none⟩ u) B #[a0, a1, a2, a3, a4, a5, a6, u] t := h.set 7 u
/-- what a room's slices hold -/
structure RAt (w : World) (am : Option Addr) (nm : Nat) (zs : List Int) (an : Option Addr) (nn : Nat) (ps : List H3) (al : Option Addr) (nl : Nat) (qs : List H3) : Prop where
  lm : zs.length = nm
  ln : ps.length = nn
  ll : qs.length = nl
  hm : IsAt w am zs
  hn : HsAt w an ps
  hl : HsAt w al qs
theorem RAt.below {w w' : World} {am an al : Option Addr} {nm nn nl : Nat} {zs : List Int} {ps qs : List H3} (h : RAt w am nm zs an nn ps al nl qs) (hb : Below w.heap.size w w') : RAt w' am nm zs an nn ps al nl qs :=
  ⟨h.lm, h.ln, h.ll, h.hm.below hb, h.hn.below hb, h.hl.below hb⟩
/-- its numbers are ints -/
structure R64 (q bx cy lo hi : Int) (ps qs : List H3) : Prop where
  q : -9223372036854775808 ≤ q ∧ q ≤ 9223372036854775807
  bx : -9223372036854775808 ≤ bx ∧ bx ≤ 9223372036854775807
  cy : -9223372036854775808 ≤ cy ∧ cy ≤ 9223372036854775807
  lo : -9223372036854775808 ≤ lo ∧ lo ≤ 9223372036854775807
  hi : -9223372036854775808 ≤ hi ∧ hi ≤ 9223372036854775807
  ps : ∀ h ∈ ps, In64 h
  qs : ∀ h ∈ qs, In64 h
/-- a room of the call's own: three rows in three blocks -/
structure ROwn (w : World) (B : Nat) (am : Option Addr) (nm cm : Nat) (zs : List Int) (an : Option Addr) (nn cn : Nat) (ps : List H3) (al : Option Addr) (nl cl : Nat) (qs : List H3) : Prop where
  om : w.ownsRow B 3 1 (.slice am nm cm) nm (zs.map (Value.int .i64))
  on : w.ownsRow B 104 3 (.slice an nn cn) nn (flat ps)
  ol : w.ownsRow B 104 3 (.slice al nl cl) nl (flat qs)
  d1 : ∀ p, (Value.slice am nm cm).ownBlock = some p → (Value.slice an nn cn).ownBlock ≠ some p
  d2 : ∀ p, (Value.slice am nm cm).ownBlock = some p → (Value.slice al nl cl).ownBlock ≠ some p
  d3 : ∀ p, (Value.slice an nn cn).ownBlock = some p → (Value.slice al nl cl).ownBlock ≠ some p
theorem flat_ln {w : World} {B n cp : Nat} {e : TypeId} {ao : Option Addr} {hs : List H3} (h : w.ownsRow B e 3 (.slice ao n cp) n (flat hs)) : hs.length = n := by
  have h1 := h.1
  rw [flat_len] at h1
  omega
theorem ROwn.at {w : World} {B nm cm nn cn nl cl : Nat} {am an al : Option Addr} {zs : List Int} {ps qs : List H3} (h : ROwn w B am nm cm zs an nn cn ps al nl cl qs) : RAt w am nm zs an nn ps al nl qs :=
  ⟨by have := h.om.1; simpa using this, flat_ln h.on, flat_ln h.ol, own_ints h.om, own_hs h.on, own_hs h.ol⟩
theorem ROwn.below {w w' : World} {B nm cm nn cn nl cl : Nat} {am an al : Option Addr} {zs : List Int} {ps qs : List H3} (h : ROwn w B am nm cm zs an nn cn ps al nl cl qs) (hb : Below w.heap.size w w') : ROwn w' B am nm cm zs an nn cn ps al nl cl qs :=
  ⟨own_below h.om hb, own_below h.on hb, own_below h.ol hb, h.d1, h.d2, h.d3⟩
theorem ROwn.mono {w : World} {B B' nm cm nn cn nl cl : Nat} {am an al : Option Addr} {zs : List Int} {ps qs : List H3} (h : ROwn w B am nm cm zs an nn cn ps al nl cl qs) (hb : B' ≤ B) : ROwn w B' am nm cm zs an nn cn ps al nl cl qs :=
  ⟨own_base h.om hb, own_base h.on hb, own_base h.ol hb, h.d1, h.d2, h.d3⟩
/-- a nil slice has nothing -/
structure RNil (am : Option Addr) (nm cm : Nat) (an : Option Addr) (nn cn : Nat) (al : Option Addr) (nl cl : Nat) : Prop where
  m : am = none → nm = 0 ∧ cm = 0
  n : an = none → nn = 0 ∧ cn = 0
  l : al = none → nl = 0 ∧ cl = 0
theorem ROwn.nil {w : World} {B nm cm nn cn nl cl : Nat} {am an al : Option Addr} {zs : List Int} {ps qs : List H3} (h : ROwn w B am nm cm zs an nn cn ps al nl cl qs) : RNil am nm cm an nn cn al nl cl :=
  ⟨own_nil h.om, own_nil h.on, own_nil h.ol⟩
end Go.Proofs.YtibkmhmeoelpdaaGreat
