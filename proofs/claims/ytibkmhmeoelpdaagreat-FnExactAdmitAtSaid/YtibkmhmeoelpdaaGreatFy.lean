/- What the rounds of a room make (no calls). RunRounds of the program and of the model, over the translation. KeptRegion, RoundsOf and CanBeKept of the program and of the model, over the translation. The steps of a round grow with the region that they are taken of (no calls). A grown region is exactly what the inputs reach; a round grows with the region and with the range (no calls). What the rounds of a room say of its regions: each lies within the one before, and the last contains every region that is kept (no calls). How far a region reaches beyond the edges of another (no calls). LossOf of the program, over the translation. LossOf of the program, over the translation: the loop over the edges. The inputs that a region's half planes admit at a state: bounds as fractions, one half plane after the other (no calls). -/
import Derived.Test.YtibkmhmeoelpdaaGreatVd
import Derived.Test.YtibkmhmeoelpdaaGreatMw
import Derived.Test.YtibkmhmeoelpdaaGreatGv
import Derived.Test.YtibkmhmeoelpdaaGreatMx
import Derived.Test.YtibkmhmeoelpdaaGreatKd
import Derived.Test.YtibkmhmeoelpdaaGreatKz
import Derived.Test.YtibkmhmeoelpdaaGreatAu
import Derived.Test.YtibkmhmeoelpdaaGreatMo
import Derived.Test.YtibkmhmeoelpdaaGreatYz
import Derived.Test.YtibkmhmeoelpdaaGreatFg
import Derived.Test.YtibkmhmeoelpdaaGreatHq
namespace Go.Proofs.YtibkmhmeoelpdaaGreat
open Go.RowKit
open Geo (H3)
section
variable {zs : List Int} {q bx cy lo hi : Int} {ps qs : List H3}
end
theorem Blk.pt {W : World} {B C : Nat} {cs : Array Value} {t : TypeId} (h : Blk W B cs t) (n : C ≠ B) (i : Nat) (u : Value) : Blk (W.setCell ⟨C, i, none⟩ u) B cs t := blk_far h u n
theorem Blk.s3 {W : World} {B : Nat} {t : TypeId} {a0 a1 a2 : Value} (h : Blk W B #[a0, a1, a2] t) (u v x : Value) : Blk (((W.setCell ⟨B, 0, none⟩ u).setCell ⟨B, 1, none⟩ v).setCell ⟨B, 2, none⟩ x) B #[u, v, x] t := ((h.set 0 u).set 1 v).set 2 x
/-- a new kept region and a bool are handed back -/
def AnsK (w : World) (L : List H3) (N : Nat) (S b : Bool) (e : Ending) (w' : World) : Prop := ∃ ao cp, e = .returned (.tuple #[.agg #[.slice ao L.length cp, .int .i64 N, .bool S], .bool b]) ∧ w'.ownsRow w.heap.size 104 3 (.slice ao L.length cp) L.length (flat L) ∧ Below w.heap.size w w'
theorem AnsK.no {w w' : World} {L : List H3} {N : Nat} {S b : Bool} (h : L = [] ∧ N = 0 ∧ S = false ∧ b = false) (hb : Below w.heap.size w w') : AnsK w L N S b (.returned (.tuple #[.agg #[.slice none 0 0, .int .i64 0, .bool false], .bool false])) w' := by
  obtain ⟨rfl, rfl, rfl, rfl⟩ := h
  exact ⟨none, 0, rfl, own3_none, hb⟩
theorem AnsK.yes {w w' : World} {L M : List H3} {N k : Nat} {S s b : Bool} {ao : Option Addr} {m cp : Nat} (h : L = M ∧ N = k ∧ S = s ∧ b = true) (ho : w'.ownsRow w.heap.size 104 3 (.slice ao m cp) m (flat M)) (hb : Below w.heap.size w w') : AnsK w L N S b (.returned (.tuple #[.agg #[.slice ao m cp, .int .i64 k, .bool s], .bool true])) w' := by
  obtain ⟨rfl, rfl, rfl, rfl⟩ := h
  obtain rfl := (own3_view ho).1
  exact ⟨ao, cp, rfl, ho, hb⟩
open Go.RowKit
open Geo (H3)

/-- every point of one region lies in another -/
def Sub (ps qs : List H3) : Prop := ps = [] ∨ (qs ≠ [] ∧ ∀ X Y W : Int, 0 < W → (∀ e ∈ ps, Geo.val e X Y W ≤ 0) → ∀ g ∈ qs, Geo.val g X Y W ≤ 0)
theorem Sub.refl (ps : List H3) : Sub ps ps := by
  by_cases h : ps = []
  · exact .inl h
  · exact .inr ⟨h, fun _ _ _ _ k => k⟩
theorem Sub.trans {ps qs rs : List H3} (a : Sub ps qs) (b : Sub qs rs) : Sub ps rs := by
  rcases a with a | ⟨n, a⟩
  · exact .inl a
  · rcases b with b | ⟨m, b⟩
    · exact absurd b n
    · exact .inr ⟨m, fun X Y W w k => b X Y W w (a X Y W w k)⟩
theorem Sub.wi {ps qs : List H3} (r : rokB ps = true) (q : rokB qs = true) (s : Sub ps qs) : wiB ps qs = true := by
  rcases s with rfl | ⟨n, s⟩
  · unfold wiB
    rw [r, q]
    simp
  · exact within_rok r q n (fun _ => s)
theorem Sub.nil {ps : List H3} (s : Sub ps []) : ps = [] := by
  rcases s with h | ⟨h, _⟩
  · exact h
  · exact absurd rfl h
theorem posz_le {k v : Int} (hk : 0 < k) (h : k * v ≤ 0) : v ≤ 0 := by
  rcases Int.lt_or_le 0 v with q | q
  · have := Int.mul_pos hk q
    omega
  · exact q
section
variable {zs : List Int} {q bx cy lo hi : Int} {ps qs : List H3}
end
open Go.RowKit
open Geo (H3)
theorem lxo_ok {n d : Int} (h1 : -1000000000000000000 ≤ n ∧ n ≤ 1000000000000000000) (h2 : 1 ≤ d ∧ d ≤ 1000000000000000) : hasR n d = true ∧ okR (ofN n d) (ofD n d) = true ∧ ofN n d * d = n * ofD n d := by
  have hg : 0 < Int.gcd n d := Nat.gcd_pos_of_pos_right _ (by omega)
  have hh : hasR n d = true := by
    rw [hasR_iff]
    refine ⟨by omega, ?_, ?_⟩
    · exact Nat.le_trans (Nat.div_le_self _ _) (by omega)
    · exact Nat.le_trans (Nat.div_le_self _ _) (by omega)
  obtain ⟨o1, o2⟩ := of_num (n := n) (d := d) h2.1
  have oh := of_has (n := n) (d := d) h2.1
  have e1 : ofN n d = n.tdiv (Int.gcd n d) := by unfold ofN; rw [if_pos hh, o1]
  have e2 : ofD n d = d.tdiv (Int.gcd n d) := by unfold ofD; rw [if_pos hh, o2]
  refine ⟨hh, by rw [e1, e2, oh, hh], ?_⟩
  rw [e1, e2]
  have q1 : n.tdiv (Int.gcd n d) * (Int.gcd n d : Int) = n := Int.tdiv_mul_cancel (Int.gcd_dvd_left ..)
  have q2 : d.tdiv (Int.gcd n d) * (Int.gcd n d : Int) = d := Int.tdiv_mul_cancel (Int.gcd_dvd_right ..)
  generalize n.tdiv (Int.gcd n d) = x at *
  generalize d.tdiv (Int.gcd n d) = y at *
  generalize (Int.gcd n d : Int) = g at *
  rw [← q1, ← q2]
  grind
section
variable {zs : List Int} {q bx cy lo hi : Int} {ps qs : List H3}
end
open Go.RowKit
open Geo (H3)

theorem minP_le {a b c d k m : Int} (h : okR a b = true) (g : okR c d = true) (hk : 0 < k) : okR (minP a b c d).1 (minP a b c d).2 = true ∧ (m * (minP a b c d).2 ≤ (minP a b c d).1 * k ↔ m * b ≤ a * k ∧ m * d ≤ c * k) := by
  have p1 := ((okR_iff _ _).1 h).1
  have p2 := ((okR_iff _ _).1 g).1
  have key : ∀ a b c d : Int, 1 ≤ b → 1 ≤ d → a * d ≤ c * b → m * b ≤ a * k → m * d ≤ c * k := by
    intro a b c d hb hd q r
    refine Int.le_of_sub_nonpos ?_
    refine posz_le (k := b) (by omega) ?_
    have r1 := Int.mul_le_mul_of_nonneg_right r (show 0 ≤ d by omega)
    have r2 := Int.mul_le_mul_of_nonneg_right q (Int.le_of_lt hk)
    have e : b * (m * d - c * k) = (m * b * d - a * k * d) + (a * d * k - c * b * k) := by grind
    rw [e]
    omega
  unfold minP
  rw [if_pos ⟨h, g⟩]
  unfold cmpR
  by_cases q : a * d < c * b
  · rw [if_pos q, if_pos (by omega)]
    exact ⟨h, fun r => ⟨r, key a b c d p1 p2 (Int.le_of_lt q) r⟩, fun r => r.1⟩
  · rw [if_neg q]
    by_cases q2 : c * b < a * d
    · rw [if_pos q2, if_neg (by omega)]
      exact ⟨g, fun r => ⟨key c d a b p2 p1 (Int.le_of_lt q2) r, r⟩, fun r => r.2⟩
    · rw [if_neg q2, if_pos (by omega)]
      exact ⟨h, fun r => ⟨r, key a b c d p1 p2 (by omega) r⟩, fun r => r.1⟩
theorem maxP_ge {a b c d k m : Int} (h : okR a b = true) (g : okR c d = true) (hk : 0 < k) : okR (maxP a b c d).1 (maxP a b c d).2 = true ∧ ((maxP a b c d).1 * k ≤ m * (maxP a b c d).2 ↔ a * k ≤ m * b ∧ c * k ≤ m * d) := by
  have p1 := ((okR_iff _ _).1 h).1
  have p2 := ((okR_iff _ _).1 g).1
  have key : ∀ a b c d : Int, 1 ≤ b → 1 ≤ d → c * b ≤ a * d → a * k ≤ m * b → c * k ≤ m * d := by
    intro a b c d hb hd q r
    refine Int.le_of_sub_nonpos ?_
    refine posz_le (k := b) (by omega) ?_
    have r1 := Int.mul_le_mul_of_nonneg_right r (show 0 ≤ d by omega)
    have r2 := Int.mul_le_mul_of_nonneg_right q (Int.le_of_lt hk)
    have e : b * (c * k - m * d) = (a * k * d - m * b * d) + (c * b * k - a * d * k) := by grind
    rw [e]
    omega
  unfold maxP
  rw [if_pos ⟨h, g⟩]
  unfold cmpR
  by_cases q : a * d < c * b
  · rw [if_pos q, if_neg (by omega)]
    exact ⟨g, fun r => ⟨key c d a b p2 p1 (Int.le_of_lt q) r, r⟩, fun r => r.2⟩
  · rw [if_neg q]
    have e : (0 : Int) ≤ (if c * b < a * d then 1 else 0) := by split <;> omega
    rw [if_pos e]
    exact ⟨h, fun r => ⟨r, key a b c d p1 p2 (by omega) r⟩, fun r => r.1⟩
/-- the least and the greatest input so far, and whether no half plane has refused -/
structure Adm where
  lN : Int
  lD : Int
  hN : Int
  hD : Int
  ok : Bool
def Adm.In (s : Adm) (k m : Int) : Prop := s.ok = true ∧ s.lN * k ≤ m * s.lD ∧ m * s.hD ≤ s.hN * k
def Adm.Ok (s : Adm) : Prop := okR s.lN s.lD = true ∧ okR s.hN s.hD = true
/-- one half plane: X, Y, d the mapped state on one denominator -/
def admS (bx cy X Y d : Int) (s : Adm) (h : H3) : Adm :=
  if 0 < slp bx cy h then { s with hN := (minP s.hN s.hD (ofN (h.c * d - h.a * X - h.b * Y) (d * slp bx cy h)) (ofD (h.c * d - h.a * X - h.b * Y) (d * slp bx cy h))).1, hD := (minP s.hN s.hD (ofN (h.c * d - h.a * X - h.b * Y) (d * slp bx cy h)) (ofD (h.c * d - h.a * X - h.b * Y) (d * slp bx cy h))).2 }
  else if slp bx cy h < 0 then { s with lN := (maxP s.lN s.lD (ofN (-(h.c * d - h.a * X - h.b * Y)) (-d * slp bx cy h)) (ofD (-(h.c * d - h.a * X - h.b * Y)) (-d * slp bx cy h))).1, lD := (maxP s.lN s.lD (ofN (-(h.c * d - h.a * X - h.b * Y)) (-d * slp bx cy h)) (ofD (-(h.c * d - h.a * X - h.b * Y)) (-d * slp bx cy h))).2 }
  else { s with ok := s.ok && decide (0 ≤ h.c * d - h.a * X - h.b * Y) }
theorem adm_step {bx cy X Y d : Int} {s : Adm} {h : H3} (so : s.Ok) (hd : 1 ≤ d ∧ d ≤ 2000000) (ht : -1000000000000000000 ≤ h.c * d - h.a * X - h.b * Y ∧ h.c * d - h.a * X - h.b * Y ≤ 1000000000000000000) (hn : -10000000 ≤ slp bx cy h ∧ slp bx cy h ≤ 10000000) :
    (admS bx cy X Y d s h).Ok ∧ ∀ k m : Int, 0 < k → ((admS bx cy X Y d s h).In k m ↔ s.In k m ∧ slp bx cy h * m * d ≤ (h.c * d - h.a * X - h.b * Y) * k) := by
  unfold admS
  generalize h.c * d - h.a * X - h.b * Y = t at *
  generalize slp bx cy h = n at *
  by_cases q : 0 < n
  · rw [if_pos q]
    have m1 := mul_in d n 2000000 10000000 (by omega) hd.2 (by omega) hn.2
    have m2 : 1 * 1 ≤ d * n := Int.mul_le_mul hd.1 (by omega) (by omega) (by omega)
    obtain ⟨_, o2, o3⟩ := lxo_ok (n := t) (d := d * n) ht (by omega)
    have pf := ((okR_iff _ _).1 o2).1
    refine ⟨⟨so.1, (minP_le (k := 1) (m := 0) so.2 o2 (by omega)).1⟩, fun k m hk => ?_⟩
    have mi := (minP_le (m := m) so.2 o2 hk).2
    unfold Adm.In
    simp only
    rw [mi]
    have cross : m * ofD t (d * n) ≤ ofN t (d * n) * k ↔ n * m * d ≤ t * k := by
      generalize ofD t (d * n) = D at *
      generalize ofN t (d * n) = N at *
      generalize hp : d * n = p at *
      have e1 : n * m * d = m * p := by rw [← hp]; grind
      rw [e1]
      constructor
      · intro r
        refine Int.le_of_sub_nonpos (posz_le (k := D) (by omega) ?_)
        have r1 := Int.mul_le_mul_of_nonneg_right r (show 0 ≤ p by omega)
        have e : D * (m * p - t * k) = m * D * p - N * k * p := by
          have : N * k * p = t * D * k := by rw [← o3]; grind
          rw [this]; grind
        rw [e]; omega
      · intro r
        refine Int.le_of_sub_nonpos (posz_le (k := p) (by omega) ?_)
        have r1 := Int.mul_le_mul_of_nonneg_right r (show 0 ≤ D by omega)
        have e : p * (m * D - N * k) = m * p * D - t * k * D := by
          have : N * p * k = t * D * k := by rw [o3]
          have e2 : p * (m * D - N * k) = m * p * D - N * p * k := by grind
          rw [e2, this]; grind
        rw [e]; omega
    rw [cross]
    constructor
    · rintro ⟨a, b, c, e⟩; exact ⟨⟨a, b, c⟩, e⟩
    · rintro ⟨⟨a, b, c⟩, e⟩; exact ⟨a, b, c, e⟩
  · rw [if_neg q]
    by_cases q2 : n < 0
    · rw [if_pos q2]
      have e0 : -d * n = d * -n := by grind
      rw [e0]
      have m1 := mul_in d (-n) 2000000 10000000 (by omega) hd.2 (by omega) (by omega)
      have m2 : 1 * 1 ≤ d * -n := Int.mul_le_mul hd.1 (by omega) (by omega) (by omega)
      obtain ⟨_, o2, o3⟩ := lxo_ok (n := -t) (d := d * -n) (by omega) (by omega)
      have pf := ((okR_iff _ _).1 o2).1
      refine ⟨⟨(maxP_ge (k := 1) (m := 0) so.1 o2 (by omega)).1, so.2⟩, fun k m hk => ?_⟩
      have mi := (maxP_ge (m := m) so.1 o2 hk).2
      unfold Adm.In
      simp only
      rw [mi]
      have cross : ofN (-t) (d * -n) * k ≤ m * ofD (-t) (d * -n) ↔ n * m * d ≤ t * k := by
        generalize ofD (-t) (d * -n) = D at *
        generalize ofN (-t) (d * -n) = N at *
        generalize hp : d * -n = p at *
        have e1 : n * m * d = -(m * p) := by rw [← hp]; grind
        rw [e1]
        constructor
        · intro r
          refine Int.le_of_sub_nonpos (posz_le (k := D) (by omega) ?_)
          have r1 := Int.mul_le_mul_of_nonneg_right r (show 0 ≤ p by omega)
          have e : D * (-(m * p) - t * k) = N * k * p - m * D * p := by
            have : N * k * p = -t * D * k := by rw [← o3]; grind
            rw [this]; grind
          rw [e]; omega
        · intro r
          refine Int.le_of_sub_nonpos (posz_le (k := p) (by omega) ?_)
          have r1 := Int.mul_le_mul_of_nonneg_right r (show 0 ≤ D by omega)
          have e : p * (N * k - m * D) = -(m * p) * D - t * k * D := by
            have : N * p * k = -t * D * k := by rw [o3]
            have e2 : p * (N * k - m * D) = N * p * k - m * p * D := by grind
            rw [e2, this]; grind
          rw [e]; omega
      rw [cross]
      constructor
      · rintro ⟨a, ⟨b, e⟩, c⟩; exact ⟨⟨a, b, c⟩, e⟩
      · rintro ⟨⟨a, b, c⟩, e⟩; exact ⟨a, ⟨b, e⟩, c⟩
    · rw [if_neg q2]
      obtain rfl : n = 0 := by omega
      refine ⟨so, fun k m hk => ?_⟩
      unfold Adm.In
      simp only [Bool.and_eq_true, decide_eq_true_eq, Int.zero_mul]
      have z : 0 ≤ t ↔ 0 ≤ t * k := by
        constructor
        · intro r; exact Int.mul_nonneg r (Int.le_of_lt hk)
        · intro r
          rcases Int.lt_or_le t 0 with x | x
          · have := Int.mul_neg_of_neg_of_pos x hk
            omega
          · exact x
      rw [← z]
      constructor
      · rintro ⟨⟨a, e⟩, b⟩; exact ⟨⟨a, b⟩, e⟩
      · rintro ⟨⟨a, b⟩, e⟩; exact ⟨⟨a, e⟩, b⟩
/-- all half planes, from the room's range on -/
def admL (bx cy lo hi X Y d : Int) (es : List H3) : Adm := es.foldl (admS bx cy X Y d) ⟨lo, 1, hi, 1, true⟩
theorem adm_fold {bx cy X Y d : Int} (hd : 1 ≤ d ∧ d ≤ 2000000) (es : List H3) (hb : ∀ h ∈ es, (-1000000000000000000 ≤ h.c * d - h.a * X - h.b * Y ∧ h.c * d - h.a * X - h.b * Y ≤ 1000000000000000000) ∧ (-10000000 ≤ slp bx cy h ∧ slp bx cy h ≤ 10000000)) :
    ∀ s : Adm, s.Ok → (es.foldl (admS bx cy X Y d) s).Ok ∧ ∀ k m : Int, 0 < k → ((es.foldl (admS bx cy X Y d) s).In k m ↔ s.In k m ∧ ∀ h ∈ es, slp bx cy h * m * d ≤ (h.c * d - h.a * X - h.b * Y) * k) := by
  induction es with
  | nil => intro s so; exact ⟨so, fun k m _ => by simp⟩
  | cons h t ih =>
    intro s so
    rw [List.foldl_cons]
    obtain ⟨b1, b2⟩ := hb h (by simp)
    obtain ⟨o1, i1⟩ := adm_step so hd b1 b2
    obtain ⟨o2, i2⟩ := ih (fun x hx => hb x (List.mem_cons_of_mem _ hx)) _ o1
    refine ⟨o2, fun k m hk => ?_⟩
    rw [i2 k m hk, i1 k m hk, List.forall_mem_cons, and_assoc]
/-- what the numbers of a half plane are at a mapped state -/
theorem adm_in {bx cy X Y d : Int} {h : H3} (k : okB h = true) (hx : -100 ≤ bx ∧ bx ≤ 100) (hy : -100 ≤ cy ∧ cy ≤ 100) (hd : 1 ≤ d ∧ d ≤ 2000000) (hX : -4000000000 ≤ X ∧ X ≤ 4000000000) (hY : -4000000000 ≤ Y ∧ Y ≤ 4000000000) :
    (-1000000000000000000 ≤ h.c * d - h.a * X - h.b * Y ∧ h.c * d - h.a * X - h.b * Y ≤ 1000000000000000000) ∧ (-10000000 ≤ slp bx cy h ∧ slp bx cy h ≤ 10000000) := by
  obtain ⟨iA, iB, ic, _⟩ := ok_in k
  have m1 := mul_in h.c d 100000000 2000000 ic.1 ic.2 (by omega) hd.2
  have m2 := mul_in h.a X 50000 4000000000 iA.1 iA.2 hX.1 hX.2
  have m3 := mul_in h.b Y 50000 4000000000 iB.1 iB.2 hY.1 hY.2
  have m4 := mul_in h.a bx 50000 100 iA.1 iA.2 hx.1 hx.2
  have m5 := mul_in h.b cy 50000 100 iB.1 iB.2 hy.1 hy.2
  unfold slp
  omega
end Go.Proofs.YtibkmhmeoelpdaaGreat
