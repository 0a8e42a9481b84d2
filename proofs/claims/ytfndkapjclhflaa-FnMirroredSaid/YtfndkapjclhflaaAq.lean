/- Regions mirrored, and counts of whole spots (no calls). -/
import Derived.Test.YtfndkapjclhflaaAp
namespace Go.Proofs.Ytfndkapjclhflaa
open Go.RowKit
open Geo (H3)

theorem mir_mir (h : H3) : mirM (mirM h) = h := by unfold mirM; simp
theorem mir_tn (f g : H3) : Geo.tn (mirM f) (mirM g) = Geo.tn f g := by unfold Geo.tn mirM; grind
theorem mir_D (f g h : H3) : Geo.D (mirM f) (mirM g) (mirM h) = Geo.D f g h := by unfold Geo.D mirM; grind
theorem mir_val (h : H3) (x y : Int) : Geo.val (mirM h) x y 1 = Geo.val h (-x) (-y) 1 := by unfold Geo.val mirM; grind
theorem mir_up {h : H3} (n : Geo.nz h) : Geo.up (mirM h) = !Geo.up h := by
  unfold Geo.up mirM
  unfold Geo.nz at n
  rw [Bool.eq_iff_iff]
  simp
  omega
theorem mir_bef {f g : H3} (nf : Geo.nz f) (ng : Geo.nz g) : Geo.bef (mirM f) (mirM g) = if Geo.up f = Geo.up g then Geo.bef f g else !Geo.up f := by
  unfold Geo.bef
  rw [mir_up nf, mir_up ng]
  have t := mir_tn f g
  unfold Geo.tn at t
  rw [t]
  cases Geo.up f <;> cases Geo.up g <;> simp
/-- the edges that come first and those of the other half turn -/
theorem half_turns {ps : List H3} (pw : ps.Pairwise (fun f g => Geo.bef f g = true)) : ∃ A B, ps = A ++ B ∧ (∀ a ∈ A, Geo.up a = true) ∧ (∀ b ∈ B, Geo.up b = false) := by
  refine ⟨ps.takeWhile Geo.up, ps.dropWhile Geo.up, (List.takeWhile_append_dropWhile).symm, fun a ha => ?_, fun b hb => ?_⟩
  · have := List.all_takeWhile (p := Geo.up) (l := ps)
    exact List.all_eq_true.1 this a ha
  · have sub : (ps.dropWhile Geo.up).Pairwise (fun f g => Geo.bef f g = true) := pw.sublist (List.dropWhile_sublist _)
    cases h : ps.dropWhile Geo.up with
    | nil => rw [h] at hb; simp at hb
    | cons x t =>
      have hx := Geo.dropW x t h
      rw [h] at hb sub
      rcases List.mem_cons.1 hb with rfl | m
      · exact hx
      · have := List.rel_of_pairwise_cons sub m
        cases u : Geo.up b with
        | false => rfl
        | true =>
          unfold Geo.bef at this
          rw [hx, u] at this
          simp at this
theorem mir_ok' {ps : List H3} (h : ps.all okB = true) : (ps.map mirM).all okB = true := mir_all (List.all_eq_true.1 h)
theorem mir_poly {A B : List H3} (P : Geo.Poly (A ++ B)) (hA : ∀ a ∈ A, Geo.up a = true) (hB : ∀ b ∈ B, Geo.up b = false) (n : A ++ B ≠ []) : Geo.Poly (B.map mirM ++ A.map mirM) ∧ ∀ p, p ∈ Geo.cyc (B.map mirM ++ A.map mirM) → ∃ q ∈ Geo.cyc (A ++ B), p = (mirM q.1, mirM q.2) := by
  have cy : ∀ p, p ∈ Geo.cyc (B.map mirM ++ A.map mirM) → ∃ q ∈ Geo.cyc (A ++ B), p = (mirM q.1, mirM q.2) := by
    intro p hp
    rw [Geo.cyc_turn, ← List.map_append, cyc_map _ n] at hp
    obtain ⟨q, hq, rfl⟩ := List.mem_map.1 hp
    exact ⟨q, hq, rfl⟩
  refine ⟨⟨?_, ?_, ?_, ?_⟩, cy⟩
  · have := P.1
    simp only [List.length_append, List.length_map] at this ⊢
    omega
  · intro e he
    have key : ∀ x, x ∈ A ++ B → Geo.nz (mirM x) := by
      intro x hx
      have := P.2.1 x hx
      unfold Geo.nz mirM at *
      simp only
      omega
    rcases List.mem_append.1 he with m | m
    · obtain ⟨x, hx, rfl⟩ := List.mem_map.1 m
      exact key x (List.mem_append_right _ hx)
    · obtain ⟨x, hx, rfl⟩ := List.mem_map.1 m
      exact key x (List.mem_append_left _ hx)
  · obtain ⟨pA, pB, _⟩ := List.pairwise_append.1 P.2.2.1
    rw [List.pairwise_append, List.pairwise_map, List.pairwise_map]
    refine ⟨?_, ?_, ?_⟩
    · refine pB.imp_of_mem (fun {f g} hf hg h => ?_)
      rw [mir_bef (P.2.1 f (List.mem_append_right _ hf)) (P.2.1 g (List.mem_append_right _ hg)), if_pos (by rw [hB f hf, hB g hg])]
      exact h
    · refine pA.imp_of_mem (fun {f g} hf hg h => ?_)
      rw [mir_bef (P.2.1 f (List.mem_append_left _ hf)) (P.2.1 g (List.mem_append_left _ hg)), if_pos (by rw [hA f hf, hA g hg])]
      exact h
    · intro f' hf' g' hg'
      obtain ⟨f, hf, rfl⟩ := List.mem_map.1 hf'
      obtain ⟨g, hg, rfl⟩ := List.mem_map.1 hg'
      rw [mir_bef (P.2.1 f (List.mem_append_right _ hf)) (P.2.1 g (List.mem_append_left _ hg)), if_neg (by rw [hB f hf, hA g hg]; simp), hB f hf]
      rfl
  · intro p hp
    obtain ⟨q, hq, rfl⟩ := cy p hp
    have c := crn_map mir_tn mir_D (P.2.2.2 q hq)
    refine c.perm fun e he => ?_
    rw [List.map_append]
    rcases List.mem_append.1 he with m | m
    · exact List.mem_append_right _ m
    · exact List.mem_append_left _ m
theorem mir_frame {g : H3} (h : g ∈ Geo.frame) : mirM g ∈ Geo.frame := by
  unfold Geo.frame at *
  simp only [List.mem_cons, List.not_mem_nil, or_false] at h
  rcases h with rfl | rfl | rfl | rfl <;> simp [mirM]
theorem mir_facts {ps : List H3} (r : rokB ps = true) (n : ps ≠ []) (l : ps.length ≤ 30) : ∃ ms : List H3, mirL ps = ms ∧ mirB ps = true ∧ rokB ms = true ∧ ms ≠ [] ∧ ms.length = ps.length ∧ mirL ms = ps ∧ mirB ms = true ∧ (∀ x, x ∈ ms ↔ x ∈ ps.map mirM) := by
  obtain ⟨P, c⟩ := rok_poly r n
  obtain ⟨A, B, e, hA, hB⟩ := half_turns P.2.2.1
  have okp := rok_allB r
  rw [e] at P c n okp l
  obtain ⟨Q, cy⟩ := mir_poly P hA hB n
  have ok : ((A ++ B).map mirM).all okB = true := mir_ok' okp
  have mem : ∀ x, x ∈ B.map mirM ++ A.map mirM ↔ x ∈ (A ++ B).map mirM := by
    intro x
    rw [List.map_append, List.mem_append, List.mem_append]
    exact or_comm
  have eq : regL ((A ++ B).map mirM) = B.map mirM ++ A.map mirM := by
    refine reg_eq ok (.inl ⟨Q, fun x hx => List.mem_append_left _ ((mem x).1 hx), fun p hp g hg => ?_⟩)
    obtain ⟨q, hq, rfl⟩ := cy p hp
    simp only
    have key : ∀ y, y ∈ Geo.frame ++ (A ++ B) → Geo.D (mirM q.1) (mirM q.2) (mirM y) ≤ 0 := fun y hy => by rw [mir_D]; exact c q hq y hy
    rcases List.mem_append.1 hg with m | m
    · obtain ⟨y, hy, rfl⟩ := List.mem_map.1 m
      exact key y (List.mem_append_right _ hy)
    · have := key (mirM g) (List.mem_append_left _ (mir_frame m))
      rwa [mir_mir] at this
  have ln : (B.map mirM ++ A.map mirM).length = (A ++ B).length := by simp only [List.length_append, List.length_map]; omega
  have oF : okF ([] ++ (A ++ B).map mirM) = true := by
    rw [List.nil_append]
    unfold okF
    rw [ok, eq, ln, decide_eq_true (by rw [List.length_map]; omega), decide_eq_true (by omega)]
    rfl
  have mb : mvB mirT mirM [] (A ++ B) = true := by unfold mvB; rw [mir_true, oF]; simp
  have rk : rokB (B.map mirM ++ A.map mirM) = true := by have := rok_regL ok (by rw [eq, ln]; omega); rwa [eq] at this
  rw [e] at r
  obtain ⟨y1, y2⟩ := mir_yes r
  obtain ⟨_, eL, _, _⟩ := mv_facts n mb
  rw [List.nil_append, eq] at eL
  have n2 : B.map mirM ++ A.map mirM ≠ [] := by
    intro q
    have := Q.1
    rw [q] at this
    simp at this
  -- back
  have mm : (B.map mirM ++ A.map mirM).map mirM = B ++ A := by
    rw [List.map_append, List.map_map, List.map_map]
    have t : mirM ∘ mirM = id := funext mir_mir
    rw [t, List.map_id, List.map_id]
  have ok2 : (B ++ A).all okB = true := by
    rw [List.all_append, Bool.and_comm, ← List.all_append]
    exact okp
  have eq2 : regL (B ++ A) = A ++ B := by
    refine reg_eq ok2 (.inl ⟨P, fun x hx => List.mem_append_left _ ?_, fun p hp g hg => c p hp g ?_⟩)
    · rcases List.mem_append.1 hx with m | m
      · exact List.mem_append_right _ m
      · exact List.mem_append_left _ m
    · rcases List.mem_append.1 hg with m | m
      · refine List.mem_append_right _ ?_
        rcases List.mem_append.1 m with m | m
        · exact List.mem_append_right _ m
        · exact List.mem_append_left _ m
      · exact List.mem_append_left _ m
  have oF2 : okF ([] ++ (B.map mirM ++ A.map mirM).map mirM) = true := by
    rw [List.nil_append, mm]
    unfold okF
    rw [ok2, eq2, decide_eq_true (by rw [List.length_append] at l ⊢; omega), decide_eq_true (by omega)]
    rfl
  have mb2 : mvB mirT mirM [] (B.map mirM ++ A.map mirM) = true := by unfold mvB; rw [mir_true, oF2]; simp
  obtain ⟨z1, z2⟩ := mir_yes rk
  obtain ⟨_, eL2, _, _⟩ := mv_facts n2 mb2
  rw [List.nil_append, mm, eq2] at eL2
  rw [e]
  exact ⟨_, by rw [y1, eL], by rw [y2, mb], rk, n2, ln, by rw [z1, eL2], by rw [z2, mb2], mem⟩

/-- the width of a column is that of any interval that says the same -/
theorem wid_iff {hs ks : List H3} {x x' : Int} (t : Int → Int) (s : Int → Int) (h1 : ∀ y, ((∀ g ∈ hs, Geo.val g x y 1 ≤ 0) ∧ -1000 ≤ y ∧ y ≤ 1000) → ((∀ g ∈ ks, Geo.val g x' (t y) 1 ≤ 0) ∧ -1000 ≤ t y ∧ t y ≤ 1000)) (h2 : ∀ y, ((∀ g ∈ ks, Geo.val g x' y 1 ≤ 0) ∧ -1000 ≤ y ∧ y ≤ 1000) → ((∀ g ∈ hs, Geo.val g x (s y) 1 ≤ 0) ∧ -1000 ≤ s y ∧ s y ≤ 1000)) (d : (∃ e, ∀ y, t y = y + e ∧ s y = y - e) ∨ ∀ y, t y = -y ∧ s y = -y) : widF hs x = widF ks x' := by
  unfold widF
  have a := fun y => colF_iff (x := x) (y := y) hs
  have b := fun y => colF_iff (x := x') (y := y) ks
  have f1 : ∀ y, (colF x hs).1 ≤ y → y ≤ (colF x hs).2 → (colF x' ks).1 ≤ t y ∧ t y ≤ (colF x' ks).2 := by
    intro y l u
    obtain ⟨p, q⟩ := (a y).1 ⟨l, u⟩
    obtain ⟨q', p'⟩ := h1 y ⟨q, p⟩
    exact (b (t y)).2 ⟨p', q'⟩
  have f2 : ∀ y, (colF x' ks).1 ≤ y → y ≤ (colF x' ks).2 → (colF x hs).1 ≤ s y ∧ s y ≤ (colF x hs).2 := by
    intro y l u
    obtain ⟨p, q⟩ := (b y).1 ⟨l, u⟩
    obtain ⟨q', p'⟩ := h2 y ⟨q, p⟩
    exact (a (s y)).2 ⟨p', q'⟩
  generalize colF x hs = i at *
  generalize colF x' ks = j at *
  have g1 := f1 i.1
  have g2 := f1 i.2
  have g3 := f2 j.1
  have g4 := f2 j.2
  rcases d with ⟨e, d⟩ | d
  · rw [(d _).1] at g1 g2
    rw [(d _).2] at g3 g4
    omega
  · rw [(d _).1] at g1 g2
    rw [(d _).2] at g3 g4
    omega
theorem wid_zero {hs : List H3} {x : Int} (h : ∀ y : Int, ¬ ∀ g ∈ hs, Geo.val g x y 1 ≤ 0) : widF hs x = 0 := by
  unfold widF
  by_cases k : (colF x hs).1 ≤ (colF x hs).2
  · exact absurd ((colF_iff (y := (colF x hs).1) hs).1 ⟨Int.le_refl _, k⟩).2 (h _)
  · omega
theorem cnt_tail {hs : List H3} {k : Nat} (z : ∀ x : Int, -1000 + k ≤ x → widF hs x = 0) (j : Nat) : cntF hs (k + j) = cntF hs k := by
  induction j with
  | zero => rfl
  | succ j ih => rw [← Nat.add_assoc, cntF_wid, ih, z _ (by omega)]; omega
theorem cnt_head {hs : List H3} (k : Nat) (z : ∀ x : Int, x < -1000 + k → widF hs x = 0) : cntF hs k = 0 := by
  induction k with
  | zero => rfl
  | succ k ih => rw [cntF_wid, ih (fun x hx => z x (by omega)), z _ (by omega)]; rfl
theorem cnt_shift {hs ks : List H3} {d : Nat} (hd : d ≤ 30) (s : ∀ x : Int, widF ks (x + d) = widF hs x) (z : ∀ x : Int, x < -200 ∨ 200 < x → widF hs x = 0) : cntF ks 2001 = cntF hs 2001 := by
  have h0 : cntF ks d = 0 := cnt_head d (fun x hx => by
    have := s (x - d)
    rw [show x - (d : Int) + d = x by omega] at this
    rw [this]
    exact z _ (by omega))
  have st : ∀ k : Nat, cntF ks (d + k) = cntF hs k := by
    intro k
    induction k with
    | zero => exact h0
    | succ k ih =>
      rw [← Nat.add_assoc, cntF_wid, cntF_wid, ih]
      have := s (-1000 + k)
      rw [show (-1000 : Int) + k + d = -1000 + ((d + k : Nat) : Int) by omega] at this
      rw [this]
  have e := st (2001 - d)
  rw [show d + (2001 - d) = 2001 by omega] at e
  rw [e, ← cnt_tail (k := 2001 - d) (fun x hx => z x (by omega)) d, show 2001 - d + d = 2001 by omega]
theorem cnt_turn {hs ks : List H3} (s : ∀ x : Int, widF ks x = widF hs (-x)) : cntF ks 2001 = cntF hs 2001 := by
  have st : ∀ k : Nat, k ≤ 2001 → cntF ks k + cntF hs (2001 - k) = cntF hs 2001 := by
    intro k
    induction k with
    | zero => intro _; show 0 + cntF hs 2001 = _; omega
    | succ k ih =>
      intro hk
      have a := ih (by omega)
      have e : 2001 - k = (2001 - (k + 1)) + 1 := by omega
      rw [e, cntF_wid] at a
      rw [cntF_wid, s]
      rw [show (-1000 : Int) + ((2001 - (k + 1) : Nat) : Int) = -(-1000 + (k : Int)) by omega] at a
      omega
  have := st 2001 (by omega)
  have e0 : cntF hs (2001 - 2001) = 0 := rfl
  omega
theorem who_move {ps : List H3} {x y u v dx dy : Int} (F : AreaF ps x y u v) (hx : -30 ≤ dx ∧ dx ≤ 30) (hy : -30 ≤ dy ∧ dy ≤ 30) : whoN (ps.map (tmM dx dy)) = whoN ps := by
  have r := F.1
  have n := F.2.1
  have q := F.2.2.2.1
  have bx := F.2.2.2.2.2.2
  have rk := (move_facts F hx hy).2.2.1
  have n2 : ps.map (tmM dx dy) ≠ [] := by simpa using n
  unfold whoN
  rw [if_pos ⟨rk, n2⟩, if_pos ⟨r, n⟩]
  have inn : ∀ x' y' : Int, (∀ g ∈ ps, Geo.val g x' y' 1 ≤ 0) → (-40 ≤ x' ∧ x' ≤ 98) ∧ -40 ≤ y' ∧ y' ≤ 98 := by
    intro x' y' h
    have := bx x' y' 1 (by omega) h
    omega
  have w : ∀ t : Int, widF (ps.map (tmM dx dy)) (t + dx) = widF ps t := by
    intro t
    refine wid_iff (fun y' => y' - dy) (fun y' => y' + dy) (fun y' h => ?_) (fun y' h => ?_) (.inl ⟨-dy, fun y' => ⟨by omega, by omega⟩⟩)
    · have h' : ∀ g ∈ ps, Geo.val g t (y' - dy) 1 ≤ 0 := by
        intro g hg
        have := h.1 _ (List.mem_map.2 ⟨g, hg, rfl⟩)
        rw [show y' = (y' - dy) + dy by omega, tm_val] at this
        exact this
      have := inn _ _ h'
      exact ⟨h', by omega, by omega⟩
    · have := inn _ _ h.1
      refine ⟨fun g hg => ?_, by omega, by omega⟩
      obtain ⟨e, he, rfl⟩ := List.mem_map.1 hg
      rw [tm_val]
      exact h.1 e he
  have z : ∀ t : Int, t < -40 ∨ 98 < t → widF ps t = 0 := by
    intro t ht
    refine wid_zero fun y' h => ?_
    have := inn _ _ h
    omega
  rcases Int.lt_or_le dx 0 with k | k
  · obtain ⟨d, hd⟩ : ∃ d : Nat, dx = -(d : Int) := ⟨dx.natAbs, by omega⟩
    refine (cnt_shift (hs := ps.map (tmM dx dy)) (ks := ps) (d := d) (by omega) (fun t => ?_) (fun t ht => ?_)).symm
    · have := w (t + d)
      rw [← this, hd, show t + (d : Int) + -(d : Int) = t by omega]
    · have := w (t - dx)
      rw [show t - dx + dx = t by omega] at this
      rw [this]
      exact z _ (by omega)
  · obtain ⟨d, hd⟩ : ∃ d : Nat, dx = (d : Int) := ⟨dx.natAbs, by omega⟩
    refine cnt_shift (hs := ps) (ks := ps.map (tmM dx dy)) (d := d) (by omega) (fun t => ?_) (fun t ht => z t (by omega))
    rw [← hd]
    exact w t
theorem who_mir {ps ms : List H3} (r : rokB ps = true) (n : ps ≠ []) (r' : rokB ms = true) (n' : ms ≠ []) (mem : ∀ x, x ∈ ms ↔ x ∈ ps.map mirM) : whoN ms = whoN ps := by
  unfold whoN
  rw [if_pos ⟨r', n'⟩, if_pos ⟨r, n⟩]
  refine cnt_turn fun x => ?_
  refine wid_iff (fun y => -y) (fun y => -y) (fun y h => ⟨fun g hg => ?_, by omega, by omega⟩) (fun y h => ⟨fun g hg => ?_, by omega, by omega⟩) (.inr fun y => ⟨rfl, rfl⟩)
  · have := h.1 (mirM g) ((mem _).2 (List.mem_map.2 ⟨g, hg, rfl⟩))
    rwa [mir_val] at this
  · obtain ⟨e, he, rfl⟩ := List.mem_map.1 ((mem g).1 hg)
    rw [mir_val, Int.neg_neg]
    exact h.1 e he
theorem who_box {dx dy : Int} (hx : -30 ≤ dx ∧ dx ≤ 30) (hy : -30 ≤ dy ∧ dy ≤ 30) : bxB dx dy (dx + 7) (dy + 5) = true ∧ rokB (boxL dx dy (dx + 7) (dy + 5)) = true ∧ whoN (boxL dx dy (dx + 7) (dy + 5)) = 48 := by
  have bb : bxB dx dy (dx + 7) (dy + 5) = true := (bx_iff _ _ _ _).2 ⟨by omega, by omega, by omega, by omega, by omega, by omega⟩
  have e : regL (boxL dx dy (dx + 7) (dy + 5)) = boxL dx dy (dx + 7) (dy + 5) := by rw [← mod_reg (box_ok bb)]; exact box_mod bb
  have r : rokB (boxL dx dy (dx + 7) (dy + 5)) = true := by
    have := rok_regL (box_ok bb) (by rw [e]; show 4 ≤ 40; omega)
    rwa [e] at this
  refine ⟨bb, r, ?_⟩
  have inn : ∀ x y : Int, (∀ g ∈ boxL dx dy (dx + 7) (dy + 5), Geo.val g x y 1 ≤ 0) ↔ (dx ≤ x ∧ x ≤ dx + 7) ∧ dy ≤ y ∧ y ≤ dy + 5 := by
    intro x y
    unfold boxL Geo.val
    simp only [List.mem_cons, List.not_mem_nil, or_false, forall_eq_or_imp, forall_eq]
    omega
  unfold whoN
  rw [if_pos ⟨r, by simp [boxL]⟩]
  generalize boxL dx dy (dx + 7) (dy + 5) = hs at *
  have w : ∀ x : Int, widF hs x = if dx ≤ x ∧ x ≤ dx + 7 then 6 else 0 := by
    intro x
    by_cases k : dx ≤ x ∧ x ≤ dx + 7
    · rw [if_pos k]
      unfold widF
      have a := fun y => colF_iff (x := x) (y := y) hs
      have a1 := (a dy).2 ⟨by omega, (inn _ _).2 ⟨k, by omega, by omega⟩⟩
      have a2 := (a (dy + 5)).2 ⟨by omega, (inn _ _).2 ⟨k, by omega, by omega⟩⟩
      have b1 := (inn _ _).1 ((a (colF x hs).1).1 ⟨by omega, by omega⟩).2
      have b2 := (inn _ _).1 ((a (colF x hs).2).1 ⟨by omega, by omega⟩).2
      omega
    · rw [if_neg k]
      exact wid_zero fun y h => k ((inn _ _).1 h).1
  have st : ∀ k : Nat, cntF hs k = 6 * max (min ((k : Int) - (dx + 1000)) 8) 0 := by
    intro k
    induction k with
    | zero => show (0 : Int) = _; omega
    | succ k ih =>
      rw [cntF_wid, ih, w]
      split <;> omega
  rw [st]
  omega
end Go.Proofs.Ytfndkapjclhflaa
