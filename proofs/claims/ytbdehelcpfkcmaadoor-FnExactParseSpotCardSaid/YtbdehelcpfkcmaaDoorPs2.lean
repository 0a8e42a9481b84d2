/- The contract of the model's ParseRatio at every text, and the walk of ParseRatio's law, over the translation. -/
import Derived.Test.YtbdehelcpfkcmaaDoorPs
namespace Go.Proofs.YtbdehelcpfkcmaaDoor
open Go.RowKit

theorem str_self (s : ByteArray) : str s.data.toList = s := by
  apply ByteArray.ext; simp [str]
theorem spec_pr (s : ByteArray) (N D : Int) (b : Bool) (w : World) (hs : s.size ≤ 1048576) (hr : RAns s.data.toList N D b) :
    Calls Tryd.prog 37 #[.string s] w fun e w' => e = .returned (.tuple #[.agg #[.int .i64 N, .int .i64 D], .bool b]) ∧ Below w.heap.size w w' := by
  have hsp := fun W => spec_split s sl1 W hs (by decide)
  rcases split_cases s with ⟨p, hx, hp, h47⟩ | ⟨p, q, hx, hl, hp⟩ | ⟨p, q, r, t, hx, ⟨z, hl⟩, hp⟩
  · rw [hx] at hsp
    obtain rfl : p = s := by rw [← str_self p, hp, str_self]
    have HS := fun W => (hsp W).mono (fun e w' h => gives_cells h (by simp))
    obtain ⟨n, ok1, hA⟩ := Answer.ex p.data.toList
    have hp1 := fun W => spec_par p n ok1 W hs hA
    cases ok1 with
    | false =>
      obtain ⟨rfl, rfl, rfl⟩ := hr.no (fun n' d' h => hA.no_of _ (rat_plain h h47).2)
      exact ps_a_no p p n w HS hp1
    | true =>
      have hn := hA.num
      have hf := fun W => spec_fr n 1 W hn.1 hn.2.1 (by omega) (by omega)
      have hne : p.data.toList ≠ [] := by rw [← hn.2.2]; exact itoa_ne n
      by_cases ht : fmtR n 1 = p.data.toList
      · obtain ⟨rfl, rfl, rfl, ho⟩ := hr.yes hne (one_plain h47 hn) ht
        have hO := fun W => spec_ok N 1 W hn.1 hn.2.1 (by omega) (by omega)
        rw [ho] at hO
        exact ps_a_eq p p _ N w HS hp1 hf (same_t ht) hO
      · obtain ⟨rfl, rfl, rfl⟩ := hr.not (one_plain h47 hn) ht
        exact ps_a_ne p p _ n w HS hp1 hf (same_f ht)
  · rw [hx] at hsp
    have HS := fun W => (hsp W).mono (fun e w' h => gives_cells h (by simp))
    have hsz := (ext_a hl).2.2
    simp at hsz
    obtain ⟨n, ok1, hA⟩ := Answer.ex p.data.toList
    obtain ⟨d, ok2, hB⟩ := Answer.ex q.data.toList
    have hp1 := fun W => spec_par p n ok1 W (by omega) hA
    have hp2 := fun W => spec_par q d ok2 W (by omega) hB
    rw [hl] at hr
    cases ok1 with
    | false =>
      obtain ⟨rfl, rfl, rfl⟩ := hr.no (fun n' d' h => hA.no_of _ (rat_slash h hp).2.1)
      exact ps_b_no s p q n d ok2 w HS hp1 hp2
    | true =>
      cases ok2 with
      | false =>
        obtain ⟨rfl, rfl, rfl⟩ := hr.no (fun n' d' h => hB.no_of _ (rat_slash h hp).2.2)
        exact ps_b_no2 s p q n d w HS hp1 hp2
      | true =>
        have hn := hA.num
        have hd := hB.num
        have hf := fun W => spec_fr n d W hn.1 hn.2.1 hd.1 hd.2.1
        by_cases ht : fmtR n d = p.data.toList ++ 47 :: q.data.toList
        · obtain ⟨rfl, rfl, rfl, ho⟩ := hr.yes (by simp) (one_slash hp hn hd) ht
          have hO := fun W => spec_ok N D W hn.1 hn.2.1 hd.1 hd.2.1
          rw [ho] at hO
          exact ps_b_eq s p q _ N D w HS hp1 hp2 hf (same_t (by rw [hl]; exact ht)) hO
        · obtain ⟨rfl, rfl, rfl⟩ := hr.not (one_slash hp hn hd) ht
          exact ps_b_ne s p q _ n d w HS hp1 hp2 hf (same_f (by rw [hl]; exact ht))
  · rw [hx] at hsp
    have HS := fun W => (hsp W).mono (fun e w' h => gives_cells h (by simp))
    have hsz := (ext_a hl).2.2
    simp at hsz
    obtain ⟨n, ok1, hA⟩ := Answer.ex p.data.toList
    have hp1 := fun W => spec_par p n ok1 W (by omega) hA
    rw [hl] at hr
    obtain ⟨rfl, rfl, rfl⟩ := hr.no (no_rat3 hp)
    cases ok1 with
    | false => exact ps_c_no s p n _ rfl (by simp; omega) w HS hp1
    | true => exact ps_c_ne s p n _ rfl (by simp; omega) w HS hp1

end Go.Proofs.YtbdehelcpfkcmaaDoor
