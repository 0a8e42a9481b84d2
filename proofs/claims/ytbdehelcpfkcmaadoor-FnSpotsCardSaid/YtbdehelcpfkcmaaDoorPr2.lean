/- The contract of the program's ParseRatio at every text, over the translation. -/
import Derived.Test.YtbdehelcpfkcmaaDoorPr
namespace Go.Proofs.YtbdehelcpfkcmaaDoor
open Go.RowKit

theorem Answer.no_of {l : List UInt8} {r : Int} (h : Answer l r false) : ∀ v, ¬ isNum l v := by
  rcases h with ⟨h, _⟩ | ⟨_, _, h⟩
  · cases h
  · exact h
theorem Answer.num {l : List UInt8} {r : Int} (h : Answer l r true) : isNum l r := by
  rcases h with ⟨_, h⟩ | ⟨h, _⟩
  · exact h
  · cases h
theorem same_t {l : List UInt8} {s : ByteArray} (h : l = s.data.toList) : ((str l).toList == s.toList) = true := by rw [same_str, decide_eq_true h]
theorem same_f {l : List UInt8} {s : ByteArray} (h : ¬ l = s.data.toList) : ((str l).toList == s.toList) = false := by rw [same_str, decide_eq_false h]

theorem impl_pr (s : ByteArray) (N D : Int) (b : Bool) (w : World) (hs : s.size ≤ 1048576) (hr : RAns s.data.toList N D b) (hv : Vars w) :
    Calls Tryd.prog 25 #[.string s] w fun e w' => e = .returned (.tuple #[.agg #[.int .i64 N, .int .i64 D], .bool b]) ∧ Below w.heap.size w w' := by
  have HV := Lib.hid hv
  by_cases h47 : (47 : UInt8) ∈ s.data.toList
  · obtain ⟨x, y, hl, hx⟩ := slash_of _ h47
    have hc := fun W => cut_yes s x y W hs hl hx
    have hsz := (ext_a hl).2.2
    have hx1 : (str x).size ≤ 1048576 := by rw [str_size]; omega
    have hy1 : (str y).size ≤ 1048576 := by rw [str_size]; omega
    obtain ⟨n, ok1, hA⟩ := Answer.ex x
    obtain ⟨d, ok2, hB⟩ := Answer.ex y
    have hp1 := fun W hW => impl_par2 (str x) n ok1 W hx1 (by rw [str_data]; exact hA) hW
    have hp2 := fun W hW => impl_par2 (str y) d ok2 W hy1 (by rw [str_data]; exact hB) hW
    rw [hl] at hr
    cases ok1 with
    | false =>
      obtain ⟨rfl, rfl, rfl⟩ := hr.no (fun n' d' h => hA.no_of _ (rat_slash h hx).2.1)
      exact pr_b_no s (str x) (str y) n d ok2 w HV hc hp1 hp2
    | true =>
      cases ok2 with
      | false =>
        obtain ⟨rfl, rfl, rfl⟩ := hr.no (fun n' d' h => hB.no_of _ (rat_slash h hx).2.2)
        exact pr_b_no2 s (str x) (str y) n d w HV hc hp1 hp2
      | true =>
        have hn := hA.num
        have hd := hB.num
        have hf := fun W hT => impl_fr n d W hn.1 hn.2.1 hd.1 hd.2.1 hT
        by_cases ht : fmtR n d = x ++ 47 :: y
        · obtain ⟨rfl, rfl, rfl, _⟩ := hr.yes (by simp) (one_slash hx hn hd) ht
          exact pr_b_eq s (str x) (str y) _ N D w HV hc hp1 hp2 hf (same_t (by rw [hl]; exact ht))
        · obtain ⟨rfl, rfl, rfl⟩ := hr.not (one_slash hx hn hd) ht
          exact pr_b_ne s (str x) (str y) _ n d w HV hc hp1 hp2 hf (same_f (by rw [hl]; exact ht))
  · have hc := fun W => cut_no s W h47
    obtain ⟨n, ok1, hA⟩ := Answer.ex s.data.toList
    have hp1 := fun W hW => impl_par2 s n ok1 W hs hA hW
    have hp2 := fun W hW => impl_par2 ⟨#[49]⟩ 1 true W (by decide) (.inl ⟨rfl, num_one⟩) hW
    cases ok1 with
    | false =>
      obtain ⟨rfl, rfl, rfl⟩ := hr.no (fun n' d' h => hA.no_of _ (rat_plain h h47).2)
      exact pr_a_no s s n 1 w HV hc hp1 hp2
    | true =>
      have hn := hA.num
      have hf := fun W hT => impl_fr n 1 W hn.1 hn.2.1 (by omega) (by omega) hT
      have hne : s.data.toList ≠ [] := by rw [← hn.2.2]; exact itoa_ne n
      by_cases ht : fmtR n 1 = s.data.toList
      · obtain ⟨rfl, rfl, rfl, _⟩ := hr.yes hne (one_plain h47 hn) ht
        exact pr_a_eq s s _ N 1 w HV hc hp1 hp2 hf (same_t ht)
      · obtain ⟨rfl, rfl, rfl⟩ := hr.not (one_plain h47 hn) ht
        exact pr_a_ne s s _ n 1 w HV hc hp1 hp2 hf (same_f ht)
end Go.Proofs.YtbdehelcpfkcmaaDoor
