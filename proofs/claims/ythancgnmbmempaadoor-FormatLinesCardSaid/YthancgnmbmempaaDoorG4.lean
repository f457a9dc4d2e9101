/- What isNatural of package format returns. -/
import Derived.Test.YthancgnmbmempaaDoorG3
namespace Go.Proofs.YthancgnmbmempaaDoor
open Go.RowKit Go.Sort

theorem toList_48 (s : ByteArray) : s.toList = [48] ↔ strL s = [48] := by
  rw [ByteArray.toList_eq]
  constructor
  · intro h; unfold strL; rw [h]; rfl
  · intro h
    have : s = ⟨#[48]⟩ := str_ext (by rw [h]; rfl)
    rw [this]

theorem isNatural_q (s : ByteArray) (w : World) (hs : s.size ≤ 9223372036854775807) :
    Calls Tryd.prog 35 #[.string s] w fun e w' => e = .returned (.bool (natB (strL s))) ∧ w = w' := by
  have hc := fun W => isDigits_q s W hs
  have HB : Hid (natB (strL s) = (digsB (strL s) && (decide ((strL s).length = 1) || decide ((strL s).head? ≠ some 48)))) := Lib.hid rfl
  cases hd : digsB (strL s)
  · rw [hd] at hc HB
    have HC := Lib.hid hc
    clear hc hd
    go_enter Tryd.func35, Tryd.ntmps35
    go_wp2_with (go_at_call 36; refine (HC.out _).mono ?_; rintro _ _ ⟨rfl, rfl⟩)
    go_ret
    exact ⟨ret_bool' HB.out.symm, rfl⟩
  · have hpos : 0 < s.size := by
      unfold digsB at hd
      simp only [Bool.and_eq_true, decide_eq_true_eq, strL_len] at hd
      exact hd.2
    have hpi : (0 : Int) < (s.size : Int) := by omega
    rw [hd] at hc HB
    have HC := Lib.hid hc
    clear hc hd
    go_enter Tryd.func35, Tryd.ntmps35
    go_wp2_with (go_at_call 36; refine (HC.out _).mono ?_; rintro _ _ ⟨rfl, rfl⟩)
    · rename_i h
      go_ret
      refine ⟨ret_bool' ?_, rfl⟩
      rw [HB.out, (toList_48 s).1 h]
      rfl
    · rename_i h
      go_ret
      refine ⟨ret_bool' ?_, rfl⟩
      have h0 : (s.toList == [48]) = false := by simpa using h
      rw [h0, HB.out, head_at s hpos, strL_len, Bool.false_or, Bool.true_and, Bool.eq_iff_iff]
      simp only [bne_iff_ne, ne_eq, Bool.or_eq_true, decide_eq_true_eq, Option.some.injEq]
      constructor
      · exact fun h => .inr h
      · rintro (h1 | h1)
        · intro h2
          apply h
          rw [toList_48]
          have h3 := head_at s hpos
          rw [h2] at h3
          match hl : strL s, h3 with
          | x :: r, h3 =>
            have h4 := strL_len s
            rw [hl, h1] at h4
            simp only [List.length_cons] at h4
            obtain rfl : r = [] := List.eq_nil_of_length_eq_zero (by omega)
            simp only [List.head?_cons, Option.some.injEq] at h3
            rw [h3]
        · exact h1

end Go.Proofs.YthancgnmbmempaaDoor
