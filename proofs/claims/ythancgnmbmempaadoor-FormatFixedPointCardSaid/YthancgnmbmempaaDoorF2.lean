/- What natural, ParseInt, power, point, letter, IsName and FormatHash of the reference return. -/
import Derived.Test.YthancgnmbmempaaDoorF1
namespace Go.Proofs.YthancgnmbmempaaDoor
open Go.RowKit Go.Sort

theorem head_at (s : ByteArray) (h : 0 < s.size) : (strL s).head? = some ((s[0]).toNat : Int) := by
  rw [List.head?_eq_getElem?]
  exact strL_at s 0 h

theorem head_none (s : ByteArray) (h : s.size = 0) : strL s = [] := List.eq_nil_of_length_eq_zero (by rw [strL_len]; exact h)

theorem numb_empty {s : ByteArray} {V : Int} (h : numb (strL s) = (V, true)) : 0 < s.size := by
  unfold numb at h
  split at h
  · simp only [Prod.mk.injEq, decide_eq_true_eq, strL_len] at h
    exact h.2
  · simp at h

set_option maxRecDepth 100000 in
theorem rnatural_b (s : ByteArray) (V : Int) (ok : Bool) (w : World) (hs : s.size ≤ 9223372036854775807) (h : natv (strL s) = (V, ok)) :
    Calls Tryd.prog 42 #[.string s] w fun e w' => e = .returned (.tuple #[.int .i64 V, .bool ok]) ∧ Below w.heap.size w w' := by
  have BB : Below w.heap.size w w := Below.refl _ _
  obtain ⟨v, q, hr⟩ : ∃ v q, numb (strL s) = (v, q) := ⟨_, _, rfl⟩
  have HR := Lib.hid hr
  unfold natv at h
  rw [hr, strL_len] at h
  simp only [Prod.mk.injEq] at h
  obtain ⟨rfl, hq⟩ := h
  have HQ := Lib.hid hq
  clear hr hq
  cases q
  · have e : ok = false := by rw [← HQ.out]; simp
    subst e
    go_enter Tryd.func42, Tryd.ntmps42
    go_wp2_with (go_at_call 45; refine (rnumber_b _ _ _ _ hs HR.out).mono ?_; rintro _ W1 ⟨rfl, B⟩; replace BB := bon BB B; clear B)
    refine wp_region_quiet_below (by kernel_rfl) (by kernel_rfl) ?_
    repeat (first | go_big_quiet_step ((first | fail)) | quiet_step ((first | fail)))
    refine wpQuiet_nil ?_
    intro W hw'
    have B := below_regrown' hw'
    clear hw'
    replace BB := bon BB B
    go_wp2
    go_ret2
    exact ⟨rfl, BB⟩
  · have hpos := numb_empty HR.out
    have hpi : (0 : Int) < (s.size : Int) := by omega
    by_cases h1 : s.size = 1
    · have e : ok = true := by rw [← HQ.out, decide_eq_true h1]; rfl
      subst e
      have h1i : ((s.size : Int) == 1) = true := by simp; omega
      clear h1
      go_enter Tryd.func42, Tryd.ntmps42
      go_wp2_with (go_at_call 45; refine (rnumber_b _ _ _ _ hs HR.out).mono ?_; rintro _ W1 ⟨rfl, B⟩; replace BB := bon BB B; clear B)
      refine wp_region_quiet_below (by kernel_rfl) (by kernel_rfl) ?_
      repeat (first | go_big_quiet_step ((first | fail)) | quiet_step ((first | fail)))
      refine wpQuiet_nil ?_
      intro W hw'
      have B := below_regrown' hw'
      clear hw'
      replace BB := bon BB B
      go_wp2
      go_ret2
      exact ⟨rfl, BB⟩
    · have h1i : ((s.size : Int) == 1) = false := by simp; omega
      have e : ok = (((s[0]'hpos).toNat : Int) != 48) := by
        rw [← HQ.out, decide_eq_false h1, head_at s hpos, Bool.true_and, Bool.false_or]
        by_cases hx : ((s[0]'hpos).toNat : Int) = 48 <;> simp [hx]
      have HE := Lib.hid e
      clear h1 e
      go_enter Tryd.func42, Tryd.ntmps42
      go_wp2_with (go_at_call 45; refine (rnumber_b _ _ _ _ hs HR.out).mono ?_; rintro _ W1 ⟨rfl, B⟩; replace BB := bon BB B; clear B)
      refine wp_region_quiet_below (by kernel_rfl) (by kernel_rfl) ?_
      repeat (first | go_big_quiet_step ((first | fail)) | quiet_step ((first | fail)))
      refine wpQuiet_nil ?_
      intro W hw'
      have B := below_regrown' hw'
      clear hw'
      replace BB := bon BB B
      go_wp2
      go_ret2
      exact ⟨ret_ib rfl HE.out.symm, BB⟩

end Go.Proofs.YthancgnmbmempaaDoor
