/- What ParseInt, power, point, letter, IsName and FormatHash of the reference return. -/
import Derived.Test.YthancgnmbmempaaDoorF2
namespace Go.Proofs.YthancgnmbmempaaDoor
open Go.RowKit Go.Sort

theorem ret_ii {a a' b b' : Int} (h1 : a = a') (h2 : b = b') : Ending.returned (.tuple #[.int .i64 a, .int .i64 b]) = .returned (.tuple #[.int .i64 a', .int .i64 b']) := by rw [h1, h2]

theorem natv_rng (l : List Int) : 0 ≤ (natv l).1 ∧ (natv l).1 ≤ 4611686018427387905 := numb_rng l

theorem tail_str (s : ByteArray) : strL (s.extract 1 s.size) = (strL s).tail := by
  rw [strL_extract, List.take_of_length_le (by rw [List.length_drop, strL_len]; omega), List.drop_one]

set_option maxRecDepth 100000 in
theorem rparseInt_b (s : ByteArray) (v er : Int) (w : World) (hs : s.size ≤ 9223372036854775807) (h : pint (strL s) = (v, er)) :
    Calls Tryd.prog 17 #[.string s] w fun e w' => e = .returned (.tuple #[.int .i64 v, .int .i64 er]) ∧ Below w.heap.size w w' := by
  by_cases hneg : (strL s).head? = some 45
  · have hpos : 0 < s.size := by
      rcases Nat.eq_zero_or_pos s.size with h0 | h0
      · rw [head_none s h0] at hneg; simp at hneg
      · exact h0
    have hpi : (0 : Int) < (s.size : Int) := by omega
    have hx : (((s[0]'hpos).toNat : Int) == 45) = true := by
      rw [head_at s hpos] at hneg
      injection hneg with hneg
      simp [hneg]
    obtain ⟨n, ok, hn⟩ : ∃ n ok, natv (strL (s.extract 1 s.size)) = (n, ok) := ⟨_, _, rfl⟩
    have hr := natv_rng (strL (s.extract 1 s.size))
    rw [hn] at hr
    have hn2 := hn
    rw [tail_str] at hn2
    unfold pint at h
    rw [if_pos hneg, hn2] at h
    have HN := Lib.hid hn
    have HS : Hid ((s.extract 1 s.size).size ≤ 9223372036854775807) := Lib.hid (by rw [ByteArray.size_extract]; omega)
    simp only at hr
    obtain ⟨r0, r1⟩ := hr
    clear hn hn2 hneg
    cases ok
    · simp only [true_or, if_true, Prod.mk.injEq] at h
      obtain ⟨rfl, rfl⟩ := h
      go_enter Tryd.func17, Tryd.ntmps17
      go_wp2_with (go_at_call 42; refine (rnatural_b _ _ _ _ HS.out HN.out).mono ?_; rintro _ W1 ⟨rfl, B⟩)
      go_ret2
      exact ⟨rfl, B⟩
    · by_cases h0 : n = 0
      · subst h0
        simp only [or_true, if_true, Prod.mk.injEq] at h
        obtain ⟨rfl, rfl⟩ := h
        go_enter Tryd.func17, Tryd.ntmps17
        go_wp2_with (go_at_call 42; refine (rnatural_b _ _ _ _ HS.out HN.out).mono ?_; rintro _ W1 ⟨rfl, B⟩)
        go_ret2
        exact ⟨rfl, B⟩
      · have e0 : (n == 0) = false := by simpa using h0
        rw [if_neg (by simp [h0])] at h
        by_cases hbig : 4611686018427387904 < n
        · rw [if_pos hbig] at h
          simp only [Prod.mk.injEq] at h
          obtain ⟨rfl, rfl⟩ := h
          go_enter Tryd.func17, Tryd.ntmps17
          go_wp2_with (go_at_call 42; refine (rnatural_b _ _ _ _ HS.out HN.out).mono ?_; rintro _ W1 ⟨rfl, B⟩)
          go_ret2
          exact ⟨rfl, B⟩
        · rw [if_neg hbig] at h
          simp only [Prod.mk.injEq] at h
          obtain ⟨rfl, rfl⟩ := h
          go_enter Tryd.func17, Tryd.ntmps17
          go_wp2_with (go_at_call 42; refine (rnatural_b _ _ _ _ HS.out HN.out).mono ?_; rintro _ W1 ⟨rfl, B⟩)
          go_ret2
          exact ⟨rfl, B⟩
  · obtain ⟨n, ok, hn⟩ : ∃ n ok, natv (strL s) = (n, ok) := ⟨_, _, rfl⟩
    have hr := natv_rng (strL s)
    rw [hn] at hr
    unfold pint at h
    rw [if_neg hneg, hn] at h
    have HN := Lib.hid hn
    simp only at hr
    obtain ⟨r0, r1⟩ := hr
    have hcase : s.size = 0 ∨ ∃ hpos : 0 < s.size, (((s[0]'hpos).toNat : Int) == 45) = false := by
      rcases Nat.eq_zero_or_pos s.size with h0 | h0
      · exact .inl h0
      · refine .inr ⟨h0, ?_⟩
        rw [head_at s h0] at hneg
        simpa using hneg
    clear hn hneg
    have fin : ∀ v er, (if (n, ok).2 = false then ((0 : Int), (3 : Int)) else if 4611686018427387904 < (n, ok).1 then (0, 6) else ((n, ok).1, 0)) = (v, er) →
        (ok = false ∧ v = 0 ∧ er = 3) ∨ (ok = true ∧ 4611686018427387904 < n ∧ v = 0 ∧ er = 6) ∨ (ok = true ∧ n ≤ 4611686018427387904 ∧ v = n ∧ er = 0) := by
      intro v er h
      cases ok
      · simp only [if_true, Prod.mk.injEq] at h; exact .inl ⟨rfl, h.1.symm, h.2.symm⟩
      · simp only [Bool.true_eq_false, if_false] at h
        split at h
        · simp only [Prod.mk.injEq] at h; exact .inr (.inl ⟨rfl, by assumption, h.1.symm, h.2.symm⟩)
        · simp only [Prod.mk.injEq] at h; exact .inr (.inr ⟨rfl, by omega, h.1.symm, h.2.symm⟩)
    have hf := fin v er h
    clear fin h
    rcases hcase with h0 | ⟨hpos, hx⟩
    · have h0i : (s.size : Int) = 0 := by omega
      rcases hf with ⟨rfl, rfl, rfl⟩ | ⟨rfl, hb, rfl, rfl⟩ | ⟨rfl, hb, rfl, rfl⟩
      all_goals
        go_enter Tryd.func17, Tryd.ntmps17
        go_wp2_with (go_at_call 42; refine (rnatural_b _ _ _ _ hs HN.out).mono ?_; rintro _ W1 ⟨rfl, B⟩)
        go_ret2
        exact ⟨rfl, B⟩
    · have hpi : (0 : Int) < (s.size : Int) := by omega
      rcases hf with ⟨rfl, rfl, rfl⟩ | ⟨rfl, hb, rfl, rfl⟩ | ⟨rfl, hb, rfl, rfl⟩
      all_goals
        go_enter Tryd.func17, Tryd.ntmps17
        go_wp2_with (go_at_call 42; refine (rnatural_b _ _ _ _ hs HN.out).mono ?_; rintro _ W1 ⟨rfl, B⟩)
        go_ret2
        exact ⟨rfl, B⟩

end Go.Proofs.YthancgnmbmempaaDoor
