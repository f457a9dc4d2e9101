/- What the helpers of package format over numbers return: powers of ten, the digits of a remainder and back, and whether they will do. -/
import Derived.Test.YthancgnmbmempaaDoorG2
namespace Go.Proofs.YthancgnmbmempaaDoor
open Go.RowKit Go.Sort

theorem powerOfTen_q (k : Nat) (w : World) (hk : k ≤ 18) :
    Calls Tryd.prog 64 #[.int .i64 k] w fun e w' => e = .returned (.int .i64 (p10 k)) ∧ w = w' := by
  go_enter Tryd.func64, Tryd.ntmps64
  go_wp2
  go_loop [3, 5] (fun n i => ∃ j : Nat, j ≤ k ∧ i = .int .i64 j ∧ n = .int .i64 (p10 j)) (fun _ i => k - (intOf i).toNat)
  case atStart => exact ⟨0, by omega, rfl, rfl⟩
  case round =>
    obtain ⟨j, hj, rfl, rfl⟩ := hrel
    by_cases hlt : j < k
    · have h1 := p10_pos j
      have h2 := p10_le (show j ≤ 17 by omega)
      rw [show p10 17 = 100000000000000000 by decide] at h2
      have HS := Lib.hid (p10_succ j)
      go_wp2
      go_round
      case rel => exact ⟨j + 1, by omega, by go_num, by rw [HS.out]⟩
      case measure => simp [intOf]; omega
    · obtain rfl : j = k := by omega
      go_wp2
      go_ret
      exact ⟨rfl, rfl⟩

theorem roundDiv_q (n d v : Int) (w : World) (h0 : 0 ≤ n) (h1 : n ≤ 4611686018427387904) (d0 : 1 ≤ d) (d1 : d ≤ 4611686018427387904) (hv : (n + d / 2) / d = v) :
    Calls Tryd.prog 84 #[.int .i64 n, .int .i64 d] w fun e w' => e = .returned (.int .i64 v) ∧ w = w' := by
  have HV := Lib.hid hv
  have e1 : d.tdiv 2 = d / 2 := Int.tdiv_eq_ediv_of_nonneg (by omega)
  have e2 : (n + d / 2).tdiv d = (n + d / 2) / d := Int.tdiv_eq_ediv_of_nonneg (by omega)
  have b0 : 0 ≤ d / 2 := by omega
  have b1 : d / 2 ≤ 2305843009213693952 := by omega
  have b2 : 0 ≤ (n + d / 2) / d := Int.ediv_nonneg (by omega) (by omega)
  have b3 : (n + d / 2) / d ≤ n + d / 2 := Int.ediv_le_self _ (by omega)
  obtain ⟨q, hq⟩ : ∃ q, (n + d / 2) / d = q := ⟨_, rfl⟩
  rw [hq] at e2 b2 b3
  have HV2 : Hid (q = v) := Lib.hid (hq ▸ HV.out)
  clear hv hq HV
  obtain ⟨m, hm⟩ : ∃ m, d / 2 = m := ⟨_, rfl⟩
  rw [hm] at e1 e2 b0 b1 b3
  clear hm
  go_enter Tryd.func84, Tryd.ntmps84
  go_wp2
  go_ret
  exact ⟨congrArg (fun z => Ending.returned (.int .i64 z)) HV2.out, rfl⟩

/-- What is a digit's round quotient in the program's words. -/
theorem fdig_q {r : Int} {k : Nat} (h1 : 1 ≤ k) (h5 : k ≤ 5) (r0 : 0 ≤ r) (r1 : r ≤ 65535) : (r * p10 k + 65536 / 2) / 65536 = fdig r k := by
  rw [(fdig_is h1 h5 r0 r1).1]
  rcases p10_small h1 h5 with e | e | e | e | e <;> (rw [e]; omega)

theorem rda_q {f : Int} {k : Nat} (h1 : 1 ≤ k) (h5 : k ≤ 5) (f0 : 0 ≤ f) (f1 : f ≤ 100000) : (f * 65536 + p10 k / 2) / p10 k = rda (f * 65536) (p10 k) := by
  rcases p10_small h1 h5 with e | e | e | e | e <;> (rw [e, rda_in _ _ (by omega) (by omega) (by omega) (by omega), rdv, if_pos (by omega)]; omega)

theorem toDigits_q (r : Int) (k : Nat) (w : World) (h1 : 1 ≤ k) (h5 : k ≤ 5) (r0 : 0 ≤ r) (r1 : r ≤ 65535) :
    Calls Tryd.prog 66 #[.int .i64 r, .int .i64 (p10 k)] w fun e w' => e = .returned (.int .i64 (fdig r k)) ∧ w = w' := by
  have hP := p10_small h1 h5
  have hf := fdig_q h1 h5 r0 r1
  have hb0 : 0 ≤ r * p10 k := Int.mul_nonneg r0 (by omega)
  have hb1 : r * p10 k ≤ 65535 * p10 k := Int.mul_le_mul_of_nonneg_right r1 (by omega)
  obtain ⟨P, hPk⟩ : ∃ P, p10 k = P := ⟨_, rfl⟩
  obtain ⟨f, hfk⟩ : ∃ f, fdig r k = f := ⟨_, rfl⟩
  rw [hPk] at hP hf hb0 hb1 ⊢
  rw [hfk] at hf ⊢
  have P1 : P ≤ 100000 := by omega
  have P0 : 10 ≤ P := by omega
  have HF := Lib.hid hf
  clear hP hf hPk hfk
  go_enter Tryd.func66, Tryd.ntmps66
  go_wp2_with (go_at_call 84; refine (roundDiv_q _ _ _ _ (by omega) (by omega) (by omega) (by omega) HF.out).mono ?_; rintro _ _ ⟨rfl, rfl⟩)
  go_ret
  exact ⟨rfl, rfl⟩

theorem fromDigits_q (f : Int) (k : Nat) (w : World) (h1 : 1 ≤ k) (h5 : k ≤ 5) (f0 : 0 ≤ f) (f1 : f ≤ 100000) :
    Calls Tryd.prog 63 #[.int .i64 f, .int .i64 (p10 k)] w fun e w' => e = .returned (.int .i64 (rda (f * 65536) (p10 k))) ∧ w = w' := by
  have hP := p10_small h1 h5
  have hf := rda_q h1 h5 f0 f1
  obtain ⟨P, hPk⟩ : ∃ P, p10 k = P := ⟨_, rfl⟩
  rw [hPk] at hP hf ⊢
  obtain ⟨g, hfk⟩ : ∃ g, rda (f * 65536) P = g := ⟨_, rfl⟩
  rw [hfk] at hf ⊢
  have P1 : P ≤ 100000 := by omega
  have P0 : 10 ≤ P := by omega
  have HF := Lib.hid hf
  clear hP hf hPk hfk
  go_enter Tryd.func63, Tryd.ntmps63
  go_wp2_with (go_at_call 84; refine (roundDiv_q _ _ _ _ (by omega) (by omega) (by omega) (by omega) HF.out).mono ?_; rintro _ _ ⟨rfl, rfl⟩)
  go_ret
  exact ⟨rfl, rfl⟩

theorem isExact_q (r : Int) (k : Nat) (w : World) (h1 : 1 ≤ k) (h5 : k ≤ 5) (r0 : 0 ≤ r) (r1 : r ≤ 65535) :
    Calls Tryd.prog 65 #[.int .i64 r, .int .i64 (p10 k)] w fun e w' => e = .returned (.bool (kok r k)) ∧ w = w' := by
  have hkk : kok r k = (decide (fdig r k < p10 k) && decide (rda (fdig r k * 65536) (p10 k) = r)) := rfl
  have hF := (fdig_is h1 h5 r0 r1).2
  have hP := p10_small h1 h5
  have c1 := fun W => toDigits_q r k W h1 h5 r0 r1
  have c2 := fun W => fromDigits_q (fdig r k) k W h1 h5 hF.1 (by omega)
  obtain ⟨P, hPk⟩ : ∃ P, p10 k = P := ⟨_, rfl⟩
  obtain ⟨f, hfk⟩ : ∃ f, fdig r k = f := ⟨_, rfl⟩
  rw [hPk, hfk] at hkk hF c1 c2
  obtain ⟨g, hg⟩ : ∃ g, rda (f * 65536) P = g := ⟨_, rfl⟩
  rw [hg] at hkk c2
  rw [hPk]
  have C1 := Lib.hid c1
  have C2 := Lib.hid c2
  have HKK := Lib.hid hkk
  clear hkk hF hP c1 c2 hPk hfk hg
  by_cases hfP : f < P
  · by_cases hgr : g = r
    · subst hgr
      have ge : (g == g) = true := by simp
      have e : Hid (kok g k = true) := Lib.hid (by rw [HKK.out, decide_eq_true hfP, decide_eq_true rfl]; rfl)
      go_enter Tryd.func65, Tryd.ntmps65
      go_wp2_with (first
        | (go_at_call 66; refine (C1.out _).mono ?_; rintro _ _ ⟨rfl, rfl⟩)
        | (go_at_call 63; refine (C2.out _).mono ?_; rintro _ _ ⟨rfl, rfl⟩))
      go_ret
      exact ⟨ret_bool' e.out.symm, rfl⟩
    · have hge : (g == r) = false := by simpa using hgr
      have e : Hid (kok r k = false) := Lib.hid (by rw [HKK.out, decide_eq_false hgr]; simp)
      clear hgr
      go_enter Tryd.func65, Tryd.ntmps65
      go_wp2_with (first
        | (go_at_call 66; refine (C1.out _).mono ?_; rintro _ _ ⟨rfl, rfl⟩)
        | (go_at_call 63; refine (C2.out _).mono ?_; rintro _ _ ⟨rfl, rfl⟩))
      go_ret
      exact ⟨ret_bool' e.out.symm, rfl⟩
  · have e : Hid (kok r k = false) := Lib.hid (by rw [HKK.out, decide_eq_false hfP]; simp)
    go_enter Tryd.func65, Tryd.ntmps65
    go_wp2_with (first
      | (go_at_call 66; refine (C1.out _).mono ?_; rintro _ _ ⟨rfl, rfl⟩)
      | (go_at_call 63; refine (C2.out _).mono ?_; rintro _ _ ⟨rfl, rfl⟩))
    go_ret
    exact ⟨ret_bool' e.out.symm, rfl⟩

end Go.Proofs.YthancgnmbmempaaDoor
