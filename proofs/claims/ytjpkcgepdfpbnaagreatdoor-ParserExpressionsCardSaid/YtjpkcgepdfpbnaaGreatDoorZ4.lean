/- letter, digits of the reference. -/
import Derived.Test.YtjpkcgepdfpbnaaGreatDoorZ3
namespace Go.Proofs.YtjpkcgepdfpbnaaGreatDoor
open Go.RowKit Go.Sort
set_option linter.unusedVariables false

theorem rletter_q (b : Int) (w : World) : Calls Tryz.prog 58 #[.int .u8 b] w fun e w' => e = .returned (.bool (isLet b)) ∧ w = w' := by
  obtain ⟨r, hr⟩ : ∃ r, isLet b = r := ⟨_, rfl⟩
  rw [hr]
  unfold isLet at hr
  rcases (show 97 ≤ b ∧ b ≤ 122 ∨ b < 65 ∨ 65 ≤ b ∧ b ≤ 90 ∨ b = 95 ∨ 90 < b ∧ b < 97 ∧ b ≠ 95 ∨ 122 < b by omega) with ⟨h1, h2⟩ | h | ⟨h1, h2⟩ | rfl | ⟨h1, h2, h3⟩ | h
  · simp only [h1, h2, decide_true, Bool.and_self, Bool.true_or] at hr
    subst hr
    go_enter Tryz.func58, Tryz.ntmps58
    go_wp2
    go_ret
    exact ⟨rfl, rfl⟩
  · have e1 : ¬ 97 ≤ b := by omega
    have e2 : ¬ 65 ≤ b := by omega
    have e3 : (b == 95) = false := by simp; omega
    simp only [e1, e2, e3, decide_false, Bool.false_and, Bool.or_self] at hr
    subst hr
    go_enter Tryz.func58, Tryz.ntmps58
    go_wp2
    go_ret
    exact ⟨rfl, rfl⟩
  · have e1 : ¬ 97 ≤ b := by omega
    simp only [e1, h1, h2, decide_true, decide_false, Bool.false_and, Bool.false_or, Bool.and_self, Bool.true_or] at hr
    subst hr
    go_enter Tryz.func58, Tryz.ntmps58
    go_wp2
    go_ret
    exact ⟨rfl, rfl⟩
  · have hr : true = r := hr
    subst hr
    go_enter Tryz.func58, Tryz.ntmps58
    go_wp2
    go_ret
    exact ⟨rfl, rfl⟩
  · have e1 : ¬ 97 ≤ b := by omega
    have e2 : ¬ b ≤ 90 := by omega
    have e3 : (b == 95) = false := by simpa using h3
    have e4 : 65 ≤ b := by omega
    simp only [e1, e2, e3, decide_false, Bool.false_and, Bool.and_false, Bool.or_self] at hr
    subst hr
    go_enter Tryz.func58, Tryz.ntmps58
    go_wp2
    go_ret
    exact ⟨rfl, rfl⟩
  · have e1 : 97 ≤ b := by omega
    have e2 : ¬ b ≤ 122 := by omega
    have e3 : (b == 95) = false := by simp; omega
    have e4 : 65 ≤ b := by omega
    have e5 : ¬ b ≤ 90 := by omega
    simp only [e2, e3, e5, decide_false, Bool.and_false, Bool.or_self] at hr
    subst hr
    go_enter Tryz.func58, Tryz.ntmps58
    go_wp2
    go_ret
    exact ⟨rfl, rfl⟩

theorem rdigits_b (s : ByteArray) (at_ : Nat) (w : World) (ha : at_ ≤ s.size) (hs : s.size ≤ 4611686018427387904) :
    Calls Tryz.prog 103 #[.string s, .int .i64 at_] w fun e w' => e = .returned (.int .i64 ((at_ + spn isDig ((strL s).drop at_) : Nat) : Int)) ∧ w = w' := by
  have hle := spn_le isDig ((strL s).drop at_)
  rw [List.length_drop, strL_len] at hle
  have HIN : Hid (∀ k (h : k < s.size), at_ ≤ k → k < at_ + spn isDig ((strL s).drop at_) → isDig ((s[k]).toNat : Int) = true) := Lib.hid fun k h h1 h2 =>
    spn_in (l := (strL s).drop at_) (k := k - at_) (by omega) (by rw [List.getElem?_drop, show at_ + (k - at_) = k by omega]; exact strL_at s k h)
  have HOUT : Hid (∀ k (h : k < s.size), k = at_ + spn isDig ((strL s).drop at_) → isDig ((s[k]).toNat : Int) = false) := Lib.hid fun k h hk => by
    subst hk
    exact spn_out (l := (strL s).drop at_) (by rw [List.getElem?_drop]; exact strL_at s _ h)
  obtain ⟨q, hq⟩ : ∃ q, at_ + spn isDig ((strL s).drop at_) = q := ⟨_, rfl⟩
  rw [hq] at HIN HOUT ⊢
  have hq1 : at_ ≤ q := by omega
  have hq2 : q ≤ s.size := by omega
  clear hq hle
  go_enter Tryz.func103, Tryz.ntmps103
  go_wp2
  go_loopw [1] (fun i wr => ∃ k : Nat, at_ ≤ k ∧ k ≤ q ∧ i = .int .i64 (k : Int) ∧ w = wr) (fun i _ => q - (intOf i).toNat)
  case atStart => exact ⟨at_, Nat.le_refl _, hq1, rfl, by simp⟩
  case round =>
    obtain ⟨k, hk1, hk, rfl, rfl⟩ := hrel
    by_cases hlt : k < s.size
    · have C1 := fun W => rdigit_q ((s[k]).toNat : Int) W
      by_cases hkq : k < q
      · rw [HIN.out k hlt hk1 hkq] at C1
        go_wp2_with (go_at_call 57; (refine (C1 _).mono ?_); rintro _ _ ⟨rfl, rfl⟩)
        go_roundw
        case rel => exact ⟨k + 1, by omega, by omega, by go_num, by simp⟩
        case measure => simp [intOf] <;> omega
      · obtain rfl : k = q := by omega
        rw [HOUT.out k hlt rfl] at C1
        go_wp2_with (go_at_call 57; (refine (C1 _).mono ?_); rintro _ _ ⟨rfl, rfl⟩)
        go_ret
        exact ⟨rfl, rfl⟩
    · obtain rfl : k = s.size := by omega
      obtain rfl : s.size = q := by omega
      go_wp2
      go_ret
      exact ⟨rfl, rfl⟩

end Go.Proofs.YtjpkcgepdfpbnaaGreatDoor
