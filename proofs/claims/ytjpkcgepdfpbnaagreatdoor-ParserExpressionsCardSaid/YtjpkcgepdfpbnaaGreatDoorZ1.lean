/- The classes of bytes; spanOf. -/
import Derived.Test.YtjpkcgepdfpbnaaGreatDoorZMath
import Derived.Test.YtjpkcgepdfpbnaaGreatDoorStr
import Derived.Test.YtjpkcgepdfpbnaaGreatDoorBelow
import Derived.Test.YtjpkcgepdfpbnaaGreatDoorChecked
import Derived.Deep.QuietTactic
import Derived.BigQuiet
import Derived.Outline
import Derived.IntWalk
import Derived.Shelf.Abstract
namespace Go.Proofs.YtjpkcgepdfpbnaaGreatDoor
open Go.RowKit Go.Sort
set_option linter.unusedVariables false

theorem zDigit_q (b : Int) (w : World) : Calls Tryz.prog 111 #[.int .u8 b] w fun e w' => e = .returned (.bool (isDig b)) ∧ w = w' := by
  obtain ⟨r, hr⟩ : ∃ r, isDig b = r := ⟨_, rfl⟩
  rw [hr]
  unfold isDig at hr
  by_cases h1 : 48 ≤ b <;> by_cases h2 : b ≤ 57
  all_goals
    simp only [h1, h2, decide_true, decide_false, Bool.and_self, Bool.and_true, Bool.and_false] at hr
    subst hr
    go_enter Tryz.func111, Tryz.ntmps111
    go_wp2
    go_ret
    exact ⟨rfl, rfl⟩

theorem isInLine_q (b : Int) (w : World) : Calls Tryz.prog 108 #[.int .u8 b] w fun e w' => e = .returned (.bool (isLin b)) ∧ w = w' := by
  unfold isLin
  go_enter Tryz.func108, Tryz.ntmps108
  go_wp2
  go_ret
  exact ⟨rfl, rfl⟩

theorem isWordPart_q (b : Int) (w : World) : Calls Tryz.prog 109 #[.int .u8 b] w fun e w' => e = .returned (.bool (isWrd b)) ∧ w = w' := by
  have CD := Lib.hid (fun W => zDigit_q b W)
  obtain ⟨r, hr⟩ : ∃ r, isWrd b = r := ⟨_, rfl⟩
  rw [hr]
  unfold isWrd isLet at hr
  obtain ⟨d, hd⟩ : ∃ d, isDig b = d := ⟨_, rfl⟩
  rw [hd] at hr CD
  clear hd
  rcases (show 97 ≤ b ∧ b ≤ 122 ∨ b < 65 ∨ 65 ≤ b ∧ b ≤ 90 ∨ b = 95 ∨ 90 < b ∧ b < 97 ∧ b ≠ 95 ∨ 122 < b by omega) with ⟨h1, h2⟩ | h | ⟨h1, h2⟩ | rfl | ⟨h1, h2, h3⟩ | h
  · simp only [h1, h2, decide_true, Bool.and_self, Bool.true_or] at hr
    subst hr
    go_enter Tryz.func109, Tryz.ntmps109
    go_wp2
    go_ret
    exact ⟨rfl, rfl⟩
  · have e1 : ¬ 97 ≤ b := by omega
    have e2 : ¬ 65 ≤ b := by omega
    have e3 : (b == 95) = false := by simp; omega
    simp only [e1, e2, e3, decide_false, Bool.false_and, Bool.false_or, Bool.or_self] at hr
    subst hr
    go_enter Tryz.func109, Tryz.ntmps109
    go_wp2_with (go_at_call 111; (with_reducible refine (CD.out _).mono ?_); rintro _ _ ⟨rfl, rfl⟩)
    go_ret
    exact ⟨rfl, rfl⟩
  · have e1 : ¬ 97 ≤ b := by omega
    simp only [e1, h1, h2, decide_true, decide_false, Bool.false_and, Bool.false_or, Bool.and_self, Bool.true_or] at hr
    subst hr
    go_enter Tryz.func109, Tryz.ntmps109
    go_wp2
    go_ret
    exact ⟨rfl, rfl⟩
  · have hr : true = r := hr
    subst hr
    go_enter Tryz.func109, Tryz.ntmps109
    go_wp2
    go_ret
    exact ⟨rfl, rfl⟩
  · have e1 : ¬ 97 ≤ b := by omega
    have e2 : ¬ b ≤ 90 := by omega
    have e3 : (b == 95) = false := by simpa using h3
    have e4 : 65 ≤ b := by omega
    simp only [e1, e2, e3, decide_false, Bool.false_and, Bool.and_false, Bool.false_or, Bool.or_self] at hr
    subst hr
    go_enter Tryz.func109, Tryz.ntmps109
    go_wp2_with (go_at_call 111; (with_reducible refine (CD.out _).mono ?_); rintro _ _ ⟨rfl, rfl⟩)
    go_ret
    exact ⟨rfl, rfl⟩
  · have e1 : 97 ≤ b := by omega
    have e2 : ¬ b ≤ 122 := by omega
    have e3 : (b == 95) = false := by simp; omega
    have e4 : 65 ≤ b := by omega
    have e5 : ¬ b ≤ 90 := by omega
    simp only [e2, e3, e5, decide_false, Bool.and_false, Bool.false_or, Bool.or_self] at hr
    subst hr
    go_enter Tryz.func109, Tryz.ntmps109
    go_wp2_with (go_at_call 111; (with_reducible refine (CD.out _).mono ?_); rintro _ _ ⟨rfl, rfl⟩)
    go_ret
    exact ⟨rfl, rfl⟩

theorem spanOf_b (s : ByteArray) (g : Nat) (p : Int → Bool) (w : World) (eg : ∀ args w, (callFunc g args).run Tryz.prog w = .ok (.enter g args) w)
    (hp : ∀ (b : Int) (W : World), Calls Tryz.prog g #[.int .u8 b] W fun e w' => e = .returned (.bool (p b)) ∧ W = w') (hs : s.size ≤ 9223372036854775807) :
    Calls Tryz.prog 107 #[.string s, .func (.func g) #[] #[]] w fun e w' => e = .returned (.int .i64 (spn p (strL s) : Nat)) ∧ w = w' := by
  have hle := spn_le p (strL s)
  rw [strL_len] at hle
  have HIN : Hid (∀ k (h : k < s.size), k < spn p (strL s) → p ((s[k]).toNat : Int) = true) := Lib.hid fun k h hk => spn_in hk (strL_at s k h)
  have HOUT : Hid (∀ k (h : k < s.size), k = spn p (strL s) → p ((s[k]).toNat : Int) = false) := Lib.hid fun k h hk => by subst hk; exact spn_out (p := p) (strL_at s _ h)
  obtain ⟨q, hq⟩ : ∃ q, spn p (strL s) = q := ⟨_, rfl⟩
  rw [hq] at hle HIN HOUT ⊢
  clear hq
  go_enter Tryz.func107, Tryz.ntmps107
  go_wp2
  go_loopw [5] (fun i wr => ∃ k : Nat, k ≤ q ∧ i = .int .i64 (k : Int) ∧ w = wr) (fun i _ => q - (intOf i).toNat)
  case atStart => exact ⟨0, by omega, rfl, by simp⟩
  case round =>
    obtain ⟨k, hk, rfl, rfl⟩ := hrel
    by_cases hlt : k < s.size
    · by_cases hkq : k < q
      · have h1 := HIN.out k hlt hkq
        have C1 := fun W => hp ((s[k]).toNat : Int) W
        rw [h1] at C1
        clear h1
        go_wp2_with (go_at_fn g; refine (C1 _).mono ?_; rintro _ _ ⟨rfl, rfl⟩)
        go_roundw
        case rel => exact ⟨k + 1, by omega, by go_num, by simp⟩
        case measure => simp [intOf] <;> omega
      · obtain rfl : k = q := by omega
        have h1 := HOUT.out k hlt rfl
        have C1 := fun W => hp ((s[k]).toNat : Int) W
        rw [h1] at C1
        clear h1
        go_wp2_with (go_at_fn g; refine (C1 _).mono ?_; rintro _ _ ⟨rfl, rfl⟩)
        go_ret
        exact ⟨rfl, rfl⟩
    · obtain rfl : k = s.size := by omega
      obtain rfl : s.size = q := by omega
      go_wp2
      go_ret
      exact ⟨rfl, rfl⟩

end Go.Proofs.YtjpkcgepdfpbnaaGreatDoor
