/- signLength, numberLength, valueOf of the program. -/
import Derived.Test.YtjpkcgepdfpbnaaGreatDoorZLMath
import Derived.Test.YtjpkcgepdfpbnaaGreatDoorG8
namespace Go.Proofs.YtjpkcgepdfpbnaaGreatDoor
open Go.RowKit Go.Sort
set_option linter.unusedVariables false

theorem en_isDigit : Enters Tryz.prog 111 := enters_of Tryz.func111 (by kernel_rfl) rfl
theorem en_isInLine : Enters Tryz.prog 108 := enters_of Tryz.func108 (by kernel_rfl) rfl
theorem en_isWordPart : Enters Tryz.prog 109 := enters_of Tryz.func109 (by kernel_rfl) rfl

theorem strL_from (s : ByteArray) (k : Nat) : strL (s.extract k s.size) = (strL s).drop k := by
  rw [strL_extract, List.take_of_length_le (by rw [List.length_drop, strL_len]; exact Nat.le_refl _)]
theorem strL_upto (s : ByteArray) (k : Nat) : strL (s.extract 0 k) = (strL s).take k := by rw [strL_extract]; simp
theorem size_from (s : ByteArray) (k : Nat) : (s.extract k s.size).size = s.size - k := by rw [ByteArray.size_extract]; omega

theorem signLength_q (s : ByteArray) (w : World) (hs : s.size ≤ 9223372036854775807) : Calls Tryz.prog 110 #[.string s] w fun e w' => e = .returned (.int .i64 (sgl (strL s) : Nat)) ∧ w = w' := by
  obtain ⟨G, hG⟩ : ∃ G, sgl (strL s) = G := ⟨_, rfl⟩
  have H0 : Hid (sgk (min 2 s.size) (strL s) = G) := Lib.hid (by rw [← hG]; unfold sgl; rw [strL_len])
  rw [hG]
  clear hG
  go_enter Tryz.func110, Tryz.ntmps110
  go_wp2
  go_loopw [3] (fun i wr => ∃ k : Nat, k ≤ 2 ∧ k ≤ s.size ∧ i = .int .i64 (k : Int) ∧ sgk k (strL s) = G ∧ w = wr) (fun i _ => (intOf i).toNat)
  case atStart => exact ⟨min 2 s.size, by omega, by omega, by congr 1; omega, H0.out, by simp⟩
  case round =>
    obtain ⟨k, hk, hks, rfl, hsg, rfl⟩ := hrel
    clear H0
    cases k with
    | zero =>
      obtain rfl : 0 = G := hsg
      go_wp2
      go_ret
      exact ⟨rfl, rfl⟩
    | succ k =>
      have C1 := fun W => isSign_q (s.extract 0 (k + 1)) W
      have e1 : sgw (s.extract 0 (k + 1)).toList = sgI ((strL s).take (k + 1)) := by rw [← sgI_str, strL_upto]
      rw [e1] at C1
      clear e1
      obtain ⟨m, hm⟩ : ∃ m, k + 1 = m := ⟨_, rfl⟩
      cases hq : sgI ((strL s).take (k + 1))
      · rw [hq] at C1
        rw [sgk_no hq] at hsg
        have HS := Lib.hid hsg
        have HC := Lib.hid C1
        have hkm : k = m - 1 := by omega
        have hm1 : 1 ≤ m := by omega
        rw [hm] at HC hk hks ⊢
        clear hsg C1 hq hm
        go_wp2_with (go_at_call 133; (refine (HC.out _).mono ?_); rintro _ _ ⟨rfl, rfl⟩)
        go_roundw
        case rel => exact ⟨k, by omega, by omega, by subst hkm; go_num, HS.out, by simp⟩
        case measure => simp [intOf] <;> omega
      · rw [hq] at C1
        rw [sgk_yes hq] at hsg
        have HC := Lib.hid C1
        have HS := Lib.hid hsg
        rw [hm] at HC HS hk hks ⊢
        clear hsg C1 hq
        go_wp2_with (go_at_call 133; (refine (HC.out _).mono ?_); rintro _ _ ⟨rfl, rfl⟩)
        go_ret
        rw [← HS.out]
        exact ⟨rfl, rfl⟩

theorem spanDigit (s : ByteArray) (w : World) (hs : s.size ≤ 9223372036854775807) : Calls Tryz.prog 107 #[.string s, .func (.func 111) #[] #[]] w fun e w' => e = .returned (.int .i64 (spn isDig (strL s) : Nat)) ∧ w = w' :=
  spanOf_b s _ isDig w en_isDigit zDigit_q hs
theorem spanWord (s : ByteArray) (w : World) (hs : s.size ≤ 9223372036854775807) : Calls Tryz.prog 107 #[.string s, .func (.func 109) #[] #[]] w fun e w' => e = .returned (.int .i64 (spn isWrd (strL s) : Nat)) ∧ w = w' :=
  spanOf_b s _ isWrd w en_isWordPart isWordPart_q hs
theorem spanLine (s : ByteArray) (w : World) (hs : s.size ≤ 9223372036854775807) : Calls Tryz.prog 107 #[.string s, .func (.func 108) #[] #[]] w fun e w' => e = .returned (.int .i64 (spn isLin (strL s) : Nat)) ∧ w = w' :=
  spanOf_b s _ isLin w en_isInLine isInLine_q hs

/-- The four ways of a number's form. -/
theorem fxd_ways (s : ByteArray) : ∃ q, spn isDig (strL s) = q ∧ q ≤ s.size ∧
    ((¬ q + 1 < s.size ∧ fxd (strL s) = false) ∨ (∃ h : q + 1 < s.size, (((s[q]).toNat : Int) == 46) = false ∧ fxd (strL s) = false) ∨
     (∃ h : q + 1 < s.size, (((s[q]).toNat : Int) == 46) = true ∧ isDig ((s[q + 1]).toNat : Int) = fxd (strL s))) := by
  have hle := spn_le isDig (strL s)
  rw [strL_len] at hle
  refine ⟨_, rfl, hle, ?_⟩
  unfold fxd
  generalize spn isDig (strL s) = q at hle ⊢
  by_cases h : q + 1 < s.size
  · have h1 := strL_at s q (by omega)
    have h2 := strL_at s (q + 1) h
    rw [h1, h2]
    by_cases h3 : ((s[q]).toNat : Int) = 46
    · exact .inr (.inr ⟨h, by simpa using h3, by simp [h3]⟩)
    · exact .inr (.inl ⟨h, by simpa using h3, by simp [h3]⟩)
  · exact .inl ⟨h, by rw [List.getElem?_eq_none (show (strL s).length ≤ q + 1 by rw [strL_len]; omega)]; simp⟩

theorem numberLength_q (s : ByteArray) (w : World) (hs : s.size ≤ 4611686018427387904) :
    Calls Tryz.prog 134 #[.string s] w fun e w' => e = .returned (.tuple #[.int .i64 (nml (strL s)).1, .int .i64 (nml (strL s)).2]) ∧ w = w' := by
  obtain ⟨q, hq, hqs, hw⟩ := fxd_ways s
  have C1 := fun W => spanDigit s W (by omega)
  have C2 := fun W => spanDigit (s.extract (q + 1) s.size) W (by rw [size_from]; omega)
  rw [strL_from] at C2
  have HN : Hid (nml (strL s) = if fxd (strL s) = true then (3, q + 1 + spn isDig ((strL s).drop (q + 1))) else (2, q)) := Lib.hid (by unfold nml; rw [hq])
  have hz := spn_le isDig ((strL s).drop (q + 1))
  rw [List.length_drop, strL_len] at hz
  rw [hq] at C1
  obtain ⟨z, hzz⟩ : ∃ z, spn isDig ((strL s).drop (q + 1)) = z := ⟨_, rfl⟩
  rw [hzz] at C2 HN hz
  obtain ⟨g, hg⟩ : ∃ g, fxd (strL s) = g := ⟨_, rfl⟩
  rw [hg] at HN hw
  obtain ⟨N, hN⟩ : ∃ N, nml (strL s) = N := ⟨_, rfl⟩
  rw [hN] at HN ⊢
  have K1 := Lib.hid C1
  have K2 := Lib.hid C2
  clear hq hzz hg hN C1 C2
  rcases hw with ⟨h, rfl⟩ | ⟨h, h2, rfl⟩ | ⟨h, h2, h3⟩
  · obtain rfl : N = (2, q) := HN.out.trans (if_neg (by decide))
    clear HN
    have hlt : ¬ ((q : Int) + 1 < (s.size : Int)) := by omega
    go_enter Tryz.func134, Tryz.ntmps134
    go_wp2_with (go_at_call 107; (with_reducible refine (K1.out _).mono ?_); rintro _ _ ⟨rfl, rfl⟩)
    go_ret2
    exact ⟨rfl, rfl⟩
  · obtain rfl : N = (2, q) := HN.out.trans (if_neg (by decide))
    clear HN
    have hlt : (q : Int) + 1 < (s.size : Int) := by omega
    have hlt2 : (q : Int) < (s.size : Int) := by omega
    go_enter Tryz.func134, Tryz.ntmps134
    go_wp2_with (go_at_call 107; (with_reducible refine (K1.out _).mono ?_); rintro _ _ ⟨rfl, rfl⟩)
    go_ret2
    exact ⟨rfl, rfl⟩
  · have hlt : (q : Int) + 1 < (s.size : Int) := by omega
    have hlt2 : (q : Int) < (s.size : Int) := by omega
    have C3 := fun W => zDigit_q ((s[q + 1]).toNat : Int) W
    rw [h3] at C3
    have K3 := Lib.hid C3
    clear C3 h3
    cases g
    · obtain rfl : N = (2, q) := HN.out.trans (if_neg (by decide))
      clear HN
      go_enter Tryz.func134, Tryz.ntmps134
      go_wp2_with (first
        | (go_at_call 107; (with_reducible refine (K1.out _).mono ?_); rintro _ _ ⟨rfl, rfl⟩)
        | (go_at_call 111; (refine (K3.out _).mono ?_); rintro _ _ ⟨rfl, rfl⟩))
      go_ret2
      exact ⟨rfl, rfl⟩
    · obtain rfl : N = (3, q + 1 + z) := HN.out.trans (if_pos rfl)
      clear HN
      go_enter Tryz.func134, Tryz.ntmps134
      go_wp2_with (first
        | (go_at_call 107; (with_reducible refine (K1.out _).mono ?_); rintro _ _ ⟨rfl, rfl⟩)
        | (go_at_call 107; (refine (K2.out _).mono ?_); rintro _ _ ⟨rfl, rfl⟩)
        | (go_at_call 111; (refine (K3.out _).mono ?_); rintro _ _ ⟨rfl, rfl⟩))
      go_ret2
      exact ⟨by go_num, rfl⟩

end Go.Proofs.YtjpkcgepdfpbnaaGreatDoor
