/- skip of the reference; facts on numbers. -/
import Derived.Test.YtjpkcgepdfpbnaaGreatDoorZ11
namespace Go.Proofs.YtjpkcgepdfpbnaaGreatDoor
open Go.RowKit Go.Sort Go.ChangeShapes Go.WideShapes
set_option linter.unusedVariables false

theorem isLin_t {b : Int} (h : isLin b = true) : (b == 10) = false := by unfold isLin at h; simpa using h
theorem isLin_f {b : Int} (h : isLin b = false) : (b == 10) = true := by unfold isLin at h; simpa using h

set_option maxRecDepth 100000 in
set_option maxHeartbeats 2000000 in
theorem rskip_q (s : ByteArray) (p : Nat) (w : World) (hp : p ≤ s.size) (hs : s.size ≤ 4611686018427387904) :
    Calls Tryz.prog 55 #[.string s, .int .i64 (p : Int)] w fun e w' => e = .returned (.int .i64 ((p + skp false ((strL s).drop p) : Nat) : Int)) ∧ w = w' := by
  obtain ⟨E, L, K, hE, -, -, hEl, -⟩ := lx_skf (strL s) p 0 (by rw [strL_len]; exact hp) (by omega)
  rw [← hE]
  rw [strL_len] at hEl
  have K0 := Lib.hid K
  clear K hE
  go_enter Tryz.func55, Tryz.ntmps55
  go_wp2
  go_loopw [1] (fun a wr => ∃ q lq : Nat, q ≤ s.size ∧ a = .int .i64 (q : Int) ∧ Skf (strL s) q lq E L ∧ w = wr) (fun a _ => s.size - (intOf a).toNat)
  case atStart => exact ⟨p, 0, hp, rfl, K0.out, by simp⟩
  case round =>
    clear K0
    obtain ⟨q, lq, hq, rfl, K, rfl⟩ := hrel
    have KH := Lib.hid K
    clear K
    by_cases hlt : q < s.size
    · have hx := Lib.hid (strL_at s q hlt)
      have hlti : (q : Int) < (s.size : Int) := by omega
      obtain ⟨x, hxx⟩ : ∃ x : Int, ((s[q]).toNat : Int) = x := ⟨_, rfl⟩
      rw [hxx] at hx
      by_cases hws : x = 10 ∨ x = 32 ∨ x = 9
      · have K1 := Lib.hid (skf_ws hx.out hws KH.out)
        rcases hws with rfl | rfl | rfl
        all_goals
          clear hx
          go_wp2
          go_roundw
          case rel => exact ⟨q + 1, _, by omega, by go_num, K1.out, by simp⟩
          case measure => simp [intOf] <;> omega
      · have e1 : (((s[q]).toNat : Int) == 10) = false := by rw [hxx]; simpa using (show ¬ x = 10 by omega)
        have e2 : (((s[q]).toNat : Int) == 32) = false := by rw [hxx]; simpa using (show ¬ x = 32 by omega)
        have e3 : (((s[q]).toNat : Int) == 9) = false := by rw [hxx]; simpa using (show ¬ x = 9 by omega)
        cases hc : cmt (strL s) q
        · obtain ⟨rfl, rfl⟩ := skf_no hx.out hws hc KH.out
          have hways : ((((s[q]).toNat : Int) == 47) = false) ∨ ((((s[q]).toNat : Int) == 47) = true ∧ ¬ (q : Int) + 1 < (s.size : Int)) ∨ (∃ h : q + 1 < s.size, (((s[q]).toNat : Int) == 47) = true ∧ (((s[q + 1]).toNat : Int) == 47) = false) := by
            by_cases h47 : x = 47
            · right
              have e4 : (((s[q]).toNat : Int) == 47) = true := by rw [hxx]; simpa using h47
              by_cases h2 : q + 1 < s.size
              · right
                refine ⟨h2, e4, ?_⟩
                unfold cmt at hc
                rw [hx.out, strL_at s (q + 1) h2, h47] at hc
                simpa using hc
              · left
                exact ⟨e4, by omega⟩
            · left
              rw [hxx]
              simpa using h47
          clear hx hxx hws hc KH
          rcases hways with e4 | ⟨e4, e5⟩ | ⟨h2, e4, e5⟩
          · go_wp2
            go_ret
            exact ⟨rfl, rfl⟩
          · go_wp2
            go_ret
            exact ⟨rfl, rfl⟩
          · have h2i : (q : Int) + 1 < (s.size : Int) := by omega
            go_wp2
            go_ret
            exact ⟨rfl, rfl⟩
        · have hcc : x = 47 ∧ (strL s)[q + 1]? = some 47 := by
            unfold cmt at hc
            rw [hx.out] at hc
            simpa using hc
          obtain ⟨rfl, h47⟩ := hcc
          have h2 : q + 1 < s.size := by
            have := (List.getElem?_eq_some_iff.1 h47).1
            rw [strL_len] at this
            exact this
          have h2i : (q : Int) + 1 < (s.size : Int) := by omega
          have e4 : (((s[q]).toNat : Int) == 47) = true := by rw [hxx]; rfl
          have e5 : (((s[q + 1]).toNat : Int) == 47) = true := by
            rw [strL_at s (q + 1) h2] at h47
            injection h47 with h47
            rw [h47]
            rfl
          have K1 := Lib.hid (skf_cm hx.out h47 KH.out)
          have hsp := spn_le isLin ((strL s).drop q)
          rw [List.length_drop, strL_len] at hsp
          have hpos : 1 ≤ spn isLin ((strL s).drop q) := by
            rw [drop_at hx.out, spn_cons, if_pos (by decide)]
            omega
          have HIN : Hid (∀ k (h : k < s.size), q ≤ k → k < q + spn isLin ((strL s).drop q) → (((s[k]).toNat : Int) == 10) = false) := Lib.hid fun k h h1 h2 => by
            exact isLin_t (spn_in (p := isLin) (l := (strL s).drop q) (k := k - q) (by omega) (by rw [List.getElem?_drop, show q + (k - q) = k by omega]; exact strL_at s k h))
          have HOUT : Hid (∀ k (h : k < s.size), k = q + spn isLin ((strL s).drop q) → (((s[k]).toNat : Int) == 10) = true) := Lib.hid fun k h hk => by
            subst hk
            exact isLin_f (spn_out (p := isLin) (l := (strL s).drop q) (by rw [List.getElem?_drop]; exact strL_at s _ h))
          obtain ⟨m, hm⟩ : ∃ m, spn isLin ((strL s).drop q) = m := ⟨_, rfl⟩
          rw [hm] at K1 hsp hpos HIN HOUT
          obtain ⟨z, hz⟩ : ∃ z, q + m = z := ⟨_, rfl⟩
          rw [hz] at K1 HIN HOUT
          have hzs : z ≤ s.size := by omega
          have hqz : q < z := by omega
          clear hx hxx hws hc h47 hm KH
          go_wp2
          go_loopw [1] (fun a wr => ∃ k : Nat, q ≤ k ∧ k ≤ z ∧ a = .int .i64 (k : Int) ∧ w = wr) (fun a _ => z - (intOf a).toNat)
          case atStart => exact ⟨q, by omega, by omega, rfl, by simp⟩
          case round =>
            obtain ⟨k, hk1, hk2, rfl, rfl⟩ := hrel
            by_cases hkz : k < z
            · have hks : k < s.size := by omega
              have hksi : (k : Int) < (s.size : Int) := by omega
              have e6 := HIN.out k hks hk1 hkz
              go_wp2
              go_roundw
              case rel => exact ⟨k + 1, by omega, by omega, by go_num, by simp⟩
              case measure => simp [intOf] <;> omega
            · obtain rfl : k = z := by omega
              by_cases hks : k < s.size
              · have hksi : (k : Int) < (s.size : Int) := by omega
                have e6 := HOUT.out k hks rfl
                go_wp2
                go_roundw
                case rel => exact ⟨k, lq, by omega, rfl, K1.out, by simp⟩
                case measure => simp [intOf] <;> omega
              · have hksi : ¬ (k : Int) < (s.size : Int) := by omega
                go_wp2
                go_roundw
                case rel => exact ⟨k, lq, by omega, rfl, K1.out, by simp⟩
                case measure => simp [intOf] <;> omega
    · obtain rfl : q = s.size := by omega
      obtain ⟨rfl, rfl⟩ := skf_end (by rw [strL_len]; omega) KH.out
      clear KH
      go_wp2
      go_ret
      exact ⟨rfl, rfl⟩

end Go.Proofs.YtjpkcgepdfpbnaaGreatDoor
