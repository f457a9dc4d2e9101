/- The walk of LexerLines. -/
import Derived.Test.YtapijdimajgflaaDoorZ24
import Derived.Test.YtapijdimajgflaaDoorZ22
namespace Go.Proofs.YtapijdimajgflaaDoor
open Go.RowKit Go.Sort Go.ChangeShapes Go.WideShapes
set_option linter.unusedVariables false

set_option maxRecDepth 100000 in
set_option maxHeartbeats 8000000 in
theorem lines_walk (s : ByteArray) (w : World) (LL : Lay6 w) (hs : s.size ≤ 4611686018427387904) : Calls Tryd.prog 7 #[.string s] w fun e w' => e = .returned (.bool true) ∧ Below w.heap.size w w' := by
  have BB := Below.refl w.heap.size w
  have HL := Lib.hid LL
  by_cases hbig : 16384 < s.size
  · have c1 := fun W L => lex_b s W L (by omega)
    rw [lexv_long _ (by rw [strL_len]; omega)] at c1
    have C1 := Lib.hid c1
    clear c1 LL
    go_enter Tryd.func7, Tryd.ntmps7
    go_wp2_with (first
      | (go_at_call 9; (refine (C1.out _ (HL.out.on BB)).mono ?_); rintro _ W1 ⟨A, n, c, rfl, R, hc, B⟩; obtain rfl : 0 = n := R.len; replace BB := bon BB B; clear B R)
      | (go_at_call 10; (refine (zexample_b _ (HL.out.on BB)).mono ?_); rintro _ W1 ⟨rfl, B⟩; replace BB := bon BB B; clear B))
    go_ret
    exact ⟨rfl, BB⟩
  · have c1 := fun W L => lex_b s W L (by omega)
    have hv := lexv_lines (l := strL s) (by rw [strL_len]; omega) (strL_rng s)
    have cl := fun W => lines_q s W hs
    have hlen := lexv_len (strL s)
    rw [strL_len] at hlen
    obtain ⟨T, l1, e1, hT⟩ : ∃ T l e, lexv (strL s) = (T, l, e) := ⟨_, _, _, rfl⟩
    obtain ⟨L, hL⟩ : ∃ L, lns (strL s) = L := ⟨_, rfl⟩
    rw [hT] at c1 hv hlen
    have hlen2 : T.length ≤ s.size + 1 := hlen
    clear hlen
    rw [hL] at hv cl
    simp only at hv
    have C1 := Lib.hid c1
    have CL := Lib.hid cl
    clear c1 cl LL hT hL
    by_cases he : e1 = 0
    · subst he
      obtain ⟨rfl, hok⟩ := hv.1 rfl
      have HOK := Lib.hid hok
      obtain ⟨x0, hx0, hk0, hl0⟩ := lnOk_last hok
      have hpos : 0 < T.length := List.length_pos_iff.2 (lnOk_ne hok)
      have HX0 := Lib.hid hx0
      clear hv hok hx0
      go_enter Tryd.func7, Tryd.ntmps7
      go_wp2_with (go_at_call 9; (refine (C1.out _ (HL.out.on BB)).mono ?_); rintro _ W1 ⟨A, n, c, rfl, R, hc, B⟩; obtain ⟨b, off, rfl, hb, hr⟩ := R.2 (by have h9 := R.len; simp only at h9; omega); have HR := Lib.hid hr; have HN : Hid (T.length = n) := Lib.hid R.len; replace BB := bon BB B; obtain ⟨f0, f1, f2, f3⟩ := tok_cells (B := 0) (n := 0) hr HX0.out; clear B R hr)
      obtain ⟨N, hN⟩ : ∃ N, n = N + 1 := ⟨n - 1, by have := HN.out; omega⟩
      have hTN : T.length - 1 = N := by have := HN.out; omega
      have hNb : N ≤ 16385 := by have := HN.out; omega
      rw [hTN, hk0] at f0
      rw [hTN, hl0] at f3
      subst hN
      have hn1 : ((N : Int) + 1 == 0) = false := by simpa using (show ¬ (N : Int) + 1 = 0 by omega)
      clear f1 f2 hTN hk0 hl0
      have BX := Lib.hid BB
      replace BB := Below.refl W1.heap.size W1
      have k_f0 := cell_regrown f0
      have k_f3 := cell_regrown f3
      refine wp_region_quiet_below (by kernel_rfl) (by kernel_rfl) ?_
      repeat (first | go_big_quiet_step ((first | (go_at_call 19; exact Calls.regrown_of (bl (CL.out _))))) | quiet_step ((first | (go_at_call 19; exact Calls.regrown_of (bl (CL.out _))))))
      refine wpQuiet_nil ?_
      intro W hw'
      have B := below_regrown' hw'
      clear hw' k_f0 k_f3
      replace BB := bon BB B
      replace f0 := cell_below B f0
      replace f3 := cell_below B f3
      go_wp2_with fail
      rename World => W2
      have HB2 := Lib.hid BB
      replace BB := bon BX.out BB
      go_loopw [6, 71] (fun u k wr => ∃ j m : Nat, k = .int .i64 (j : Int) ∧ u = .int .i64 (m : Int) ∧ j ≤ N + 1 ∧ (j = N + 1 ∨ lnOk m L (T.drop j)) ∧ W2 = wr) (fun _ k _ => N + 1 - (intOf k).toNat)
      case atStart => exact ⟨0, 1, rfl, rfl, Nat.zero_le _, .inr HOK.out, by simp⟩
      case round =>
        obtain ⟨j, m, rfl, rfl, hj, hor, rfl⟩ := hrel
        clear f0 f3
        by_cases hlt : j < N + 1
        · obtain ⟨x, hx, hax, m2, hm2, hor2⟩ := lnOk_at (hor.resolve_left (by omega))
          obtain ⟨g0, g1, g2, g3⟩ := tok_cells (B := 0) (n := 0) HR.out hx
          rw [HN.out] at hor2
          have hlti : (j : Int) < (N : Int) + 1 := by omega
          have G0 := cell_below HB2.out g0
          have G3 := cell_below HB2.out g3
          clear g0 g1 g2 g3 hx hor
          rw [hm2] at G3 hax
          have hnl : ¬ (m2 : Int) < (m : Int) := by omega
          rcases hor2 with ⟨hj1, hk5, rfl⟩ | ⟨hj1, hk5, hok⟩
          · obtain rfl : j = N := by omega
            rw [hk5] at G0
            clear hm2 hk5
            go_wp2_with fail
            go_roundw
            case rel => exact ⟨j + 1, m2, by go_num, rfl, by omega, .inl rfl, by simp⟩
            case measure => simp [intOf] <;> omega
          · have hk5i : (x.k == 5) = false := by simpa using hk5
            have HO := Lib.hid hok
            clear hm2 hk5 hok
            go_wp2_with fail
            go_roundw
            case rel => exact ⟨j + 1, m2, by go_num, rfl, by omega, .inr HO.out, by simp⟩
            case measure => simp [intOf] <;> omega
        · obtain rfl : j = N + 1 := by omega
          clear hor
          go_wp2_with (go_at_call 10; (refine (zexample_b _ (HL.out.on BB)).mono ?_); rintro _ W3 ⟨rfl, B⟩; replace BB := bon BB B; clear B)
          go_ret
          exact ⟨rfl, BB⟩
    · obtain ⟨rfl, m, rfl, hm1, hm2⟩ := hv.2 he
      have hei : (e1 == 0) = false := by simpa using he
      clear hv
      go_enter Tryd.func7, Tryd.ntmps7
      go_wp2_with (first
        | (go_at_call 9; (refine (C1.out _ (HL.out.on BB)).mono ?_); rintro _ W1 ⟨A, n, c, rfl, R, hc, B⟩; obtain rfl : 0 = n := R.len; replace BB := bon BB B; clear B R)
        | (go_at_call 19; (refine (CL.out _).mono ?_); rintro _ _ ⟨rfl, rfl⟩)
        | (go_at_call 10; (refine (zexample_b _ (HL.out.on BB)).mono ?_); rintro _ W1 ⟨rfl, B⟩; replace BB := bon BB B; clear B))
      go_ret
      exact ⟨rfl, BB⟩

end Go.Proofs.YtapijdimajgflaaDoor
