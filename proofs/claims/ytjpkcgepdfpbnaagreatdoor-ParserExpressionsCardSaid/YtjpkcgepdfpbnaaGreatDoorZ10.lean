/- scan, Lex of the program. -/
import Derived.Test.YtjpkcgepdfpbnaaGreatDoorZ9
namespace Go.Proofs.YtjpkcgepdfpbnaaGreatDoor
open Go.RowKit Go.Sort Go.ChangeShapes Go.WideShapes
set_option linter.unusedVariables false

/-- What scan does at a text's beginning, n tokens ahead. -/
def scq (r : List Int) (n : Nat) : Int × Int × Nat × Int := if spn isWrd r = 0 ∧ sgl r = 0 then (3, 0, 0, 0) else if n = 4000 then (9, 0, 0, 0) else tkr r

set_option maxRecDepth 100000 in
set_option maxHeartbeats 4000000 in
theorem scan_b (b : Nat) (s : ByteArray) (p ln : Nat) (out : List Tk) (w : World) (LL : Lay6 w) (SS : Scn w b s p ln out) (hp : p < s.size) (hs : s.size ≤ 16384) (ho : out.length ≤ 100000) :
    Calls Tryz.prog 86 #[.pointer (some ⟨b, 0, none⟩)] w (GivesSc b s p ln out (scq ((strL s).drop p) out.length) w) := by
  obtain ⟨R, hR⟩ : ∃ R, s.extract p s.size = R := ⟨_, rfl⟩
  have hRs : R.size = s.size - p := by rw [← hR, size_from]
  have hRL : strL R = (strL s).drop p := by rw [← hR, strL_from]
  have CR := Lib.hid (fun W c0 c1 => rest_q b s p W c0 c1 (by omega) (by omega))
  rw [hR] at CR
  have h0 : 0 < R.size := by omega
  have h0i : (0 : Int) < (R.size : Int) := by omega
  have hhd : ((strL s).drop p).head? = some ((R[0]).toNat : Int) := by rw [← hRL, List.head?_eq_getElem?, strL_at R 0 h0]
  have cw := fun W => spanWord R W (by omega)
  have cg := fun W => signLength_q R W (by omega)
  have cd := fun W => zDigit_q ((R[0]).toNat : Int) W
  have hw1 := spn_le isWrd ((strL s).drop p)
  have hg1 := sgl_le ((strL s).drop p)
  rw [List.length_drop, strL_len] at hw1 hg1
  rw [hRL] at cw cg
  have ca1 := fun W S => add_b b s p ln (spn isWrd ((strL s).drop p)) out 1 0 W S (by omega) (by omega) ho
  have ca4 := fun W S => add_b b s p ln (sgl ((strL s).drop p)) out 4 0 W S (by omega) (by omega) ho
  have cs := fun W LW S hd => scanNumber_b b s p ln out W LW S hp hs ho hd
  have hsc : scq ((strL s).drop p) out.length = if spn isWrd ((strL s).drop p) = 0 ∧ sgl ((strL s).drop p) = 0 then (3, 0, 0, 0) else if out.length = 4000 then (9, 0, 0, 0) else tkr ((strL s).drop p) := rfl
  have htk : tkr ((strL s).drop p) = if isDig ((R[0]).toNat : Int) = true then tkr ((strL s).drop p) else if 0 < spn isWrd ((strL s).drop p) then (0, 1, spn isWrd ((strL s).drop p), 0) else (0, 4, sgl ((strL s).drop p), 0) := by
    cases hb : isDig ((R[0]).toNat : Int) with
    | true => rw [if_pos rfl]
    | false =>
      rw [if_neg (by decide)]
      conv => lhs; unfold tkr
      rw [if_neg (by rw [hhd]; simp [hb])]
  have hdw : isDig ((R[0]).toNat : Int) = true → 0 < spn isWrd ((strL s).drop p) := fun h => by
    have e : (strL s).drop p = ((R[0]).toNat : Int) :: ((strL s).drop p).tail := by
      cases hl : (strL s).drop p with
      | nil => rw [hl] at hhd; simp at hhd
      | cons x r => rw [hl] at hhd; simp at hhd; rw [hhd]; rfl
    rw [e, spn_cons, if_pos (isWrd_dig h)]
    omega
  obtain ⟨A, c, c3, -⟩ := SS.tok
  obtain ⟨TT, hTT⟩ : ∃ TT, tkr ((strL s).drop p) = TT := ⟨_, rfl⟩
  rw [hTT] at hsc htk cs
  obtain ⟨Q, hQ⟩ : ∃ Q, scq ((strL s).drop p) out.length = Q := ⟨_, rfl⟩
  rw [hQ] at hsc ⊢
  have HD : Hid (isDig ((R[0]).toNat : Int) = true → (((strL s).drop p).head?).any isDig = true) := Lib.hid fun h => by rw [hhd]; exact h
  obtain ⟨wd, hwd⟩ : ∃ wd, spn isWrd ((strL s).drop p) = wd := ⟨_, rfl⟩
  obtain ⟨sg, hsg⟩ : ∃ sg, sgl ((strL s).drop p) = sg := ⟨_, rfl⟩
  rw [hwd] at cw ca1 hsc htk hdw
  rw [hsg] at cg ca4 hsc htk
  obtain ⟨dd, hdd⟩ : ∃ dd, isDig ((R[0]).toNat : Int) = dd := ⟨_, rfl⟩
  rw [hdd] at cd htk hdw HD
  have CW := Lib.hid cw
  have CG := Lib.hid cg
  have CD := Lib.hid cd
  have A1 := Lib.hid ca1
  have A4 := Lib.hid ca4
  have CS := Lib.hid cs
  have HS := Lib.hid hsc
  have HTK := Lib.hid htk
  have HDW := Lib.hid hdw
  have S0 := Lib.hid SS
  have HL := Lib.hid LL
  have c0 := SS.txt
  have c1 := SS.pos
  have BB := Below.refl w.heap.size w
  obtain ⟨N, hN⟩ : ∃ N, out.length = N := ⟨_, rfl⟩
  rw [hN] at HS c3
  clear hR hRs hRL hhd cw cg cd hw1 hg1 ca1 ca4 cs hsc htk hdw SS LL hTT hQ hwd hsg hdd hN
  by_cases hbad : wd = 0 ∧ sg = 0
  · obtain ⟨rfl, rfl⟩ := hbad
    obtain rfl : Q = (3, 0, 0, 0) := HS.out.trans (if_pos ⟨rfl, rfl⟩)
    clear HS HTK HDW
    go_enter Tryz.func86, Tryz.ntmps86
    go_wp2_with (first
      | (go_at_call 106; (refine (CR.out _ c0 c1).mono ?_); rintro _ W1 ⟨rfl, B⟩; (replace BB := bon BB B; replace c0 := cell_below B c0; replace c1 := cell_below B c1; replace c3 := cell_below B c3))
      | (go_at_call 107; (refine (CW.out _).mono ?_); rintro _ _ ⟨rfl, rfl⟩)
      | (go_at_call 110; (refine (CG.out _).mono ?_); rintro _ _ ⟨rfl, rfl⟩))
    go_ret
    exact GivesSc.no S0.out BB (by decide)
  · by_cases hfull : N = 4000
    · subst hfull
      obtain rfl : Q = (9, 0, 0, 0) := HS.out.trans (by rw [if_neg hbad, if_pos rfl])
      have HB := Lib.hid hbad
      clear HS HTK HDW hbad
      have hx : (0 < wd) ∨ (wd = 0 ∧ 0 < sg) := by have := HB.out; omega
      rcases hx with hx | ⟨rfl, hx⟩
      · have hxi : ((wd : Int) == 0) = false := by simpa using (show ¬ (wd : Int) = 0 by omega)
        go_enter Tryz.func86, Tryz.ntmps86
        go_wp2_with (first
          | (go_at_call 106; (refine (CR.out _ c0 c1).mono ?_); rintro _ W1 ⟨rfl, B⟩; (replace BB := bon BB B; replace c0 := cell_below B c0; replace c1 := cell_below B c1; replace c3 := cell_below B c3))
          | (go_at_call 107; (refine (CW.out _).mono ?_); rintro _ _ ⟨rfl, rfl⟩)
          | (go_at_call 110; (refine (CG.out _).mono ?_); rintro _ _ ⟨rfl, rfl⟩))
        go_ret
        exact GivesSc.no S0.out BB (by decide)
      · have hxi : ((sg : Int) == 0) = false := by simpa using (show ¬ (sg : Int) = 0 by omega)
        go_enter Tryz.func86, Tryz.ntmps86
        go_wp2_with (first
          | (go_at_call 106; (refine (CR.out _ c0 c1).mono ?_); rintro _ W1 ⟨rfl, B⟩; (replace BB := bon BB B; replace c0 := cell_below B c0; replace c1 := cell_below B c1; replace c3 := cell_below B c3))
          | (go_at_call 107; (refine (CW.out _).mono ?_); rintro _ _ ⟨rfl, rfl⟩)
          | (go_at_call 110; (refine (CG.out _).mono ?_); rintro _ _ ⟨rfl, rfl⟩))
        go_ret
        exact GivesSc.no S0.out BB (by decide)
    · obtain rfl : Q = TT := HS.out.trans (by rw [if_neg hbad, if_neg hfull])
      have hfi : ((N : Int) == 4000) = false := by simpa using (show ¬ (N : Int) = 4000 by omega)
      have HB := Lib.hid hbad
      clear HS hbad hfull
      cases dd with
      | true =>
        have hx := HDW.out rfl
        have hxi : ((wd : Int) == 0) = false := by simpa using (show ¬ (wd : Int) = 0 by omega)
        have HD2 := Lib.hid (HD.out rfl)
        clear HTK HDW HD
        go_enter Tryz.func86, Tryz.ntmps86
        go_wp2_with (first
          | (go_at_call 106; (refine (CR.out _ c0 c1).mono ?_); rintro _ W1 ⟨rfl, B⟩; (replace BB := bon BB B; replace c0 := cell_below B c0; replace c1 := cell_below B c1; replace c3 := cell_below B c3))
          | (go_at_call 107; (refine (CW.out _).mono ?_); rintro _ _ ⟨rfl, rfl⟩)
          | (go_at_call 110; (refine (CG.out _).mono ?_); rintro _ _ ⟨rfl, rfl⟩)
          | (go_at_call 111; (refine (CD.out _).mono ?_); rintro _ _ ⟨rfl, rfl⟩)
          | (go_at_call 112; (refine (CS.out _ (HL.out.on BB) (S0.out.on BB) HD2.out).mono ?_); rintro _ W9 ⟨rfl, B9, hy, hn⟩; have HY := Lib.hid hy; have HN := Lib.hid hn; have B8 := Lib.hid ((BB.mono (Nat.le_of_lt S0.out.lt)).trans B9); clear B9 hy hn))
        go_ret
        exact ⟨rfl, B8.out, HY.out, HN.out⟩
      | false =>
        have ht := HTK.out
        rw [if_neg (by decide)] at ht
        by_cases hx : 0 < wd
        · rw [if_pos hx] at ht
          subst ht
          have hxi : ((wd : Int) == 0) = false := by simpa using (show ¬ (wd : Int) = 0 by omega)
          have hxp : (0 : Int) < (wd : Int) := by omega
          clear HTK HDW HD
          go_enter Tryz.func86, Tryz.ntmps86
          go_wp2_with (first
            | (go_at_call 106; (refine (CR.out _ c0 c1).mono ?_); rintro _ W1 ⟨rfl, B⟩; (replace BB := bon BB B; replace c0 := cell_below B c0; replace c1 := cell_below B c1; replace c3 := cell_below B c3))
            | (go_at_call 107; (refine (CW.out _).mono ?_); rintro _ _ ⟨rfl, rfl⟩)
            | (go_at_call 110; (refine (CG.out _).mono ?_); rintro _ _ ⟨rfl, rfl⟩)
            | (go_at_call 111; (refine (CD.out _).mono ?_); rintro _ _ ⟨rfl, rfl⟩)
            | (go_at_call 87; (refine (A1.out _ (S0.out.on BB)).mono ?_); rintro _ W9 ⟨rfl, SN, B9⟩; have S9 := Lib.hid SN; have B8 := Lib.hid ((BB.mono (Nat.le_of_lt S0.out.lt)).trans B9); clear SN B9))
          go_ret
          exact ⟨rfl, B8.out, fun _ => S9.out, fun h => absurd rfl h⟩
        · rw [if_neg hx] at ht
          subst ht
          obtain rfl : wd = 0 := by omega
          have hsg : 0 < sg := by have := HB.out; omega
          have hxi : ((sg : Int) == 0) = false := by simpa using (show ¬ (sg : Int) = 0 by omega)
          clear HTK HDW HD
          go_enter Tryz.func86, Tryz.ntmps86
          go_wp2_with (first
            | (go_at_call 106; (refine (CR.out _ c0 c1).mono ?_); rintro _ W1 ⟨rfl, B⟩; (replace BB := bon BB B; replace c0 := cell_below B c0; replace c1 := cell_below B c1; replace c3 := cell_below B c3))
            | (go_at_call 107; (refine (CW.out _).mono ?_); rintro _ _ ⟨rfl, rfl⟩)
            | (go_at_call 110; (refine (CG.out _).mono ?_); rintro _ _ ⟨rfl, rfl⟩)
            | (go_at_call 111; (refine (CD.out _).mono ?_); rintro _ _ ⟨rfl, rfl⟩)
            | (go_at_call 87; (refine (A4.out _ (S0.out.on BB)).mono ?_); rintro _ W9 ⟨rfl, SN, B9⟩; have S9 := Lib.hid SN; have B8 := Lib.hid ((BB.mono (Nat.le_of_lt S0.out.lt)).trans B9); clear SN B9))
          go_ret
          exact ⟨rfl, B8.out, fun _ => S9.out, fun h => absurd rfl h⟩

end Go.Proofs.YtjpkcgepdfpbnaaGreatDoor
