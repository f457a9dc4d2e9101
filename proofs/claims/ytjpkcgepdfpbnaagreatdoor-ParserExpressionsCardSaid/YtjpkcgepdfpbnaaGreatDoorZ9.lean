/- valueOf, scanNumber, scan of the program. -/
import Derived.Test.YtjpkcgepdfpbnaaGreatDoorZ8
namespace Go.Proofs.YtjpkcgepdfpbnaaGreatDoor
open Go.RowKit Go.Sort Go.ChangeShapes Go.WideShapes
set_option linter.unusedVariables false

theorem valueOf_b (k : Int) (t : ByteArray) (v er : Int) (w : World) (LL : Lay6 w) (hs : t.size ≤ 20000) (h : vlu k (strL t) = (v, er)) :
    Calls Tryz.prog 135 #[.int .i64 k, .string t] w fun e w' => e = .returned (.tuple #[.int .i64 v, .int .i64 er]) ∧ Below w.heap.size w w' := by
  unfold vlu at h
  have BB : Below w.heap.size w w := Below.refl _ _
  by_cases hk : k = 3
  · subst hk
    rw [if_pos rfl] at h
    have CF := Lib.hid (fun W LW => parseFixed_b t v er W LW hs h)
    have HL := Lib.hid LL
    clear LL h
    go_enter Tryz.func135, Tryz.ntmps135
    go_wp2_with (go_at_call 147; (refine (CF.out _ HL.out).mono ?_); rintro _ W1 ⟨rfl, B⟩; replace BB := bon BB B; clear B)
    go_ret2
    exact ⟨rfl, BB⟩
  · rw [if_neg hk] at h
    have hk2 : (k == 3) = false := by simpa using hk
    obtain ⟨n, c, hn⟩ : ∃ n c, pint (strL t) = (n, c) := ⟨_, _, rfl⟩
    rw [hn] at h
    simp only at h
    have CI := Lib.hid (fun W LW => parseInt_b t n c W LW hs hn)
    have HL := Lib.hid LL
    clear LL hn
    by_cases hc : c = 0
    · subst hc
      rw [if_neg (by decide)] at h
      by_cases hm : 2147483647 < n
      · rw [if_pos hm] at h
        obtain ⟨rfl, rfl⟩ := Prod.mk.inj h
        clear h
        go_enter Tryz.func135, Tryz.ntmps135
        go_wp2_with (go_at_call 148; (refine (CI.out _ HL.out).mono ?_); rintro _ W1 ⟨rfl, B⟩; replace BB := bon BB B; clear B)
        go_ret2
        exact ⟨rfl, BB⟩
      · rw [if_neg hm] at h
        obtain ⟨rfl, rfl⟩ := Prod.mk.inj h
        clear h
        go_enter Tryz.func135, Tryz.ntmps135
        go_wp2_with (go_at_call 148; (refine (CI.out _ HL.out).mono ?_); rintro _ W1 ⟨rfl, B⟩; replace BB := bon BB B; clear B)
        go_ret2
        exact ⟨rfl, BB⟩
    · rw [if_pos hc] at h
      obtain ⟨rfl, rfl⟩ := Prod.mk.inj h
      clear h
      go_enter Tryz.func135, Tryz.ntmps135
      go_wp2_with (go_at_call 148; (refine (CI.out _ HL.out).mono ?_); rintro _ W1 ⟨rfl, B⟩; replace BB := bon BB B; clear B)
      go_ret2
      exact ⟨rfl, BB⟩

/-- What scan and scanNumber give: the error; the token added, where there is none. -/
def GivesSc (b : Nat) (s : ByteArray) (p ln : Nat) (out : List Tk) (q : Int × Int × Nat × Int) (w : World) (e : Ending) (w' : World) : Prop :=
  e = .returned (.int .i64 q.1) ∧ Below b w w' ∧ (q.1 = 0 → Scn w' b s (p + q.2.2.1) ln (out ++ [⟨q.2.1, ((strL s).drop p).take q.2.2.1, q.2.2.2, (ln : Nat)⟩])) ∧ (q.1 ≠ 0 → Scn w' b s p ln out)

theorem GivesSc.no {b : Nat} {s : ByteArray} {p ln : Nat} {out : List Tk} {c : Int} {w W : World} (S : Scn w b s p ln out) (B : Below w.heap.size w W) (hc : c ≠ 0) : GivesSc b s p ln out (c, 0, 0, 0) w (.returned (.int .i64 c)) W :=
  ⟨rfl, B.mono (Nat.le_of_lt S.lt), fun h => absurd h hc, fun _ => S.on B⟩

set_option maxRecDepth 100000 in
set_option maxHeartbeats 4000000 in
theorem scanNumber_b (b : Nat) (s : ByteArray) (p ln : Nat) (out : List Tk) (w : World) (LL : Lay6 w) (SS : Scn w b s p ln out) (hp : p < s.size) (hs : s.size ≤ 16384) (ho : out.length ≤ 100000) (hd : (((strL s).drop p).head?).any isDig = true) :
    Calls Tryz.prog 112 #[.pointer (some ⟨b, 0, none⟩)] w (GivesSc b s p ln out (tkr ((strL s).drop p)) w) := by
  obtain ⟨R, hR⟩ : ∃ R, s.extract p s.size = R := ⟨_, rfl⟩
  have hRs : R.size = s.size - p := by rw [← hR, size_from]
  have hRL : strL R = (strL s).drop p := by rw [← hR, strL_from]
  have CR := Lib.hid (fun W c0 c1 => rest_q b s p W c0 c1 (by omega) (by omega))
  rw [hR] at CR
  have cn := fun W => numberLength_q R W (by omega)
  have hle := nml_le (strL R)
  rw [strL_len] at hle
  have ha := fun W S => add_b b s p ln (nml ((strL s).drop p)).2 out (nml ((strL s).drop p)).1 (vlu (nml ((strL s).drop p)).1 (((strL s).drop p).take (nml ((strL s).drop p)).2)).1 W S (by rw [← hRL]; omega) (by omega) ho
  have hq : tkr ((strL s).drop p) = if ((strL R)[(nml (strL R)).2]?).any isWrd = true then (3, 0, 0, 0) else if (vlu (nml (strL R)).1 ((strL R).take (nml (strL R)).2)).2 ≠ 0 then ((vlu (nml (strL R)).1 ((strL R).take (nml (strL R)).2)).2, 0, 0, 0) else (0, (nml (strL R)).1, (nml (strL R)).2, (vlu (nml (strL R)).1 ((strL R).take (nml (strL R)).2)).1) := by
    rw [hRL]
    unfold tkr
    rw [if_pos hd]
  rw [← hRL] at ha
  obtain ⟨k, n, hkn⟩ : ∃ k n, nml (strL R) = (k, n) := ⟨_, _, rfl⟩
  rw [hkn] at cn hle ha hq
  simp only at cn hle ha hq
  obtain ⟨v, er, hv⟩ : ∃ v er, vlu k ((strL R).take n) = (v, er) := ⟨_, _, rfl⟩
  rw [hv] at ha hq
  simp only at ha hq
  have CV := Lib.hid (fun W LW => valueOf_b k (R.extract 0 n) v er W LW (by rw [ByteArray.size_extract]; omega) (by rw [strL_upto]; exact hv))
  have CN := Lib.hid cn
  have CA := Lib.hid ha
  have S0 := Lib.hid SS
  have HL := Lib.hid LL
  have c0 := SS.txt
  have c1 := SS.pos
  have BB := Below.refl w.heap.size w
  have HQ := Lib.hid hq
  have HX : Hid (∀ h : n < R.size, ((strL R)[n]?).any isWrd = isWrd ((R[n]).toNat : Int)) := Lib.hid fun h => by rw [strL_at R n h]; rfl
  have HX0 : Hid (¬ n < R.size → ((strL R)[n]?).any isWrd = false) := Lib.hid fun h => by rw [List.getElem?_eq_none (by rw [strL_len]; omega)]; rfl
  obtain ⟨T, hT⟩ : ∃ T, tkr ((strL s).drop p) = T := ⟨_, rfl⟩
  rw [hT] at HQ ⊢
  have HRL := Lib.hid hRL
  clear hR hRs hRL hkn hv cn ha hq SS LL hd hT
  by_cases hlt : n < R.size
  · have hlti : (n : Int) < (R.size : Int) := by omega
    have hx := HX.out hlt
    have cw := fun W => isWordPart_q ((R[n]).toNat : Int) W
    cases hw : isWrd ((R[n]).toNat : Int)
    · rw [hw] at hx cw
      have CW := Lib.hid cw
      by_cases he : er = 0
      · subst he
        obtain rfl : T = (0, k, n, v) := HQ.out.trans (by rw [hx, if_neg (by decide), if_neg (by decide)])
        clear hx HQ HX HX0 hw cw
        go_enter Tryz.func112, Tryz.ntmps112
        go_wp2_with (first
          | (go_at_call 106; (refine (CR.out _ c0 c1).mono ?_); rintro _ W1 ⟨rfl, B⟩; (replace BB := bon BB B; replace c0 := cell_below B c0; replace c1 := cell_below B c1))
          | (go_at_call 134; (refine (CN.out _).mono ?_); rintro _ _ ⟨rfl, rfl⟩)
          | (go_at_call 109; (refine (CW.out _).mono ?_); rintro _ _ ⟨rfl, rfl⟩)
          | (go_at_call 135; (refine (CV.out _ (HL.out.on BB)).mono ?_); rintro _ W1 ⟨rfl, B⟩; (replace BB := bon BB B; replace c0 := cell_below B c0; replace c1 := cell_below B c1))
          | (go_at_call 87; (refine (CA.out _ (S0.out.on BB)).mono ?_); rintro _ W1 ⟨rfl, SN, B⟩; have S9 := Lib.hid SN; have B9 := Lib.hid ((BB.mono (Nat.le_of_lt S0.out.lt)).trans B); clear SN B))
        go_ret
        exact ⟨rfl, B9.out, fun _ => (by have h9 := S9.out; rw [HRL.out] at h9; exact h9), fun h => absurd rfl h⟩
      · obtain rfl : T = (er, 0, 0, 0) := HQ.out.trans (by rw [hx, if_neg (by decide), if_pos he])
        clear hx HQ HX HX0 hw cw
        go_enter Tryz.func112, Tryz.ntmps112
        go_wp2_with (first
          | (go_at_call 106; (refine (CR.out _ c0 c1).mono ?_); rintro _ W1 ⟨rfl, B⟩; (replace BB := bon BB B; replace c0 := cell_below B c0; replace c1 := cell_below B c1))
          | (go_at_call 134; (refine (CN.out _).mono ?_); rintro _ _ ⟨rfl, rfl⟩)
          | (go_at_call 109; (refine (CW.out _).mono ?_); rintro _ _ ⟨rfl, rfl⟩)
          | (go_at_call 135; (refine (CV.out _ (HL.out.on BB)).mono ?_); rintro _ W1 ⟨rfl, B⟩; (replace BB := bon BB B; replace c0 := cell_below B c0; replace c1 := cell_below B c1)))
        go_ret
        exact GivesSc.no S0.out BB he
    · rw [hw] at hx cw
      have CW := Lib.hid cw
      obtain rfl : T = (3, 0, 0, 0) := HQ.out.trans (by rw [hx, if_pos rfl])
      clear hx HQ HX HX0 hw cw
      go_enter Tryz.func112, Tryz.ntmps112
      go_wp2_with (first
        | (go_at_call 106; (refine (CR.out _ c0 c1).mono ?_); rintro _ W1 ⟨rfl, B⟩; (replace BB := bon BB B; replace c0 := cell_below B c0; replace c1 := cell_below B c1))
        | (go_at_call 134; (refine (CN.out _).mono ?_); rintro _ _ ⟨rfl, rfl⟩)
        | (go_at_call 109; (refine (CW.out _).mono ?_); rintro _ _ ⟨rfl, rfl⟩))
      go_ret
      exact GivesSc.no S0.out BB (by decide)
  · have hx := HX0.out hlt
    have hlti : ¬ (n : Int) < (R.size : Int) := by omega
    by_cases he : er = 0
    · subst he
      obtain rfl : T = (0, k, n, v) := HQ.out.trans (by rw [hx, if_neg (by decide), if_neg (by decide)])
      clear hx HQ HX HX0
      go_enter Tryz.func112, Tryz.ntmps112
      go_wp2_with (first
        | (go_at_call 106; (refine (CR.out _ c0 c1).mono ?_); rintro _ W1 ⟨rfl, B⟩; (replace BB := bon BB B; replace c0 := cell_below B c0; replace c1 := cell_below B c1))
        | (go_at_call 134; (refine (CN.out _).mono ?_); rintro _ _ ⟨rfl, rfl⟩)
        | (go_at_call 135; (refine (CV.out _ (HL.out.on BB)).mono ?_); rintro _ W1 ⟨rfl, B⟩; (replace BB := bon BB B; replace c0 := cell_below B c0; replace c1 := cell_below B c1))
        | (go_at_call 87; (refine (CA.out _ (S0.out.on BB)).mono ?_); rintro _ W1 ⟨rfl, SN, B⟩; have S9 := Lib.hid SN; have B9 := Lib.hid ((BB.mono (Nat.le_of_lt S0.out.lt)).trans B); clear SN B))
      go_ret
      exact ⟨rfl, B9.out, fun _ => (by have h9 := S9.out; rw [HRL.out] at h9; exact h9), fun h => absurd rfl h⟩
    · obtain rfl : T = (er, 0, 0, 0) := HQ.out.trans (by rw [hx, if_neg (by decide), if_pos he])
      clear hx HQ HX HX0
      go_enter Tryz.func112, Tryz.ntmps112
      go_wp2_with (first
        | (go_at_call 106; (refine (CR.out _ c0 c1).mono ?_); rintro _ W1 ⟨rfl, B⟩; (replace BB := bon BB B; replace c0 := cell_below B c0; replace c1 := cell_below B c1))
        | (go_at_call 134; (refine (CN.out _).mono ?_); rintro _ _ ⟨rfl, rfl⟩)
        | (go_at_call 135; (refine (CV.out _ (HL.out.on BB)).mono ?_); rintro _ W1 ⟨rfl, B⟩; (replace BB := bon BB B; replace c0 := cell_below B c0; replace c1 := cell_below B c1)))
      go_ret
      exact GivesSc.no S0.out BB he

end Go.Proofs.YtjpkcgepdfpbnaaGreatDoor
