/- Lex of the reference: the walk. Written by tools/gen/genZ17.py. -/
import Derived.Test.YtjpkcgepdfpbnaaGreatDoorZ16
namespace Go.Proofs.YtjpkcgepdfpbnaaGreatDoor
open Go.RowKit Go.Sort Go.ChangeShapes Go.WideShapes
set_option linter.unusedVariables false

theorem OwnE.made0 {α : Type} (enc : α → List Value) (k : Nat) (w : World) (e : TypeId) : OwnE enc k (w.alloc (.cells #[] e)) w.heap.size e (some ⟨w.heap.size, 0, none⟩) 0 0 [] :=
  ⟨World.ownsRow_made w #[] 0 (Nat.le_refl _) (by decide) (by simp), by simp, rfl⟩

set_option maxRecDepth 100000 in
set_option maxHeartbeats 8000000 in
theorem rlex_b (s : ByteArray) (w : World) (hs : s.size ≤ 9223372036854775807) :
    Calls Tryz.prog 28 #[.string s] w (GivesL w (lexv (strL s))) := by
  by_cases hbig : 16384 < s.size
  · rw [lexv_long _ (by rw [strL_len]; exact hbig)]
    have hbi : (16384 : Int) < (s.size : Int) := by omega
    go_enter Tryz.func28, Tryz.ntmps28
    go_wp2
    refine bodyPost_ret (results_three rfl _ _ _) rfl ?_
    exact ⟨none, 0, 0, rfl, RdE.nil _ _ _ _ _, Nat.le_refl _, Below.refl _ _⟩
  · have hbi : ¬ (16384 : Int) < (s.size : Int) := by omega
    have hl := strL_len s
    have HR := Lib.hid (strL_rng s)
    have HSL := Lib.hid hl
    have H0 : Hid (RxI (strL s) s.size (skp false (strL s)) []) := Lib.hid (by have := rx_start (l := strL s) (by omega); rw [hl] at this; exact this)
    have hk0 := skp_le false (strL s)
    rw [hl] at hk0
    have ck := fun W => rskip_q s 0 W (by omega) (by omega)
    rw [List.drop_zero, Nat.zero_add] at ck
    obtain ⟨k0, hk⟩ : ∃ k0, skp false (strL s) = k0 := ⟨_, rfl⟩
    rw [hk] at H0 hk0 ck
    have CK := Lib.hid ck
    have OM := Lib.hid (OwnE.made0 tokC 4 w 60)
    have BM := Lib.hid (box_below w #[] 60)
    have CLL := Lib.hid (fun W => rLines_q s W (by omega))
    clear hl ck hk
    go_enter Tryz.func28, Tryz.ntmps28
    go_wp2_with (go_at_call 55; (refine (CK.out _).mono ?_); rintro _ _ ⟨rfl, rfl⟩)
    go_loopg [5, 6] s.size (fun gk o a wr => ∃ (p c : Nat) (A : Option Addr) (out : List Tk), a = .int .i64 (p : Int) ∧ o = .slice A out.length c ∧ RxI (strL s) gk p out ∧ OwnT wr w.heap.size A out.length c out ∧ Below w.heap.size w wr)
    case atStart => exact ⟨k0, 0, _, [], rfl, rfl, H0.out, OM.out, BM.out⟩
    case round =>
      clear H0 CK OM BM hk0
      obtain ⟨p, c, A, out, rfl, rfl, ⟨ln, hln, I⟩, own, BW⟩ := hrel
      rename World => wr
      have hp : p ≤ s.size := by rw [← HSL.out]; exact I.1
      have hlb : ln ≤ p + 1 := I.2.2.1
      have ho := I.2.2.2.1
      have HI := Lib.hid I
      have OW := Lib.hid own
      have HB := Lib.hid BW
      have HLN := Lib.hid hln
      have HP : Hid (p < (strL s).length ↔ p < s.size) := Lib.hid (by rw [HSL.out])
      clear I own BW hln
      by_cases hlt : p < s.size
      · have hlti : (p : Int) < (s.size : Int) := by omega
        have cln := fun W => rLines_q (s.extract 0 p) W (by rw [ByteArray.size_extract]; omega)
        rw [strL_upto, HLN.out] at cln
        have CLN := Lib.hid cln
        have hhd : ((strL s).drop p).head? = some ((s[p]).toNat : Int) := by rw [List.head?_drop, strL_at s p hlt]
        have hne : (strL s).drop p ≠ [] := fun e => by rw [e] at hhd; cases hhd
        have hlen : 1 ≤ ((strL s).drop p).length := by rw [List.length_drop, HSL.out]; omega
        have hsw := spn_word ((strL s).drop p)
        rw [hhd] at hsw
        have hsz := sgl_zero hlen
        have cs := fun W => rIsSign_q (s.extract p (p + 1)) W
        rw [← sgI_str, strL_extract, Nat.add_sub_cancel_left] at cs
        have cd := fun W => rdigit_q ((s[p]).toNat : Int) W
        have cl := fun W => rletter_q ((s[p]).toNat : Int) W
        have hscq : scq ((strL s).drop p) out.length = if spn isWrd ((strL s).drop p) = 0 ∧ sgl ((strL s).drop p) = 0 then (3, 0, 0, 0) else if out.length = 4000 then (9, 0, 0, 0) else tkr ((strL s).drop p) := rfl
        have hno := fun h => lx_no HI.out (HP.out.2 hlt) h
        have hnx := fun h => rx_next HR.out HI.out HLN.out (HP.out.2 hlt) h
        have ct := fun W hg => rtoken_b s p W hlt (by omega) hg
        obtain ⟨wd, hwd⟩ : ∃ wd, spn isWrd ((strL s).drop p) = wd := ⟨_, rfl⟩
        obtain ⟨sg, hsg⟩ : ∃ sg, sgl ((strL s).drop p) = sg := ⟨_, rfl⟩
        obtain ⟨ec, kd, m, v, hT⟩ : ∃ ec kd m v, tkr ((strL s).drop p) = (ec, kd, m, v) := ⟨_, _, _, _, rfl⟩
        rw [hwd] at hsw hscq ct
        rw [hsg] at hsz hscq ct
        rw [hT] at hscq hnx ct
        obtain ⟨q, hq⟩ : ∃ q, scq ((strL s).drop p) out.length = q := ⟨_, rfl⟩
        rw [hq] at hscq hno hnx
        obtain ⟨dd, hdd⟩ : ∃ dd, isDig ((s[p]).toNat : Int) = dd := ⟨_, rfl⟩
        obtain ⟨lt, hlt2⟩ : ∃ lt, isLet ((s[p]).toNat : Int) = lt := ⟨_, rfl⟩
        obtain ⟨sn, hsn⟩ : ∃ sn, sgI (((strL s).drop p).take 1) = sn := ⟨_, rfl⟩
        have hsw2 : wd = 0 ↔ (lt = false ∧ dd = false) := by rw [hsw]; simp [isWrd, hdd, hlt2]
        rw [hdd] at cd
        rw [hlt2] at cl
        rw [hsn] at cs hsz
        have CD := Lib.hid cd
        have CL := Lib.hid cl
        have CS := Lib.hid cs
        have CT := Lib.hid ct
        have HSW := Lib.hid hsw2
        have HSZ := Lib.hid hsz
        have HSC := Lib.hid hscq
        have HNO := Lib.hid hno
        have HNX := Lib.hid hnx
        obtain ⟨N, hN⟩ : ∃ N, out.length = N := ⟨_, rfl⟩
        rw [hN] at OW HSC ho
        have HN := Lib.hid hN
        clear cln hhd hne hlen hsw hsz cs cd cl hscq hno hnx ct hwd hsg hT hq hdd hlt2 hsn hsw2
        rcases (show dd = true ∨ (dd = false ∧ lt = true) ∨ (dd = false ∧ lt = false ∧ sn = true) ∨ (dd = false ∧ lt = false ∧ sn = false) by cases dd <;> cases lt <;> cases sn <;> simp) with rfl | ⟨rfl, rfl⟩ | ⟨rfl, rfl, rfl⟩ | ⟨rfl, rfl, rfl⟩
        · have hgood : ¬ (wd = 0 ∧ sg = 0) := by rintro ⟨h, _⟩; have := HSW.out.1 h; simp at this
          have CT2 := Lib.hid (fun W => CT.out W hgood)
          have HQ := HSC.out
          rw [if_neg hgood] at HQ
          clear CT HSC HSW HSZ hgood
          by_cases hf : N = 4000
          · subst hf
            rw [if_pos rfl] at HQ
            subst HQ
            have HE := Lib.hid (HNO.out (by simp))
            clear HNO HNX
            go_wp2_with (first | (go_at_call 56; (with_reducible refine (CLN.out _).mono ?_); rintro _ _ ⟨rfl, rfl⟩) | (go_at_call 57; (refine (CD.out _).mono ?_); rintro _ _ ⟨rfl, rfl⟩))
            refine bodyPost_ret (results_three rfl _ _ _) rfl ?_
            rw [HE.out]
            exact ⟨none, 0, 0, rfl, RdE.nil _ _ _ _ _, Nat.le_refl _, HB.out⟩
          · rw [if_neg hf] at HQ
            subst HQ
            have hfi : ((N : Int) == 4000) = false := by simpa using (show ¬ (N : Int) = 4000 by omega)
            by_cases he : ec = 0
            · subst he
              obtain ⟨g, rfl, hpm, R2⟩ := HNX.out rfl
              rw [HSL.out] at hpm
              simp only at hpm R2
              have CK := Lib.hid (fun W => rskip_q s (p + m) W hpm (by omega))
              have HR2 := Lib.hid R2
              clear HNO HNX R2
              go_wp2_with (first | (go_at_call 56; (with_reducible refine (CLN.out _).mono ?_); rintro _ _ ⟨rfl, rfl⟩) | (go_at_call 57; (refine (CD.out _).mono ?_); rintro _ _ ⟨rfl, rfl⟩) | (go_at_call 60; (refine (CT2.out _).mono ?_); rintro _ W1 ⟨k1, v1, en, x, rfl, B, hq⟩; obtain ⟨rfl, rfl, rfl, rfl⟩ := hq rfl; clear hq; have OW1 := Lib.hid ((OW.out.on B).on (box_below W1 #[.int .i64 k1, .string (strOfNums (((strL s).drop p).take m)), .int .i64 v1, .int .i64 (ln : Int)] 60)); have B1 := Lib.hid (bon (bon HB.out B) (box_below W1 #[.int .i64 k1, .string (strOfNums (((strL s).drop p).take m)), .int .i64 v1, .int .i64 (ln : Int)] 60)); clear B) | (refine app1Z _ rfl _ _ _ rfl tokEnc elTok OW1.out rfl ⟨k1, ((strL s).drop p).take m, v1, (ln : Nat)⟩ rfl rfl (by simp) (by simp only [maxLen]; omega) (by omega) ?_; intro A7 n7 c7 W7 own7 B7; have OW7 := Lib.hid own7; have BW7 := Lib.hid (B1.out.trans B7); have H7 : Hid (n7 = N + 1) := Lib.hid (by have h9 := own7.len; rw [List.length_append, HN.out] at h9; exact h9.symm); clear own7 B7) | (go_at_call 55; (refine (CK.out _).mono ?_); rintro _ _ ⟨rfl, rfl⟩))
              go_roundg g
              case measure => omega
              case rel =>
                obtain rfl : n7 = (out ++ [(⟨k1, ((strL s).drop p).take m, v1, ((ln : Nat) : Int)⟩ : Tk)]).length := OW7.out.len.symm
                exact ⟨_, c7, A7, _, rfl, rfl, HR2.out, OW7.out, BW7.out⟩
            · have hei : (ec == 0) = false := by simpa using he
              have HE := Lib.hid (HNO.out he)
              clear HNO HNX
              go_wp2_with (first | (go_at_call 56; (with_reducible refine (CLN.out _).mono ?_); rintro _ _ ⟨rfl, rfl⟩) | (go_at_call 57; (refine (CD.out _).mono ?_); rintro _ _ ⟨rfl, rfl⟩) | (go_at_call 60; (refine (CT2.out _).mono ?_); rintro _ W1 ⟨k1, v1, en, x, rfl, B, -⟩; have B1 := Lib.hid (bon HB.out B); clear B))
              refine bodyPost_ret (results_three rfl _ _ _) rfl ?_
              rw [HE.out]
              exact ⟨none, 0, 0, rfl, RdE.nil _ _ _ _ _, Nat.le_refl _, bon B1.out (box_below _ _ _)⟩
        · have hgood : ¬ (wd = 0 ∧ sg = 0) := by rintro ⟨h, _⟩; have := HSW.out.1 h; simp at this
          have CT2 := Lib.hid (fun W => CT.out W hgood)
          have HQ := HSC.out
          rw [if_neg hgood] at HQ
          clear CT HSC HSW HSZ hgood
          by_cases hf : N = 4000
          · subst hf
            rw [if_pos rfl] at HQ
            subst HQ
            have HE := Lib.hid (HNO.out (by simp))
            clear HNO HNX
            go_wp2_with (first | (go_at_call 56; (with_reducible refine (CLN.out _).mono ?_); rintro _ _ ⟨rfl, rfl⟩) | (go_at_call 57; (refine (CD.out _).mono ?_); rintro _ _ ⟨rfl, rfl⟩) | (go_at_call 58; (refine (CL.out _).mono ?_); rintro _ _ ⟨rfl, rfl⟩))
            refine bodyPost_ret (results_three rfl _ _ _) rfl ?_
            rw [HE.out]
            exact ⟨none, 0, 0, rfl, RdE.nil _ _ _ _ _, Nat.le_refl _, HB.out⟩
          · rw [if_neg hf] at HQ
            subst HQ
            have hfi : ((N : Int) == 4000) = false := by simpa using (show ¬ (N : Int) = 4000 by omega)
            by_cases he : ec = 0
            · subst he
              obtain ⟨g, rfl, hpm, R2⟩ := HNX.out rfl
              rw [HSL.out] at hpm
              simp only at hpm R2
              have CK := Lib.hid (fun W => rskip_q s (p + m) W hpm (by omega))
              have HR2 := Lib.hid R2
              clear HNO HNX R2
              go_wp2_with (first | (go_at_call 56; (with_reducible refine (CLN.out _).mono ?_); rintro _ _ ⟨rfl, rfl⟩) | (go_at_call 57; (refine (CD.out _).mono ?_); rintro _ _ ⟨rfl, rfl⟩) | (go_at_call 58; (refine (CL.out _).mono ?_); rintro _ _ ⟨rfl, rfl⟩) | (go_at_call 60; (refine (CT2.out _).mono ?_); rintro _ W1 ⟨k1, v1, en, x, rfl, B, hq⟩; obtain ⟨rfl, rfl, rfl, rfl⟩ := hq rfl; clear hq; have OW1 := Lib.hid ((OW.out.on B).on (box_below W1 #[.int .i64 k1, .string (strOfNums (((strL s).drop p).take m)), .int .i64 v1, .int .i64 (ln : Int)] 60)); have B1 := Lib.hid (bon (bon HB.out B) (box_below W1 #[.int .i64 k1, .string (strOfNums (((strL s).drop p).take m)), .int .i64 v1, .int .i64 (ln : Int)] 60)); clear B) | (refine app1Z _ rfl _ _ _ rfl tokEnc elTok OW1.out rfl ⟨k1, ((strL s).drop p).take m, v1, (ln : Nat)⟩ rfl rfl (by simp) (by simp only [maxLen]; omega) (by omega) ?_; intro A7 n7 c7 W7 own7 B7; have OW7 := Lib.hid own7; have BW7 := Lib.hid (B1.out.trans B7); have H7 : Hid (n7 = N + 1) := Lib.hid (by have h9 := own7.len; rw [List.length_append, HN.out] at h9; exact h9.symm); clear own7 B7) | (go_at_call 55; (refine (CK.out _).mono ?_); rintro _ _ ⟨rfl, rfl⟩))
              go_roundg g
              case measure => omega
              case rel =>
                obtain rfl : n7 = (out ++ [(⟨k1, ((strL s).drop p).take m, v1, ((ln : Nat) : Int)⟩ : Tk)]).length := OW7.out.len.symm
                exact ⟨_, c7, A7, _, rfl, rfl, HR2.out, OW7.out, BW7.out⟩
            · have hei : (ec == 0) = false := by simpa using he
              have HE := Lib.hid (HNO.out he)
              clear HNO HNX
              go_wp2_with (first | (go_at_call 56; (with_reducible refine (CLN.out _).mono ?_); rintro _ _ ⟨rfl, rfl⟩) | (go_at_call 57; (refine (CD.out _).mono ?_); rintro _ _ ⟨rfl, rfl⟩) | (go_at_call 58; (refine (CL.out _).mono ?_); rintro _ _ ⟨rfl, rfl⟩) | (go_at_call 60; (refine (CT2.out _).mono ?_); rintro _ W1 ⟨k1, v1, en, x, rfl, B, -⟩; have B1 := Lib.hid (bon HB.out B); clear B))
              refine bodyPost_ret (results_three rfl _ _ _) rfl ?_
              rw [HE.out]
              exact ⟨none, 0, 0, rfl, RdE.nil _ _ _ _ _, Nat.le_refl _, bon B1.out (box_below _ _ _)⟩
        · have hgood : ¬ (wd = 0 ∧ sg = 0) := by rintro ⟨_, h⟩; have := HSZ.out.1 h; simp at this
          have CT2 := Lib.hid (fun W => CT.out W hgood)
          have HQ := HSC.out
          rw [if_neg hgood] at HQ
          clear CT HSC HSW HSZ hgood
          by_cases hf : N = 4000
          · subst hf
            rw [if_pos rfl] at HQ
            subst HQ
            have HE := Lib.hid (HNO.out (by simp))
            clear HNO HNX
            go_wp2_with (first | (go_at_call 56; (with_reducible refine (CLN.out _).mono ?_); rintro _ _ ⟨rfl, rfl⟩) | (go_at_call 57; (refine (CD.out _).mono ?_); rintro _ _ ⟨rfl, rfl⟩) | (go_at_call 58; (refine (CL.out _).mono ?_); rintro _ _ ⟨rfl, rfl⟩) | (go_at_call 59; (refine (CS.out _).mono ?_); rintro _ _ ⟨rfl, rfl⟩))
            refine bodyPost_ret (results_three rfl _ _ _) rfl ?_
            rw [HE.out]
            exact ⟨none, 0, 0, rfl, RdE.nil _ _ _ _ _, Nat.le_refl _, HB.out⟩
          · rw [if_neg hf] at HQ
            subst HQ
            have hfi : ((N : Int) == 4000) = false := by simpa using (show ¬ (N : Int) = 4000 by omega)
            by_cases he : ec = 0
            · subst he
              obtain ⟨g, rfl, hpm, R2⟩ := HNX.out rfl
              rw [HSL.out] at hpm
              simp only at hpm R2
              have CK := Lib.hid (fun W => rskip_q s (p + m) W hpm (by omega))
              have HR2 := Lib.hid R2
              clear HNO HNX R2
              go_wp2_with (first | (go_at_call 56; (with_reducible refine (CLN.out _).mono ?_); rintro _ _ ⟨rfl, rfl⟩) | (go_at_call 57; (refine (CD.out _).mono ?_); rintro _ _ ⟨rfl, rfl⟩) | (go_at_call 58; (refine (CL.out _).mono ?_); rintro _ _ ⟨rfl, rfl⟩) | (go_at_call 59; (refine (CS.out _).mono ?_); rintro _ _ ⟨rfl, rfl⟩) | (go_at_call 60; (refine (CT2.out _).mono ?_); rintro _ W1 ⟨k1, v1, en, x, rfl, B, hq⟩; obtain ⟨rfl, rfl, rfl, rfl⟩ := hq rfl; clear hq; have OW1 := Lib.hid ((OW.out.on B).on (box_below W1 #[.int .i64 k1, .string (strOfNums (((strL s).drop p).take m)), .int .i64 v1, .int .i64 (ln : Int)] 60)); have B1 := Lib.hid (bon (bon HB.out B) (box_below W1 #[.int .i64 k1, .string (strOfNums (((strL s).drop p).take m)), .int .i64 v1, .int .i64 (ln : Int)] 60)); clear B) | (refine app1Z _ rfl _ _ _ rfl tokEnc elTok OW1.out rfl ⟨k1, ((strL s).drop p).take m, v1, (ln : Nat)⟩ rfl rfl (by simp) (by simp only [maxLen]; omega) (by omega) ?_; intro A7 n7 c7 W7 own7 B7; have OW7 := Lib.hid own7; have BW7 := Lib.hid (B1.out.trans B7); have H7 : Hid (n7 = N + 1) := Lib.hid (by have h9 := own7.len; rw [List.length_append, HN.out] at h9; exact h9.symm); clear own7 B7) | (go_at_call 55; (refine (CK.out _).mono ?_); rintro _ _ ⟨rfl, rfl⟩))
              go_roundg g
              case measure => omega
              case rel =>
                obtain rfl : n7 = (out ++ [(⟨k1, ((strL s).drop p).take m, v1, ((ln : Nat) : Int)⟩ : Tk)]).length := OW7.out.len.symm
                exact ⟨_, c7, A7, _, rfl, rfl, HR2.out, OW7.out, BW7.out⟩
            · have hei : (ec == 0) = false := by simpa using he
              have HE := Lib.hid (HNO.out he)
              clear HNO HNX
              go_wp2_with (first | (go_at_call 56; (with_reducible refine (CLN.out _).mono ?_); rintro _ _ ⟨rfl, rfl⟩) | (go_at_call 57; (refine (CD.out _).mono ?_); rintro _ _ ⟨rfl, rfl⟩) | (go_at_call 58; (refine (CL.out _).mono ?_); rintro _ _ ⟨rfl, rfl⟩) | (go_at_call 59; (refine (CS.out _).mono ?_); rintro _ _ ⟨rfl, rfl⟩) | (go_at_call 60; (refine (CT2.out _).mono ?_); rintro _ W1 ⟨k1, v1, en, x, rfl, B, -⟩; have B1 := Lib.hid (bon HB.out B); clear B))
              refine bodyPost_ret (results_three rfl _ _ _) rfl ?_
              rw [HE.out]
              exact ⟨none, 0, 0, rfl, RdE.nil _ _ _ _ _, Nat.le_refl _, bon B1.out (box_below _ _ _)⟩
        · have HQ := HSC.out
          rw [if_pos ⟨HSW.out.2 ⟨rfl, rfl⟩, HSZ.out.2 rfl⟩] at HQ
          subst HQ
          have HE := Lib.hid (HNO.out (by simp))
          clear CT HSC HSW HSZ HNO HNX
          go_wp2_with (first | (go_at_call 56; (with_reducible refine (CLN.out _).mono ?_); rintro _ _ ⟨rfl, rfl⟩) | (go_at_call 57; (refine (CD.out _).mono ?_); rintro _ _ ⟨rfl, rfl⟩) | (go_at_call 58; (refine (CL.out _).mono ?_); rintro _ _ ⟨rfl, rfl⟩) | (go_at_call 59; (refine (CS.out _).mono ?_); rintro _ _ ⟨rfl, rfl⟩))
          refine bodyPost_ret (results_three rfl _ _ _) rfl ?_
          rw [HE.out]
          exact ⟨none, 0, 0, rfl, RdE.nil _ _ _ _ _, Nat.le_refl _, HB.out⟩
      · have hlti : ¬ (p : Int) < (s.size : Int) := by omega
        have HE := Lib.hid (lx_end HI.out (by rw [HP.out]; exact hlt))
        rw [List.take_zero] at HE
        have hall : lns (strL s) = ln := by rw [← HLN.out, List.take_of_length_le (by rw [HSL.out]; omega)]
        rw [hall] at CLL
        clear hall
        go_wp2_with (first | (go_at_call 56; (refine (CLL.out _).mono ?_); rintro _ _ ⟨rfl, rfl⟩) | (refine wpList_app1E _ rfl _ _ _ rfl tokEnc elTok OW.out rfl ⟨5, [], 0, (ln : Nat)⟩ rfl rfl (by simp only [maxLen]; omega) (by omega) ?_; intro A7 n7 c7 W7 own7 B7; have OW7 := Lib.hid own7; have BW7 := Lib.hid (HB.out.trans B7); clear own7 B7))
        refine bodyPost_ret (results_three rfl _ _ _) rfl ?_
        rw [HE.out]
        exact ⟨A7, n7, c7, rfl, OW7.out.rd tokEnc, OW7.out.room, BW7.out⟩

end Go.Proofs.YtjpkcgepdfpbnaaGreatDoor
