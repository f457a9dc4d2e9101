/- Lex of the program. -/
import Derived.Test.YtjpkcgepdfpbnaaGreatDoorZ10
namespace Go.Proofs.YtjpkcgepdfpbnaaGreatDoor
open Go.RowKit Go.Sort Go.ChangeShapes Go.WideShapes
set_option linter.unusedVariables false

/-- What Lex gives. -/
def GivesL (W : World) (q : List Tk × Int × Int) (e : Ending) (w' : World) : Prop :=
  ∃ A n c, e = .returned (.tuple #[.slice A n c, .int .i64 q.2.1, .int .i64 q.2.2]) ∧ RdT w' w'.heap.size A n q.1 ∧ n ≤ c ∧ Below W.heap.size W w'

theorem lexG_no {f : Nat} {out : List Tk} {ln : Nat} {r : List Int} (h0 : r ≠ []) (h : (scq r out.length).1 ≠ 0) : lexG f out ln r = ([], ((ln : Nat) : Int), (scq r out.length).1) := by
  unfold scq at h ⊢
  split
  · rename_i q
    exact lexG_bad h0 q
  · rename_i q
    rw [if_neg q] at h
    split
    · rename_i q2
      exact lexG_full h0 q q2
    · rename_i q2
      rw [if_neg q2] at h
      exact lexG_err h0 q q2 h

theorem scq_yes {n : Nat} {r : List Int} (h : (scq r n).1 = 0) : ¬ (spn isWrd r = 0 ∧ sgl r = 0) ∧ n ≠ 4000 ∧ scq r n = tkr r := by
  unfold scq at h ⊢
  split at h
  · cases h
  · rename_i q
    split at h
    · cases h
    · rename_i q2
      exact ⟨q, q2, by rw [if_neg q, if_neg q2]⟩

theorem nls_le (l : List Int) (k : Nat) : nls (l.take k) ≤ k := by
  unfold nls
  have h1 := List.count_le_length (a := (10 : Int)) (l := l.take k)
  rw [List.length_take] at h1
  omega

/-- Where the work stands: at place p, in line ln, tokens ahead, at most f tokens to come. -/
def LxI (l : List Int) (f p ln : Nat) (out : List Tk) : Prop := p ≤ l.length ∧ l.length - p ≤ f ∧ ln ≤ p + 1 ∧ out.length ≤ 4000 ∧ lexG f out ln (l.drop p) = lexv l

/-- A place behind separators. -/
theorem lx_skf (l : List Int) (p ln : Nat) (hp : p ≤ l.length) (hl : ln ≤ p + 1) : ∃ E L, Skf l p ln E L ∧ E = p + skp false (l.drop p) ∧ L = ln + nls ((l.drop p).take (skp false (l.drop p))) ∧ p ≤ E ∧ E ≤ l.length ∧ L ≤ E + 1 := by
  have h1 := skp_le false (l.drop p)
  have h2 := nls_le (l.drop p) (skp false (l.drop p))
  rw [List.length_drop] at h1
  exact ⟨_, _, ⟨rfl, rfl⟩, rfl, rfl, by omega, by omega, by omega⟩

theorem lx_start {l : List Int} (h : l.length ≤ 16384) : ∃ E L, Skf l 0 1 E L ∧ LxI l l.length E L [] := by
  obtain ⟨E, L, K, hE, hL, h1, h2, h3⟩ := lx_skf l 0 1 (Nat.zero_le _) (Nat.le_refl _)
  refine ⟨E, L, K, h2, by omega, h3, by simp, ?_⟩
  rw [List.drop_zero, Nat.zero_add] at hE
  rw [List.drop_zero] at hL
  rw [lexv_start l h, hE, hL]

theorem lx_next {l : List Int} {f p ln : Nat} {out : List Tk} (I : LxI l f p ln out) (hp : p < l.length) (h : (scq (l.drop p) out.length).1 = 0) :
    ∃ g E L, f = g + 1 ∧ p + (scq (l.drop p) out.length).2.2.1 ≤ l.length ∧ Skf l (p + (scq (l.drop p) out.length).2.2.1) ln E L ∧
      LxI l g E L (out ++ [⟨(scq (l.drop p) out.length).2.1, (l.drop p).take (scq (l.drop p) out.length).2.2.1, (scq (l.drop p) out.length).2.2.2, (ln : Nat)⟩]) := by
  obtain ⟨i1, i2, i3, i4, i5⟩ := I
  obtain ⟨q1, q2, q3⟩ := scq_yes h
  rw [q3] at h ⊢
  have hm := tkr_pos q1 h
  have hm2 := tkr_le (l.drop p)
  rw [List.length_drop] at hm2
  have hne : l.drop p ≠ [] := by
    intro e
    have := congrArg List.length e
    rw [List.length_drop] at this
    simp at this
    omega
  obtain ⟨E, L, K, hE, hL, h1, h2, h3⟩ := lx_skf l (p + (tkr (l.drop p)).2.2.1) ln (by omega) (by omega)
  refine ⟨f - 1, E, L, by omega, by omega, K, h2, by omega, h3, by simp; omega, ?_⟩
  have := lexG_step (f := f - 1) (ln := ln) hne q1 q2 h
  rw [show f - 1 + 1 = f by omega, i5, List.drop_drop] at this
  rw [this, List.drop_drop, ← hE, ← hL]

theorem lx_no {l : List Int} {f p ln : Nat} {out : List Tk} (I : LxI l f p ln out) (hp : p < l.length) (h : (scq (l.drop p) out.length).1 ≠ 0) : lexv l = ([], ((ln : Nat) : Int), (scq (l.drop p) out.length).1) := by
  rw [← I.2.2.2.2]
  refine lexG_no ?_ h
  intro e
  have := congrArg List.length e
  rw [List.length_drop] at this
  simp at this
  omega

theorem lx_end {l : List Int} {f p ln : Nat} {out : List Tk} (I : LxI l f p ln out) (hp : ¬ p < l.length) : lexv l = (out ++ [⟨5, (l.drop p).take 0, 0, ((ln : Nat) : Int)⟩], 0, 0) := by
  rw [← I.2.2.2.2, List.drop_eq_nil_of_le (by omega), lexG_end]
  simp

theorem results_three {fn : Func} {t u v : Tmp} (h : fn.results = #[.tmp t, .tmp u, .tmp v]) (tmps : Array Value) (P : Program) (w : World) :
    (results fn tmps).run P w = .ok (.tuple #[tmps.getD t undef, tmps.getD u undef, tmps.getD v undef]) w := by
  simp [results, h]

theorem Scn.made (w : World) (s : ByteArray) (t : TypeId) : Scn (w.alloc (.cells #[.string s, .int .i64 0, .int .i64 1, .slice none 0 0] t)) w.heap.size s 0 1 [] :=
  ⟨box_cell _ _ _ _ _ rfl, box_cell _ _ _ _ _ rfl, box_cell _ _ _ _ _ rfl, ⟨none, 0, box_cell _ _ _ _ _ rfl, OwnE.nil0 _ _ _ _ _ (by simp)⟩, fun i => by simp⟩

set_option maxRecDepth 100000 in
set_option maxHeartbeats 4000000 in
theorem lex_b (s : ByteArray) (w : World) (LL : Lay6 w) (hs : s.size ≤ 9223372036854775807) :
    Calls Tryz.prog 61 #[.string s] w (GivesL w (lexv (strL s))) := by
  by_cases hbig : 16384 < s.size
  · rw [lexv_long _ (by rw [strL_len]; exact hbig)]
    have hbi : (16384 : Int) < (s.size : Int) := by omega
    go_enter Tryz.func61, Tryz.ntmps61
    go_wp2
    refine bodyPost_ret (results_three rfl _ _ _) rfl ?_
    exact ⟨none, 0, 0, rfl, RdE.nil _ _ _ _ _, Nat.le_refl _, Below.refl _ _⟩
  · have hbi : ¬ (16384 : Int) < (s.size : Int) := by omega
    obtain ⟨E, L, K, I⟩ := lx_start (l := strL s) (by rw [strL_len]; omega)
    have SM := Lib.hid (Scn.made w s 121)
    have BM := Lib.hid (box_below w #[.string s, .int .i64 0, .int .i64 1, .slice none 0 0] 121)
    have HL := Lib.hid LL
    have hl := strL_len s
    have hEL : E ≤ s.size ∧ L ≤ E + 1 := ⟨by rw [← hl]; exact I.1, I.2.2.1⟩
    have H0 := Lib.hid I
    have HK := Lib.hid K
    rw [hl] at H0
    have HSL := Lib.hid hl
    clear LL K I hl
    go_enter Tryz.func61, Tryz.ntmps61
    go_wp2_with (go_at_call 85; (with_reducible refine (skip_b _ s 0 1 E L [] _ SM.out HK.out (by omega) (by omega) (by omega)).mono ?_); rintro _ W1 ⟨rfl, S1, B1⟩; have S2 := Lib.hid S1; have B2 := Lib.hid (BM.out.trans B1); clear S1 B1)
    go_loopg [] s.size (fun gk wr => ∃ (p ln : Nat) (out : List Tk), LxI (strL s) gk p ln out ∧ Scn wr w.heap.size s p ln out ∧ Below w.heap.size w wr)
    case atStart => exact ⟨E, L, [], H0.out, S2.out, B2.out⟩
    case round =>
      clear H0 HK SM BM S2 B2 hEL
      obtain ⟨p, ln, out, I, S0, BW⟩ := hrel
      rename World => wr
      have hp : p ≤ s.size := by rw [← HSL.out]; exact I.1
      have hln : ln ≤ p + 1 := I.2.2.1
      have ho := I.2.2.2.1
      have c0 := S0.txt
      have c1 := S0.pos
      have c2 := S0.lin
      have HI := Lib.hid I
      have HS := Lib.hid S0
      have HB := Lib.hid BW
      have LL := Lib.hid (HL.out.on BW)
      have hpp : p < (strL s).length ↔ p < s.size := by rw [HSL.out]
      have HP := Lib.hid hpp
      clear I S0 BW hpp
      by_cases hlt : p < s.size
      · have hlti : (p : Int) < (s.size : Int) := by omega
        have CS := Lib.hid (scan_b _ s p ln out wr LL.out HS.out hlt (by omega) (by omega))
        by_cases hq : (scq ((strL s).drop p) out.length).1 = 0
        · obtain ⟨g, E, L, rfl, hpm, K, I2⟩ := lx_next HI.out (HP.out.2 hlt) hq
          have hL2 := I2.2.2.1
          have hE2 := I2.1
          rw [HSL.out] at hpm hE2
          have HK := Lib.hid K
          have H2 := Lib.hid I2
          have HQ := Lib.hid hq
          have hq1 := hq
          clear K I2 hq
          obtain ⟨q, hqq⟩ : ∃ q, scq ((strL s).drop p) out.length = q := ⟨_, rfl⟩
          rw [hqq] at CS hpm HK H2 HQ hq1
          clear hqq
          go_wp2_with (first
            | (go_at_call 86; (with_reducible refine CS.out.mono ?_); rintro _ W1 ⟨rfl, B1, S1, -⟩; have S2 := Lib.hid (S1 HQ.out); have B2 := Lib.hid (HB.out.trans B1); clear S1 B1)
            | (go_at_call 85; (with_reducible refine (skip_b _ s _ ln E L _ _ S2.out HK.out (by omega) (by omega) (by omega)).mono ?_); rintro _ W3 ⟨rfl, S3, B3⟩; have S4 := Lib.hid S3; have B4 := Lib.hid (B2.out.trans B3); clear S3 B3))
          go_roundg g
          case measure => omega
          case rel => exact ⟨E, L, _, H2.out, S4.out, B4.out⟩
        · have hr := lx_no HI.out (HP.out.2 hlt) hq
          rw [hr]
          have HQ := Lib.hid hq
          have hq1 := hq
          clear hr hq
          obtain ⟨q, hqq⟩ : ∃ q, scq ((strL s).drop p) out.length = q := ⟨_, rfl⟩
          rw [hqq] at CS HQ hq1 ⊢
          clear hqq
          have hq2 : (q.1 == 0) = false := by simpa using hq1
          go_wp2_with (go_at_call 86; (with_reducible refine CS.out.mono ?_); rintro _ W1 ⟨rfl, B1, -, S1⟩; have S2 := Lib.hid (S1 HQ.out); have B2 := Lib.hid (HB.out.trans B1); clear S1 B1 c0 c1 c2; have c2 := S2.out.lin)
          have BB := Below.refl W1.heap.size W1
          have k_c2 := cell_regrown c2
          refine wp_region_quiet_below (by kernel_rfl) (by kernel_rfl) ?_
          repeat (first | go_big_quiet_step ((first | fail)) | quiet_step ((first | fail)))
          refine wpQuiet_nil ?_
          intro W hw'
          have B := below_regrown' hw'
          clear hw' k_c2
          replace BB := bon BB B
          replace c2 := cell_below B c2
          go_wp2_with fail
          refine bodyPost_ret (results_three rfl _ _ _) rfl ?_
          exact ⟨none, 0, 0, rfl, RdE.nil _ _ _ _ _, Nat.le_refl _, B2.out.trans (BB.mono (Nat.le_of_lt S2.out.lt))⟩
      · have hlti : ¬ (p : Int) < (s.size : Int) := by omega
        have HE := Lib.hid (lx_end HI.out (by rw [HP.out]; exact hlt))
        have CA := Lib.hid (add_b _ s p ln 0 out 5 0 wr HS.out (by omega) (by omega) (by omega))
        obtain ⟨out2, ho2⟩ : ∃ o, out ++ [(⟨5, ((strL s).drop p).take 0, 0, ((ln : Nat) : Int)⟩ : Tk)] = o := ⟨_, rfl⟩
        rw [ho2] at CA HE
        clear ho2
        go_wp2_with (go_at_call 87; (refine CA.out.mono ?_); rintro _ W1 ⟨rfl, S1, B1⟩; obtain ⟨A, c, c3, own⟩ := S1.tok; have OW := Lib.hid own; have B2 := Lib.hid (HB.out.trans B1); clear S1 B1 own c0 c1 c2)
        refine bodyPost_ret (results_three rfl _ _ _) rfl ?_
        rw [HE.out]
        exact ⟨A, out2.length, c, rfl, OW.out.rd tokEnc, OW.out.room, B2.out⟩

end Go.Proofs.YtjpkcgepdfpbnaaGreatDoor
