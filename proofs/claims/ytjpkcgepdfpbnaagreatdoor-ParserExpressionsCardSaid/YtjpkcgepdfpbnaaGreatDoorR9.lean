/- postfix and arguments of the reader. Written by tools/gen/genR5.py. -/
import Derived.Test.YtjpkcgepdfpbnaaGreatDoorR4
import Derived.Test.YtjpkcgepdfpbnaaGreatDoorY11
import Derived.Test.YtjpkcgepdfpbnaaGreatDoorZ17
import Derived.Test.YtjpkcgepdfpbnaaGreatDoorY15
namespace Go.Proofs.YtjpkcgepdfpbnaaGreatDoor.Rf
open Go.RowKit Go.Sort Go.ChangeShapes Go.WideShapes
set_option linter.unusedVariables false

theorem bad_acp {t : ByteArray} {s : PS} (h : 0 < s.2) (ht : t ≠ ⟨#[]⟩) : acp t s = false := by
  cases q : acp t s
  · rfl
  · exact absurd h (acp_ok ht q).1
theorem bad_pk {s : PS} (h : 0 < s.2) : pk s = zTk := by unfold pk; rw [if_pos h]
theorem bad_fl {s : PS} (h : 0 < s.2) : fl s = s := by unfold fl; rw [if_pos h]
theorem bad_xp {t : ByteArray} {s : PS} (h : 0 < s.2) (ht : t ≠ ⟨#[]⟩) : xp t s = s := by unfold xp; rw [bad_acp h ht, if_neg (by decide), bad_fl h]
theorem bad_nmS {s : PS} (h : 0 < s.2) : nmS s = s := by unfold nmS; rw [bad_pk h, if_neg (by decide +kernel), bad_fl h]
theorem xp_ok {t : ByteArray} {s : PS} (ht : t ≠ ⟨#[]⟩) (h : (xp t s).2 ≤ 0) : s.2 ≤ 0 := by
  by_cases q : 0 < s.2
  · rw [bad_xp q ht] at h; exact h
  · omega

/-- Behind an error nothing moves. -/
theorem pe_bad : ∀ (n : Nat) (nt : NT) (s : PS) (e : Ex) (s' : PS), 0 < s.2 → pe n nt s = some (e, s') → s' = s
  | 0, _, _, _, _, _, h => by cases h
  | n + 1, .ex k, s, e, s', hb, h => by
    rw [pe] at h
    obtain ⟨⟨x, s1⟩, h1, h2⟩ := bind_some h
    have e1 := pe_bad n _ s x s1 hb h1
    subst e1
    exact pe_bad n _ s1 e s' hb h2
  | n + 1, .lp k x, s, e, s', hb, h => by
    rw [pe, bad_pk hb, tx_nil, opv_nil] at h
    exact (some_pair h).2.symm
  | n + 1, .un, s, e, s', hb, h => by
    rw [pe, bad_acp hb (by decide), bad_acp hb (by decide), if_neg (by decide), if_neg (by decide)] at h
    exact pe_bad n _ s e s' hb h
  | n + 1, .po, s, e, s', hb, h => by
    rw [pe] at h
    obtain ⟨⟨x, s1⟩, h1, h2⟩ := bind_some h
    have e1 := pe_bad n _ s x s1 hb h1
    subst e1
    exact pe_bad n _ s1 e s' hb h2
  | n + 1, .pl x, s, e, s', hb, h => by
    rw [pe, bad_acp hb (by decide), bad_acp hb (by decide), if_neg (by decide), if_neg (by decide)] at h
    exact (some_pair h).2.symm
  | n + 1, .pr, s, e, s', hb, h => by
    rw [pe, bad_acp hb (by decide), bad_acp hb (by decide), bad_acp hb (by decide), if_neg (by decide), if_neg (by decide), if_neg (by decide), bad_pk hb, if_neg (by decide), if_neg (by decide), tx_nil, tyw_nil, if_neg (by decide), bad_nmS hb, bad_acp hb (by decide), if_neg (by decide)] at h
    exact (some_pair h).2.symm
  | n + 1, .ca t, s, e, s', hb, h => by
    rw [pe] at h
    obtain ⟨⟨x, s1⟩, h1, h2⟩ := bind_some h
    have e1 := pe_bad n _ s x s1 hb h1
    subst e1
    exact (some_pair h2).2.symm
  | n + 1, .ls, s, e, s', hb, h => by
    rw [pe, bad_acp hb (by decide), if_neg (by decide)] at h
    obtain ⟨⟨x, s1⟩, h1, h2⟩ := bind_some h
    have e1 := pe_bad n _ s x s1 hb h1
    subst e1
    exact pe_bad n _ s1 e s' hb h2
  | n + 1, .li a, s, e, s', hb, h => by
    rw [pe, bad_acp hb (by decide), if_neg (by decide), bad_xp hb (by decide)] at h
    exact (some_pair h).2.symm

set_option maxRecDepth 100000 in
set_option maxHeartbeats 2000000 in
theorem postfix_s (m : Nat) (HR : PrN 145 .pr m) (HG : PrN 40 (.ex 0) m) (w : World) (b : Nat) (s : PS) (e : Ex) (s' : PS) (S : St w b s) (h : pe m .po s = some (e, s')) :
    Calls Tryz.prog 124 #[ptr b] w (GX w b e s') := by
  have F0 := Lib.hid ((Fr.start0 S).box zX 42)
  obtain ⟨m, rfl⟩ : ∃ q, m = q + 1 := by cases m with | zero => cases h | succ m => exact ⟨m, rfl⟩
  rw [pe] at h
  obtain ⟨⟨x, s1⟩, hq, h2⟩ := bind_some h
  simp only at h2
  have HH := Lib.hid (fun W S => HR m (Nat.lt_succ_self m) W b s x s1 S hq)
  have H2 := Lib.hid h2
  have HG' := Lib.hid (HG.mono (Nat.le_succ m))
  clear S h HR HG hq h2
  go_enter Tryz.func124, Tryz.ntmps124
  go_wp2_with (first
    | (go_at_call 145; (with_reducible refine (HH.out _ F0.out.st).mono ?_); rintro _ W1 ⟨x1, hx, A1, n1, c1, rfl, R, S1, B1⟩; have F1 := Lib.hid ((F0.out.got0 S1 B1 R).box #[.int .i64 x1.k, .int .i64 x1.o, .string x1.s, .int .i64 x1.v, .slice A1 n1 c1] 42); have HX1 := Lib.hid hx; clear R S1 B1 hx))
  obtain ⟨c3, hc3⟩ : ∃ c3, W1.heap.size = c3 := ⟨_, rfl⟩
  obtain ⟨U, hU⟩ : ∃ U, W1.alloc (.cells #[.int .i64 x1.k, .int .i64 x1.o, .string x1.s, .int .i64 x1.v, .slice A1 n1 c1] 42) = U := ⟨_, rfl⟩
  rw [hU, hc3] at F1 ⊢
  clear hU hc3 F0 HH
  go_loopg [] m (fun gk wr => ∃ (x x1 : Ex) (A : Option Addr) (n c : Nat) (sc : PS), Fr no0 w wr b sc [(c3, [.int .i64 x1.k, .int .i64 x1.o, .string x1.s, .int .i64 x1.v, .slice A n c]), (w.heap.size, zX.toList)] [(A, n, x1.l)] ∧ pe gk (.pl x) sc = some (e, s') ∧ (sc.2 ≤ 0 → x1 = x) ∧ gk ≤ m)
  case atStart => exact ⟨x, x1, A1, n1, c1, s1, F1.out, H2.out, HX1.out, Nat.le_refl _⟩
  case round =>
    clear F1 H2 HX1
    obtain ⟨x, x1, A, n, c, sc, F', hp, hx, hk⟩ := hrel
    rename World => wr
    have F4 := Lib.hid F'
    have HX := Lib.hid hx
    clear F' hx
    obtain ⟨j, rfl⟩ : ∃ q, gk = q + 1 := by cases gk with | zero => cases hp | succ m => exact ⟨m, rfl⟩
    have hpb := pe_bad (j + 1) (.pl x) sc e s'
    rw [pe] at hp
    obtain ⟨_, _, At, nt, ct, at_, toks, XX, hs⟩ := F4.out.st
    have d2 := XX.c2
    clear XX hs
    by_cases hbad : 0 < sc.2
    · rw [bad_acp hbad (by decide), bad_acp hbad (by decide), if_neg (by decide), if_neg (by decide)] at hp
      obtain ⟨rfl, rfl⟩ := some_pair hp
      rw [decide_eq_true hbad] at d2
      clear hp hpb hbad
      have gx : EBox wr c3 [.int .i64 x1.k, .int .i64 x1.o, .string x1.s, .int .i64 x1.v, .slice A n c] := (F4.out.bx _ (List.mem_cons_self ..)).1
      have g0 := gx.cell (i := 0) rfl
      have g1 := gx.cell (i := 1) rfl
      have g2 := gx.cell (i := 2) rfl
      have g3 := gx.cell (i := 3) rfl
      have g4 := gx.cell (i := 4) rfl
      clear gx
      go_wp2_with (with_reducible refine bset5 rk_ex rfl (F4.out.bx _ (List.mem_cons_of_mem _ (List.mem_cons_self ..))).1 rfl rfl ?_; intro V XV BV sV; have F7 := Lib.hid (F4.out.set (pre := [_]) XV BV sV); have h0 := XV.cell (i := 0) rfl; have h1 := XV.cell (i := 1) rfl; have h2 := XV.cell (i := 2) rfl; have h3 := XV.cell (i := 3) rfl; have h4 := XV.cell (i := 4) rfl; clear XV BV sV)
      exact bodyPost_ret (v := exV x1 A n c) (by simp [results, Tryz.results124, go_sem, Ex.k, Ex.o, Ex.s, Ex.v, h0, h1, h2, h3, h4]) rfl ⟨_, HX.out, _, _, _, rfl, F7.out.fin (List.mem_cons_self ..), F7.out.st, F7.out.bb⟩
    · rw [decide_eq_false hbad] at d2
      have hx1 : x1 = x := HX.out (Int.not_lt.1 hbad)
      subst hx1
      clear hpb hbad HX
      by_cases h1 : acp ⟨#[46]⟩ sc = true
      · rw [if_pos h1] at hp
        have HP := Lib.hid hp
        have CA := Lib.hid (takes_yes wr b sc ⟨#[46]⟩ F4.out.st (by decide) (by decide) h1)
        clear hp h1
        go_wp2_with ((go_at_call 120; (with_reducible refine CA.out.mono ?_); rintro _ W3 ⟨rfl, S1, B1⟩; have F5 := Lib.hid (F4.out.call S1 B1); clear S1 B1))
        refine wp_region_treeC (fun _ => True) (.read 0 (.fork2 1 (.fork1 2 (.fork1 3 (.read 4 (.fork1 5 .nil)))) 2 (.fork2 1 (.fork1 3 (.read 4 (.fork1 5 .nil))) 3 (.fork1 1 (.read 4 (.fork1 5 .nil)))))) (by kernel_rfl) (by kernel_rfl) (fun _ _ => trivial) ?_
        intro W4 B
        replace F5 := Lib.hid (F5.out.below B)
        clear B F4 CA d2
        refine tree_read rfl ?_
        refine wpQuiet_step (fun K hK => ?_)
        rw [if_pos (by rfl)]
        first | refine quiet_move _ rfl ?_ | refine quiet_assign _ rfl ?_
        go_simp
        refine hK _ ?_
        clear hK K
        refine wpQuiet_nil ?_
        refine tree_two rfl rfl ?_ ?_
        · go_wp2_with ((go_at_call 118; (with_reducible refine (name_b _ b _ F5.out.st).mono ?_); rintro _ W5 ⟨rfl, S1, B1⟩; have F6 := Lib.hid (F5.out.call S1 B1); clear S1 B1))
          refine ⟨trivial, ?_⟩
          have gx : EBox W5 c3 [.int .i64 x1.k, .int .i64 x1.o, .string x1.s, .int .i64 x1.v, .slice A n c] := (F6.out.bx _ (List.mem_cons_self ..)).1
          have g0 := gx.cell (i := 0) rfl
          have g1 := gx.cell (i := 1) rfl
          have g2 := gx.cell (i := 2) rfl
          have g3 := gx.cell (i := 3) rfl
          have g4 := gx.cell (i := 4) rfl
          clear gx
          refine tree_one rfl ?_
          go_wp2_with fail
          refine ⟨trivial, ?_⟩
          clear g0 g1 g2 g3 g4
          refine tree_one rfl ?_
          go_wp2_with fail
          have F7 := Lib.hid (F6.out.made1 (x := x1) (k := c) (t := 42) (List.mem_cons_self ..))
          refine ⟨trivial, ?_⟩
          refine tree_read rfl ?_
          refine wpQuiet_step (fun K hK => ?_)
          rw [if_pos (by rfl)]
          refine quiet_tval (.agg #[.int .i64 8, .int .i64 0, .string (nmT (adv sc)), .int .i64 0, .slice (some ⟨W5.heap.size, 0, none⟩) 1 1]) (fun W hW => by simp [execOp, go_sem]) ?_
          go_simp
          refine hK _ ?_
          clear hK K
          refine wpQuiet_nil ?_
          refine tree_one rfl ?_
          go_wp2_with ((refine bset5 rk_ex rfl (F7.out.bx _ (List.mem_cons_self ..)).1 rfl rfl ?_; intro V XV BV sV; have F9 := Lib.hid (F7.out.set (pre := []) XV BV sV); have h0 := XV.cell (i := 0) rfl; have h1 := XV.cell (i := 1) rfl; have h2 := XV.cell (i := 2) rfl; have h3 := XV.cell (i := 3) rfl; have h4 := XV.cell (i := 4) rfl; clear XV BV sV))
          refine ⟨trivial, ?_⟩
          refine tree_nil ?_
          go_wp2_with fail
          go_roundg j
          case measure => omega
          case rel => exact ⟨_, (.mk 8 0 (nmT (adv sc)) 0 [x1]), _, _, _, _, (keepT F9.out), HP.out, fun _ => rfl, by omega⟩
        · have gx : EBox W4 c3 [.int .i64 x1.k, .int .i64 x1.o, .string x1.s, .int .i64 x1.v, .slice A n c] := (F5.out.bx _ (List.mem_cons_self ..)).1
          have g0 := gx.cell (i := 0) rfl
          have g1 := gx.cell (i := 1) rfl
          have g2 := gx.cell (i := 2) rfl
          have g3 := gx.cell (i := 3) rfl
          have g4 := gx.cell (i := 4) rfl
          clear gx
          go_wp2_with fail
          refine ⟨trivial, ?_⟩
          clear g0 g1 g2 g3 g4
          refine tree_two rfl rfl ?_ ?_
          · go_wp2_with ((go_at_call 118; (with_reducible refine (name_b _ b _ F5.out.st).mono ?_); rintro _ W5 ⟨rfl, S1, B1⟩; have F6 := Lib.hid (F5.out.call S1 B1); clear S1 B1))
            refine ⟨trivial, ?_⟩
            refine tree_one rfl ?_
            go_wp2_with fail
            have F7 := Lib.hid (F6.out.made1 (x := x1) (k := c) (t := 42) (List.mem_cons_self ..))
            refine ⟨trivial, ?_⟩
            refine tree_read rfl ?_
            refine wpQuiet_step (fun K hK => ?_)
            rw [if_pos (by rfl)]
            refine quiet_tval (.agg #[.int .i64 8, .int .i64 0, .string (nmT (adv sc)), .int .i64 0, .slice (some ⟨W5.heap.size, 0, none⟩) 1 1]) (fun W hW => by simp [execOp, go_sem]) ?_
            go_simp
            refine hK _ ?_
            clear hK K
            refine wpQuiet_nil ?_
            refine tree_one rfl ?_
            go_wp2_with ((refine bset5 rk_ex rfl (F7.out.bx _ (List.mem_cons_self ..)).1 rfl rfl ?_; intro V XV BV sV; have F9 := Lib.hid (F7.out.set (pre := []) XV BV sV); have h0 := XV.cell (i := 0) rfl; have h1 := XV.cell (i := 1) rfl; have h2 := XV.cell (i := 2) rfl; have h3 := XV.cell (i := 3) rfl; have h4 := XV.cell (i := 4) rfl; clear XV BV sV))
            refine ⟨trivial, ?_⟩
            refine tree_nil ?_
            go_wp2_with fail
            go_roundg j
            case measure => omega
            case rel => exact ⟨_, (.mk 8 0 (nmT (adv sc)) 0 [x1]), _, _, _, _, (keepT F9.out), HP.out, fun _ => rfl, by omega⟩
          · go_wp2_with fail
            have F6 := Lib.hid (F5.out.made1 (x := x1) (k := c) (t := 42) (List.mem_cons_self ..))
            refine ⟨trivial, ?_⟩
            refine tree_one rfl ?_
            go_wp2_with ((go_at_call 118; (with_reducible refine (name_b _ b _ F6.out.st).mono ?_); rintro _ W5 ⟨rfl, S1, B1⟩; have F7 := Lib.hid (F6.out.call S1 B1); clear S1 B1))
            refine ⟨trivial, ?_⟩
            refine tree_read rfl ?_
            refine wpQuiet_step (fun K hK => ?_)
            rw [if_pos (by rfl)]
            refine quiet_tval (.agg #[.int .i64 8, .int .i64 0, .string (nmT (adv sc)), .int .i64 0, .slice (some ⟨W4.heap.size, 0, none⟩) 1 1]) (fun W hW => by simp [execOp, go_sem]) ?_
            go_simp
            refine hK _ ?_
            clear hK K
            refine wpQuiet_nil ?_
            refine tree_one rfl ?_
            go_wp2_with ((refine bset5 rk_ex rfl (F7.out.bx _ (List.mem_cons_self ..)).1 rfl rfl ?_; intro V XV BV sV; have F9 := Lib.hid (F7.out.set (pre := []) XV BV sV); have h0 := XV.cell (i := 0) rfl; have h1 := XV.cell (i := 1) rfl; have h2 := XV.cell (i := 2) rfl; have h3 := XV.cell (i := 3) rfl; have h4 := XV.cell (i := 4) rfl; clear XV BV sV))
            refine ⟨trivial, ?_⟩
            refine tree_nil ?_
            go_wp2_with fail
            go_roundg j
            case measure => omega
            case rel => exact ⟨_, (.mk 8 0 (nmT (adv sc)) 0 [x1]), _, _, _, _, (keepT F9.out), HP.out, fun _ => rfl, by omega⟩
      · rw [if_neg h1] at hp
        have CN := Lib.hid (takes_no wr b sc ⟨#[46]⟩ F4.out.st (by decide) (by decide) (by simpa using h1))
        by_cases h2 : acp ⟨#[91]⟩ sc = true
        · rw [if_pos h2] at hp
          obtain ⟨⟨y, s3⟩, hq, h3⟩ := bind_some hp
          simp only at h3
          have HP := Lib.hid h3
          have HE := Lib.hid (fun W S => HG'.out j (by omega) W b (adv sc) y s3 S hq)
          have CA := Lib.hid (fun W S => takes_yes W b sc ⟨#[91]⟩ S (by decide) (by decide) h2)
          clear hp h1 h2 hq h3
          go_wp2_with (first
            | (go_at_call 120; (with_reducible refine CN.out.mono ?_); rintro _ W2 ⟨rfl, B1⟩; have F6 := Lib.hid (F4.out.below B1); clear B1)
            | (go_at_call 120; (with_reducible refine (CA.out _ F6.out.st).mono ?_); rintro _ W3 ⟨rfl, S1, B1⟩; have F5 := Lib.hid (F6.out.call S1 B1); clear S1 B1))
          refine wp_region_treeC (fun _ => True) (.read 1 (.fork2 0 (.fork1 2 (.fork1 3 (.read 4 (.fork1 5 .nil)))) 2 (.fork1 0 (.fork1 3 (.read 4 (.fork1 5 .nil)))))) (by kernel_rfl) (by kernel_rfl) (fun _ _ => trivial) ?_
          intro W4 B
          replace F5 := Lib.hid (F5.out.below B)
          clear B F4 CA CN F6 d2
          refine tree_read rfl ?_
          refine wpQuiet_step (fun K hK => ?_)
          rw [if_pos (by rfl)]
          first | refine quiet_move _ rfl ?_ | refine quiet_assign _ rfl ?_
          go_simp
          refine hK _ ?_
          clear hK K
          refine wpQuiet_nil ?_
          refine tree_two rfl rfl ?_ ?_
          · have gx : EBox W4 c3 [.int .i64 x1.k, .int .i64 x1.o, .string x1.s, .int .i64 x1.v, .slice A n c] := (F5.out.bx _ (List.mem_cons_self ..)).1
            have g0 := gx.cell (i := 0) rfl
            have g1 := gx.cell (i := 1) rfl
            have g2 := gx.cell (i := 2) rfl
            have g3 := gx.cell (i := 3) rfl
            have g4 := gx.cell (i := 4) rfl
            clear gx
            go_wp2_with fail
            refine ⟨trivial, ?_⟩
            clear g0 g1 g2 g3 g4
            refine tree_one rfl ?_
            go_wp2_with ((go_at_call 40; (with_reducible refine (HE.out _ F5.out.st).mono ?_); rintro _ W5 ⟨x2, hx, A2, n2, c2, rfl, R, S1, B1⟩; have F6 := Lib.hid ((F5.out.got0 S1 B1 R)); have HX2 := Lib.hid hx; clear R S1 B1 hx))
            refine ⟨trivial, ?_⟩
            refine tree_one rfl ?_
            go_wp2_with fail
            have F7 := Lib.hid (F6.out.made2 (x := x1) (y := x2) (k := c) (k2 := c2) (t := 42) (List.mem_cons_of_mem _ (List.mem_cons_self ..)) (List.mem_cons_self ..))
            refine ⟨trivial, ?_⟩
            refine tree_read rfl ?_
            refine wpQuiet_step (fun K hK => ?_)
            rw [if_pos (by rfl)]
            refine quiet_tval (.agg #[.int .i64 9, .int .i64 0, .string ⟨#[]⟩, .int .i64 0, .slice (some ⟨W5.heap.size, 0, none⟩) 2 2]) (fun W hW => by simp [execOp, go_sem]) ?_
            go_simp
            refine hK _ ?_
            clear hK K
            refine wpQuiet_nil ?_
            refine tree_one rfl ?_
            go_wp2_with ((refine bset5 rk_ex rfl (F7.out.bx _ (List.mem_cons_self ..)).1 rfl rfl ?_; intro V XV BV sV; have F9 := Lib.hid (F7.out.set (pre := []) XV BV sV); have h0 := XV.cell (i := 0) rfl; have h1 := XV.cell (i := 1) rfl; have h2 := XV.cell (i := 2) rfl; have h3 := XV.cell (i := 3) rfl; have h4 := XV.cell (i := 4) rfl; clear XV BV sV))
            refine ⟨trivial, ?_⟩
            refine tree_nil ?_
            go_wp2_with (go_at_call 72; (with_reducible refine (need_b _ b _ ⟨#[93]⟩ F9.out.st (by decide) (by decide)).mono ?_); rintro _ W7 ⟨rfl, S1, B1⟩; have FA := Lib.hid (F9.out.call S1 B1); clear S1 B1)
            go_roundg j
            case measure => omega
            case rel => exact ⟨_, (.mk 9 0 ⟨#[]⟩ 0 [x1, x2]), _, _, _, _, (keepT FA.out), HP.out, fun q => by rw [HX2.out (xp_ok (by decide) q)], by omega⟩
          · go_wp2_with ((go_at_call 40; (with_reducible refine (HE.out _ F5.out.st).mono ?_); rintro _ W5 ⟨x2, hx, A2, n2, c2, rfl, R, S1, B1⟩; have F6 := Lib.hid ((F5.out.got0 S1 B1 R)); have HX2 := Lib.hid hx; clear R S1 B1 hx))
            refine ⟨trivial, ?_⟩
            have gx : EBox W5 c3 [.int .i64 x1.k, .int .i64 x1.o, .string x1.s, .int .i64 x1.v, .slice A n c] := (F6.out.bx _ (List.mem_cons_self ..)).1
            have g0 := gx.cell (i := 0) rfl
            have g1 := gx.cell (i := 1) rfl
            have g2 := gx.cell (i := 2) rfl
            have g3 := gx.cell (i := 3) rfl
            have g4 := gx.cell (i := 4) rfl
            clear gx
            refine tree_one rfl ?_
            go_wp2_with fail
            refine ⟨trivial, ?_⟩
            clear g0 g1 g2 g3 g4
            refine tree_one rfl ?_
            go_wp2_with fail
            have F7 := Lib.hid (F6.out.made2 (x := x1) (y := x2) (k := c) (k2 := c2) (t := 42) (List.mem_cons_of_mem _ (List.mem_cons_self ..)) (List.mem_cons_self ..))
            refine ⟨trivial, ?_⟩
            refine tree_read rfl ?_
            refine wpQuiet_step (fun K hK => ?_)
            rw [if_pos (by rfl)]
            refine quiet_tval (.agg #[.int .i64 9, .int .i64 0, .string ⟨#[]⟩, .int .i64 0, .slice (some ⟨W5.heap.size, 0, none⟩) 2 2]) (fun W hW => by simp [execOp, go_sem]) ?_
            go_simp
            refine hK _ ?_
            clear hK K
            refine wpQuiet_nil ?_
            refine tree_one rfl ?_
            go_wp2_with ((refine bset5 rk_ex rfl (F7.out.bx _ (List.mem_cons_self ..)).1 rfl rfl ?_; intro V XV BV sV; have F9 := Lib.hid (F7.out.set (pre := []) XV BV sV); have h0 := XV.cell (i := 0) rfl; have h1 := XV.cell (i := 1) rfl; have h2 := XV.cell (i := 2) rfl; have h3 := XV.cell (i := 3) rfl; have h4 := XV.cell (i := 4) rfl; clear XV BV sV))
            refine ⟨trivial, ?_⟩
            refine tree_nil ?_
            go_wp2_with (go_at_call 72; (with_reducible refine (need_b _ b _ ⟨#[93]⟩ F9.out.st (by decide) (by decide)).mono ?_); rintro _ W7 ⟨rfl, S1, B1⟩; have FA := Lib.hid (F9.out.call S1 B1); clear S1 B1)
            go_roundg j
            case measure => omega
            case rel => exact ⟨_, (.mk 9 0 ⟨#[]⟩ 0 [x1, x2]), _, _, _, _, (keepT FA.out), HP.out, fun q => by rw [HX2.out (xp_ok (by decide) q)], by omega⟩
        · rw [if_neg h2] at hp
          obtain ⟨rfl, rfl⟩ := some_pair hp
          have C2 := Lib.hid (fun W S => takes_no W b sc ⟨#[91]⟩ S (by decide) (by decide) (by simpa using h2))
          clear hp h1 h2
          go_wp2_with (first
            | (go_at_call 120; (with_reducible refine CN.out.mono ?_); rintro _ W2 ⟨rfl, B1⟩; have F5 := Lib.hid (F4.out.below B1); clear B1)
            | (go_at_call 120; (with_reducible refine (C2.out _ F5.out.st).mono ?_); rintro _ W3 ⟨rfl, B1⟩; have F6 := Lib.hid (F5.out.below B1); clear B1; have gx : EBox W3 c3 [.int .i64 x1.k, .int .i64 x1.o, .string x1.s, .int .i64 x1.v, .slice A n c] := (F6.out.bx _ (List.mem_cons_self ..)).1; have g0 := gx.cell (i := 0) rfl; have g1 := gx.cell (i := 1) rfl; have g2 := gx.cell (i := 2) rfl; have g3 := gx.cell (i := 3) rfl; have g4 := gx.cell (i := 4) rfl; clear gx)
            | (with_reducible refine bset5 rk_ex rfl (F6.out.bx _ (List.mem_cons_of_mem _ (List.mem_cons_self ..))).1 rfl rfl ?_; intro V XV BV sV; have F7 := Lib.hid (F6.out.set (pre := [_]) XV BV sV); have h0 := XV.cell (i := 0) rfl; have h1 := XV.cell (i := 1) rfl; have h2 := XV.cell (i := 2) rfl; have h3 := XV.cell (i := 3) rfl; have h4 := XV.cell (i := 4) rfl; clear XV BV sV))
          exact bodyPost_ret (v := exV x1 A n c) (by simp [results, Tryz.results124, go_sem, Ex.k, Ex.o, Ex.s, Ex.v, h0, h1, h2, h3, h4]) rfl ⟨_, (fun _ => rfl), _, _, _, rfl, F7.out.fin (List.mem_cons_self ..), F7.out.st, F7.out.bb⟩

end Go.Proofs.YtjpkcgepdfpbnaaGreatDoor.Rf

/- arguments of the reader. Written by tools/gen/genR6.py. -/
namespace Go.Proofs.YtjpkcgepdfpbnaaGreatDoor.Rf
open Go.RowKit Go.Sort Go.ChangeShapes Go.WideShapes
set_option linter.unusedVariables false

/-- A list of expressions that the call builds. -/
structure Li (w W : World) (b : Nat) (s : PS) (A : Option Addr) (n c : Nat) (xs : List Hx) : Prop where
  st : St W b s
  bb : But b w W
  lt : b < w.heap.size
  own : OwnE hxC 5 W w.heap.size 42 A n c xs
  tr : ∀ x ∈ xs, RdX W (dn w W A) x.A x.n x.e.l

section
variable {w W W1 W2 : World} {b n c : Nat} {s s1 : PS} {A A' : Option Addr} {xs : List Hx}

theorem Li.start (S : St w b s) : Li w w b s none 0 0 [] := ⟨S, But.refl _ _, S.lt, OwnE.nil0 _ _ _ _ _ (Nat.le_refl _), by simp⟩

theorem Li.call (L : Li w W b s A n c xs) (S1 : St W1 b s1) (B1 : But b W W1) : Li w W1 b s1 A n c xs := by
  have hlt := L.lt
  refine ⟨S1, L.bb.trans B1, L.lt, ownE_stay L.own (fun g hg => ?_) (Nat.le_trans L.own.base_le B1.size), fun x hx => (L.tr x hx).keep (fun k hk => ?_) fun k hk => ⟨hk.1, Nat.lt_of_lt_of_le hk.2.1 B1.size, hk.2.2⟩⟩
  · have := ownE_lt L.own hg
    exact B1.block _ this.2 (by omega)
  · have h1 := hk.1
    exact B1.block k hk.2.1 (by omega)

theorem Li.app (L : Li w W b s A n c xs) (S1 : St W1 b s1) (B1 : But b W W1) {x : Hx} (R : RdX W1 (nd no0 W W1) x.A x.n x.e.l) {n' c' : Nat} (own' : OwnE hxC 5 W2 w.heap.size 42 A' n' c' (xs ++ [x])) (B2 : Below w.heap.size W1 W2) (AP : Apart W1 W2 A A') : Li w W2 b s1 A' n' c' (xs ++ [x]) := by
  have L1 := L.call S1 B1
  have hlt := L.lt
  have dom : ∀ k, dn w W1 A k → W2.heap[k]? = W1.heap[k]? := fun k hk => AP.same hk.2.1 hk.2.2
  have sub : ∀ k, dn w W1 A k → dn w W2 A' k := fun k hk => ⟨hk.1, Nat.lt_of_lt_of_le hk.2.1 B2.size, fun r hr => by
    rcases AP.2.1 r hr with ⟨q, hq, e⟩ | h
    · rw [← e]; exact hk.2.2 q hq
    · have := hk.2.1; omega⟩
  refine ⟨?_, ⟨B2.os.trans L1.bb.os, B2.tape.trans L1.bb.tape, B2.output.trans L1.bb.output, Nat.le_trans L1.bb.size B2.size, fun k hk hb => (B2.block k hk).trans (L1.bb.block k hk hb)⟩, L.lt, own', fun y hy => ?_⟩
  · have hb1 := S1.lt
    obtain ⟨g, l0, A0, n0, c0, at_, toks, X, e⟩ := S1
    exact ⟨g, l0, A0, n0, c0, at_, toks, X.stay (B2.block b hlt) (B2.mono (Nat.le_of_lt hlt)), e⟩
  · rcases List.mem_append.1 hy with hy | hy
    · exact (L1.tr y hy).keep dom sub
    · rw [List.mem_singleton] at hy
      subst hy
      refine R.keep (fun k hk => ?_) fun k hk => ?_
      all_goals
        have hd : dn w W1 A k := by
          rcases hk with hk | hk
          · exact hk.elim
          · exact ⟨Nat.le_trans L.own.base_le hk.1, hk.2, fun r hr => by have := (ownE_lt L.own hr).2; omega⟩
      · exact dom k hd
      · exact sub k hd
end

theorem Li.fin {w W : World} {b n c : Nat} {s : PS} {A : Option Addr} {xs : List Hx} (L : Li w W b s A n c xs) : RdX W (nd no0 w W) A n (xs.map Hx.e) :=
  rdX_of (L.own.rd hxEnc) (ownE_max L.own) (fun g off hA hg => .inr ⟨by have := (ownE_lt L.own hA).1; exact this, hg⟩) fun x hx => (L.tr x hx).keep (fun _ _ => rfl) fun k hk => .inr ⟨hk.1, hk.2.1⟩

def GXL (W : World) (b : Nat) (l : List Ex) (s' : PS) (r : Ending) (w' : World) : Prop := ∃ A n c l', r = .returned (.slice A n c) ∧ (s'.2 ≤ 0 → l' = l) ∧ RdX w' (nd no0 W w') A n l' ∧ St w' b s' ∧ But b W w'

theorem Li.start0 {w : World} {b : Nat} {s : PS} (S : St w b s) : Li w (w.alloc (.cells #[] 42)) b s (some ⟨w.heap.size, 0, none⟩) 0 0 [] :=
  ⟨S.on (box_below _ _ _), But.of (box_below _ _ _), S.lt, ⟨⟨by simp, .inr ⟨w.heap.size, 0, _, rfl, Nat.le_refl _, heap_alloc_new w _, Nat.le_refl _, by decide, by simp, by simp⟩⟩, by simp, rfl⟩, by simp⟩

/-- What is to come: an item and what follows; or nothing more, behind an error. -/
def Ar (e : Ex) (s' : PS) (gk : Nat) (sc : PS) (a : List Ex) (l : List Ex) : Prop :=
  (sc.2 ≤ 0 ∧ l = a ∧ ∃ y s1, pe gk (.ex 0) sc = some (y, s1) ∧ pe gk (.li (a ++ [y])) s1 = some (e, s')) ∨ (0 < sc.2 ∧ s' = sc)

set_option maxRecDepth 100000 in
set_option maxHeartbeats 2000000 in
theorem arguments_s (m : Nat) (hm9 : m ≤ 1000000000) (HG : PrN 40 (.ex 0) m) (w : World) (b : Nat) (s : PS) (e : Ex) (s' : PS) (S : St w b s) (h : pe m .ls s = some (e, s')) :
    Calls Tryz.prog 153 #[ptr b] w (GXL w b e.l s') := by
  have L0 := Lib.hid (Li.start0 S)
  obtain ⟨m, rfl⟩ : ∃ q, m = q + 1 := by cases m with | zero => cases h | succ m => exact ⟨m, rfl⟩
  have hb := pe_bad (m + 1) .ls s e s'
  rw [pe] at h
  by_cases h1 : acp ⟨#[41]⟩ s = true
  · rw [if_pos h1] at h
    obtain ⟨rfl, rfl⟩ := some_pair h
    have CA := Lib.hid (fun W S => takes_yes W b s ⟨#[41]⟩ S (by decide) (by decide) h1)
    clear S h HG h1 hb
    go_enter Tryz.func153, Tryz.ntmps153
    go_wp2_with ((go_at_call 120; (with_reducible refine (CA.out _ L0.out.st).mono ?_); rintro _ W1 ⟨rfl, S1, B1⟩; have L1 := Lib.hid (L0.out.call S1 B1); clear S1 B1))
    go_ret
    exact ⟨_, 0, 0, [], rfl, fun _ => rfl, L1.out.fin, L1.out.st, L1.out.bb⟩
  · rw [if_neg h1] at h
    have HA : Hid (Ar e s' m s [] []) := Lib.hid (by
      by_cases hq : 0 < s.2
      · exact .inr ⟨hq, hb hq (by rw [pe, if_neg h1]; exact h)⟩
      · obtain ⟨⟨e1, s1⟩, hq1, h2⟩ := bind_some h
        exact .inl ⟨Int.not_lt.1 hq, rfl, e1, s1, hq1, h2⟩)
    have CN := Lib.hid (fun W S => takes_no W b s ⟨#[41]⟩ S (by decide) (by decide) (by simpa using h1))
    have HG' := Lib.hid HG
    clear S h HG h1 hb
    go_enter Tryz.func153, Tryz.ntmps153
    go_wp2_with ((go_at_call 120; (with_reducible refine (CN.out _ L0.out.st).mono ?_); rintro _ W1 ⟨rfl, B1⟩; have L1 := Lib.hid (L0.out.call (L0.out.st.on B1) (But.of B1)); clear B1))
    clear L0 CN
    go_loopg [3] m (fun gk v wr => ∃ (A : Option Addr) (n c : Nat) (xs : List Hx) (sc : PS) (a : List Ex), v = .slice A n c ∧ Li w wr b sc A n c xs ∧ Ar e s' gk sc a (xs.map Hx.e) ∧ n + gk ≤ m ∧ gk ≤ m)
    case atStart => exact ⟨_, 0, 0, [], s, [], rfl, L1.out, HA.out, by omega, by omega⟩
    case round =>
      clear L1 HA
      obtain ⟨A, n, c, xs, sc, a, rfl, L, har, hn, hk⟩ := hrel
      rename World => wr
      have L4 := Lib.hid L
      clear L
      obtain ⟨_, _, At, nt, ct, at_, toks, XX, hs⟩ := L4.out.st
      have d2 := XX.c2
      clear XX hs
      rcases har with ⟨hg0, hla, y, s1, hq, hl⟩ | ⟨hbad, rfl⟩
      · have hng : ¬ 0 < sc.2 := Int.not_lt.2 hg0
        rw [decide_eq_false hng] at d2
        have H3 := Lib.hid (fun W S => HG'.out gk (by omega) W b sc y s1 S hq)
        obtain ⟨j, rfl⟩ : ∃ q, gk = q + 1 := by cases gk with | zero => cases hq | succ m => exact ⟨m, rfl⟩
        rw [pe] at hl
        by_cases h1 : acp ⟨#[41]⟩ s1 = true
        · have h44 : acp ⟨#[44]⟩ s1 = false := by
            have q1 := acp_iff.1 h1
            unfold acp
            rw [q1]
            decide
          rw [h44, if_neg (by decide)] at hl
          unfold xp at hl
          rw [if_pos h1] at hl
          obtain ⟨rfl, rfl⟩ := some_pair hl
          have CA := Lib.hid (fun W S => takes_yes W b s1 ⟨#[41]⟩ S (by decide) (by decide) h1)
          have h12 := Lib.hid (acp_ok (by decide) h1).1
          have HLA := Lib.hid hla
          clear hg0 hng hq hl h1 h44 hla
          go_wp2_with (first
            | (go_at_call 40; (with_reducible refine (H3.out _ L4.out.st).mono ?_); rintro _ W5 ⟨x3, hx, A3, n3, c3, rfl, R', S', B'⟩; have HX3 := Lib.hid hx; have R3 := Lib.hid R'; have S3 := Lib.hid S'; have B3 := Lib.hid B'; clear R' S' B' hx)
            | (refine wpList_app1H _ rfl _ _ _ rfl hxEnc elEx (L4.out.call S3.out B3.out).own rfl ⟨x3, A3, n3, c3⟩ rfl rfl (by unfold maxLen; omega) (by omega) ?_; intro A3' c3' W7 own' B' AP; have L6 := Lib.hid (L4.out.app S3.out B3.out R3.out own' B' AP); clear own' B' AP)
            | (go_at_call 120; (with_reducible refine (CA.out _ L6.out.st).mono ?_); rintro _ W8 ⟨rfl, S1, B1⟩; have L7 := Lib.hid (L6.out.call S1 B1); clear S1 B1))
          go_ret
          refine ⟨_, n + 1, _, _, rfl, fun q => ?_, L7.out.fin, L7.out.st, L7.out.bb⟩
          rw [List.map_append, HLA.out]
          show a ++ [x3] = _
          rw [HX3.out q]
          rfl
        · have CN := Lib.hid (fun W S => takes_no W b s1 ⟨#[41]⟩ S (by decide) (by decide) (by simpa using h1))
          have HN : Hid (∀ x : Ex, Gd s1.1 → (s1.2 ≤ 0 → x = y) → Ar e s' j (xp ⟨#[44]⟩ s1) (a ++ [y]) (a ++ [x])) := Lib.hid (by
            intro x gx hx
            unfold xp
            split at hl
            · rename_i q4
              rw [if_pos q4]
              obtain ⟨⟨y2, s3⟩, h5, h6⟩ := bind_some hl
              have h7 := (acp_ok (by decide) q4).1
              exact .inl ⟨Int.not_lt.1 h7, by rw [hx (Int.not_lt.1 h7)], y2, s3, h5, h6⟩
            · rename_i q4
              rw [if_neg q4]
              have h8 := (some_pair hl).2
              unfold xp at h8
              rw [if_neg h1] at h8
              exact .inr ⟨fl_pos gx, h8.symm⟩)
          have HLA := Lib.hid hla
          clear hg0 hng hq hl h1 hla
          go_wp2_with (first
            | (go_at_call 40; (with_reducible refine (H3.out _ L4.out.st).mono ?_); rintro _ W5 ⟨x3, hx, A3, n3, c3, rfl, R', S', B'⟩; have HX3 := Lib.hid hx; have R3 := Lib.hid R'; have S3 := Lib.hid S'; have B3 := Lib.hid B'; clear R' S' B' hx)
            | (refine wpList_app1H _ rfl _ _ _ rfl hxEnc elEx (L4.out.call S3.out B3.out).own rfl ⟨x3, A3, n3, c3⟩ rfl rfl (by unfold maxLen; omega) (by omega) ?_; intro A3' c3' W7 own' B' AP; have L6 := Lib.hid (L4.out.app S3.out B3.out R3.out own' B' AP); clear own' B' AP)
            | (go_at_call 120; (with_reducible refine (CN.out _ L6.out.st).mono ?_); rintro _ W8 ⟨rfl, B1⟩; have L7 := Lib.hid (L6.out.call (L6.out.st.on B1) (But.of B1)); clear B1)
            | (go_at_call 72; (with_reducible refine (need_b _ b _ ⟨#[44]⟩ L7.out.st (by decide) (by decide)).mono ?_); rintro _ W9 ⟨rfl, S1, B1⟩; have L8 := Lib.hid (L7.out.call S1 B1); clear S1 B1))
          go_roundg j
          case measure => omega
          case rel => exact ⟨_, n + 1, _, _, _, a ++ [y], rfl, L8.out, by rw [List.map_append, HLA.out]; exact HN.out x3 S3.out.gd HX3.out, by omega, by omega⟩
      · rw [decide_eq_true hbad] at d2
        have HB := Lib.hid hbad
        clear hbad
        go_wp2_with fail
        go_ret
        exact ⟨A, n, c, _, rfl, fun q => absurd HB.out (Int.not_lt.2 q), L4.out.fin, L4.out.st, L4.out.bb⟩

end Go.Proofs.YtjpkcgepdfpbnaaGreatDoor.Rf

/- primary of the reader. Written by tools/gen/genR7.py. -/
namespace Go.Proofs.YtjpkcgepdfpbnaaGreatDoor.Rf
open Go.RowKit Go.Sort Go.ChangeShapes Go.WideShapes
set_option linter.unusedVariables false

/-- The reader's list of arguments. -/
def PrA (m : Nat) : Prop := ∀ j, j < m → ∀ W b s e s', St W b s → pe j .ls s = some (e, s') → Calls Tryz.prog 153 #[ptr b] W (GXL W b e.l s')

theorem cls_word (t : ByteArray) (l : List UInt8) (h : t.toList = l) : strL t = l.map fun b => (b.toNat : Int) := by
  unfold strL
  rw [← h, ByteArray.toList_eq]

theorem tyw_cls {t : ByteArray} (h : tyw t.toList = true) : cls (strL t) = 1 ∧ t ≠ ⟨#[]⟩ := by
  constructor
  · unfold tyw at h
    simp only [Bool.or_eq_true, beq_iff_eq] at h
    rcases h with (((((h | h) | h) | h) | h) | h) | h <;> rw [cls_word t _ h] <;> decide
  · rintro rfl
    rw [tyw_nil] at h
    cases h

set_option maxRecDepth 100000 in
set_option maxHeartbeats 2000000 in
theorem primary_0 (m : Nat) (HG : PrN 40 (.ex 0) (m + 1)) (HA : PrA (m + 1)) (w : World) (b : Nat) (s : PS) (e : Ex) (s' : PS) (S : St w b s) (hb : 0 < s.2) (hs' : s' = s) :
    Calls Tryz.prog 145 #[ptr b] w (GX w b e s') := by
  have F0 := Lib.hid ((Fr.start0 S).box zX 42)
  have CP := Lib.hid (peek_b _ b s F0.out.st)
  obtain ⟨z, hz⟩ : ∃ z, hdT s.1 = z := ⟨_, rfl⟩
  rw [hz] at CP
  have hd : decide (0 < s.2) = true := decide_eq_true hb
  subst hs'
  have HB := Lib.hid hb
  have hn := bad_nmS hb
  have HT := Lib.hid (fun W S => takes_no W b s' ⟨#[40]⟩ S (by decide) (by decide) (bad_acp hb (by decide)))
  clear S HG HA hz hb
  go_enter Tryz.func145, Tryz.ntmps145
  go_wp2_with (first
    | (go_at_call 76; (with_reducible refine CP.out.mono ?_); rintro _ W1 ⟨rfl, B1⟩; have F1 := Lib.hid ((F0.out.below B1).box #[.int .i64 z.k, .string (tx z), .int .i64 z.v, .int .i64 z.ln] 60); obtain ⟨_, _, At, nt, ct, at_, toks, XX, hs⟩ := F1.out.st; have d2 := XX.c2; rw [hd] at d2; clear B1 XX hs)
    | (go_at_call 118; (with_reducible refine (name_b _ b _ F1.out.st).mono ?_); rintro _ W5 ⟨rfl, S1, B1⟩; rw [hn] at S1; have F5 := Lib.hid (F1.out.call S1 B1); clear S1 B1)
    | (go_at_call 120; (with_reducible refine (HT.out _ F5.out.st).mono ?_); rintro _ W6 ⟨rfl, B1⟩; have F6 := Lib.hid ((F5.out.below B1).tree (A := none) (n := 0) (l := []) (RdX.nil _ _ none)); clear B1)
    | (with_reducible refine bset5 rk_ex rfl (F6.out.bx _ (List.mem_cons_of_mem _ (List.mem_cons_self ..))).1 rfl rfl ?_; intro V XV BV sV; have F7 := Lib.hid (F6.out.set (pre := [_]) XV BV sV); have h0 := XV.cell (i := 0) rfl; have h1 := XV.cell (i := 1) rfl; have h2 := XV.cell (i := 2) rfl; have h3 := XV.cell (i := 3) rfl; have h4 := XV.cell (i := 4) rfl; clear XV BV sV))
  exact bodyPost_ret (v := exV (.mk 4 0 (nmT s') 0 []) none 0 0) (by simp [results, Tryz.results145, go_sem, Ex.k, Ex.o, Ex.s, Ex.v, h0, h1, h2, h3, h4]) rfl ⟨_, (fun q => absurd HB.out (Int.not_lt.2 q)), _, _, _, rfl, F7.out.fin (List.mem_cons_self ..), F7.out.st, F7.out.bb⟩

set_option maxRecDepth 100000 in
set_option maxHeartbeats 2000000 in
theorem primary_1 (m : Nat) (HG : PrN 40 (.ex 0) (m + 1)) (HA : PrA (m + 1)) (w : World) (b : Nat) (s : PS) (e : Ex) (s' : PS) (S : St w b s) (h1 : acp ⟨#[40]⟩ s = true) (h : ((pe m (.ex 0) (adv s)).bind fun q => some (q.1, xp ⟨#[41]⟩ q.2)) = some (e, s')) :
    Calls Tryz.prog 145 #[ptr b] w (GX w b e s') := by
  have F0 := Lib.hid ((Fr.start0 S).box zX 42)
  have CP := Lib.hid (peek_b _ b s F0.out.st)
  obtain ⟨z, hz⟩ : ∃ z, hdT s.1 = z := ⟨_, rfl⟩
  rw [hz] at CP
  obtain ⟨⟨x, s1⟩, hq, h2⟩ := bind_some h
  obtain ⟨rfl, rfl⟩ := some_pair h2
  have hd : decide (0 < s.2) = false := decide_eq_false ((acp_ok (by decide) h1).1)
  have hk := acp_k (k := 4) S.gd h1 (by decide) (.inr ⟨rfl, by decide⟩)
  rw [hz] at hk
  have k2 : z.k ≠ 2 := by omega
  have k3 : z.k ≠ 3 := by omega
  have e2 : (z.k == 2) = false := beq_eq_false_iff_ne.2 k2
  have e3 : (z.k == 3) = false := beq_eq_false_iff_ne.2 k3
  have hx := acp_iff.1 h1
  have HW1 : Hid (∀ W, St W b s → Calls Tryz.prog 70 #[ptr b, .string ⟨#[116, 114, 117, 101]⟩] W fun e w' => e = .returned (.bool false) ∧ Below W.heap.size W w') := Lib.hid (fun W S => by have := word_b W b s ⟨#[116, 114, 117, 101]⟩ S (by decide) (by decide); rw [show acp ⟨#[116, 114, 117, 101]⟩ s = false from by unfold acp; rw [hx]; decide] at this; exact this)
  have HW2 : Hid (∀ W, St W b s → Calls Tryz.prog 70 #[ptr b, .string ⟨#[102, 97, 108, 115, 101]⟩] W fun e w' => e = .returned (.bool false) ∧ Below W.heap.size W w') := Lib.hid (fun W S => by have := word_b W b s ⟨#[102, 97, 108, 115, 101]⟩ S (by decide) (by decide); rw [show acp ⟨#[102, 97, 108, 115, 101]⟩ s = false from by unfold acp; rw [hx]; decide] at this; exact this)
  have HE := Lib.hid (fun W S => HG m (Nat.lt_succ_self m) W b (adv s) x s1 S hq)
  have CA := Lib.hid (fun W S => takes_yes W b s ⟨#[40]⟩ S (by decide) (by decide) h1)
  clear S h h1 h2 hq HG HA hz hk k2 k3 hx
  go_enter Tryz.func145, Tryz.ntmps145
  go_wp2_with (first
    | (go_at_call 76; (with_reducible refine CP.out.mono ?_); rintro _ W1 ⟨rfl, B1⟩; have F1 := Lib.hid ((F0.out.below B1).box #[.int .i64 z.k, .string (tx z), .int .i64 z.v, .int .i64 z.ln] 60); obtain ⟨_, _, At, nt, ct, at_, toks, XX, hs⟩ := F1.out.st; have d2 := XX.c2; rw [hd] at d2; clear B1 XX hs)
    | (go_at_call 70; (with_reducible refine (HW1.out _ F1.out.st).mono ?_); rintro _ W2 ⟨rfl, B1⟩; have F2 := Lib.hid (F1.out.below B1); clear B1)
    | (go_at_call 70; (with_reducible refine (HW2.out _ F2.out.st).mono ?_); rintro _ W3 ⟨rfl, B1⟩; have F3 := Lib.hid (F2.out.below B1); clear B1)
    | (go_at_call 120; (with_reducible refine (CA.out _ F3.out.st).mono ?_); rintro _ W4 ⟨rfl, S1, B1⟩; have F4 := Lib.hid (F3.out.call S1 B1); clear S1 B1)
    | (go_at_call 40; (with_reducible refine (HE.out _ F4.out.st).mono ?_); rintro _ W5 ⟨x1, hx, A1, n1, c1, rfl, R, S1, B1⟩; have F5 := Lib.hid ((F4.out.got0 S1 B1 R).box #[.int .i64 x1.k, .int .i64 x1.o, .string x1.s, .int .i64 x1.v, .slice A1 n1 c1] 42); have HX1 := Lib.hid hx; clear R S1 B1 hx)
    | (go_at_call 72; (with_reducible refine (need_b _ b _ ⟨#[41]⟩ F5.out.st (by decide) (by decide)).mono ?_); rintro _ W6 ⟨rfl, S1, B1⟩; have F6 := Lib.hid (F5.out.call S1 B1); clear S1 B1; have gx : EBox W6 W5.heap.size [.int .i64 x1.k, .int .i64 x1.o, .string x1.s, .int .i64 x1.v, .slice A1 n1 c1] := (F6.out.bx _ (List.mem_cons_self ..)).1; have g0 := gx.cell (i := 0) rfl; have g1 := gx.cell (i := 1) rfl; have g2 := gx.cell (i := 2) rfl; have g3 := gx.cell (i := 3) rfl; have g4 := gx.cell (i := 4) rfl; clear gx)
    | (with_reducible refine bset5 rk_ex rfl (F6.out.bx _ (List.mem_cons_of_mem _ (List.mem_cons_of_mem _ (List.mem_cons_self ..)))).1 rfl rfl ?_; intro V XV BV sV; have F7 := Lib.hid (F6.out.set (pre := [_, _]) XV BV sV); have h0 := XV.cell (i := 0) rfl; have h1 := XV.cell (i := 1) rfl; have h2 := XV.cell (i := 2) rfl; have h3 := XV.cell (i := 3) rfl; have h4 := XV.cell (i := 4) rfl; clear XV BV sV))
  exact bodyPost_ret (v := exV x1 A1 n1 c1) (by simp [results, Tryz.results145, go_sem, Ex.k, Ex.o, Ex.s, Ex.v, h0, h1, h2, h3, h4]) rfl ⟨_, (fun q => HX1.out (xp_ok (by decide) q)), _, _, _, rfl, F7.out.fin (List.mem_cons_self ..), F7.out.st, F7.out.bb⟩

set_option maxRecDepth 100000 in
set_option maxHeartbeats 2000000 in
theorem primary_2 (m : Nat) (HG : PrN 40 (.ex 0) (m + 1)) (HA : PrA (m + 1)) (w : World) (b : Nat) (s : PS) (e : Ex) (s' : PS) (S : St w b s) (h1 : acp ⟨#[116, 114, 117, 101]⟩ s = true) (h : some (Ex.mk 3 0 ⟨#[]⟩ 1 [], adv s) = some (e, s')) :
    Calls Tryz.prog 145 #[ptr b] w (GX w b e s') := by
  have F0 := Lib.hid ((Fr.start0 S).box zX 42)
  have CP := Lib.hid (peek_b _ b s F0.out.st)
  obtain ⟨z, hz⟩ : ∃ z, hdT s.1 = z := ⟨_, rfl⟩
  rw [hz] at CP
  obtain ⟨rfl, rfl⟩ := some_pair h
  have hd : decide (0 < s.2) = false := decide_eq_false ((acp_ok (by decide) h1).1)
  have hk := acp_k (k := 1) S.gd h1 (by decide) (.inl ⟨rfl, by decide⟩)
  rw [hz] at hk
  have k2 : z.k ≠ 2 := by omega
  have k3 : z.k ≠ 3 := by omega
  have e2 : (z.k == 2) = false := beq_eq_false_iff_ne.2 k2
  have e3 : (z.k == 3) = false := beq_eq_false_iff_ne.2 k3
  have hx := acp_iff.1 h1
  have hxz : tx z = ⟨#[116, 114, 117, 101]⟩ := by rw [← hz]; exact (acp_ok (by decide) h1).2
  have HNX := Lib.hid (fun W S => next_yes W b s S (acp_ok (by decide) h1).1 (acp_gd (by decide) h1 F0.out.st.gd))
  have q1 : ((tx z).toList == [116, 114, 117, 101]) = true := by rw [hxz]; decide +kernel
  have HW1 : Hid (∀ W, St W b s → Calls Tryz.prog 70 #[ptr b, .string ⟨#[116, 114, 117, 101]⟩] W fun e w' => e = .returned (.bool true) ∧ Below W.heap.size W w') := Lib.hid (fun W S => by have := word_b W b s ⟨#[116, 114, 117, 101]⟩ S (by decide) (by decide); rw [show acp ⟨#[116, 114, 117, 101]⟩ s = true from h1] at this; exact this)
  clear S h h1 HG HA hz hk k2 k3 hx hxz
  go_enter Tryz.func145, Tryz.ntmps145
  go_wp2_with (first
    | (go_at_call 76; (with_reducible refine CP.out.mono ?_); rintro _ W1 ⟨rfl, B1⟩; have F1 := Lib.hid ((F0.out.below B1).box #[.int .i64 z.k, .string (tx z), .int .i64 z.v, .int .i64 z.ln] 60); obtain ⟨_, _, At, nt, ct, at_, toks, XX, hs⟩ := F1.out.st; have d2 := XX.c2; rw [hd] at d2; clear B1 XX hs)
    | (go_at_call 70; (with_reducible refine (HW1.out _ F1.out.st).mono ?_); rintro _ W2 ⟨rfl, B1⟩; have F2 := Lib.hid (F1.out.below B1); clear B1)
    | (go_at_call 71; (with_reducible refine (HNX.out _ F2.out.st).mono ?_); rintro _ W4 ⟨rfl, S1, B1⟩; have F4 := Lib.hid (F2.out.call S1 B1); clear S1 B1; have XT : EBox W4 W1.heap.size [.int .i64 z.k, .string (tx z), .int .i64 z.v, .int .i64 z.ln] := (F4.out.bx _ (List.mem_cons_self ..)).1; have x0 := XT.cell (i := 0) rfl; have x1 := XT.cell (i := 1) rfl; have x2 := XT.cell (i := 2) rfl; have x3 := XT.cell (i := 3) rfl; clear XT; have F5 := Lib.hid (F4.out.tree (A := none) (n := 0) (l := []) (RdX.nil _ _ none)))
    | (with_reducible refine bset5 rk_ex rfl (F5.out.bx _ (List.mem_cons_of_mem _ (List.mem_cons_self ..))).1 rfl rfl ?_; intro V XV BV sV; have F6 := Lib.hid (F5.out.set (pre := [_]) XV BV sV); have h0 := XV.cell (i := 0) rfl; have h1 := XV.cell (i := 1) rfl; have h2 := XV.cell (i := 2) rfl; have h3 := XV.cell (i := 3) rfl; have h4 := XV.cell (i := 4) rfl; clear XV BV sV))
  exact bodyPost_ret (v := exV (.mk 3 0 ⟨#[]⟩ 1 []) none 0 0) (by simp [results, Tryz.results145, go_sem, Ex.k, Ex.o, Ex.s, Ex.v, h0, h1, h2, h3, h4]) rfl ⟨_, (fun _ => rfl), _, _, _, rfl, F6.out.fin (List.mem_cons_self ..), F6.out.st, F6.out.bb⟩

set_option maxRecDepth 100000 in
set_option maxHeartbeats 2000000 in
theorem primary_3 (m : Nat) (HG : PrN 40 (.ex 0) (m + 1)) (HA : PrA (m + 1)) (w : World) (b : Nat) (s : PS) (e : Ex) (s' : PS) (S : St w b s) (h1 : acp ⟨#[102, 97, 108, 115, 101]⟩ s = true) (h : some (Ex.mk 3 0 ⟨#[]⟩ 0 [], adv s) = some (e, s')) :
    Calls Tryz.prog 145 #[ptr b] w (GX w b e s') := by
  have F0 := Lib.hid ((Fr.start0 S).box zX 42)
  have CP := Lib.hid (peek_b _ b s F0.out.st)
  obtain ⟨z, hz⟩ : ∃ z, hdT s.1 = z := ⟨_, rfl⟩
  rw [hz] at CP
  obtain ⟨rfl, rfl⟩ := some_pair h
  have hd : decide (0 < s.2) = false := decide_eq_false ((acp_ok (by decide) h1).1)
  have hk := acp_k (k := 1) S.gd h1 (by decide) (.inl ⟨rfl, by decide⟩)
  rw [hz] at hk
  have k2 : z.k ≠ 2 := by omega
  have k3 : z.k ≠ 3 := by omega
  have e2 : (z.k == 2) = false := beq_eq_false_iff_ne.2 k2
  have e3 : (z.k == 3) = false := beq_eq_false_iff_ne.2 k3
  have hx := acp_iff.1 h1
  have hxz : tx z = ⟨#[102, 97, 108, 115, 101]⟩ := by rw [← hz]; exact (acp_ok (by decide) h1).2
  have HNX := Lib.hid (fun W S => next_yes W b s S (acp_ok (by decide) h1).1 (acp_gd (by decide) h1 F0.out.st.gd))
  have q1 : ((tx z).toList == [116, 114, 117, 101]) = false := by rw [hxz]; decide +kernel
  have HW1 : Hid (∀ W, St W b s → Calls Tryz.prog 70 #[ptr b, .string ⟨#[116, 114, 117, 101]⟩] W fun e w' => e = .returned (.bool false) ∧ Below W.heap.size W w') := Lib.hid (fun W S => by have := word_b W b s ⟨#[116, 114, 117, 101]⟩ S (by decide) (by decide); rw [show acp ⟨#[116, 114, 117, 101]⟩ s = false from by unfold acp; rw [hx]; decide] at this; exact this)
  have HW2 : Hid (∀ W, St W b s → Calls Tryz.prog 70 #[ptr b, .string ⟨#[102, 97, 108, 115, 101]⟩] W fun e w' => e = .returned (.bool true) ∧ Below W.heap.size W w') := Lib.hid (fun W S => by have := word_b W b s ⟨#[102, 97, 108, 115, 101]⟩ S (by decide) (by decide); rw [show acp ⟨#[102, 97, 108, 115, 101]⟩ s = true from h1] at this; exact this)
  clear S h h1 HG HA hz hk k2 k3 hx hxz
  go_enter Tryz.func145, Tryz.ntmps145
  go_wp2_with (first
    | (go_at_call 76; (with_reducible refine CP.out.mono ?_); rintro _ W1 ⟨rfl, B1⟩; have F1 := Lib.hid ((F0.out.below B1).box #[.int .i64 z.k, .string (tx z), .int .i64 z.v, .int .i64 z.ln] 60); obtain ⟨_, _, At, nt, ct, at_, toks, XX, hs⟩ := F1.out.st; have d2 := XX.c2; rw [hd] at d2; clear B1 XX hs)
    | (go_at_call 70; (with_reducible refine (HW1.out _ F1.out.st).mono ?_); rintro _ W2 ⟨rfl, B1⟩; have F2 := Lib.hid (F1.out.below B1); clear B1)
    | (go_at_call 70; (with_reducible refine (HW2.out _ F2.out.st).mono ?_); rintro _ W3 ⟨rfl, B1⟩; have F3 := Lib.hid (F2.out.below B1); clear B1)
    | (go_at_call 71; (with_reducible refine (HNX.out _ F3.out.st).mono ?_); rintro _ W4 ⟨rfl, S1, B1⟩; have F4 := Lib.hid (F3.out.call S1 B1); clear S1 B1; have XT : EBox W4 W1.heap.size [.int .i64 z.k, .string (tx z), .int .i64 z.v, .int .i64 z.ln] := (F4.out.bx _ (List.mem_cons_self ..)).1; have x0 := XT.cell (i := 0) rfl; have x1 := XT.cell (i := 1) rfl; have x2 := XT.cell (i := 2) rfl; have x3 := XT.cell (i := 3) rfl; clear XT; have F5 := Lib.hid (F4.out.tree (A := none) (n := 0) (l := []) (RdX.nil _ _ none)))
    | (with_reducible refine bset5 rk_ex rfl (F5.out.bx _ (List.mem_cons_of_mem _ (List.mem_cons_self ..))).1 rfl rfl ?_; intro V XV BV sV; have F6 := Lib.hid (F5.out.set (pre := [_]) XV BV sV); have h0 := XV.cell (i := 0) rfl; have h1 := XV.cell (i := 1) rfl; have h2 := XV.cell (i := 2) rfl; have h3 := XV.cell (i := 3) rfl; have h4 := XV.cell (i := 4) rfl; clear XV BV sV))
  exact bodyPost_ret (v := exV (.mk 3 0 ⟨#[]⟩ 0 []) none 0 0) (by simp [results, Tryz.results145, go_sem, Ex.k, Ex.o, Ex.s, Ex.v, h0, h1, h2, h3, h4]) rfl ⟨_, (fun _ => rfl), _, _, _, rfl, F6.out.fin (List.mem_cons_self ..), F6.out.st, F6.out.bb⟩

set_option maxRecDepth 100000 in
set_option maxHeartbeats 2000000 in
theorem primary_4 (m : Nat) (HG : PrN 40 (.ex 0) (m + 1)) (HA : PrA (m + 1)) (w : World) (b : Nat) (s : PS) (e : Ex) (s' : PS) (S : St w b s) (h1 : (pk s).k = 2) (h : some (Ex.mk 2 0 ⟨#[]⟩ (pk s).v [], adv s) = some (e, s')) :
    Calls Tryz.prog 145 #[ptr b] w (GX w b e s') := by
  have F0 := Lib.hid ((Fr.start0 S).box zX 42)
  have CP := Lib.hid (peek_b _ b s F0.out.st)
  obtain ⟨z, hz⟩ : ∃ z, hdT s.1 = z := ⟨_, rfl⟩
  rw [hz] at CP
  obtain ⟨rfl, rfl⟩ := some_pair h
  have hd : decide (0 < s.2) = false := decide_eq_false ((pk_k h1 (by decide)).1)
  have HNX := Lib.hid (fun W S => next_yes W b s S (pk_k h1 (by decide)).1 (pk_gd h1 (by decide) (by decide) F0.out.st.gd))
  have hpk : pk s = z := by unfold pk; rw [if_neg (pk_k h1 (by decide)).1, hz]
  rw [hpk] at h1 ⊢
  rw [h1] at CP
  clear S h h1 HG HA hz hpk
  go_enter Tryz.func145, Tryz.ntmps145
  go_wp2_with (first
    | (go_at_call 76; (with_reducible refine CP.out.mono ?_); rintro _ W1 ⟨rfl, B1⟩; have F1 := Lib.hid ((F0.out.below B1).box #[.int .i64 2, .string (tx z), .int .i64 z.v, .int .i64 z.ln] 60); obtain ⟨_, _, At, nt, ct, at_, toks, XX, hs⟩ := F1.out.st; have d2 := XX.c2; rw [hd] at d2; clear B1 XX hs)
    | (go_at_call 71; (with_reducible refine (HNX.out _ F1.out.st).mono ?_); rintro _ W4 ⟨rfl, S1, B1⟩; have F4 := Lib.hid (F1.out.call S1 B1); clear S1 B1; have XT : EBox W4 W1.heap.size [.int .i64 2, .string (tx z), .int .i64 z.v, .int .i64 z.ln] := (F4.out.bx _ (List.mem_cons_self ..)).1; have x0 := XT.cell (i := 0) rfl; have x1 := XT.cell (i := 1) rfl; have x2 := XT.cell (i := 2) rfl; have x3 := XT.cell (i := 3) rfl; clear XT; have F5 := Lib.hid (F4.out.tree (A := none) (n := 0) (l := []) (RdX.nil _ _ none)))
    | (with_reducible refine bset5 rk_ex rfl (F5.out.bx _ (List.mem_cons_of_mem _ (List.mem_cons_self ..))).1 rfl rfl ?_; intro V XV BV sV; have F6 := Lib.hid (F5.out.set (pre := [_]) XV BV sV); have h0 := XV.cell (i := 0) rfl; have h1 := XV.cell (i := 1) rfl; have h2 := XV.cell (i := 2) rfl; have h3 := XV.cell (i := 3) rfl; have h4 := XV.cell (i := 4) rfl; clear XV BV sV))
  exact bodyPost_ret (v := exV (.mk 2 0 ⟨#[]⟩ z.v []) none 0 0) (by simp [results, Tryz.results145, go_sem, Ex.k, Ex.o, Ex.s, Ex.v, h0, h1, h2, h3, h4]) rfl ⟨_, (fun _ => rfl), _, _, _, rfl, F6.out.fin (List.mem_cons_self ..), F6.out.st, F6.out.bb⟩

set_option maxRecDepth 100000 in
set_option maxHeartbeats 2000000 in
theorem primary_5 (m : Nat) (HG : PrN 40 (.ex 0) (m + 1)) (HA : PrA (m + 1)) (w : World) (b : Nat) (s : PS) (e : Ex) (s' : PS) (S : St w b s) (h1 : (pk s).k = 3) (h : some (Ex.mk 1 0 ⟨#[]⟩ (pk s).v [], adv s) = some (e, s')) :
    Calls Tryz.prog 145 #[ptr b] w (GX w b e s') := by
  have F0 := Lib.hid ((Fr.start0 S).box zX 42)
  have CP := Lib.hid (peek_b _ b s F0.out.st)
  obtain ⟨z, hz⟩ : ∃ z, hdT s.1 = z := ⟨_, rfl⟩
  rw [hz] at CP
  obtain ⟨rfl, rfl⟩ := some_pair h
  have hd : decide (0 < s.2) = false := decide_eq_false ((pk_k h1 (by decide)).1)
  have HNX := Lib.hid (fun W S => next_yes W b s S (pk_k h1 (by decide)).1 (pk_gd h1 (by decide) (by decide) F0.out.st.gd))
  have hpk : pk s = z := by unfold pk; rw [if_neg (pk_k h1 (by decide)).1, hz]
  rw [hpk] at h1 ⊢
  rw [h1] at CP
  clear S h h1 HG HA hz hpk
  go_enter Tryz.func145, Tryz.ntmps145
  go_wp2_with (first
    | (go_at_call 76; (with_reducible refine CP.out.mono ?_); rintro _ W1 ⟨rfl, B1⟩; have F1 := Lib.hid ((F0.out.below B1).box #[.int .i64 3, .string (tx z), .int .i64 z.v, .int .i64 z.ln] 60); obtain ⟨_, _, At, nt, ct, at_, toks, XX, hs⟩ := F1.out.st; have d2 := XX.c2; rw [hd] at d2; clear B1 XX hs)
    | (go_at_call 71; (with_reducible refine (HNX.out _ F1.out.st).mono ?_); rintro _ W4 ⟨rfl, S1, B1⟩; have F4 := Lib.hid (F1.out.call S1 B1); clear S1 B1; have XT : EBox W4 W1.heap.size [.int .i64 3, .string (tx z), .int .i64 z.v, .int .i64 z.ln] := (F4.out.bx _ (List.mem_cons_self ..)).1; have x0 := XT.cell (i := 0) rfl; have x1 := XT.cell (i := 1) rfl; have x2 := XT.cell (i := 2) rfl; have x3 := XT.cell (i := 3) rfl; clear XT; have F5 := Lib.hid (F4.out.tree (A := none) (n := 0) (l := []) (RdX.nil _ _ none)))
    | (with_reducible refine bset5 rk_ex rfl (F5.out.bx _ (List.mem_cons_of_mem _ (List.mem_cons_self ..))).1 rfl rfl ?_; intro V XV BV sV; have F6 := Lib.hid (F5.out.set (pre := [_]) XV BV sV); have h0 := XV.cell (i := 0) rfl; have h1 := XV.cell (i := 1) rfl; have h2 := XV.cell (i := 2) rfl; have h3 := XV.cell (i := 3) rfl; have h4 := XV.cell (i := 4) rfl; clear XV BV sV))
  exact bodyPost_ret (v := exV (.mk 1 0 ⟨#[]⟩ z.v []) none 0 0) (by simp [results, Tryz.results145, go_sem, Ex.k, Ex.o, Ex.s, Ex.v, h0, h1, h2, h3, h4]) rfl ⟨_, (fun _ => rfl), _, _, _, rfl, F6.out.fin (List.mem_cons_self ..), F6.out.st, F6.out.bb⟩

set_option maxRecDepth 100000 in
set_option maxHeartbeats 2000000 in
theorem primary_6 (m : Nat) (HG : PrN 40 (.ex 0) (m + 1)) (HA : PrA (m + 1)) (w : World) (b : Nat) (s : PS) (e : Ex) (s' : PS) (S : St w b s) (h0 : ¬ 0 < s.2) (n0 : ¬ acp ⟨#[40]⟩ s = true) (n1 : ¬ acp ⟨#[116, 114, 117, 101]⟩ s = true) (n2 : ¬ acp ⟨#[102, 97, 108, 115, 101]⟩ s = true) (k2 : ¬ (pk s).k = 2) (k3 : ¬ (pk s).k = 3) (t1 : tyw (tx (pk s)).toList = true) (h : pe m (.ca (tx (pk s))) (xp ⟨#[40]⟩ (adv s)) = some (e, s')) :
    Calls Tryz.prog 145 #[ptr b] w (GX w b e s') := by
  have F0 := Lib.hid ((Fr.start0 S).box zX 42)
  have CP := Lib.hid (peek_b _ b s F0.out.st)
  obtain ⟨z, hz⟩ : ∃ z, hdT s.1 = z := ⟨_, rfl⟩
  rw [hz] at CP
  have hd : decide (0 < s.2) = false := decide_eq_false (h0)
  have hpk : pk s = z := by unfold pk; rw [if_neg h0, hz]
  rw [hpk] at k2 k3
  have HW1 : Hid (∀ W, St W b s → Calls Tryz.prog 70 #[ptr b, .string ⟨#[116, 114, 117, 101]⟩] W fun e w' => e = .returned (.bool false) ∧ Below W.heap.size W w') := Lib.hid (fun W S => by have := word_b W b s ⟨#[116, 114, 117, 101]⟩ S (by decide) (by decide); rw [show acp ⟨#[116, 114, 117, 101]⟩ s = false from by simpa using n1] at this; exact this)
  have HW2 : Hid (∀ W, St W b s → Calls Tryz.prog 70 #[ptr b, .string ⟨#[102, 97, 108, 115, 101]⟩] W fun e w' => e = .returned (.bool false) ∧ Below W.heap.size W w') := Lib.hid (fun W S => by have := word_b W b s ⟨#[102, 97, 108, 115, 101]⟩ S (by decide) (by decide); rw [show acp ⟨#[102, 97, 108, 115, 101]⟩ s = false from by simpa using n2] at this; exact this)
  have HT := Lib.hid (fun W S => takes_no W b s ⟨#[40]⟩ S (by decide) (by decide) (by simpa using n0))
  have hkw : z.k = 1 := by
    have hc := tyw_cls t1
    have ha : acp (tx (pk s)) s = true := acp_iff.2 rfl
    have := acp_k (k := 1) S.gd ha hc.2 (.inl ⟨rfl, hc.1⟩)
    rw [hz] at this
    exact this
  have HNX := Lib.hid (fun W S => next_yes W b s S h0 (pk_tx_gd (s := s) (tyw_cls t1).2 F0.out.st.gd).2)
  rw [hpk] at t1 h
  have htw := Lib.hid t1
  obtain ⟨j, rfl⟩ : ∃ q, m = q + 1 := by cases m with | zero => cases h | succ m => exact ⟨m, rfl⟩
  rw [pe] at h
  obtain ⟨⟨y, s3⟩, hq, h2⟩ := bind_some h
  obtain ⟨rfl, rfl⟩ := some_pair h2
  have HE := Lib.hid (fun W S => HA j (by omega) W b (xp ⟨#[40]⟩ (adv s)) y s3 S hq)
  rw [hkw] at CP
  clear S h h2 hq HG HA hz hpk h0 n0 n1 n2 k2 k3 t1 hkw
  go_enter Tryz.func145, Tryz.ntmps145
  go_wp2_with (first
    | (go_at_call 76; (with_reducible refine CP.out.mono ?_); rintro _ W1 ⟨rfl, B1⟩; have F1 := Lib.hid ((F0.out.below B1).box #[.int .i64 1, .string (tx z), .int .i64 z.v, .int .i64 z.ln] 60); obtain ⟨_, _, At, nt, ct, at_, toks, XX, hs⟩ := F1.out.st; have d2 := XX.c2; rw [hd] at d2; clear B1 XX hs)
    | (go_at_call 70; (with_reducible refine (HW1.out _ F1.out.st).mono ?_); rintro _ W2 ⟨rfl, B1⟩; have F2 := Lib.hid (F1.out.below B1); clear B1)
    | (go_at_call 70; (with_reducible refine (HW2.out _ F2.out.st).mono ?_); rintro _ W3 ⟨rfl, B1⟩; have F3 := Lib.hid (F2.out.below B1); clear B1)
    | (go_at_call 120; (with_reducible refine (HT.out _ F3.out.st).mono ?_); rintro _ W4 ⟨rfl, B1⟩; have F4 := Lib.hid (F3.out.below B1); clear B1; have XT : EBox W4 W1.heap.size [.int .i64 1, .string (tx z), .int .i64 z.v, .int .i64 z.ln] := (F4.out.bx _ (List.mem_cons_self ..)).1; have x0 := XT.cell (i := 0) rfl; have x1 := XT.cell (i := 1) rfl; have x2 := XT.cell (i := 2) rfl; have x3 := XT.cell (i := 3) rfl; clear XT)
    | (go_at_call 143; (refine (rIsTypeWord_q (tx z) _).mono ?_); rintro _ _ ⟨rfl, rfl⟩; rw [htw.out])
    | (go_at_call 71; (with_reducible refine (HNX.out _ F4.out.st).mono ?_); rintro _ W5 ⟨rfl, S1, B1⟩; have F5 := Lib.hid (F4.out.call S1 B1); clear S1 B1)
    | (go_at_call 72; (with_reducible refine (need_b _ b _ ⟨#[40]⟩ F5.out.st (by decide) (by decide)).mono ?_); rintro _ W6 ⟨rfl, S1, B1⟩; have F6 := Lib.hid (F5.out.call S1 B1); clear S1 B1))
  refine wp_region_treeC (fun V => V.rangeAt W1.heap.size 0 [.int .i64 1, .string (tx z), .int .i64 z.v, .int .i64 z.ln]) (.read 0 (.read 1 (.read 2 (.fork1 3 (.read 4 (.fork1 5 .nil)))))) (by kernel_rfl) (by kernel_rfl) (fun V hB => ((F6.out.below hB).bx _ (List.mem_cons_self ..)).1.1) ?_
  intro V0 B
  replace F6 := Lib.hid (F6.out.below B)
  clear B x0 x1 x2 x3
  refine tree_read rfl ?_
  refine wpQuiet_step (fun K hK => ?_)
  rw [if_pos (by rfl)]
  refine quiet_tval (.pointer (some ⟨W1.heap.size, 1, none⟩)) (fun W hW => by simp [execOp, go_sem]) ?_
  go_simp
  refine hK _ ?_
  clear hK K
  refine wpQuiet_nil ?_
  refine tree_read rfl ?_
  refine wpQuiet_step (fun K hK => ?_)
  rw [if_pos (by rfl)]
  refine quiet_tval (.string (tx z)) (fun W hW => by have h9 : W.cell? ⟨W1.heap.size, 1, none⟩ = some (.string (tx z)) := (by have := hW 1 _ rfl; simpa using this); simp [execOp, go_sem, h9]) ?_
  go_simp
  refine hK _ ?_
  clear hK K
  refine wpQuiet_nil ?_
  refine tree_read rfl ?_
  refine wpQuiet_step (fun K hK => ?_)
  rw [if_pos (by rfl)]
  first | refine quiet_move _ rfl ?_ | refine quiet_assign _ rfl ?_
  go_simp
  refine hK _ ?_
  clear hK K
  refine wpQuiet_nil ?_
  refine tree_one rfl ?_
  go_wp2_with ((go_at_call 153; (with_reducible refine (HE.out _ F6.out.st).mono ?_); rintro _ W8 ⟨A1, n1, c1, l1, rfl, hx, R, S1, B1⟩; have F7 := Lib.hid (F6.out.got0 S1 B1 R); have HX1 := Lib.hid hx; clear R S1 B1 hx))
  refine ⟨(F7.out.bx _ (List.mem_cons_self ..)).1.1, ?_⟩
  refine tree_read rfl ?_
  refine wpQuiet_step (fun K hK => ?_)
  rw [if_pos (by rfl)]
  refine quiet_tval (.agg #[.int .i64 7, .int .i64 0, .string (tx z), .int .i64 0, .slice A1 n1 c1]) (fun W hW => by simp [execOp, go_sem]) ?_
  go_simp
  refine hK _ ?_
  clear hK K
  refine wpQuiet_nil ?_
  refine tree_one rfl ?_
  go_wp2_with ((refine bset5 rk_ex rfl (F7.out.bx _ (List.mem_cons_of_mem _ (List.mem_cons_self ..))).1 rfl rfl ?_; intro V XV BV sV; have F8 := Lib.hid (F7.out.set (pre := [_]) XV BV sV); have h0 := XV.cell (i := 0) rfl; have h1 := XV.cell (i := 1) rfl; have h2 := XV.cell (i := 2) rfl; have h3 := XV.cell (i := 3) rfl; have h4 := XV.cell (i := 4) rfl; clear XV BV sV))
  refine ⟨(F8.out.bx _ (List.mem_cons_self ..)).1.1, ?_⟩
  refine tree_nil ?_
  go_wp2_with fail
  exact bodyPost_ret (v := exV (.mk 7 0 (tx z) 0 l1) A1 n1 c1) (by simp [results, Tryz.results145, go_sem, Ex.k, Ex.o, Ex.s, Ex.v, h0, h1, h2, h3, h4]) rfl ⟨_, (fun q => by rw [HX1.out q]), _, _, _, rfl, F8.out.fin (List.mem_cons_self ..), F8.out.st, F8.out.bb⟩

set_option maxRecDepth 100000 in
set_option maxHeartbeats 2000000 in
theorem primary_7a (m : Nat) (HG : PrN 40 (.ex 0) (m + 1)) (HA : PrA (m + 1)) (w : World) (b : Nat) (s : PS) (e : Ex) (s' : PS) (S : St w b s) (h0 : ¬ 0 < s.2) (n0 : ¬ acp ⟨#[40]⟩ s = true) (n1 : ¬ acp ⟨#[116, 114, 117, 101]⟩ s = true) (n2 : ¬ acp ⟨#[102, 97, 108, 115, 101]⟩ s = true) (k2 : ¬ (pk s).k = 2) (k3 : ¬ (pk s).k = 3) (kk : (pk s).k = 1) (t0 : ¬ tyw (tx (pk s)).toList = true) (h1 : acp ⟨#[40]⟩ (nmS s) = true) (h : pe m (.ca (nmT s)) (adv (nmS s)) = some (e, s')) :
    Calls Tryz.prog 145 #[ptr b] w (GX w b e s') := by
  have F0 := Lib.hid ((Fr.start0 S).box zX 42)
  have CP := Lib.hid (peek_b _ b s F0.out.st)
  obtain ⟨z, hz⟩ : ∃ z, hdT s.1 = z := ⟨_, rfl⟩
  rw [hz] at CP
  have hd : decide (0 < s.2) = false := decide_eq_false (h0)
  have hpk : pk s = z := by unfold pk; rw [if_neg h0, hz]
  rw [hpk] at k2 k3
  have HW1 : Hid (∀ W, St W b s → Calls Tryz.prog 70 #[ptr b, .string ⟨#[116, 114, 117, 101]⟩] W fun e w' => e = .returned (.bool false) ∧ Below W.heap.size W w') := Lib.hid (fun W S => by have := word_b W b s ⟨#[116, 114, 117, 101]⟩ S (by decide) (by decide); rw [show acp ⟨#[116, 114, 117, 101]⟩ s = false from by simpa using n1] at this; exact this)
  have HW2 : Hid (∀ W, St W b s → Calls Tryz.prog 70 #[ptr b, .string ⟨#[102, 97, 108, 115, 101]⟩] W fun e w' => e = .returned (.bool false) ∧ Below W.heap.size W w') := Lib.hid (fun W S => by have := word_b W b s ⟨#[102, 97, 108, 115, 101]⟩ S (by decide) (by decide); rw [show acp ⟨#[102, 97, 108, 115, 101]⟩ s = false from by simpa using n2] at this; exact this)
  have HT := Lib.hid (fun W S => takes_no W b s ⟨#[40]⟩ S (by decide) (by decide) (by simpa using n0))
  rw [hpk] at kk t0
  rw [kk] at CP
  have htw : Hid (tyw (tx z).toList = false) := Lib.hid (by simpa using t0)
  have CA := Lib.hid (fun W S => takes_yes W b (nmS s) ⟨#[40]⟩ S (by decide) (by decide) h1)
  obtain ⟨j, rfl⟩ : ∃ q, m = q + 1 := by cases m with | zero => cases h | succ m => exact ⟨m, rfl⟩
  rw [pe] at h
  obtain ⟨⟨y, s3⟩, hq, h2⟩ := bind_some h
  obtain ⟨rfl, rfl⟩ := some_pair h2
  have HE := Lib.hid (fun W S => HA j (by omega) W b (adv (nmS s)) y s3 S hq)
  clear S h h1 h2 hq HG HA hz hpk h0 n0 n1 n2 k2 k3 t0 kk
  go_enter Tryz.func145, Tryz.ntmps145
  go_wp2_with (first
    | (go_at_call 76; (with_reducible refine CP.out.mono ?_); rintro _ W1 ⟨rfl, B1⟩; have F1 := Lib.hid ((F0.out.below B1).box #[.int .i64 1, .string (tx z), .int .i64 z.v, .int .i64 z.ln] 60); obtain ⟨_, _, At, nt, ct, at_, toks, XX, hs⟩ := F1.out.st; have d2 := XX.c2; rw [hd] at d2; clear B1 XX hs)
    | (go_at_call 70; (with_reducible refine (HW1.out _ F1.out.st).mono ?_); rintro _ W2 ⟨rfl, B1⟩; have F2 := Lib.hid (F1.out.below B1); clear B1)
    | (go_at_call 70; (with_reducible refine (HW2.out _ F2.out.st).mono ?_); rintro _ W3 ⟨rfl, B1⟩; have F3 := Lib.hid (F2.out.below B1); clear B1)
    | (go_at_call 120; (with_reducible refine (HT.out _ F3.out.st).mono ?_); rintro _ W4 ⟨rfl, B1⟩; have F4 := Lib.hid (F3.out.below B1); clear B1; have XT : EBox W4 W1.heap.size [.int .i64 1, .string (tx z), .int .i64 z.v, .int .i64 z.ln] := (F4.out.bx _ (List.mem_cons_self ..)).1; have x0 := XT.cell (i := 0) rfl; have x1 := XT.cell (i := 1) rfl; have x2 := XT.cell (i := 2) rfl; have x3 := XT.cell (i := 3) rfl; clear XT)
    | (go_at_call 143; (refine (rIsTypeWord_q (tx z) _).mono ?_); rintro _ _ ⟨rfl, rfl⟩; rw [htw.out])
    | (go_at_call 118; (with_reducible refine (name_b _ b _ F4.out.st).mono ?_); rintro _ W5 ⟨rfl, S1, B1⟩; have F5 := Lib.hid (F4.out.call S1 B1); clear S1 B1)
    | (go_at_call 120; (with_reducible refine (CA.out _ F5.out.st).mono ?_); rintro _ W6 ⟨rfl, S1, B1⟩; have F6 := Lib.hid (F5.out.call S1 B1); clear S1 B1)
    | (go_at_call 153; (with_reducible refine (HE.out _ F6.out.st).mono ?_); rintro _ W8 ⟨A1, n1, c1, l1, rfl, hx, R, S1, B1⟩; have F7 := Lib.hid (F6.out.got0 S1 B1 R); have HX1 := Lib.hid hx; clear R S1 B1 hx)
    | (with_reducible refine bset5 rk_ex rfl (F7.out.bx _ (List.mem_cons_of_mem _ (List.mem_cons_self ..))).1 rfl rfl ?_; intro V XV BV sV; have F8 := Lib.hid (F7.out.set (pre := [_]) XV BV sV); have h0 := XV.cell (i := 0) rfl; have h1 := XV.cell (i := 1) rfl; have h2 := XV.cell (i := 2) rfl; have h3 := XV.cell (i := 3) rfl; have h4 := XV.cell (i := 4) rfl; clear XV BV sV))
  exact bodyPost_ret (v := exV (.mk 7 0 (nmT s) 0 l1) A1 n1 c1) (by simp [results, Tryz.results145, go_sem, Ex.k, Ex.o, Ex.s, Ex.v, h0, h1, h2, h3, h4]) rfl ⟨_, (fun q => by rw [HX1.out q]), _, _, _, rfl, F8.out.fin (List.mem_cons_self ..), F8.out.st, F8.out.bb⟩

set_option maxRecDepth 100000 in
set_option maxHeartbeats 2000000 in
theorem primary_8a (m : Nat) (HG : PrN 40 (.ex 0) (m + 1)) (HA : PrA (m + 1)) (w : World) (b : Nat) (s : PS) (e : Ex) (s' : PS) (S : St w b s) (h0 : ¬ 0 < s.2) (n0 : ¬ acp ⟨#[40]⟩ s = true) (n1 : ¬ acp ⟨#[116, 114, 117, 101]⟩ s = true) (n2 : ¬ acp ⟨#[102, 97, 108, 115, 101]⟩ s = true) (k2 : ¬ (pk s).k = 2) (k3 : ¬ (pk s).k = 3) (kk : (pk s).k = 1) (t0 : ¬ tyw (tx (pk s)).toList = true) (h1 : ¬ acp ⟨#[40]⟩ (nmS s) = true) (h : some (Ex.mk 4 0 (nmT s) 0 [], nmS s) = some (e, s')) :
    Calls Tryz.prog 145 #[ptr b] w (GX w b e s') := by
  have F0 := Lib.hid ((Fr.start0 S).box zX 42)
  have CP := Lib.hid (peek_b _ b s F0.out.st)
  obtain ⟨z, hz⟩ : ∃ z, hdT s.1 = z := ⟨_, rfl⟩
  rw [hz] at CP
  have hd : decide (0 < s.2) = false := decide_eq_false (h0)
  have hpk : pk s = z := by unfold pk; rw [if_neg h0, hz]
  rw [hpk] at k2 k3
  have HW1 : Hid (∀ W, St W b s → Calls Tryz.prog 70 #[ptr b, .string ⟨#[116, 114, 117, 101]⟩] W fun e w' => e = .returned (.bool false) ∧ Below W.heap.size W w') := Lib.hid (fun W S => by have := word_b W b s ⟨#[116, 114, 117, 101]⟩ S (by decide) (by decide); rw [show acp ⟨#[116, 114, 117, 101]⟩ s = false from by simpa using n1] at this; exact this)
  have HW2 : Hid (∀ W, St W b s → Calls Tryz.prog 70 #[ptr b, .string ⟨#[102, 97, 108, 115, 101]⟩] W fun e w' => e = .returned (.bool false) ∧ Below W.heap.size W w') := Lib.hid (fun W S => by have := word_b W b s ⟨#[102, 97, 108, 115, 101]⟩ S (by decide) (by decide); rw [show acp ⟨#[102, 97, 108, 115, 101]⟩ s = false from by simpa using n2] at this; exact this)
  have HT := Lib.hid (fun W S => takes_no W b s ⟨#[40]⟩ S (by decide) (by decide) (by simpa using n0))
  rw [hpk] at kk t0
  rw [kk] at CP
  obtain ⟨rfl, rfl⟩ := some_pair h
  have htw : Hid (tyw (tx z).toList = false) := Lib.hid (by simpa using t0)
  have CA := Lib.hid (fun W S => takes_no W b (nmS s) ⟨#[40]⟩ S (by decide) (by decide) (by simpa using h1))
  clear S h h1 HG HA hz hpk h0 n0 n1 n2 k2 k3 t0 kk
  go_enter Tryz.func145, Tryz.ntmps145
  go_wp2_with (first
    | (go_at_call 76; (with_reducible refine CP.out.mono ?_); rintro _ W1 ⟨rfl, B1⟩; have F1 := Lib.hid ((F0.out.below B1).box #[.int .i64 1, .string (tx z), .int .i64 z.v, .int .i64 z.ln] 60); obtain ⟨_, _, At, nt, ct, at_, toks, XX, hs⟩ := F1.out.st; have d2 := XX.c2; rw [hd] at d2; clear B1 XX hs)
    | (go_at_call 70; (with_reducible refine (HW1.out _ F1.out.st).mono ?_); rintro _ W2 ⟨rfl, B1⟩; have F2 := Lib.hid (F1.out.below B1); clear B1)
    | (go_at_call 70; (with_reducible refine (HW2.out _ F2.out.st).mono ?_); rintro _ W3 ⟨rfl, B1⟩; have F3 := Lib.hid (F2.out.below B1); clear B1)
    | (go_at_call 120; (with_reducible refine (HT.out _ F3.out.st).mono ?_); rintro _ W4 ⟨rfl, B1⟩; have F4 := Lib.hid (F3.out.below B1); clear B1; have XT : EBox W4 W1.heap.size [.int .i64 1, .string (tx z), .int .i64 z.v, .int .i64 z.ln] := (F4.out.bx _ (List.mem_cons_self ..)).1; have x0 := XT.cell (i := 0) rfl; have x1 := XT.cell (i := 1) rfl; have x2 := XT.cell (i := 2) rfl; have x3 := XT.cell (i := 3) rfl; clear XT)
    | (go_at_call 143; (refine (rIsTypeWord_q (tx z) _).mono ?_); rintro _ _ ⟨rfl, rfl⟩; rw [htw.out])
    | (go_at_call 118; (with_reducible refine (name_b _ b _ F4.out.st).mono ?_); rintro _ W5 ⟨rfl, S1, B1⟩; have F5 := Lib.hid (F4.out.call S1 B1); clear S1 B1)
    | (go_at_call 120; (with_reducible refine (CA.out _ F5.out.st).mono ?_); rintro _ W6 ⟨rfl, B1⟩; have F6 := Lib.hid ((F5.out.below B1).tree (A := none) (n := 0) (l := []) (RdX.nil _ _ none)); clear B1)
    | (with_reducible refine bset5 rk_ex rfl (F6.out.bx _ (List.mem_cons_of_mem _ (List.mem_cons_self ..))).1 rfl rfl ?_; intro V XV BV sV; have F7 := Lib.hid (F6.out.set (pre := [_]) XV BV sV); have h0 := XV.cell (i := 0) rfl; have h1 := XV.cell (i := 1) rfl; have h2 := XV.cell (i := 2) rfl; have h3 := XV.cell (i := 3) rfl; have h4 := XV.cell (i := 4) rfl; clear XV BV sV))
  exact bodyPost_ret (v := exV (.mk 4 0 (nmT s) 0 []) none 0 0) (by simp [results, Tryz.results145, go_sem, Ex.k, Ex.o, Ex.s, Ex.v, h0, h1, h2, h3, h4]) rfl ⟨_, (fun _ => rfl), _, _, _, rfl, F7.out.fin (List.mem_cons_self ..), F7.out.st, F7.out.bb⟩

set_option maxRecDepth 100000 in
set_option maxHeartbeats 2000000 in
theorem primary_7b (m : Nat) (HG : PrN 40 (.ex 0) (m + 1)) (HA : PrA (m + 1)) (w : World) (b : Nat) (s : PS) (e : Ex) (s' : PS) (S : St w b s) (h0 : ¬ 0 < s.2) (n0 : ¬ acp ⟨#[40]⟩ s = true) (n1 : ¬ acp ⟨#[116, 114, 117, 101]⟩ s = true) (n2 : ¬ acp ⟨#[102, 97, 108, 115, 101]⟩ s = true) (k2 : ¬ (pk s).k = 2) (k3 : ¬ (pk s).k = 3) (kk : ¬ (pk s).k = 1) (t0 : ¬ tyw (tx (pk s)).toList = true) (h1 : acp ⟨#[40]⟩ (nmS s) = true) (h : pe m (.ca (nmT s)) (adv (nmS s)) = some (e, s')) :
    Calls Tryz.prog 145 #[ptr b] w (GX w b e s') := by
  have F0 := Lib.hid ((Fr.start0 S).box zX 42)
  have CP := Lib.hid (peek_b _ b s F0.out.st)
  obtain ⟨z, hz⟩ : ∃ z, hdT s.1 = z := ⟨_, rfl⟩
  rw [hz] at CP
  have hd : decide (0 < s.2) = false := decide_eq_false (h0)
  have hpk : pk s = z := by unfold pk; rw [if_neg h0, hz]
  rw [hpk] at k2 k3
  have HW1 : Hid (∀ W, St W b s → Calls Tryz.prog 70 #[ptr b, .string ⟨#[116, 114, 117, 101]⟩] W fun e w' => e = .returned (.bool false) ∧ Below W.heap.size W w') := Lib.hid (fun W S => by have := word_b W b s ⟨#[116, 114, 117, 101]⟩ S (by decide) (by decide); rw [show acp ⟨#[116, 114, 117, 101]⟩ s = false from by simpa using n1] at this; exact this)
  have HW2 : Hid (∀ W, St W b s → Calls Tryz.prog 70 #[ptr b, .string ⟨#[102, 97, 108, 115, 101]⟩] W fun e w' => e = .returned (.bool false) ∧ Below W.heap.size W w') := Lib.hid (fun W S => by have := word_b W b s ⟨#[102, 97, 108, 115, 101]⟩ S (by decide) (by decide); rw [show acp ⟨#[102, 97, 108, 115, 101]⟩ s = false from by simpa using n2] at this; exact this)
  have HT := Lib.hid (fun W S => takes_no W b s ⟨#[40]⟩ S (by decide) (by decide) (by simpa using n0))
  rw [hpk] at kk t0
  have e1 : (z.k == 1) = false := beq_eq_false_iff_ne.2 kk
  have e2 : (z.k == 2) = false := beq_eq_false_iff_ne.2 k2
  have e3 : (z.k == 3) = false := beq_eq_false_iff_ne.2 k3
  have htw : Hid (tyw (tx z).toList = false) := Lib.hid (by simpa using t0)
  have CA := Lib.hid (fun W S => takes_yes W b (nmS s) ⟨#[40]⟩ S (by decide) (by decide) h1)
  obtain ⟨j, rfl⟩ : ∃ q, m = q + 1 := by cases m with | zero => cases h | succ m => exact ⟨m, rfl⟩
  rw [pe] at h
  obtain ⟨⟨y, s3⟩, hq, h2⟩ := bind_some h
  obtain ⟨rfl, rfl⟩ := some_pair h2
  have HE := Lib.hid (fun W S => HA j (by omega) W b (adv (nmS s)) y s3 S hq)
  clear S h h1 h2 hq HG HA hz hpk h0 n0 n1 n2 k2 k3 t0 kk
  go_enter Tryz.func145, Tryz.ntmps145
  go_wp2_with (first
    | (go_at_call 76; (with_reducible refine CP.out.mono ?_); rintro _ W1 ⟨rfl, B1⟩; have F1 := Lib.hid ((F0.out.below B1).box #[.int .i64 z.k, .string (tx z), .int .i64 z.v, .int .i64 z.ln] 60); obtain ⟨_, _, At, nt, ct, at_, toks, XX, hs⟩ := F1.out.st; have d2 := XX.c2; rw [hd] at d2; clear B1 XX hs)
    | (go_at_call 70; (with_reducible refine (HW1.out _ F1.out.st).mono ?_); rintro _ W2 ⟨rfl, B1⟩; have F2 := Lib.hid (F1.out.below B1); clear B1)
    | (go_at_call 70; (with_reducible refine (HW2.out _ F2.out.st).mono ?_); rintro _ W3 ⟨rfl, B1⟩; have F3 := Lib.hid (F2.out.below B1); clear B1)
    | (go_at_call 120; (with_reducible refine (HT.out _ F3.out.st).mono ?_); rintro _ W4 ⟨rfl, B1⟩; have F4 := Lib.hid (F3.out.below B1); clear B1; have XT : EBox W4 W1.heap.size [.int .i64 z.k, .string (tx z), .int .i64 z.v, .int .i64 z.ln] := (F4.out.bx _ (List.mem_cons_self ..)).1; have x0 := XT.cell (i := 0) rfl; have x1 := XT.cell (i := 1) rfl; have x2 := XT.cell (i := 2) rfl; have x3 := XT.cell (i := 3) rfl; clear XT)
    | (go_at_call 118; (with_reducible refine (name_b _ b _ F4.out.st).mono ?_); rintro _ W5 ⟨rfl, S1, B1⟩; have F5 := Lib.hid (F4.out.call S1 B1); clear S1 B1)
    | (go_at_call 120; (with_reducible refine (CA.out _ F5.out.st).mono ?_); rintro _ W6 ⟨rfl, S1, B1⟩; have F6 := Lib.hid (F5.out.call S1 B1); clear S1 B1)
    | (go_at_call 153; (with_reducible refine (HE.out _ F6.out.st).mono ?_); rintro _ W8 ⟨A1, n1, c1, l1, rfl, hx, R, S1, B1⟩; have F7 := Lib.hid (F6.out.got0 S1 B1 R); have HX1 := Lib.hid hx; clear R S1 B1 hx)
    | (with_reducible refine bset5 rk_ex rfl (F7.out.bx _ (List.mem_cons_of_mem _ (List.mem_cons_self ..))).1 rfl rfl ?_; intro V XV BV sV; have F8 := Lib.hid (F7.out.set (pre := [_]) XV BV sV); have h0 := XV.cell (i := 0) rfl; have h1 := XV.cell (i := 1) rfl; have h2 := XV.cell (i := 2) rfl; have h3 := XV.cell (i := 3) rfl; have h4 := XV.cell (i := 4) rfl; clear XV BV sV))
  exact bodyPost_ret (v := exV (.mk 7 0 (nmT s) 0 l1) A1 n1 c1) (by simp [results, Tryz.results145, go_sem, Ex.k, Ex.o, Ex.s, Ex.v, h0, h1, h2, h3, h4]) rfl ⟨_, (fun q => by rw [HX1.out q]), _, _, _, rfl, F8.out.fin (List.mem_cons_self ..), F8.out.st, F8.out.bb⟩

set_option maxRecDepth 100000 in
set_option maxHeartbeats 2000000 in
theorem primary_8b (m : Nat) (HG : PrN 40 (.ex 0) (m + 1)) (HA : PrA (m + 1)) (w : World) (b : Nat) (s : PS) (e : Ex) (s' : PS) (S : St w b s) (h0 : ¬ 0 < s.2) (n0 : ¬ acp ⟨#[40]⟩ s = true) (n1 : ¬ acp ⟨#[116, 114, 117, 101]⟩ s = true) (n2 : ¬ acp ⟨#[102, 97, 108, 115, 101]⟩ s = true) (k2 : ¬ (pk s).k = 2) (k3 : ¬ (pk s).k = 3) (kk : ¬ (pk s).k = 1) (t0 : ¬ tyw (tx (pk s)).toList = true) (h1 : ¬ acp ⟨#[40]⟩ (nmS s) = true) (h : some (Ex.mk 4 0 (nmT s) 0 [], nmS s) = some (e, s')) :
    Calls Tryz.prog 145 #[ptr b] w (GX w b e s') := by
  have F0 := Lib.hid ((Fr.start0 S).box zX 42)
  have CP := Lib.hid (peek_b _ b s F0.out.st)
  obtain ⟨z, hz⟩ : ∃ z, hdT s.1 = z := ⟨_, rfl⟩
  rw [hz] at CP
  have hd : decide (0 < s.2) = false := decide_eq_false (h0)
  have hpk : pk s = z := by unfold pk; rw [if_neg h0, hz]
  rw [hpk] at k2 k3
  have HW1 : Hid (∀ W, St W b s → Calls Tryz.prog 70 #[ptr b, .string ⟨#[116, 114, 117, 101]⟩] W fun e w' => e = .returned (.bool false) ∧ Below W.heap.size W w') := Lib.hid (fun W S => by have := word_b W b s ⟨#[116, 114, 117, 101]⟩ S (by decide) (by decide); rw [show acp ⟨#[116, 114, 117, 101]⟩ s = false from by simpa using n1] at this; exact this)
  have HW2 : Hid (∀ W, St W b s → Calls Tryz.prog 70 #[ptr b, .string ⟨#[102, 97, 108, 115, 101]⟩] W fun e w' => e = .returned (.bool false) ∧ Below W.heap.size W w') := Lib.hid (fun W S => by have := word_b W b s ⟨#[102, 97, 108, 115, 101]⟩ S (by decide) (by decide); rw [show acp ⟨#[102, 97, 108, 115, 101]⟩ s = false from by simpa using n2] at this; exact this)
  have HT := Lib.hid (fun W S => takes_no W b s ⟨#[40]⟩ S (by decide) (by decide) (by simpa using n0))
  rw [hpk] at kk t0
  have e1 : (z.k == 1) = false := beq_eq_false_iff_ne.2 kk
  have e2 : (z.k == 2) = false := beq_eq_false_iff_ne.2 k2
  have e3 : (z.k == 3) = false := beq_eq_false_iff_ne.2 k3
  obtain ⟨rfl, rfl⟩ := some_pair h
  have htw : Hid (tyw (tx z).toList = false) := Lib.hid (by simpa using t0)
  have CA := Lib.hid (fun W S => takes_no W b (nmS s) ⟨#[40]⟩ S (by decide) (by decide) (by simpa using h1))
  clear S h h1 HG HA hz hpk h0 n0 n1 n2 k2 k3 t0 kk
  go_enter Tryz.func145, Tryz.ntmps145
  go_wp2_with (first
    | (go_at_call 76; (with_reducible refine CP.out.mono ?_); rintro _ W1 ⟨rfl, B1⟩; have F1 := Lib.hid ((F0.out.below B1).box #[.int .i64 z.k, .string (tx z), .int .i64 z.v, .int .i64 z.ln] 60); obtain ⟨_, _, At, nt, ct, at_, toks, XX, hs⟩ := F1.out.st; have d2 := XX.c2; rw [hd] at d2; clear B1 XX hs)
    | (go_at_call 70; (with_reducible refine (HW1.out _ F1.out.st).mono ?_); rintro _ W2 ⟨rfl, B1⟩; have F2 := Lib.hid (F1.out.below B1); clear B1)
    | (go_at_call 70; (with_reducible refine (HW2.out _ F2.out.st).mono ?_); rintro _ W3 ⟨rfl, B1⟩; have F3 := Lib.hid (F2.out.below B1); clear B1)
    | (go_at_call 120; (with_reducible refine (HT.out _ F3.out.st).mono ?_); rintro _ W4 ⟨rfl, B1⟩; have F4 := Lib.hid (F3.out.below B1); clear B1; have XT : EBox W4 W1.heap.size [.int .i64 z.k, .string (tx z), .int .i64 z.v, .int .i64 z.ln] := (F4.out.bx _ (List.mem_cons_self ..)).1; have x0 := XT.cell (i := 0) rfl; have x1 := XT.cell (i := 1) rfl; have x2 := XT.cell (i := 2) rfl; have x3 := XT.cell (i := 3) rfl; clear XT)
    | (go_at_call 118; (with_reducible refine (name_b _ b _ F4.out.st).mono ?_); rintro _ W5 ⟨rfl, S1, B1⟩; have F5 := Lib.hid (F4.out.call S1 B1); clear S1 B1)
    | (go_at_call 120; (with_reducible refine (CA.out _ F5.out.st).mono ?_); rintro _ W6 ⟨rfl, B1⟩; have F6 := Lib.hid ((F5.out.below B1).tree (A := none) (n := 0) (l := []) (RdX.nil _ _ none)); clear B1)
    | (with_reducible refine bset5 rk_ex rfl (F6.out.bx _ (List.mem_cons_of_mem _ (List.mem_cons_self ..))).1 rfl rfl ?_; intro V XV BV sV; have F7 := Lib.hid (F6.out.set (pre := [_]) XV BV sV); have h0 := XV.cell (i := 0) rfl; have h1 := XV.cell (i := 1) rfl; have h2 := XV.cell (i := 2) rfl; have h3 := XV.cell (i := 3) rfl; have h4 := XV.cell (i := 4) rfl; clear XV BV sV))
  exact bodyPost_ret (v := exV (.mk 4 0 (nmT s) 0 []) none 0 0) (by simp [results, Tryz.results145, go_sem, Ex.k, Ex.o, Ex.s, Ex.v, h0, h1, h2, h3, h4]) rfl ⟨_, (fun _ => rfl), _, _, _, rfl, F7.out.fin (List.mem_cons_self ..), F7.out.st, F7.out.bb⟩

theorem primary_s (m : Nat) (HG : PrN 40 (.ex 0) m) (HA : PrA m) (w : World) (b : Nat) (s : PS) (e : Ex) (s' : PS) (S : St w b s) (h : pe m .pr s = some (e, s')) : Calls Tryz.prog 145 #[ptr b] w (GX w b e s') := by
  obtain ⟨m, rfl⟩ : ∃ q, m = q + 1 := by cases m with | zero => cases h | succ m => exact ⟨m, rfl⟩
  by_cases hb : 0 < s.2
  · exact primary_0 m HG HA w b s e s' S hb (pe_bad _ _ _ _ _ hb h)
  · rw [pe] at h
    split at h
    · rename_i n0; exact primary_1 m HG HA w b s e s' S n0 h
    · rename_i n0
      split at h
      · rename_i n1; exact primary_2 m HG HA w b s e s' S n1 h
      · rename_i n1
        split at h
        · rename_i n2; exact primary_3 m HG HA w b s e s' S n2 h
        · rename_i n2
          split at h
          · rename_i k2; exact primary_4 m HG HA w b s e s' S k2 h
          · rename_i k2
            split at h
            · rename_i k3; exact primary_5 m HG HA w b s e s' S k3 h
            · rename_i k3
              split at h
              · rename_i t0; exact primary_6 m HG HA w b s e s' S hb n0 n1 n2 k2 k3 t0 h
              · rename_i t0
                by_cases kk : (pk s).k = 1
                · split at h
                  · rename_i a0; exact primary_7a m HG HA w b s e s' S hb n0 n1 n2 k2 k3 kk t0 a0 h
                  · rename_i a0; exact primary_8a m HG HA w b s e s' S hb n0 n1 n2 k2 k3 kk t0 a0 h
                · split at h
                  · rename_i a0; exact primary_7b m HG HA w b s e s' S hb n0 n1 n2 k2 k3 kk t0 a0 h
                  · rename_i a0; exact primary_8b m HG HA w b s e s' S hb n0 n1 n2 k2 k3 kk t0 a0 h

end Go.Proofs.YtjpkcgepdfpbnaaGreatDoor.Rf

/- The reader of expressions, whole; ends; ParseExpr of the reference. Written by tools/gen/genR8.py. -/
namespace Go.Proofs.YtjpkcgepdfpbnaaGreatDoor.Rf
open Go.RowKit Go.Sort Go.ChangeShapes Go.WideShapes
set_option linter.unusedVariables false

structure AllR (m : Nat) : Prop where
  un : PrN 101 .un m
  po : PrN 124 .po m
  pr : PrN 145 .pr m
  ar : PrA m
  bi : PrB m
  ex : PrN 40 (.ex 0) m

theorem prN_succ {g : FuncId} {nt : NT} {m : Nat} (h : PrN g nt m) (k : ∀ W b s e s', St W b s → pe m nt s = some (e, s') → Calls Tryz.prog g #[ptr b] W (GX W b e s')) : PrN g nt (m + 1) := fun j hj W b s e s' S hp => by
  rcases Nat.lt_succ_iff_lt_or_eq.1 hj with hj | rfl
  · exact h j hj W b s e s' S hp
  · exact k W b s e s' S hp

theorem allR : ∀ m : Nat, m ≤ 1000000000 → AllR m
  | 0, _ => by
    constructor <;> intro j hj <;> exact absurd hj (Nat.not_lt_zero _)
  | m + 1, hm => by
    have A := allR m (by omega)
    have hu : PrN 101 .un (m + 1) := prN_succ A.un fun W b s e s' S h => by
      cases m with
      | zero => cases h
      | succ m => exact unary_s m A.un A.po W b s e s' S h
    have hb : PrB (m + 1) := fun j hj k hk W b s e s' S hp => by
      rcases Nat.lt_succ_iff_lt_or_eq.1 hj with hj | rfl
      · exact A.bi j hj k hk W b s e s' S hp
      · unfold lvn at hp
        split at hp
        · rename_i q; exact binary_s k q j A.bi W b s e s' S hp
        · rename_i q
          obtain rfl : k = 7 := by omega
          exact binary_7 j hu W b s e s' S hp
    exact {
      un := hu
      bi := hb
      po := prN_succ A.po fun W b s e s' S h => postfix_s m A.pr A.ex W b s e s' S h
      pr := prN_succ A.pr fun W b s e s' S h => primary_s m A.ex A.ar W b s e s' S h
      ex := prN_succ A.ex fun W b s e s' S h => expr_s m hb W b s e s' S h
      ar := fun j hj W b s e s' S hp => by
        rcases Nat.lt_succ_iff_lt_or_eq.1 hj with hj | rfl
        · exact A.ar j hj W b s e s' S hp
        · exact arguments_s j (by omega) A.ex W b s e s' S hp }

set_option maxRecDepth 100000 in
set_option maxHeartbeats 2000000 in
theorem ends_b (w : World) (b : Nat) (s : PS) (S : St w b s) : Calls Tryz.prog 32 #[ptr b] w fun r w' => r = .returned (.tuple #[.int .i64 (if (pk s).k ≠ 5 then (fl s).2 else 0), .int .i64 (if (pk s).k ≠ 5 then 3 else 0)]) ∧ St w' b s ∧ Below w.heap.size w w' := by
  have S0 := Lib.hid S
  have CP := Lib.hid (fun W S => peek_b W b s S)
  obtain ⟨gd, hl, A, n, c, at_, toks, X, hs⟩ := S
  have c2 := X.c2
  have f0 := fld_k
  have f3 := fld_l
  clear X hs
  by_cases hb : 0 < s.2
  · have h5 : (pk s).k ≠ 5 := by rw [bad_pk hb]; decide
    have hln := hl hb
    rw [if_pos h5, if_pos h5, bad_fl hb, hln]
    rw [decide_eq_true hb] at c2
    obtain ⟨z, hz⟩ : ∃ z, hdT s.1 = z := ⟨_, rfl⟩
    rw [hz] at CP ⊢
    clear gd hl hb h5 hln hz
    go_enter Tryz.func32, Tryz.ntmps32
    go_wp2_with (go_at_call 76; (with_reducible refine (CP.out _ S0.out).mono ?_); rintro _ W1 ⟨rfl, B⟩; have B1 := Lib.hid B; clear B)
    refine bodyPost_ret (results_two rfl _ _ _) rfl ?_
    exact ⟨rfl, S0.out.on B1.out, B1.out⟩
  · rw [decide_eq_false hb] at c2
    have hpk : pk s = hdT s.1 := by unfold pk; rw [if_neg hb]
    have hfl : (fl s).2 = (hdT s.1).ln := by unfold fl; rw [if_neg hb]
    rw [hpk, hfl]
    obtain ⟨z, hz⟩ : ∃ z, hdT s.1 = z := ⟨_, rfl⟩
    rw [hz] at CP ⊢
    clear gd hl hb hpk hfl hz
    by_cases h5 : z.k = 5
    · rw [if_neg (by simpa using h5), if_neg (by simpa using h5)]
      rw [h5] at CP
      clear h5
      go_enter Tryz.func32, Tryz.ntmps32
      go_wp2_with (go_at_call 76; (with_reducible refine (CP.out _ S0.out).mono ?_); rintro _ W1 ⟨rfl, B⟩; have B1 := Lib.hid B; clear B)
      refine bodyPost_ret (results_two rfl _ _ _) rfl ?_
      exact ⟨rfl, S0.out.on B1.out, B1.out⟩
    · rw [if_pos h5, if_pos h5]
      have e5 : (z.k != 5) = true := bne_iff_ne.2 h5
      clear h5
      go_enter Tryz.func32, Tryz.ntmps32
      go_wp2_with (first
        | (go_at_call 76; (with_reducible refine (CP.out _ S0.out).mono ?_); rintro _ W1 ⟨rfl, B⟩; have B1 := Lib.hid B; have S1 := Lib.hid (S0.out.on B); clear B)
        | (go_at_call 76; (with_reducible refine (CP.out _ S1.out).mono ?_); rintro _ W2 ⟨rfl, B⟩; have B2 := Lib.hid (bon B1.out B); clear B))
      refine bodyPost_ret (results_two rfl _ _ _) rfl ?_
      exact ⟨rfl, S0.out.on B2.out, B2.out⟩

theorem St.made {W : World} {A : Option Addr} {n c : Nat} {toks : List Tk} (R : RdT W W.heap.size A n toks) (g : Gd toks) (hn : n ≤ 100000) : St (W.alloc (.cells #[.slice A n c, .int .i64 0, .bool false] 68)) W.heap.size (toks, 0) := by
  have X := EBox.made W #[.slice A n c, .int .i64 0, .bool false] 68
  exact ⟨g, fun h => absurd h (by show ¬ (0 : Int) < 0; decide), A, n, c, 0, toks, ⟨X.cell (i := 0) rfl, X.cell (i := 1) rfl, X.cell (i := 2) rfl, X.2, R.below (box_below _ _ _), by omega⟩, by simp⟩

set_option maxRecDepth 100000 in
set_option maxHeartbeats 2000000 in
theorem rparse_1 (s : ByteArray) (w : World) (hs : s.size ≤ 9223372036854775807) (h : (lexv (strL s)).2.2 ≠ 0) : Calls Tryz.prog 14 #[.string s] w (GivesP w (pxv (strL s))) := by
  rw [pxv_lex h]
  have X8 := Lib.hid (EBox.made w zX 42)
  have B0 := Lib.hid (box_below w zX 42)
  have CL := Lib.hid (fun W => rlex_b s W hs)
  have hq : ((lexv (strL s)).2.2 == 0) = false := beq_eq_false_iff_ne.2 h
  obtain ⟨L, hL⟩ : ∃ L, lexv (strL s) = L := ⟨_, rfl⟩
  rw [hL] at CL hq ⊢
  clear h hL
  go_enter Tryz.func14, Tryz.ntmps14
  go_wp2_with (first
    | (go_at_call 28; (refine (CL.out _).mono ?_); rintro _ W1 ⟨A, n, c, rfl, R, hc, B⟩; have R1 := Lib.hid R; have X8' := Lib.hid (X8.out.on (Nat.succ_pos _) B); have B1 := Lib.hid (B0.out.trans (B.mono B0.out.size)); clear R B hc)
    | (refine bset5 rk_ex rfl X8'.out rfl rfl ?_; intro V XV BV sV; have h0 := XV.cell (i := 0) rfl; have h1 := XV.cell (i := 1) rfl; have h2 := XV.cell (i := 2) rfl; have h3 := XV.cell (i := 3) rfl; have h4 := XV.cell (i := 4) rfl; have BW := Lib.hid BV; clear XV BV))
  exact bodyPost_ret (v := .tuple #[exV zE none 0 0, .int .i64 L.2.1, .int .i64 L.2.2]) (by simp [results, Tryz.results14, go_sem, Ex.k, Ex.o, Ex.s, Ex.v, zE, h0, h1, h2, h3, h4]) rfl ⟨_, _, _, rfl, RdX.nil _ _ _, B1.out.trans (BW.out.below (Nat.le_refl _) B1.out.size)⟩

set_option maxRecDepth 100000 in
set_option maxHeartbeats 2000000 in
theorem rparse_2 (s : ByteArray) (w : World) (hs : s.size ≤ 9223372036854775807) (h : ¬ (lexv (strL s)).2.2 ≠ 0) (h5 : (pk (pxq (lexv (strL s)).1).2).k ≠ 5) : Calls Tryz.prog 14 #[.string s] w (GivesP w (pxv (strL s))) := by
  rw [pxv_syn h h5]
  have X8 := Lib.hid (EBox.made w zX 42)
  have B0 := Lib.hid (box_below w zX 42)
  have CL := Lib.hid (fun W => rlex_b s W hs)
  obtain ⟨toks, hL⟩ : ∃ t, (lexv (strL s)).1 = t := ⟨_, rfl⟩
  have h0 : (lexv (strL s)).2.2 = 0 := by simpa using h
  have hgd := Lib.hid (lexv_gd (strL_rng s) h0)
  have hcnt := lexv_cnt (strL s)
  have hP := pxq_some hcnt
  obtain ⟨ln, hln⟩ : ∃ ln, (lexv (strL s)).2.1 = ln := ⟨_, rfl⟩
  have hl0 : lexv (strL s) = (toks, ln, 0) := by rw [← hL, ← hln, ← h0]
  rw [hL] at hgd hcnt hP h5 ⊢
  rw [hl0] at CL
  obtain ⟨e, he⟩ : ∃ e, (pxq toks).1 = e := ⟨_, rfl⟩
  obtain ⟨s1, hs1⟩ : ∃ s1, (pxq toks).2 = s1 := ⟨_, rfl⟩
  rw [he, hs1] at hP
  rw [hs1] at h5
  rw [hs1]
  have HE := Lib.hid (fun W b S => (allR 1000001 (by omega)).ex 1000000 (by omega) W b (toks, 0) e s1 S hP.1)
  have HN := Lib.hid hP.2
  have HC := Lib.hid hcnt
  have HI1 := Lib.hid (show (if (pk s1).k ≠ 5 then (fl s1).2 else 0) = (fl s1).2 from if_pos h5)
  have HI2 := Lib.hid (show (if (pk s1).k ≠ 5 then (3 : Int) else 0) = 3 from if_pos h5)
  clear h h5 hL hln hl0 hP hcnt he hs1 h0
  go_enter Tryz.func14, Tryz.ntmps14
  go_wp2_with (first
    | (go_at_call 28; (refine (CL.out _).mono ?_); rintro _ W1 ⟨A, n, c, rfl, R, hc, B⟩; have R1 := Lib.hid R; have X8' := Lib.hid (X8.out.on (Nat.succ_pos _) B); have B1 := Lib.hid (B0.out.trans (B.mono B0.out.size)); clear R B hc; obtain rfl : toks.length = n := R1.out.len; have SM := St.made (c := c) R1.out hgd.out (Nat.le_trans HC.out (by decide)); have F0 := Lib.hid (Fr.start0 SM); have n8 : w.heap.size ≠ W1.heap.size := (Nat.ne_of_lt (X8'.out.lt (Nat.succ_pos _))); have X8a := Lib.hid (X8'.out.on (Nat.succ_pos _) (box_below W1 #[.slice A toks.length c, .int .i64 0, .bool false] 68)); have B1a := Lib.hid (B1.out.trans ((box_below W1 #[.slice A toks.length c, .int .i64 0, .bool false] 68).mono B1.out.size)); clear SM)
    | (go_at_call 40; (with_reducible refine (HE.out _ _ F0.out.st).mono ?_); rintro _ W3 ⟨x1, hx, A1, n1, c1, rfl, R, S1, B2⟩; have HX1 := Lib.hid hx; have F3 := Lib.hid ((F0.out.got0 S1 B2 R).box #[.int .i64 x1.k, .int .i64 x1.o, .string x1.s, .int .i64 x1.v, .slice A1 n1 c1] 42); have X8b := Lib.hid ((ebo B2 n8 X8a.out).on (Nat.succ_pos _) (box_below W3 #[.int .i64 x1.k, .int .i64 x1.o, .string x1.s, .int .i64 x1.v, .slice A1 n1 c1] 42)); clear R S1 B2 hx)
    | (go_at_call 32; (with_reducible refine (ends_b _ _ _ F3.out.st).mono ?_); rintro _ W4 ⟨rfl, S1, B2⟩; rw [HI1.out, HI2.out]; have F4 := Lib.hid (F3.out.call S1 (But.of B2)); have X8c := Lib.hid (X8b.out.on (Nat.succ_pos _) B2); clear S1 B2)
    | (refine bset5 rk_ex rfl X8c.out rfl rfl ?_; intro V XV BV sV; have h0 := XV.cell (i := 0) rfl; have h1 := XV.cell (i := 1) rfl; have h2 := XV.cell (i := 2) rfl; have h3 := XV.cell (i := 3) rfl; have h4 := XV.cell (i := 4) rfl; have BW := Lib.hid BV; clear XV BV))
  have hlt1 : W1.heap.size ≤ (W1.alloc (.cells #[.slice A toks.length c, .int .i64 0, .bool false] 68)).heap.size := by simp
  exact bodyPost_ret (v := .tuple #[exV zE none 0 0, .int .i64 (fl s1).2, .int .i64 3]) (by simp [results, Tryz.results14, go_sem, Ex.k, Ex.o, Ex.s, Ex.v, zE, h0, h1, h2, h3, h4]) rfl ⟨_, _, _, rfl, RdX.nil _ _ _, ((B1a.out.trans ((F4.out.bb.below (Nat.le_refl _) hlt1).mono B1.out.size)).trans (BW.out.below (Nat.le_refl _) (Nat.le_trans B1a.out.size F4.out.bb.size)))⟩

set_option maxRecDepth 100000 in
set_option maxHeartbeats 2000000 in
theorem rparse_3 (s : ByteArray) (w : World) (hs : s.size ≤ 9223372036854775807) (h : ¬ (lexv (strL s)).2.2 ≠ 0) (h5 : ¬ (pk (pxq (lexv (strL s)).1).2).k ≠ 5) (hb : 1000 < (pxq (lexv (strL s)).1).1.nodes) : Calls Tryz.prog 14 #[.string s] w (GivesP w (pxv (strL s))) := by
  rw [pxv_big h h5 (.inl hb)]
  have X8 := Lib.hid (EBox.made w zX 42)
  have B0 := Lib.hid (box_below w zX 42)
  have CL := Lib.hid (fun W => rlex_b s W hs)
  obtain ⟨toks, hL⟩ : ∃ t, (lexv (strL s)).1 = t := ⟨_, rfl⟩
  have h0 : (lexv (strL s)).2.2 = 0 := by simpa using h
  have hgd := Lib.hid (lexv_gd (strL_rng s) h0)
  have hcnt := lexv_cnt (strL s)
  have hP := pxq_some hcnt
  obtain ⟨ln, hln⟩ : ∃ ln, (lexv (strL s)).2.1 = ln := ⟨_, rfl⟩
  have hl0 : lexv (strL s) = (toks, ln, 0) := by rw [← hL, ← hln, ← h0]
  rw [hL] at hgd hcnt hP h5 hb
  rw [hl0] at CL
  obtain ⟨e, he⟩ : ∃ e, (pxq toks).1 = e := ⟨_, rfl⟩
  obtain ⟨s1, hs1⟩ : ∃ s1, (pxq toks).2 = s1 := ⟨_, rfl⟩
  rw [he, hs1] at hP
  rw [hs1] at h5
  rw [he] at hb
  have HE := Lib.hid (fun W b S => (allR 1000001 (by omega)).ex 1000000 (by omega) W b (toks, 0) e s1 S hP.1)
  have HN := Lib.hid hP.2
  have HC := Lib.hid hcnt
  replace h5 : (pk s1).k = 5 := by simpa using h5
  have HI1 := Lib.hid (show (if (pk s1).k ≠ 5 then (fl s1).2 else 0) = 0 from if_neg (by simpa using h5))
  have HI2 := Lib.hid (show (if (pk s1).k ≠ 5 then (3 : Int) else 0) = 0 from if_neg (by simpa using h5))
  have hs0 : Hid (s1.2 ≤ 0) := Lib.hid (Int.not_lt.1 (pk_k h5 (by decide)).1)
  have qn : (1000 : Int) < ((e.nodes : Nat) : Int) := by omega
  clear h h5 hL hln hl0 hP hcnt he hs1 h0 hb
  go_enter Tryz.func14, Tryz.ntmps14
  go_wp2_with (first
    | (go_at_call 28; (refine (CL.out _).mono ?_); rintro _ W1 ⟨A, n, c, rfl, R, hc, B⟩; have R1 := Lib.hid R; have X8' := Lib.hid (X8.out.on (Nat.succ_pos _) B); have B1 := Lib.hid (B0.out.trans (B.mono B0.out.size)); clear R B hc; obtain rfl : toks.length = n := R1.out.len; have SM := St.made (c := c) R1.out hgd.out (Nat.le_trans HC.out (by decide)); have F0 := Lib.hid (Fr.start0 SM); have n8 : w.heap.size ≠ W1.heap.size := (Nat.ne_of_lt (X8'.out.lt (Nat.succ_pos _))); have X8a := Lib.hid (X8'.out.on (Nat.succ_pos _) (box_below W1 #[.slice A toks.length c, .int .i64 0, .bool false] 68)); have B1a := Lib.hid (B1.out.trans ((box_below W1 #[.slice A toks.length c, .int .i64 0, .bool false] 68).mono B1.out.size)); clear SM)
    | (go_at_call 40; (with_reducible refine (HE.out _ _ F0.out.st).mono ?_); rintro _ W3 ⟨x1, hx, A1, n1, c1, rfl, R, S1, B2⟩; have HX1 := Lib.hid hx; have F3 := Lib.hid ((F0.out.got0 S1 B2 R).box #[.int .i64 x1.k, .int .i64 x1.o, .string x1.s, .int .i64 x1.v, .slice A1 n1 c1] 42); have X8b := Lib.hid ((ebo B2 n8 X8a.out).on (Nat.succ_pos _) (box_below W3 #[.int .i64 x1.k, .int .i64 x1.o, .string x1.s, .int .i64 x1.v, .slice A1 n1 c1] 42)); clear R S1 B2 hx; obtain rfl := HX1.out hs0.out)
    | (go_at_call 32; (with_reducible refine (ends_b _ _ _ F3.out.st).mono ?_); rintro _ W4 ⟨rfl, S1, B2⟩; rw [HI1.out, HI2.out]; have F4 := Lib.hid (F3.out.call S1 (But.of B2)); have X8c := Lib.hid (X8b.out.on (Nat.succ_pos _) B2); clear S1 B2; have RI := Lib.hid ((F4.out.tr _ (List.mem_cons_self ..)).keep (D' := inH W4) (fun _ _ => rfl) (fun k hk => (F4.out.nbW hk).1)); have gt : EBox W4 W3.heap.size [.int .i64 x1.k, .int .i64 x1.o, .string x1.s, .int .i64 x1.v, .slice A1 n1 c1] := (F4.out.bx _ (List.mem_cons_self ..)).1; have t0 := gt.cell (i := 0) rfl; have t1 := gt.cell (i := 1) rfl; have t2 := gt.cell (i := 2) rfl; have t3 := gt.cell (i := 3) rfl; have t4 := gt.cell (i := 4) rfl; clear gt)
    | (go_at_call 23; (with_reducible refine (rexprNodes_b 40000 x1 A1 n1 c1 _ HN.out (by decide) RI.out).mono ?_); rintro _ W6 ⟨rfl, B2⟩; have F6 := Lib.hid (F4.out.below B2); have X8d := Lib.hid (X8c.out.on (Nat.succ_pos _) B2); have RJ := Lib.hid (RI.out.on B2); clear B2 t0 t1 t2 t3 t4; have gt : EBox W6 W3.heap.size [.int .i64 x1.k, .int .i64 x1.o, .string x1.s, .int .i64 x1.v, .slice A1 n1 c1] := (F6.out.bx _ (List.mem_cons_self ..)).1; have t0 := gt.cell (i := 0) rfl; have t1 := gt.cell (i := 1) rfl; have t2 := gt.cell (i := 2) rfl; have t3 := gt.cell (i := 3) rfl; have t4 := gt.cell (i := 4) rfl; clear gt)
    | (refine bset5 rk_ex rfl X8d.out rfl rfl ?_; intro V XV BV sV; have h0 := XV.cell (i := 0) rfl; have h1 := XV.cell (i := 1) rfl; have h2 := XV.cell (i := 2) rfl; have h3 := XV.cell (i := 3) rfl; have h4 := XV.cell (i := 4) rfl; have BW := Lib.hid BV; clear XV BV))
  have hlt1 : W1.heap.size ≤ (W1.alloc (.cells #[.slice A toks.length c, .int .i64 0, .bool false] 68)).heap.size := by simp
  exact bodyPost_ret (v := .tuple #[exV zE none 0 0, .int .i64 0, .int .i64 5]) (by simp [results, Tryz.results14, go_sem, Ex.k, Ex.o, Ex.s, Ex.v, zE, h0, h1, h2, h3, h4]) rfl ⟨_, _, _, rfl, RdX.nil _ _ _, ((B1a.out.trans ((F6.out.bb.below (Nat.le_refl _) hlt1).mono B1.out.size)).trans (BW.out.below (Nat.le_refl _) (Nat.le_trans B1a.out.size F6.out.bb.size)))⟩

set_option maxRecDepth 100000 in
set_option maxHeartbeats 2000000 in
theorem rparse_4 (s : ByteArray) (w : World) (hs : s.size ≤ 9223372036854775807) (h : ¬ (lexv (strL s)).2.2 ≠ 0) (h5 : ¬ (pk (pxq (lexv (strL s)).1).2).k ≠ 5) (hb : (pxq (lexv (strL s)).1).1.nodes ≤ 1000 ∧ 16 < (pxq (lexv (strL s)).1).1.dep) : Calls Tryz.prog 14 #[.string s] w (GivesP w (pxv (strL s))) := by
  rw [pxv_big h h5 (.inr hb.2)]
  have X8 := Lib.hid (EBox.made w zX 42)
  have B0 := Lib.hid (box_below w zX 42)
  have CL := Lib.hid (fun W => rlex_b s W hs)
  obtain ⟨toks, hL⟩ : ∃ t, (lexv (strL s)).1 = t := ⟨_, rfl⟩
  have h0 : (lexv (strL s)).2.2 = 0 := by simpa using h
  have hgd := Lib.hid (lexv_gd (strL_rng s) h0)
  have hcnt := lexv_cnt (strL s)
  have hP := pxq_some hcnt
  obtain ⟨ln, hln⟩ : ∃ ln, (lexv (strL s)).2.1 = ln := ⟨_, rfl⟩
  have hl0 : lexv (strL s) = (toks, ln, 0) := by rw [← hL, ← hln, ← h0]
  rw [hL] at hgd hcnt hP h5 hb
  rw [hl0] at CL
  obtain ⟨e, he⟩ : ∃ e, (pxq toks).1 = e := ⟨_, rfl⟩
  obtain ⟨s1, hs1⟩ : ∃ s1, (pxq toks).2 = s1 := ⟨_, rfl⟩
  rw [he, hs1] at hP
  rw [hs1] at h5
  rw [he] at hb
  have HE := Lib.hid (fun W b S => (allR 1000001 (by omega)).ex 1000000 (by omega) W b (toks, 0) e s1 S hP.1)
  have HN := Lib.hid hP.2
  have HC := Lib.hid hcnt
  replace h5 : (pk s1).k = 5 := by simpa using h5
  have HI1 := Lib.hid (show (if (pk s1).k ≠ 5 then (fl s1).2 else 0) = 0 from if_neg (by simpa using h5))
  have HI2 := Lib.hid (show (if (pk s1).k ≠ 5 then (3 : Int) else 0) = 0 from if_neg (by simpa using h5))
  have hs0 : Hid (s1.2 ≤ 0) := Lib.hid (Int.not_lt.1 (pk_k h5 (by decide)).1)
  have qn : ¬ (1000 : Int) < ((e.nodes : Nat) : Int) := by have := hb.1; omega
  have qd : (16 : Int) < ((e.dep : Nat) : Int) := by have := hb.2; omega
  clear h h5 hL hln hl0 hP hcnt he hs1 h0 hb
  go_enter Tryz.func14, Tryz.ntmps14
  go_wp2_with (first
    | (go_at_call 28; (refine (CL.out _).mono ?_); rintro _ W1 ⟨A, n, c, rfl, R, hc, B⟩; have R1 := Lib.hid R; have X8' := Lib.hid (X8.out.on (Nat.succ_pos _) B); have B1 := Lib.hid (B0.out.trans (B.mono B0.out.size)); clear R B hc; obtain rfl : toks.length = n := R1.out.len; have SM := St.made (c := c) R1.out hgd.out (Nat.le_trans HC.out (by decide)); have F0 := Lib.hid (Fr.start0 SM); have n8 : w.heap.size ≠ W1.heap.size := (Nat.ne_of_lt (X8'.out.lt (Nat.succ_pos _))); have X8a := Lib.hid (X8'.out.on (Nat.succ_pos _) (box_below W1 #[.slice A toks.length c, .int .i64 0, .bool false] 68)); have B1a := Lib.hid (B1.out.trans ((box_below W1 #[.slice A toks.length c, .int .i64 0, .bool false] 68).mono B1.out.size)); clear SM)
    | (go_at_call 40; (with_reducible refine (HE.out _ _ F0.out.st).mono ?_); rintro _ W3 ⟨x1, hx, A1, n1, c1, rfl, R, S1, B2⟩; have HX1 := Lib.hid hx; have F3 := Lib.hid ((F0.out.got0 S1 B2 R).box #[.int .i64 x1.k, .int .i64 x1.o, .string x1.s, .int .i64 x1.v, .slice A1 n1 c1] 42); have X8b := Lib.hid ((ebo B2 n8 X8a.out).on (Nat.succ_pos _) (box_below W3 #[.int .i64 x1.k, .int .i64 x1.o, .string x1.s, .int .i64 x1.v, .slice A1 n1 c1] 42)); clear R S1 B2 hx; obtain rfl := HX1.out hs0.out)
    | (go_at_call 32; (with_reducible refine (ends_b _ _ _ F3.out.st).mono ?_); rintro _ W4 ⟨rfl, S1, B2⟩; rw [HI1.out, HI2.out]; have F4 := Lib.hid (F3.out.call S1 (But.of B2)); have X8c := Lib.hid (X8b.out.on (Nat.succ_pos _) B2); clear S1 B2; have RI := Lib.hid ((F4.out.tr _ (List.mem_cons_self ..)).keep (D' := inH W4) (fun _ _ => rfl) (fun k hk => (F4.out.nbW hk).1)); have gt : EBox W4 W3.heap.size [.int .i64 x1.k, .int .i64 x1.o, .string x1.s, .int .i64 x1.v, .slice A1 n1 c1] := (F4.out.bx _ (List.mem_cons_self ..)).1; have t0 := gt.cell (i := 0) rfl; have t1 := gt.cell (i := 1) rfl; have t2 := gt.cell (i := 2) rfl; have t3 := gt.cell (i := 3) rfl; have t4 := gt.cell (i := 4) rfl; clear gt)
    | (go_at_call 23; (with_reducible refine (rexprNodes_b 40000 x1 A1 n1 c1 _ HN.out (by decide) RI.out).mono ?_); rintro _ W6 ⟨rfl, B2⟩; have F6 := Lib.hid (F4.out.below B2); have X8d := Lib.hid (X8c.out.on (Nat.succ_pos _) B2); have RJ := Lib.hid (RI.out.on B2); clear B2 t0 t1 t2 t3 t4; have gt : EBox W6 W3.heap.size [.int .i64 x1.k, .int .i64 x1.o, .string x1.s, .int .i64 x1.v, .slice A1 n1 c1] := (F6.out.bx _ (List.mem_cons_self ..)).1; have t0 := gt.cell (i := 0) rfl; have t1 := gt.cell (i := 1) rfl; have t2 := gt.cell (i := 2) rfl; have t3 := gt.cell (i := 3) rfl; have t4 := gt.cell (i := 4) rfl; clear gt)
    | (go_at_call 25; (with_reducible refine (rexprDepth_b 40000 x1 A1 n1 c1 _ HN.out (by decide) RJ.out).mono ?_); rintro _ W7 ⟨rfl, B2⟩; have F7 := Lib.hid (F6.out.below B2); have X8e := Lib.hid (X8d.out.on (Nat.succ_pos _) B2); clear B2 t0 t1 t2 t3 t4; have gt : EBox W7 W3.heap.size [.int .i64 x1.k, .int .i64 x1.o, .string x1.s, .int .i64 x1.v, .slice A1 n1 c1] := (F7.out.bx _ (List.mem_cons_self ..)).1; have t0 := gt.cell (i := 0) rfl; have t1 := gt.cell (i := 1) rfl; have t2 := gt.cell (i := 2) rfl; have t3 := gt.cell (i := 3) rfl; have t4 := gt.cell (i := 4) rfl; clear gt)
    | (refine bset5 rk_ex rfl X8e.out rfl rfl ?_; intro V XV BV sV; have h0 := XV.cell (i := 0) rfl; have h1 := XV.cell (i := 1) rfl; have h2 := XV.cell (i := 2) rfl; have h3 := XV.cell (i := 3) rfl; have h4 := XV.cell (i := 4) rfl; have BW := Lib.hid BV; clear XV BV))
  have hlt1 : W1.heap.size ≤ (W1.alloc (.cells #[.slice A toks.length c, .int .i64 0, .bool false] 68)).heap.size := by simp
  exact bodyPost_ret (v := .tuple #[exV zE none 0 0, .int .i64 0, .int .i64 5]) (by simp [results, Tryz.results14, go_sem, Ex.k, Ex.o, Ex.s, Ex.v, zE, h0, h1, h2, h3, h4]) rfl ⟨_, _, _, rfl, RdX.nil _ _ _, ((B1a.out.trans ((F7.out.bb.below (Nat.le_refl _) hlt1).mono B1.out.size)).trans (BW.out.below (Nat.le_refl _) (Nat.le_trans B1a.out.size F7.out.bb.size)))⟩

set_option maxRecDepth 100000 in
set_option maxHeartbeats 2000000 in
theorem rparse_5 (s : ByteArray) (w : World) (hs : s.size ≤ 9223372036854775807) (h : ¬ (lexv (strL s)).2.2 ≠ 0) (h5 : ¬ (pk (pxq (lexv (strL s)).1).2).k ≠ 5) (hb : (pxq (lexv (strL s)).1).1.nodes ≤ 1000 ∧ (pxq (lexv (strL s)).1).1.dep ≤ 16) : Calls Tryz.prog 14 #[.string s] w (GivesP w (pxv (strL s))) := by
  rw [pxv_ok h h5 (by omega)]
  have X8 := Lib.hid (EBox.made w zX 42)
  have B0 := Lib.hid (box_below w zX 42)
  have CL := Lib.hid (fun W => rlex_b s W hs)
  obtain ⟨toks, hL⟩ : ∃ t, (lexv (strL s)).1 = t := ⟨_, rfl⟩
  have h0 : (lexv (strL s)).2.2 = 0 := by simpa using h
  have hgd := Lib.hid (lexv_gd (strL_rng s) h0)
  have hcnt := lexv_cnt (strL s)
  have hP := pxq_some hcnt
  obtain ⟨ln, hln⟩ : ∃ ln, (lexv (strL s)).2.1 = ln := ⟨_, rfl⟩
  have hl0 : lexv (strL s) = (toks, ln, 0) := by rw [← hL, ← hln, ← h0]
  rw [hL] at hgd hcnt hP h5 hb ⊢
  rw [hl0] at CL
  obtain ⟨e, he⟩ : ∃ e, (pxq toks).1 = e := ⟨_, rfl⟩
  obtain ⟨s1, hs1⟩ : ∃ s1, (pxq toks).2 = s1 := ⟨_, rfl⟩
  rw [he, hs1] at hP
  rw [hs1] at h5
  rw [he] at hb ⊢
  have HE := Lib.hid (fun W b S => (allR 1000001 (by omega)).ex 1000000 (by omega) W b (toks, 0) e s1 S hP.1)
  have HN := Lib.hid hP.2
  have HC := Lib.hid hcnt
  replace h5 : (pk s1).k = 5 := by simpa using h5
  have HI1 := Lib.hid (show (if (pk s1).k ≠ 5 then (fl s1).2 else 0) = 0 from if_neg (by simpa using h5))
  have HI2 := Lib.hid (show (if (pk s1).k ≠ 5 then (3 : Int) else 0) = 0 from if_neg (by simpa using h5))
  have hs0 : Hid (s1.2 ≤ 0) := Lib.hid (Int.not_lt.1 (pk_k h5 (by decide)).1)
  have qn : ¬ (1000 : Int) < ((e.nodes : Nat) : Int) := by have := hb.1; omega
  have qd : ¬ (16 : Int) < ((e.dep : Nat) : Int) := by have := hb.2; omega
  clear h h5 hL hln hl0 hP hcnt he hs1 h0 hb
  go_enter Tryz.func14, Tryz.ntmps14
  go_wp2_with (first
    | (go_at_call 28; (refine (CL.out _).mono ?_); rintro _ W1 ⟨A, n, c, rfl, R, hc, B⟩; have R1 := Lib.hid R; have X8' := Lib.hid (X8.out.on (Nat.succ_pos _) B); have B1 := Lib.hid (B0.out.trans (B.mono B0.out.size)); clear R B hc; obtain rfl : toks.length = n := R1.out.len; have SM := St.made (c := c) R1.out hgd.out (Nat.le_trans HC.out (by decide)); have F0 := Lib.hid (Fr.start0 SM); have n8 : w.heap.size ≠ W1.heap.size := (Nat.ne_of_lt (X8'.out.lt (Nat.succ_pos _))); have X8a := Lib.hid (X8'.out.on (Nat.succ_pos _) (box_below W1 #[.slice A toks.length c, .int .i64 0, .bool false] 68)); have B1a := Lib.hid (B1.out.trans ((box_below W1 #[.slice A toks.length c, .int .i64 0, .bool false] 68).mono B1.out.size)); clear SM)
    | (go_at_call 40; (with_reducible refine (HE.out _ _ F0.out.st).mono ?_); rintro _ W3 ⟨x1, hx, A1, n1, c1, rfl, R, S1, B2⟩; have HX1 := Lib.hid hx; have F3 := Lib.hid ((F0.out.got0 S1 B2 R).box #[.int .i64 x1.k, .int .i64 x1.o, .string x1.s, .int .i64 x1.v, .slice A1 n1 c1] 42); have X8b := Lib.hid ((ebo B2 n8 X8a.out).on (Nat.succ_pos _) (box_below W3 #[.int .i64 x1.k, .int .i64 x1.o, .string x1.s, .int .i64 x1.v, .slice A1 n1 c1] 42)); clear R S1 B2 hx; obtain rfl := HX1.out hs0.out)
    | (go_at_call 32; (with_reducible refine (ends_b _ _ _ F3.out.st).mono ?_); rintro _ W4 ⟨rfl, S1, B2⟩; rw [HI1.out, HI2.out]; have F4 := Lib.hid (F3.out.call S1 (But.of B2)); have X8c := Lib.hid (X8b.out.on (Nat.succ_pos _) B2); clear S1 B2; have RI := Lib.hid ((F4.out.tr _ (List.mem_cons_self ..)).keep (D' := inH W4) (fun _ _ => rfl) (fun k hk => (F4.out.nbW hk).1)); have gt : EBox W4 W3.heap.size [.int .i64 x1.k, .int .i64 x1.o, .string x1.s, .int .i64 x1.v, .slice A1 n1 c1] := (F4.out.bx _ (List.mem_cons_self ..)).1; have t0 := gt.cell (i := 0) rfl; have t1 := gt.cell (i := 1) rfl; have t2 := gt.cell (i := 2) rfl; have t3 := gt.cell (i := 3) rfl; have t4 := gt.cell (i := 4) rfl; clear gt)
    | (go_at_call 23; (with_reducible refine (rexprNodes_b 40000 x1 A1 n1 c1 _ HN.out (by decide) RI.out).mono ?_); rintro _ W6 ⟨rfl, B2⟩; have F6 := Lib.hid (F4.out.below B2); have X8d := Lib.hid (X8c.out.on (Nat.succ_pos _) B2); have RJ := Lib.hid (RI.out.on B2); clear B2 t0 t1 t2 t3 t4; have gt : EBox W6 W3.heap.size [.int .i64 x1.k, .int .i64 x1.o, .string x1.s, .int .i64 x1.v, .slice A1 n1 c1] := (F6.out.bx _ (List.mem_cons_self ..)).1; have t0 := gt.cell (i := 0) rfl; have t1 := gt.cell (i := 1) rfl; have t2 := gt.cell (i := 2) rfl; have t3 := gt.cell (i := 3) rfl; have t4 := gt.cell (i := 4) rfl; clear gt)
    | (go_at_call 25; (with_reducible refine (rexprDepth_b 40000 x1 A1 n1 c1 _ HN.out (by decide) RJ.out).mono ?_); rintro _ W7 ⟨rfl, B2⟩; have F7 := Lib.hid (F6.out.below B2); have X8e := Lib.hid (X8d.out.on (Nat.succ_pos _) B2); clear B2 t0 t1 t2 t3 t4; have gt : EBox W7 W3.heap.size [.int .i64 x1.k, .int .i64 x1.o, .string x1.s, .int .i64 x1.v, .slice A1 n1 c1] := (F7.out.bx _ (List.mem_cons_self ..)).1; have t0 := gt.cell (i := 0) rfl; have t1 := gt.cell (i := 1) rfl; have t2 := gt.cell (i := 2) rfl; have t3 := gt.cell (i := 3) rfl; have t4 := gt.cell (i := 4) rfl; clear gt)
    | (refine bset5 rk_ex rfl X8e.out rfl rfl ?_; intro V XV BV sV; have h0 := XV.cell (i := 0) rfl; have h1 := XV.cell (i := 1) rfl; have h2 := XV.cell (i := 2) rfl; have h3 := XV.cell (i := 3) rfl; have h4 := XV.cell (i := 4) rfl; have RV := Lib.hid (RdX.keep (F7.out.tr _ (List.mem_cons_self ..)) (D' := nd no0 w V) (fun k hk => BV.block k (F7.out.nbW hk).1 (Nat.ne_of_gt (Nat.lt_of_lt_of_le (Nat.lt_of_le_of_lt B1.out.size (by simp)) (nb9 hk)))) (fun k hk => .inr ⟨Nat.le_trans (Nat.le_trans B1.out.size (by simp)) (nb9 hk), Nat.lt_of_lt_of_le (F7.out.nbW hk).1 BV.size⟩)); have BW := Lib.hid BV; clear XV BV))
  have hlt1 : W1.heap.size ≤ (W1.alloc (.cells #[.slice A toks.length c, .int .i64 0, .bool false] 68)).heap.size := by simp
  exact bodyPost_ret (v := .tuple #[exV x1 A1 n1 c1, .int .i64 0, .int .i64 0]) (by simp [results, Tryz.results14, go_sem, Ex.k, Ex.o, Ex.s, Ex.v, zE, h0, h1, h2, h3, h4]) rfl ⟨_, _, _, rfl, RV.out, ((B1a.out.trans ((F7.out.bb.below (Nat.le_refl _) hlt1).mono B1.out.size)).trans (BW.out.below (Nat.le_refl _) (Nat.le_trans B1a.out.size F7.out.bb.size)))⟩

theorem rparseExpr_b (s : ByteArray) (w : World) (hs : s.size ≤ 9223372036854775807) : Calls Tryz.prog 14 #[.string s] w (GivesP w (pxv (strL s))) := by
  by_cases h : (lexv (strL s)).2.2 ≠ 0
  · exact rparse_1 s w hs h
  · by_cases h5 : (pk (pxq (lexv (strL s)).1).2).k ≠ 5
    · exact rparse_2 s w hs h h5
    · rcases Nat.lt_or_ge 1000 (pxq (lexv (strL s)).1).1.nodes with h6 | h6
      · exact rparse_3 s w hs h h5 h6
      · rcases Nat.lt_or_ge 16 (pxq (lexv (strL s)).1).1.dep with h7 | h7
        · exact rparse_4 s w hs h h5 ⟨h6, h7⟩
        · exact rparse_5 s w hs h h5 ⟨h6, h7⟩

end Go.Proofs.YtjpkcgepdfpbnaaGreatDoor.Rf

/- EqualExpr of the reference at two equal expressions; the walk of ParserExpressions. Written by tools/gen/genR9.py. -/
namespace Go.Proofs.YtjpkcgepdfpbnaaGreatDoor
open Go.RowKit Go.Sort Go.ChangeShapes Go.WideShapes
set_option linter.unusedVariables false

set_option maxRecDepth 100000 in
set_option maxHeartbeats 2000000 in
theorem reqSame_b (N : Nat) : ∀ (e : Ex) (A A2 : Option Addr) (n c c2 : Nat) (w : World), e.nodes ≤ N → RdX w (inH w) A n e.l → RdX w (inH w) A2 n e.l →
    Calls Tryz.prog 15 #[exV e A n c, exV e A2 n c2] w fun r w' => r = .returned (.bool true) ∧ Below w.heap.size w w' := by
  induction N with
  | zero => intro e A A2 n c c2 w h _ _; have := Ex.nodes_pos e; omega
  | succ N ih =>
    intro e A A2 n c c2 w hN R R2
    have hn : n ≤ maxLen := R.2.1
    unfold maxLen at hn
    have hz : (w.alloc (.cells #[.int .i64 e.k, .int .i64 e.o, .string e.s, .int .i64 e.v, .slice A n c] 42)).heap.size = w.heap.size + 1 := by simp
    have BA := box_below w #[.int .i64 e.k, .int .i64 e.o, .string e.s, .int .i64 e.v, .slice A n c] 42
    have BB := box_below (w.alloc (.cells #[.int .i64 e.k, .int .i64 e.o, .string e.s, .int .i64 e.v, .slice A n c] 42)) #[.int .i64 e.k, .int .i64 e.o, .string e.s, .int .i64 e.v, .slice A2 n c2] 42
    have XA := Lib.hid ((EBox.made w #[.int .i64 e.k, .int .i64 e.o, .string e.s, .int .i64 e.v, .slice A n c] 42).on (Nat.succ_pos _) BB)
    have xb := EBox.made (w.alloc (.cells #[.int .i64 e.k, .int .i64 e.o, .string e.s, .int .i64 e.v, .slice A n c] 42)) #[.int .i64 e.k, .int .i64 e.o, .string e.s, .int .i64 e.v, .slice A2 n c2] 42
    rw [hz] at xb
    have XB := Lib.hid xb
    have R1 := Lib.hid ((R.on BA).on BB)
    have R2 := Lib.hid ((R2.on BA).on BB)
    have B0 := Lib.hid (BA.trans (BB.mono BA.size))
    have IH := Lib.hid ih
    have HN := Lib.hid (Ex.nodes_eq e)
    have hnl := Lib.hid R.1
    clear R BA BB xb ih
    go_enter Tryz.func15, Tryz.ntmps15
    go_wp2_with fail
    go_loopg [5] n (fun gk v wr => ∃ k : Nat, v = .int .i64 (k : Int) ∧ k ≤ n ∧ gk = n - k ∧ Below w.heap.size w wr ∧ EBox wr w.heap.size (#[.int .i64 e.k, .int .i64 e.o, .string e.s, .int .i64 e.v, .slice A n c]).toList ∧ EBox wr (w.heap.size + 1) (#[.int .i64 e.k, .int .i64 e.o, .string e.s, .int .i64 e.v, .slice A2 n c2]).toList ∧ RdX wr (inH wr) A n e.l ∧ RdX wr (inH wr) A2 n e.l)
    case atStart => exact ⟨0, rfl, Nat.zero_le _, rfl, B0.out, XA.out, XB.out, R1.out, R2.out⟩
    case round =>
      clear R1 R2 XA XB B0
      obtain ⟨k, rfl, hk, hgk, BB, XA, XB, R1, R2⟩ := hrel
      rename World => wr
      have x4 : wr.cell? ⟨w.heap.size, 4, none⟩ = some (.slice A n c) := XA.cell (i := 4) rfl
      have y4 : wr.cell? ⟨w.heap.size + 1, 4, none⟩ = some (.slice A2 n c2) := XB.cell (i := 4) rfl
      have HB := Lib.hid BB
      have HR1 := Lib.hid R1
      have HR2 := Lib.hid R2
      have HA := Lib.hid XA
      have HBX := Lib.hid XB
      have HG := Lib.hid hgk
      clear BB XA XB R1 R2 hgk
      by_cases hlt : k < n
      · obtain ⟨b1, o1, x, A3, m, c3, hA, hb1, hx, r1, R3⟩ := HR1.out.at_ hlt
        obtain ⟨b2, o2, y, A4, m2, c4, hA2, hb2, hy, r2, R4⟩ := HR2.out.at_ hlt
        obtain rfl : y = x := by have := hx.out.symm.trans hy.out; injection this with this; exact this.symm
        obtain rfl : m2 = m := by rw [← R3.1, ← R4.1]
        subst hA
        subst hA2
        have hlti : (k : Int) < (n : Int) := by omega
        have hxn := Ex.nodesL_mem (List.mem_of_getElem? hx.out)
        have HC := Lib.hid (fun W h1 h2 => IH.out y A3 A4 m2 c3 c4 W (by have := HN.out; omega) h1 h2)
        have R3 := Lib.hid R3
        have R4 := Lib.hid R4
        have Eex_1 := r1
        have Eex_2 := r2
        have BB := Below.refl wr.heap.size wr
        clear hxn hx hy r1 r2 hb1 hb2
        go_wp2_with fail
        have k_x4 := cell_regrown x4
        have k_y4 := cell_regrown y4
        refine wp_region_quiet_below (by kernel_rfl) (by kernel_rfl) ?_
        repeat (first | (go_big_quiet_want; refine quiet_eload _ _ rfl rk_ex rfl (fun W hW => rangeAt_on Eex_1 (below_regrown' hW)) rfl ?_; go_simp; go_big_quiet_on) | (go_big_quiet_want; refine quiet_eload _ _ rfl rk_ex rfl (fun W hW => rangeAt_on Eex_2 (below_regrown' hW)) rfl ?_; go_simp; go_big_quiet_on) | go_big_quiet_step ((first | (go_at_call 15; exact Calls.regrown_of (HC.out _ (R3.out.on (below_regrown _ _ _)) (R4.out.on (below_regrown _ _ _)))))) | quiet_step ((first | (go_at_call 15; exact Calls.regrown_of (HC.out _ (R3.out.on (below_regrown _ _ _)) (R4.out.on (below_regrown _ _ _)))))))
        refine wpQuiet_nil ?_
        intro W hw'
        have B := below_regrown' hw'
        clear hw' k_x4 k_y4
        replace BB := bon BB B
        replace x4 := cell_below B x4
        replace y4 := cell_below B y4
        replace Eex_1 := rangeAt_on Eex_1 B
        replace Eex_2 := rangeAt_on Eex_2 B
        go_wp2_with fail
        go_roundg (n - (k + 1))
        case measure => rw [HG.out]; omega
        case rel => exact ⟨k + 1, by go_num, by omega, rfl, bon HB.out BB, HA.out.on (Nat.succ_pos _) BB, HBX.out.on (Nat.succ_pos _) BB, HR1.out.on BB, HR2.out.on BB⟩
      · obtain rfl : n = k := by omega
        go_wp2_with fail
        go_ret
        exact ⟨rfl, HB.out⟩

theorem nd_in {w W : World} {A : Option Addr} {n : Nat} {l : List Ex} (R : RdX W (nd no0 w W) A n l) : RdX W (inH W) A n l := R.keep (fun _ _ => rfl) (fun k hk => nd1 hk)

set_option maxRecDepth 100000 in
set_option maxHeartbeats 2000000 in
theorem expressions_walk (s : ByteArray) (w : World) (LL : Lay6 w) (hs : s.size ≤ 4611686018427387904) : Calls Tryz.prog 4 #[.string s] w fun e w' => e = .returned (.bool true) ∧ Below w.heap.size w w' := by
  have BB := Below.refl w.heap.size w
  have HL := Lib.hid LL
  clear LL
  by_cases hbig : 4000 < s.size
  · have hbi : (4000 : Int) < (s.size : Int) := by omega
    have B0 := Lib.hid BB
    clear BB
    go_enter Tryz.func4, Tryz.ntmps4
    go_wp2_with (go_at_call 9; (with_reducible refine (example_b _ HL.out).mono ?_); rintro _ W1 ⟨rfl, B⟩; have B1 := Lib.hid B; clear B)
    go_ret
    exact ⟨rfl, B1.out⟩
  · have hbi : ¬ (4000 : Int) < (s.size : Int) := by omega
    have C1 := Lib.hid (fun W L => parseExpr_b s W L (by omega))
    have C2 := Lib.hid (fun W => Rf.rparseExpr_b s W (by omega))
    obtain ⟨q, hq⟩ : ∃ q, pxv (strL s) = q := ⟨_, rfl⟩
    rw [hq] at C1 C2
    have HEX := Lib.hid (fun W L => example_b W L)
    clear hq hbig hs BB
    go_enter Tryz.func4, Tryz.ntmps4
    go_wp2_with (first
      | (go_at_call 13; (refine (C1.out _ HL.out).mono ?_); rintro _ W1 ⟨A, n, c, rfl, R, B⟩; have BA := box_below W1 #[.int .i64 q.1.k, .int .i64 q.1.o, .string q.1.s, .int .i64 q.1.v, .slice A n c] 42; have B1 := Lib.hid (bon B BA); have X1 := Lib.hid (EBox.made W1 #[.int .i64 q.1.k, .int .i64 q.1.o, .string q.1.s, .int .i64 q.1.v, .slice A n c] 42); have R1 := Lib.hid ((nd_in R).on BA); clear R B BA)
      | (go_at_call 14; (refine (C2.out _).mono ?_); rintro _ W2 ⟨A2, n2, c2, rfl, R, B⟩; obtain rfl : n2 = n := (R.1.symm.trans R1.out.1); have BA := box_below W2 #[.int .i64 q.1.k, .int .i64 q.1.o, .string q.1.s, .int .i64 q.1.v, .slice A2 n2 c2] 42; have B2 := Lib.hid (bon B1.out (bon B BA)); have X2 := ((X1.out.on (Nat.succ_pos _) B).on (Nat.succ_pos _) BA); have X3 := EBox.made W2 #[.int .i64 q.1.k, .int .i64 q.1.o, .string q.1.s, .int .i64 q.1.v, .slice A2 n2 c2] 42; have x0 := X2.cell (i := 0) rfl; have x1 := X2.cell (i := 1) rfl; have x2 := X2.cell (i := 2) rfl; have x3 := X2.cell (i := 3) rfl; have x4 := X2.cell (i := 4) rfl; have R3 := Lib.hid ((R1.out.on B).on BA); have R4 := Lib.hid ((nd_in R).on BA); clear R B BA X2 X3)
      | (go_at_call 15; (with_reducible refine (reqSame_b q.1.nodes q.1 A A2 _ c c2 _ (Nat.le_refl _) R3.out R4.out).mono ?_); rintro _ W3 ⟨rfl, B⟩; have B3 := Lib.hid (bon B2.out B); clear B)
      | (go_at_call 9; (with_reducible refine (HEX.out _ (HL.out.on B3.out)).mono ?_); rintro _ W4 ⟨rfl, B⟩; have B4 := Lib.hid (bon B3.out B); clear B))
    go_ret
    exact ⟨rfl, B4.out⟩

end Go.Proofs.YtjpkcgepdfpbnaaGreatDoor
