/- A list of arguments of the parser; call. Written by tools/gen/genY8.py. -/
import Derived.Test.YtjpkcgepdfpbnaaGreatDoorY7
import Derived.Deep.LoopGhost
import Derived.WalkMore
namespace Go.Proofs.YtjpkcgepdfpbnaaGreatDoor
open Go.RowKit Go.Sort Go.ChangeShapes Go.WideShapes
set_option linter.unusedVariables false

theorem elEx : ElemE Tryz.prog 40 42 5 64 := elemE_of Tryz.underlying40 (by kernel_rfl)

/-- Blocks laid since w, but the own row's. -/
def dn (w W : World) (A : Option Addr) : Nat → Prop := fun k => w.heap.size ≤ k ∧ k < W.heap.size ∧ ∀ r, A = some r → r.block ≠ k

/-- A list of expressions that the call builds. -/
structure Li (w W : World) (b : Nat) (s : PS) (A : Option Addr) (n c : Nat) (xs : List Hx) : Prop where
  st : St W b s
  bb : But b w W
  lt : b < w.heap.size
  own : OwnE hxC 5 W w.heap.size 42 A n c xs
  tr : ∀ x ∈ xs, RdX W (dn w W A) x.A x.n x.e.l

section
variable {w W W1 W2 : World} {b n c : Nat} {s s1 : PS} {A A' : Option Addr} {xs : List Hx}

theorem ownE_stay {e : TypeId} {base : Nat} (h : OwnE hxC 5 W base e A n c xs) (q : ∀ g, A = some g → W1.heap[g.block]? = W.heap[g.block]?) (hs : base ≤ W1.heap.size) : OwnE hxC 5 W1 base e A n c xs := by
  refine ⟨⟨h.1.1, h.1.2.imp id ?_⟩, hs, h.2.2⟩
  rintro ⟨g, cap, cur, hv, hb, hh, rest⟩
  refine ⟨g, cap, cur, hv, hb, ?_, rest⟩
  simp only [Value.slice.injEq] at hv
  rw [q _ hv.1]; exact hh

theorem ownE_lt {e : TypeId} {base : Nat} (h : OwnE hxC 5 W base e A n c xs) {g : Addr} (hg : A = some g) : base ≤ g.block ∧ g.block < W.heap.size := by
  subst hg
  exact h.1.lt g.block rfl

theorem ownE_max {e : TypeId} {base : Nat} (h : OwnE hxC 5 W base e A n c xs) : n ≤ maxLen := by
  rcases h.1.2 with ⟨_, h0⟩ | ⟨g, cap, cur, hv, hb, hh, hnc, hcm, hcs, htake⟩
  · rw [h0]; exact Nat.zero_le _
  · simp only [Value.slice.injEq] at hv
    omega

theorem Li.start (S : St w b s) : Li w w b s none 0 0 [] := ⟨S, But.refl _ _, S.lt, OwnE.nil0 _ _ _ _ _ (Nat.le_refl _), by simp⟩

theorem Li.call (L : Li w W b s A n c xs) (S1 : St W1 b s1) (B1 : But b W W1) : Li w W1 b s1 A n c xs := by
  have hlt := L.lt
  refine ⟨S1, L.bb.trans B1, L.lt, ownE_stay L.own (fun g hg => ?_) (Nat.le_trans L.own.base_le B1.size), fun x hx => (L.tr x hx).keep (fun k hk => ?_) fun k hk => ⟨hk.1, Nat.lt_of_lt_of_le hk.2.1 B1.size, hk.2.2⟩⟩
  · have := ownE_lt L.own hg
    exact B1.block _ this.2 (by omega)
  · have h1 := hk.1
    exact B1.block k hk.2.1 (by omega)

theorem Li.app (L : Li w W b s A n c xs) (S1 : St W1 b s1) (B1 : But b W W1) {x : Hx} (R : RdX W1 (nd no0 W W1) x.A x.n x.e.l) {n' c' : Nat} (own' : OwnE hxC 5 W2 w.heap.size 42 A' n' c' (xs ++ [x])) (B2 : Below w.heap.size W1 W2) (AP : Apart W1 W2 A A') : Li w W2 b s1 A' n' c' (xs ++ [x]) := by
  have L1 := L.call S1 B1
  have hlt := L.lt
  have dom : ∀ k, dn w W1 A k → W2.heap[k]? = W1.heap[k]? := fun k hk => AP.same hk.2.1 hk.2.2
  have sub : ∀ k, dn w W1 A k → dn w W2 A' k := fun k hk => ⟨hk.1, Nat.lt_of_lt_of_le hk.2.1 B2.size, fun r hr => by
    rcases AP.2.1 r hr with ⟨q, hq, e⟩ | h
    · rw [← e]; exact hk.2.2 q hq
    · have := hk.2.1; omega⟩
  refine ⟨?_, ⟨B2.os.trans L1.bb.os, B2.tape.trans L1.bb.tape, B2.output.trans L1.bb.output, Nat.le_trans L1.bb.size B2.size, fun k hk hb => (B2.block k hk).trans (L1.bb.block k hk hb)⟩, L.lt, own', fun y hy => ?_⟩
  · have hb1 := S1.lt
    obtain ⟨g, A0, n0, c0, at_, toks, X, e⟩ := S1
    exact ⟨g, A0, n0, c0, at_, toks, X.stay (B2.block b hlt) (B2.mono (Nat.le_of_lt hlt)), e⟩
  · rcases List.mem_append.1 hy with hy | hy
    · exact (L1.tr y hy).keep dom sub
    · rw [List.mem_singleton] at hy
      subst hy
      refine R.keep (fun k hk => ?_) fun k hk => ?_
      all_goals
        have hd : dn w W1 A k := by
          rcases hk with hk | hk
          · exact hk.elim
          · exact ⟨Nat.le_trans L.own.base_le hk.1, hk.2, fun r hr => by have := (ownE_lt L.own hr).2; omega⟩
      · exact dom k hd
      · exact sub k hd
end

def GXL (W : World) (b : Nat) (l : List Ex) (s' : PS) (r : Ending) (w' : World) : Prop := ∃ A n c, r = .returned (.slice A n c) ∧ RdX w' (nd no0 W w') A n l ∧ St w' b s' ∧ But b W w'

theorem Li.fin {w W : World} {b n c : Nat} {s : PS} {A : Option Addr} {xs : List Hx} (L : Li w W b s A n c xs) : RdX W (nd no0 w W) A n (xs.map Hx.e) :=
  rdX_of (L.own.rd hxEnc) (ownE_max L.own) (fun g off hA hg => .inr ⟨by have := (ownE_lt L.own hA).1; exact this, hg⟩) fun x hx => (L.tr x hx).keep (fun _ _ => rfl) fun k hk => .inr ⟨hk.1, hk.2.1⟩

set_option maxRecDepth 100000 in
set_option maxHeartbeats 2000000 in
theorem list_s (m : Nat) (hm9 : m ≤ 1000000000) (HG : Prs 39 (.ex 0) m) (w : World) (b : Nat) (s : PS) (e : Ex) (s' : PS) (S : St w b s) (h : pe m .ls s = some (e, s')) :
    Calls Tryz.prog 182 #[ptr b, .func (.func 39) #[ptr b] #[]] w (GXL w b e.l s') := by
  have L0 := Lib.hid (Li.start S)
  obtain ⟨m, rfl⟩ : ∃ q, m = q + 1 := by cases m with | zero => cases h | succ m => exact ⟨m, rfl⟩
  rw [pe] at h
  have eg : Enters Tryz.prog 39 := enters_of Tryz.func39 (by kernel_rfl) rfl
  unfold Enters at eg
  by_cases h1 : acp ⟨#[41]⟩ s = true
  · rw [if_pos h1] at h
    obtain ⟨rfl, rfl⟩ := some_pair h
    have CA := Lib.hid (accept_yes w b s ⟨#[41]⟩ S (by decide) h1)
    clear S h HG h1
    go_enter Tryz.func182, Tryz.ntmps182
    go_wp2_with ((go_at_call 67; (with_reducible refine CA.out.mono ?_); rintro _ W1 ⟨rfl, S1, B1⟩; have L1 := Lib.hid (L0.out.call S1 B1); clear S1 B1))
    go_ret
    exact ⟨none, 0, 0, rfl, L1.out.fin, L1.out.st, L1.out.bb⟩
  · rw [if_neg h1] at h
    obtain ⟨⟨e1, s1⟩, hq, h2⟩ := bind_some h
    simp only at h2
    have CN := Lib.hid (accept_no w b s ⟨#[41]⟩ S (by simpa using h1))
    have H1 := Lib.hid (fun W S => HG m (Nat.lt_succ_self m) W b s e1 s1 S hq)
    have H2 := Lib.hid h2
    have HG' := Lib.hid (HG.mono (Nat.le_succ m))
    clear S h HG h1 hq h2
    go_enter Tryz.func182, Tryz.ntmps182
    go_wp2_with (first
      | (go_at_call 67; (with_reducible refine CN.out.mono ?_); rintro _ W1 ⟨rfl, S1, B1⟩; have L1 := Lib.hid (L0.out.call S1 (But.of B1)); clear S1 B1)
      | (go_at_call 39; (with_reducible refine (H1.out _ L1.out.st).mono ?_); rintro _ W2 ⟨A1, n1, c1, rfl, R', S', B'⟩; have R1 := Lib.hid R'; have S1 := Lib.hid S'; have B1 := Lib.hid B'; clear R' S' B')
      | (refine wpList_app1H _ rfl _ _ _ rfl hxEnc elEx (L1.out.call S1.out B1.out).own rfl ⟨e1, A1, n1, c1⟩ rfl rfl (by unfold maxLen; omega) (by omega) ?_; intro A1' c1' W3 own' B' AP; have L2 := Lib.hid (L1.out.app S1.out B1.out R1.out own' B' AP); clear own' B' AP))
    clear L0 L1 R1 S1 B1 H1 CN
    go_loopg [5] m (fun gk v wr => ∃ (A : Option Addr) (n c : Nat) (xs : List Hx) (sc : PS), v = .slice A n c ∧ Li w wr b sc A n c xs ∧ pe gk (.li (xs.map Hx.e)) sc = some (e, s') ∧ n + gk ≤ m + 1 ∧ gk ≤ m)
    case atStart => exact ⟨_, 0 + 1, _, _, s1, rfl, L2.out, H2.out, by omega, by omega⟩
    case round =>
      clear L2 H2
      obtain ⟨A, n, c, xs, sc, rfl, L, hp, hn, hk⟩ := hrel
      rename World => wr
      have L4 := Lib.hid L
      clear L
      obtain ⟨j, rfl⟩ : ∃ q, gk = q + 1 := by cases gk with | zero => cases hp | succ m => exact ⟨m, rfl⟩
      rw [pe] at hp
      by_cases h1 : acp ⟨#[44]⟩ sc = true
      · rw [if_pos h1] at hp
        obtain ⟨⟨e3, s3⟩, hq, h2⟩ := bind_some hp
        simp only at h2
        have CA := Lib.hid (accept_yes wr b sc ⟨#[44]⟩ L4.out.st (by decide) h1)
        have H3 := Lib.hid (fun W S => HG'.out j (by omega) W b (adv sc) e3 s3 S hq)
        have HE := Lib.hid h2
        clear hp h1 hq h2
        go_wp2_with (first
          | (go_at_call 67; (with_reducible refine CA.out.mono ?_); rintro _ W5 ⟨rfl, S1, B1⟩; have L5 := Lib.hid (L4.out.call S1 B1); clear S1 B1)
          | (go_at_call 39; (with_reducible refine (H3.out _ L5.out.st).mono ?_); rintro _ W6 ⟨A3, n3, c3, rfl, R', S', B'⟩; have R3 := Lib.hid R'; have S3 := Lib.hid S'; have B3 := Lib.hid B'; clear R' S' B')
          | (refine wpList_app1H _ rfl _ _ _ rfl hxEnc elEx (L5.out.call S3.out B3.out).own rfl ⟨e3, A3, n3, c3⟩ rfl rfl (by unfold maxLen; omega) (by omega) ?_; intro A3' c3' W7 own' B' AP; have L6 := Lib.hid (L5.out.app S3.out B3.out R3.out own' B' AP); clear own' B' AP))
        go_roundg j
        case measure => omega
        case rel => exact ⟨_, n + 1, _, _, s3, rfl, L6.out, by rw [List.map_append]; exact HE.out, by omega, by omega⟩
      · rw [if_neg h1] at hp
        obtain ⟨rfl, rfl⟩ := some_pair hp
        have CN := Lib.hid (accept_no wr b sc ⟨#[44]⟩ L4.out.st (by simpa using h1))
        clear hp h1
        go_wp2_with (first
          | (go_at_call 67; (with_reducible refine CN.out.mono ?_); rintro _ W5 ⟨rfl, S1, B1⟩; have L5 := Lib.hid (L4.out.call S1 (But.of B1)); clear S1 B1)
          | (go_at_call 65; (with_reducible refine (expect_b _ b _ ⟨#[41]⟩ L5.out.st (by decide)).mono ?_); rintro _ W6 ⟨rfl, S1, B1⟩; have L6 := Lib.hid (L5.out.call S1 B1); clear S1 B1))
        go_ret
        exact ⟨A, n, c, rfl, L6.out.fin, L6.out.st, L6.out.bb⟩

set_option maxRecDepth 100000 in
set_option maxHeartbeats 2000000 in
theorem call_s (m : Nat) (hm9 : m ≤ 1000000000) (HG : Prs 39 (.ex 0) m) (w : World) (b : Nat) (s : PS) (t : ByteArray) (e : Ex) (s' : PS) (S : St w b s) (h : pe m (.ca t) s = some (e, s')) :
    Calls Tryz.prog 173 #[ptr b, .string t] w (GX w b e s') := by
  have F0 := Lib.hid ((Fr.start0 S).box zX 42)
  obtain ⟨m, rfl⟩ : ∃ q, m = q + 1 := by cases m with | zero => cases h | succ m => exact ⟨m, rfl⟩
  rw [pe] at h
  obtain ⟨⟨x, s1⟩, hq, h2⟩ := bind_some h
  obtain ⟨rfl, rfl⟩ := some_pair h2
  have HH := Lib.hid (fun W S => list_s m (by omega) (HG.mono (Nat.le_succ m)) W b s x s1 S hq)
  clear S h HG hq h2
  go_enter Tryz.func173, Tryz.ntmps173
  go_wp2_with (first
    | (go_at_call 182; (with_reducible refine (HH.out _ F0.out.st).mono ?_); rintro _ W1 ⟨A, n, c, rfl, R, S1, B1⟩; have F1 := Lib.hid (F0.out.got0 S1 B1 R); clear R S1 B1)
    | (with_reducible refine bset5 rk_ex rfl (F1.out.bx _ (List.mem_cons_self ..)).1 rfl rfl ?_; intro V XV BV sV; have F2 := Lib.hid (F1.out.set (pre := []) XV BV sV); have h0 := XV.cell (i := 0) rfl; have h1 := XV.cell (i := 1) rfl; have h2 := XV.cell (i := 2) rfl; have h3 := XV.cell (i := 3) rfl; have h4 := XV.cell (i := 4) rfl; clear XV BV sV))
  exact bodyPost_ret (v := exV (.mk 7 0 t 0 x.l) A n c) (by simp [results, Tryz.results173, go_sem, Ex.k, Ex.o, Ex.s, Ex.v, h0, h1, h2, h3, h4]) rfl ⟨_, _, _, rfl, F2.out.fin (List.mem_cons_self ..), F2.out.st, F2.out.bb⟩

end Go.Proofs.YtjpkcgepdfpbnaaGreatDoor

/- postfix of the parser. Written by tools/gen/genY9.py. -/
namespace Go.Proofs.YtjpkcgepdfpbnaaGreatDoor
open Go.RowKit Go.Sort Go.ChangeShapes Go.WideShapes
set_option linter.unusedVariables false

theorem keepT {D0 : Nat → Prop} {w W : World} {b : Nat} {s : PS} {xs : List (Nat × List Value)} {t : Option Addr × Nat × List Ex} {ts : List (Option Addr × Nat × List Ex)} (F : Fr D0 w W b s xs (t :: ts)) : Fr D0 w W b s xs [t] :=
  ⟨F.st, F.bb, F.lt, F.d0, F.bx, F.dis, fun t' ht => by rcases List.mem_singleton.1 ht with rfl; exact F.tr _ (List.mem_cons_self ..)⟩

set_option maxRecDepth 100000 in
set_option maxHeartbeats 2000000 in
theorem postfix_s (m : Nat) (HR : Prs 163 .pr m) (HG : Prs 39 (.ex 0) m) (w : World) (b : Nat) (s : PS) (e : Ex) (s' : PS) (S : St w b s) (h : pe m .po s = some (e, s')) :
    Calls Tryz.prog 152 #[ptr b] w (GX w b e s') := by
  have F0 := Lib.hid ((Fr.start0 S).box zX 42)
  obtain ⟨m, rfl⟩ : ∃ q, m = q + 1 := by cases m with | zero => cases h | succ m => exact ⟨m, rfl⟩
  rw [pe] at h
  obtain ⟨⟨x, s1⟩, hq, h2⟩ := bind_some h
  simp only at h2
  have HH := Lib.hid (fun W S => HR m (Nat.lt_succ_self m) W b s x s1 S hq)
  have H2 := Lib.hid h2
  have HG' := Lib.hid (HG.mono (Nat.le_succ m))
  clear S h HR HG hq h2
  go_enter Tryz.func152, Tryz.ntmps152
  go_wp2_with (first
    | (go_at_call 163; (with_reducible refine (HH.out _ F0.out.st).mono ?_); rintro _ W1 ⟨A, n, c, rfl, R, S1, B1⟩; have F1 := Lib.hid ((F0.out.got0 S1 B1 R).box #[.int .i64 x.k, .int .i64 x.o, .string x.s, .int .i64 x.v, .slice A n c] 42); clear R S1 B1))
  obtain ⟨c3, hc3⟩ : ∃ c3, W1.heap.size = c3 := ⟨_, rfl⟩
  obtain ⟨U, hU⟩ : ∃ U, W1.alloc (.cells #[.int .i64 x.k, .int .i64 x.o, .string x.s, .int .i64 x.v, .slice A n c] 42) = U := ⟨_, rfl⟩
  rw [hU, hc3] at F1 ⊢
  clear hU hc3 F0 HH
  go_loopg [] m (fun gk wr => ∃ (x : Ex) (A : Option Addr) (n c : Nat) (sc : PS), Fr no0 w wr b sc [(c3, [.int .i64 x.k, .int .i64 x.o, .string x.s, .int .i64 x.v, .slice A n c]), (w.heap.size, zX.toList)] [(A, n, x.l)] ∧ pe gk (.pl x) sc = some (e, s') ∧ gk ≤ m)
  case atStart => exact ⟨x, A, n, c, s1, F1.out, H2.out, Nat.le_refl _⟩
  case round =>
    clear F1 H2
    obtain ⟨x, A, n, c, sc, F', hp, hk⟩ := hrel
    rename World => wr
    have F4 := Lib.hid F'
    clear F'
    obtain ⟨j, rfl⟩ : ∃ q, gk = q + 1 := by cases gk with | zero => cases hp | succ m => exact ⟨m, rfl⟩
    rw [pe] at hp
    by_cases h1 : acp ⟨#[46]⟩ sc = true
    · rw [if_pos h1] at hp
      have HP := Lib.hid hp
      have CA := Lib.hid (accept_yes wr b sc ⟨#[46]⟩ F4.out.st (by decide) h1)
      clear hp h1
      go_wp2_with ((go_at_call 67; (with_reducible refine CA.out.mono ?_); rintro _ W3 ⟨rfl, S1, B1⟩; have F5 := Lib.hid (F4.out.call S1 B1); clear S1 B1))
      refine wp_region_treeC (fun _ => True) (.read 0 (.fork2 1 (.fork1 2 (.fork1 3 (.read 4 (.fork1 5 .nil)))) 2 (.fork2 1 (.fork1 3 (.read 4 (.fork1 5 .nil))) 3 (.fork1 1 (.read 4 (.fork1 5 .nil)))))) (by kernel_rfl) (by kernel_rfl) (fun _ _ => trivial) ?_
      intro W4 B
      replace F5 := Lib.hid (F5.out.below B)
      clear B F4 CA
      refine tree_read rfl ?_
      refine wpQuiet_step (fun K hK => ?_)
      rw [if_pos (by rfl)]
      first | refine quiet_move _ rfl ?_ | refine quiet_assign _ rfl ?_
      go_simp
      refine hK _ ?_
      clear hK K
      refine wpQuiet_nil ?_
      refine tree_two rfl rfl ?_ ?_
      · go_wp2_with ((go_at_call 113; (with_reducible refine (name_b _ b _ F5.out.st).mono ?_); rintro _ W5 ⟨rfl, S1, B1⟩; have F6 := Lib.hid (F5.out.call S1 B1); clear S1 B1))
        refine ⟨trivial, ?_⟩
        have gx : EBox W5 c3 [.int .i64 x.k, .int .i64 x.o, .string x.s, .int .i64 x.v, .slice A n c] := (F6.out.bx _ (List.mem_cons_self ..)).1
        have g0 := gx.cell (i := 0) rfl
        have g1 := gx.cell (i := 1) rfl
        have g2 := gx.cell (i := 2) rfl
        have g3 := gx.cell (i := 3) rfl
        have g4 := gx.cell (i := 4) rfl
        clear gx
        refine tree_one rfl ?_
        go_wp2_with fail
        refine ⟨trivial, ?_⟩
        clear g0 g1 g2 g3 g4
        refine tree_one rfl ?_
        go_wp2_with fail
        have F7 := Lib.hid (F6.out.made1 (x := x) (k := c) (t := 42) (List.mem_cons_self ..))
        refine ⟨trivial, ?_⟩
        refine tree_read rfl ?_
        refine wpQuiet_step (fun K hK => ?_)
        rw [if_pos (by rfl)]
        refine quiet_tval (.agg #[.int .i64 8, .int .i64 0, .string (nmT (adv sc)), .int .i64 0, .slice (some ⟨W5.heap.size, 0, none⟩) 1 1]) (fun W hW => by simp [execOp, go_sem]) ?_
        go_simp
        refine hK _ ?_
        clear hK K
        refine wpQuiet_nil ?_
        refine tree_one rfl ?_
        go_wp2_with ((refine bset5 rk_ex rfl (F7.out.bx _ (List.mem_cons_self ..)).1 rfl rfl ?_; intro V XV BV sV; have F9 := Lib.hid (F7.out.set (pre := []) XV BV sV); have h0 := XV.cell (i := 0) rfl; have h1 := XV.cell (i := 1) rfl; have h2 := XV.cell (i := 2) rfl; have h3 := XV.cell (i := 3) rfl; have h4 := XV.cell (i := 4) rfl; clear XV BV sV))
        refine ⟨trivial, ?_⟩
        refine tree_nil ?_
        go_wp2_with fail
        go_roundg j
        case measure => omega
        case rel => exact ⟨_, _, _, _, _, (keepT F9.out), HP.out, by omega⟩
      · have gx : EBox W4 c3 [.int .i64 x.k, .int .i64 x.o, .string x.s, .int .i64 x.v, .slice A n c] := (F5.out.bx _ (List.mem_cons_self ..)).1
        have g0 := gx.cell (i := 0) rfl
        have g1 := gx.cell (i := 1) rfl
        have g2 := gx.cell (i := 2) rfl
        have g3 := gx.cell (i := 3) rfl
        have g4 := gx.cell (i := 4) rfl
        clear gx
        go_wp2_with fail
        refine ⟨trivial, ?_⟩
        clear g0 g1 g2 g3 g4
        refine tree_two rfl rfl ?_ ?_
        · go_wp2_with ((go_at_call 113; (with_reducible refine (name_b _ b _ F5.out.st).mono ?_); rintro _ W5 ⟨rfl, S1, B1⟩; have F6 := Lib.hid (F5.out.call S1 B1); clear S1 B1))
          refine ⟨trivial, ?_⟩
          refine tree_one rfl ?_
          go_wp2_with fail
          have F7 := Lib.hid (F6.out.made1 (x := x) (k := c) (t := 42) (List.mem_cons_self ..))
          refine ⟨trivial, ?_⟩
          refine tree_read rfl ?_
          refine wpQuiet_step (fun K hK => ?_)
          rw [if_pos (by rfl)]
          refine quiet_tval (.agg #[.int .i64 8, .int .i64 0, .string (nmT (adv sc)), .int .i64 0, .slice (some ⟨W5.heap.size, 0, none⟩) 1 1]) (fun W hW => by simp [execOp, go_sem]) ?_
          go_simp
          refine hK _ ?_
          clear hK K
          refine wpQuiet_nil ?_
          refine tree_one rfl ?_
          go_wp2_with ((refine bset5 rk_ex rfl (F7.out.bx _ (List.mem_cons_self ..)).1 rfl rfl ?_; intro V XV BV sV; have F9 := Lib.hid (F7.out.set (pre := []) XV BV sV); have h0 := XV.cell (i := 0) rfl; have h1 := XV.cell (i := 1) rfl; have h2 := XV.cell (i := 2) rfl; have h3 := XV.cell (i := 3) rfl; have h4 := XV.cell (i := 4) rfl; clear XV BV sV))
          refine ⟨trivial, ?_⟩
          refine tree_nil ?_
          go_wp2_with fail
          go_roundg j
          case measure => omega
          case rel => exact ⟨_, _, _, _, _, (keepT F9.out), HP.out, by omega⟩
        · go_wp2_with fail
          have F6 := Lib.hid (F5.out.made1 (x := x) (k := c) (t := 42) (List.mem_cons_self ..))
          refine ⟨trivial, ?_⟩
          refine tree_one rfl ?_
          go_wp2_with ((go_at_call 113; (with_reducible refine (name_b _ b _ F6.out.st).mono ?_); rintro _ W5 ⟨rfl, S1, B1⟩; have F7 := Lib.hid (F6.out.call S1 B1); clear S1 B1))
          refine ⟨trivial, ?_⟩
          refine tree_read rfl ?_
          refine wpQuiet_step (fun K hK => ?_)
          rw [if_pos (by rfl)]
          refine quiet_tval (.agg #[.int .i64 8, .int .i64 0, .string (nmT (adv sc)), .int .i64 0, .slice (some ⟨W4.heap.size, 0, none⟩) 1 1]) (fun W hW => by simp [execOp, go_sem]) ?_
          go_simp
          refine hK _ ?_
          clear hK K
          refine wpQuiet_nil ?_
          refine tree_one rfl ?_
          go_wp2_with ((refine bset5 rk_ex rfl (F7.out.bx _ (List.mem_cons_self ..)).1 rfl rfl ?_; intro V XV BV sV; have F9 := Lib.hid (F7.out.set (pre := []) XV BV sV); have h0 := XV.cell (i := 0) rfl; have h1 := XV.cell (i := 1) rfl; have h2 := XV.cell (i := 2) rfl; have h3 := XV.cell (i := 3) rfl; have h4 := XV.cell (i := 4) rfl; clear XV BV sV))
          refine ⟨trivial, ?_⟩
          refine tree_nil ?_
          go_wp2_with fail
          go_roundg j
          case measure => omega
          case rel => exact ⟨_, _, _, _, _, (keepT F9.out), HP.out, by omega⟩
    · rw [if_neg h1] at hp
      have CN := Lib.hid (accept_no wr b sc ⟨#[46]⟩ F4.out.st (by simpa using h1))
      by_cases h2 : acp ⟨#[91]⟩ sc = true
      · rw [if_pos h2] at hp
        obtain ⟨⟨y, s3⟩, hq, h3⟩ := bind_some hp
        simp only at h3
        have HP := Lib.hid h3
        have HE := Lib.hid (fun W S => HG'.out j (by omega) W b (adv sc) y s3 S hq)
        have CA := Lib.hid (fun W S => accept_yes W b sc ⟨#[91]⟩ S (by decide) h2)
        clear hp h1 h2 hq h3
        go_wp2_with (first
          | (go_at_call 67; (with_reducible refine CN.out.mono ?_); rintro _ W2 ⟨rfl, S1, B1⟩; have F6 := Lib.hid (F4.out.below B1); clear S1 B1)
          | (go_at_call 67; (with_reducible refine (CA.out _ F6.out.st).mono ?_); rintro _ W3 ⟨rfl, S1, B1⟩; have F5 := Lib.hid (F6.out.call S1 B1); clear S1 B1))
        refine wp_region_treeC (fun _ => True) (.read 1 (.fork2 0 (.fork1 2 (.fork1 3 (.read 4 (.fork1 5 .nil)))) 2 (.fork1 0 (.fork1 3 (.read 4 (.fork1 5 .nil)))))) (by kernel_rfl) (by kernel_rfl) (fun _ _ => trivial) ?_
        intro W4 B
        replace F5 := Lib.hid (F5.out.below B)
        clear B F4 CA CN F6
        refine tree_read rfl ?_
        refine wpQuiet_step (fun K hK => ?_)
        rw [if_pos (by rfl)]
        first | refine quiet_move _ rfl ?_ | refine quiet_assign _ rfl ?_
        go_simp
        refine hK _ ?_
        clear hK K
        refine wpQuiet_nil ?_
        refine tree_two rfl rfl ?_ ?_
        · have gx : EBox W4 c3 [.int .i64 x.k, .int .i64 x.o, .string x.s, .int .i64 x.v, .slice A n c] := (F5.out.bx _ (List.mem_cons_self ..)).1
          have g0 := gx.cell (i := 0) rfl
          have g1 := gx.cell (i := 1) rfl
          have g2 := gx.cell (i := 2) rfl
          have g3 := gx.cell (i := 3) rfl
          have g4 := gx.cell (i := 4) rfl
          clear gx
          go_wp2_with fail
          refine ⟨trivial, ?_⟩
          clear g0 g1 g2 g3 g4
          refine tree_one rfl ?_
          go_wp2_with ((go_at_call 39; (with_reducible refine (HE.out _ F5.out.st).mono ?_); rintro _ W5 ⟨A2, n2, k2, rfl, R, S1, B1⟩; have F6 := Lib.hid (F5.out.got0 S1 B1 R); clear R S1 B1))
          refine ⟨trivial, ?_⟩
          refine tree_one rfl ?_
          go_wp2_with fail
          have F7 := Lib.hid (F6.out.made2 (x := x) (y := y) (k := c) (k2 := k2) (t := 42) (List.mem_cons_of_mem _ (List.mem_cons_self ..)) (List.mem_cons_self ..))
          refine ⟨trivial, ?_⟩
          refine tree_read rfl ?_
          refine wpQuiet_step (fun K hK => ?_)
          rw [if_pos (by rfl)]
          refine quiet_tval (.agg #[.int .i64 9, .int .i64 0, .string ⟨#[]⟩, .int .i64 0, .slice (some ⟨W5.heap.size, 0, none⟩) 2 2]) (fun W hW => by simp [execOp, go_sem]) ?_
          go_simp
          refine hK _ ?_
          clear hK K
          refine wpQuiet_nil ?_
          refine tree_one rfl ?_
          go_wp2_with ((refine bset5 rk_ex rfl (F7.out.bx _ (List.mem_cons_self ..)).1 rfl rfl ?_; intro V XV BV sV; have F9 := Lib.hid (F7.out.set (pre := []) XV BV sV); have h0 := XV.cell (i := 0) rfl; have h1 := XV.cell (i := 1) rfl; have h2 := XV.cell (i := 2) rfl; have h3 := XV.cell (i := 3) rfl; have h4 := XV.cell (i := 4) rfl; clear XV BV sV))
          refine ⟨trivial, ?_⟩
          refine tree_nil ?_
          go_wp2_with (go_at_call 65; (with_reducible refine (expect_b _ b _ ⟨#[93]⟩ F9.out.st (by decide)).mono ?_); rintro _ W7 ⟨rfl, S1, B1⟩; have FA := Lib.hid (F9.out.call S1 B1); clear S1 B1)
          go_roundg j
          case measure => omega
          case rel => exact ⟨_, _, _, _, _, (keepT FA.out), HP.out, by omega⟩
        · go_wp2_with ((go_at_call 39; (with_reducible refine (HE.out _ F5.out.st).mono ?_); rintro _ W5 ⟨A2, n2, k2, rfl, R, S1, B1⟩; have F6 := Lib.hid (F5.out.got0 S1 B1 R); clear R S1 B1))
          refine ⟨trivial, ?_⟩
          have gx : EBox W5 c3 [.int .i64 x.k, .int .i64 x.o, .string x.s, .int .i64 x.v, .slice A n c] := (F6.out.bx _ (List.mem_cons_self ..)).1
          have g0 := gx.cell (i := 0) rfl
          have g1 := gx.cell (i := 1) rfl
          have g2 := gx.cell (i := 2) rfl
          have g3 := gx.cell (i := 3) rfl
          have g4 := gx.cell (i := 4) rfl
          clear gx
          refine tree_one rfl ?_
          go_wp2_with fail
          refine ⟨trivial, ?_⟩
          clear g0 g1 g2 g3 g4
          refine tree_one rfl ?_
          go_wp2_with fail
          have F7 := Lib.hid (F6.out.made2 (x := x) (y := y) (k := c) (k2 := k2) (t := 42) (List.mem_cons_of_mem _ (List.mem_cons_self ..)) (List.mem_cons_self ..))
          refine ⟨trivial, ?_⟩
          refine tree_read rfl ?_
          refine wpQuiet_step (fun K hK => ?_)
          rw [if_pos (by rfl)]
          refine quiet_tval (.agg #[.int .i64 9, .int .i64 0, .string ⟨#[]⟩, .int .i64 0, .slice (some ⟨W5.heap.size, 0, none⟩) 2 2]) (fun W hW => by simp [execOp, go_sem]) ?_
          go_simp
          refine hK _ ?_
          clear hK K
          refine wpQuiet_nil ?_
          refine tree_one rfl ?_
          go_wp2_with ((refine bset5 rk_ex rfl (F7.out.bx _ (List.mem_cons_self ..)).1 rfl rfl ?_; intro V XV BV sV; have F9 := Lib.hid (F7.out.set (pre := []) XV BV sV); have h0 := XV.cell (i := 0) rfl; have h1 := XV.cell (i := 1) rfl; have h2 := XV.cell (i := 2) rfl; have h3 := XV.cell (i := 3) rfl; have h4 := XV.cell (i := 4) rfl; clear XV BV sV))
          refine ⟨trivial, ?_⟩
          refine tree_nil ?_
          go_wp2_with (go_at_call 65; (with_reducible refine (expect_b _ b _ ⟨#[93]⟩ F9.out.st (by decide)).mono ?_); rintro _ W7 ⟨rfl, S1, B1⟩; have FA := Lib.hid (F9.out.call S1 B1); clear S1 B1)
          go_roundg j
          case measure => omega
          case rel => exact ⟨_, _, _, _, _, (keepT FA.out), HP.out, by omega⟩
      · rw [if_neg h2] at hp
        obtain ⟨rfl, rfl⟩ := some_pair hp
        have C2 := Lib.hid (fun W S => accept_no W b sc ⟨#[91]⟩ S (by simpa using h2))
        clear hp h1 h2
        go_wp2_with (first
          | (go_at_call 67; (with_reducible refine CN.out.mono ?_); rintro _ W2 ⟨rfl, S1, B1⟩; have F5 := Lib.hid (F4.out.below B1); clear S1 B1)
          | (go_at_call 67; (with_reducible refine (C2.out _ F5.out.st).mono ?_); rintro _ W3 ⟨rfl, S1, B1⟩; have F6 := Lib.hid (F5.out.below B1); clear S1 B1; have gx : EBox W3 c3 [.int .i64 x.k, .int .i64 x.o, .string x.s, .int .i64 x.v, .slice A n c] := (F6.out.bx _ (List.mem_cons_self ..)).1; have g0 := gx.cell (i := 0) rfl; have g1 := gx.cell (i := 1) rfl; have g2 := gx.cell (i := 2) rfl; have g3 := gx.cell (i := 3) rfl; have g4 := gx.cell (i := 4) rfl; clear gx)
          | (with_reducible refine bset5 rk_ex rfl (F6.out.bx _ (List.mem_cons_of_mem _ (List.mem_cons_self ..))).1 rfl rfl ?_; intro V XV BV sV; have F7 := Lib.hid (F6.out.set (pre := [_]) XV BV sV); have h0 := XV.cell (i := 0) rfl; have h1 := XV.cell (i := 1) rfl; have h2 := XV.cell (i := 2) rfl; have h3 := XV.cell (i := 3) rfl; have h4 := XV.cell (i := 4) rfl; clear XV BV sV))
        exact bodyPost_ret (v := exV x A n c) (by simp [results, Tryz.results152, go_sem, Ex.k, Ex.o, Ex.s, Ex.v, h0, h1, h2, h3, h4]) rfl ⟨_, _, _, rfl, F7.out.fin (List.mem_cons_self ..), F7.out.st, F7.out.bb⟩

end Go.Proofs.YtjpkcgepdfpbnaaGreatDoor

/- primary of the parser. Written by tools/gen/genY10.py. -/
namespace Go.Proofs.YtjpkcgepdfpbnaaGreatDoor
open Go.RowKit Go.Sort Go.ChangeShapes Go.WideShapes
set_option linter.unusedVariables false

/-- The parser's calls: of whatever name. -/
def PrsC (m : Nat) : Prop := ∀ j, j < m → ∀ W b s t e s', St W b s → pe j (.ca t) s = some (e, s') → Calls Tryz.prog 173 #[ptr b, .string t] W (GX W b e s')

set_option maxRecDepth 100000 in
set_option maxHeartbeats 2000000 in
theorem primary_1 (m : Nat) (HG : Prs 39 (.ex 0) (m + 1)) (HC : PrsC (m + 1)) (w : World) (b : Nat) (s : PS) (e : Ex) (s' : PS) (S : St w b s) (h1 : acp ⟨#[40]⟩ s = true) (h : ((pe m (.ex 0) (adv s)).bind fun q => some (q.1, xp ⟨#[41]⟩ q.2)) = some (e, s')) :
    Calls Tryz.prog 163 #[ptr b] w (GX w b e s') := by
  have F0 := Lib.hid ((Fr.start0 S).box zX 42)
  obtain ⟨z, hz⟩ : ∃ z, pk s = z := ⟨_, rfl⟩
  have CP := Lib.hid (peek_b _ b s F0.out.st)
  rw [hz] at CP
  obtain ⟨⟨x, s1⟩, hq, h2⟩ := bind_some h
  obtain ⟨rfl, rfl⟩ := some_pair h2
  have HE := Lib.hid (fun W S => HG m (Nat.lt_succ_self m) W b (adv s) x s1 S hq)
  have CA := Lib.hid (fun W S => accept_yes W b s ⟨#[40]⟩ S (by decide) h1)
  clear S h h1 h2 hq HG HC hz
  go_enter Tryz.func163, Tryz.ntmps163
  go_wp2_with (first
    | (go_at_call 62; (with_reducible refine CP.out.mono ?_); rintro _ W1 ⟨rfl, B1⟩; have F1 := Lib.hid ((F0.out.below B1).box #[.int .i64 z.k, .string (tx z), .int .i64 z.v, .int .i64 z.ln] 60); clear B1)
    | (go_at_call 67; (with_reducible refine (CA.out _ F1.out.st).mono ?_); rintro _ W2 ⟨rfl, S1, B1⟩; have F2 := Lib.hid (F1.out.call S1 B1); clear S1 B1)
    | (go_at_call 39; (with_reducible refine (HE.out _ F2.out.st).mono ?_); rintro _ W3 ⟨A, n, c, rfl, R, S1, B1⟩; have F3 := Lib.hid ((F2.out.got0 S1 B1 R).box #[.int .i64 x.k, .int .i64 x.o, .string x.s, .int .i64 x.v, .slice A n c] 42); clear R S1 B1)
    | (go_at_call 65; (with_reducible refine (expect_b _ b _ ⟨#[41]⟩ F3.out.st (by decide)).mono ?_); rintro _ W4 ⟨rfl, S1, B1⟩; have F4 := Lib.hid (F3.out.call S1 B1); clear S1 B1; have gx : EBox W4 W3.heap.size [.int .i64 x.k, .int .i64 x.o, .string x.s, .int .i64 x.v, .slice A n c] := (F4.out.bx _ (List.mem_cons_self ..)).1; have g0 := gx.cell (i := 0) rfl; have g1 := gx.cell (i := 1) rfl; have g2 := gx.cell (i := 2) rfl; have g3 := gx.cell (i := 3) rfl; have g4 := gx.cell (i := 4) rfl; clear gx)
    | (with_reducible refine bset5 rk_ex rfl (F4.out.bx _ (List.mem_cons_of_mem _ (List.mem_cons_of_mem _ (List.mem_cons_self ..)))).1 rfl rfl ?_; intro V XV BV sV; have F5 := Lib.hid (F4.out.set (pre := [_, _]) XV BV sV); have h0 := XV.cell (i := 0) rfl; have h1 := XV.cell (i := 1) rfl; have h2 := XV.cell (i := 2) rfl; have h3 := XV.cell (i := 3) rfl; have h4 := XV.cell (i := 4) rfl; clear XV BV sV))
  exact bodyPost_ret (v := exV x A n c) (by simp [results, Tryz.results163, go_sem, Ex.k, Ex.o, Ex.s, Ex.v, h0, h1, h2, h3, h4]) rfl ⟨_, _, _, rfl, F5.out.fin (List.mem_cons_self ..), F5.out.st, F5.out.bb⟩

set_option maxRecDepth 100000 in
set_option maxHeartbeats 2000000 in
theorem primary_2 (m : Nat) (HG : Prs 39 (.ex 0) (m + 1)) (HC : PrsC (m + 1)) (w : World) (b : Nat) (s : PS) (e : Ex) (s' : PS) (S : St w b s) (n0 : ¬ acp ⟨#[40]⟩ s = true) (h1 : acp ⟨#[116, 114, 117, 101]⟩ s = true) (h : some (Ex.mk 3 0 ⟨#[]⟩ 1 [], adv s) = some (e, s')) :
    Calls Tryz.prog 163 #[ptr b] w (GX w b e s') := by
  have F0 := Lib.hid ((Fr.start0 S).box zX 42)
  obtain ⟨z, hz⟩ : ∃ z, pk s = z := ⟨_, rfl⟩
  have CP := Lib.hid (peek_b _ b s F0.out.st)
  rw [hz] at CP
  obtain ⟨rfl, rfl⟩ := some_pair h
  have CN0 := Lib.hid (fun W S => accept_no W b s ⟨#[40]⟩ S (by simpa using n0))
  have CA := Lib.hid (fun W S => accept_yes W b s ⟨#[116, 114, 117, 101]⟩ S (by decide) h1)
  clear S h h1 HG HC hz n0
  go_enter Tryz.func163, Tryz.ntmps163
  go_wp2_with (first
    | (go_at_call 62; (with_reducible refine CP.out.mono ?_); rintro _ W1 ⟨rfl, B1⟩; have F1 := Lib.hid ((F0.out.below B1).box #[.int .i64 z.k, .string (tx z), .int .i64 z.v, .int .i64 z.ln] 60); clear B1)
    | (go_at_call 67; (with_reducible refine (CN0.out _ F1.out.st).mono ?_); rintro _ N0 ⟨rfl, S1, B1⟩; have F2 := Lib.hid (F1.out.below B1); clear S1 B1)
    | (go_at_call 67; (with_reducible refine (CA.out _ F2.out.st).mono ?_); rintro _ W2 ⟨rfl, S1, B1⟩; have F7 := Lib.hid ((F2.out.call S1 B1).tree (A := none) (n := 0) (l := []) (RdX.nil _ _ none)); clear S1 B1)
    | (with_reducible refine bset5 rk_ex rfl (F7.out.bx _ (List.mem_cons_of_mem _ (List.mem_cons_self ..))).1 rfl rfl ?_; intro V XV BV sV; have F8 := Lib.hid (F7.out.set (pre := [_]) XV BV sV); have h0 := XV.cell (i := 0) rfl; have h1 := XV.cell (i := 1) rfl; have h2 := XV.cell (i := 2) rfl; have h3 := XV.cell (i := 3) rfl; have h4 := XV.cell (i := 4) rfl; clear XV BV sV))
  exact bodyPost_ret (v := exV (.mk 3 0 ⟨#[]⟩ 1 []) none 0 0) (by simp [results, Tryz.results163, go_sem, Ex.k, Ex.o, Ex.s, Ex.v, h0, h1, h2, h3, h4]) rfl ⟨_, _, _, rfl, F8.out.fin (List.mem_cons_self ..), F8.out.st, F8.out.bb⟩

set_option maxRecDepth 100000 in
set_option maxHeartbeats 2000000 in
theorem primary_3 (m : Nat) (HG : Prs 39 (.ex 0) (m + 1)) (HC : PrsC (m + 1)) (w : World) (b : Nat) (s : PS) (e : Ex) (s' : PS) (S : St w b s) (n0 : ¬ acp ⟨#[40]⟩ s = true) (n1 : ¬ acp ⟨#[116, 114, 117, 101]⟩ s = true) (h1 : acp ⟨#[102, 97, 108, 115, 101]⟩ s = true) (h : some (Ex.mk 3 0 ⟨#[]⟩ 0 [], adv s) = some (e, s')) :
    Calls Tryz.prog 163 #[ptr b] w (GX w b e s') := by
  have F0 := Lib.hid ((Fr.start0 S).box zX 42)
  obtain ⟨z, hz⟩ : ∃ z, pk s = z := ⟨_, rfl⟩
  have CP := Lib.hid (peek_b _ b s F0.out.st)
  rw [hz] at CP
  obtain ⟨rfl, rfl⟩ := some_pair h
  have CN0 := Lib.hid (fun W S => accept_no W b s ⟨#[40]⟩ S (by simpa using n0))
  have CN1 := Lib.hid (fun W S => accept_no W b s ⟨#[116, 114, 117, 101]⟩ S (by simpa using n1))
  have CA := Lib.hid (fun W S => accept_yes W b s ⟨#[102, 97, 108, 115, 101]⟩ S (by decide) h1)
  clear S h h1 HG HC hz n0 n1
  go_enter Tryz.func163, Tryz.ntmps163
  go_wp2_with (first
    | (go_at_call 62; (with_reducible refine CP.out.mono ?_); rintro _ W1 ⟨rfl, B1⟩; have F1 := Lib.hid ((F0.out.below B1).box #[.int .i64 z.k, .string (tx z), .int .i64 z.v, .int .i64 z.ln] 60); clear B1)
    | (go_at_call 67; (with_reducible refine (CN0.out _ F1.out.st).mono ?_); rintro _ N0 ⟨rfl, S1, B1⟩; have F2 := Lib.hid (F1.out.below B1); clear S1 B1)
    | (go_at_call 67; (with_reducible refine (CN1.out _ F2.out.st).mono ?_); rintro _ N1 ⟨rfl, S1, B1⟩; have F3 := Lib.hid (F2.out.below B1); clear S1 B1)
    | (go_at_call 67; (with_reducible refine (CA.out _ F3.out.st).mono ?_); rintro _ W2 ⟨rfl, S1, B1⟩; have F7 := Lib.hid ((F3.out.call S1 B1).tree (A := none) (n := 0) (l := []) (RdX.nil _ _ none)); clear S1 B1)
    | (with_reducible refine bset5 rk_ex rfl (F7.out.bx _ (List.mem_cons_of_mem _ (List.mem_cons_self ..))).1 rfl rfl ?_; intro V XV BV sV; have F8 := Lib.hid (F7.out.set (pre := [_]) XV BV sV); have h0 := XV.cell (i := 0) rfl; have h1 := XV.cell (i := 1) rfl; have h2 := XV.cell (i := 2) rfl; have h3 := XV.cell (i := 3) rfl; have h4 := XV.cell (i := 4) rfl; clear XV BV sV))
  exact bodyPost_ret (v := exV (.mk 3 0 ⟨#[]⟩ 0 []) none 0 0) (by simp [results, Tryz.results163, go_sem, Ex.k, Ex.o, Ex.s, Ex.v, h0, h1, h2, h3, h4]) rfl ⟨_, _, _, rfl, F8.out.fin (List.mem_cons_self ..), F8.out.st, F8.out.bb⟩

set_option maxRecDepth 100000 in
set_option maxHeartbeats 2000000 in
theorem primary_4 (m : Nat) (HG : Prs 39 (.ex 0) (m + 1)) (HC : PrsC (m + 1)) (w : World) (b : Nat) (s : PS) (e : Ex) (s' : PS) (S : St w b s) (n0 : ¬ acp ⟨#[40]⟩ s = true) (n1 : ¬ acp ⟨#[116, 114, 117, 101]⟩ s = true) (n2 : ¬ acp ⟨#[102, 97, 108, 115, 101]⟩ s = true) (h1 : (pk s).k = 2) (h : some (Ex.mk 2 0 ⟨#[]⟩ (pk s).v [], adv s) = some (e, s')) :
    Calls Tryz.prog 163 #[ptr b] w (GX w b e s') := by
  have F0 := Lib.hid ((Fr.start0 S).box zX 42)
  obtain ⟨z, hz⟩ : ∃ z, pk s = z := ⟨_, rfl⟩
  have CP := Lib.hid (peek_b _ b s F0.out.st)
  rw [hz] at CP
  obtain ⟨rfl, rfl⟩ := some_pair h
  have hg := Lib.hid (pk_gd h1 (by decide) (by decide) S.gd)
  rw [hz] at h1 ⊢
  have CN0 := Lib.hid (fun W S => accept_no W b s ⟨#[40]⟩ S (by simpa using n0))
  have CN1 := Lib.hid (fun W S => accept_no W b s ⟨#[116, 114, 117, 101]⟩ S (by simpa using n1))
  have CN2 := Lib.hid (fun W S => accept_no W b s ⟨#[102, 97, 108, 115, 101]⟩ S (by simpa using n2))
  have q2 : (z.k == 2) = true := beq_iff_eq.2 h1
  clear S h h1 HG HC hz n0 n1 n2 
  go_enter Tryz.func163, Tryz.ntmps163
  go_wp2_with (first
    | (go_at_call 62; (with_reducible refine CP.out.mono ?_); rintro _ W1 ⟨rfl, B1⟩; have F1 := Lib.hid ((F0.out.below B1).box #[.int .i64 z.k, .string (tx z), .int .i64 z.v, .int .i64 z.ln] 60); clear B1)
    | (go_at_call 67; (with_reducible refine (CN0.out _ F1.out.st).mono ?_); rintro _ N0 ⟨rfl, S1, B1⟩; have F2 := Lib.hid (F1.out.below B1); clear S1 B1)
    | (go_at_call 67; (with_reducible refine (CN1.out _ F2.out.st).mono ?_); rintro _ N1 ⟨rfl, S1, B1⟩; have F3 := Lib.hid (F2.out.below B1); clear S1 B1)
    | (go_at_call 67; (with_reducible refine (CN2.out _ F3.out.st).mono ?_); rintro _ N2 ⟨rfl, S1, B1⟩; have F4 := Lib.hid (F3.out.below B1); clear S1 B1; have XT : EBox N2 W1.heap.size [.int .i64 z.k, .string (tx z), .int .i64 z.v, .int .i64 z.ln] := (F4.out.bx _ (List.mem_cons_self ..)).1; have x0 := XT.cell (i := 0) rfl; have x1 := XT.cell (i := 1) rfl; have x2 := XT.cell (i := 2) rfl; have x3 := XT.cell (i := 3) rfl; clear XT; have hne : W1.heap.size ≠ b := (by have h8 := (F4.out.bx _ (List.mem_cons_self ..)).2.1; have h9 := F4.out.lt; simp only at h8; omega); obtain ⟨_, At, nt, ct, at_, toks, X, hs⟩ := F4.out.st; have c1 := X.c1; have z1 := X.fre 1; have hlt := (X.here (by rw [← hs]; exact F4.out.st.gd)).1; have hn := X.hn; have F5 := Lib.hid (F4.out.call (St.advance X hs hg.out) ((But.refl b N2).set 1 (.int .i64 ((at_ : Int) + 1)))); clear X hs; have F6 := Lib.hid (F5.out.tree (A := none) (n := 0) (l := []) (RdX.nil _ _ none)))
    | (with_reducible refine bset5 rk_ex rfl (F6.out.bx _ (List.mem_cons_of_mem _ (List.mem_cons_self ..))).1 rfl rfl ?_; intro V XV BV sV; have F7 := Lib.hid (F6.out.set (pre := [_]) XV BV sV); have h0 := XV.cell (i := 0) rfl; have h1 := XV.cell (i := 1) rfl; have h2 := XV.cell (i := 2) rfl; have h3 := XV.cell (i := 3) rfl; have h4 := XV.cell (i := 4) rfl; clear XV BV sV))
  exact bodyPost_ret (v := exV (.mk 2 0 ⟨#[]⟩ z.v []) none 0 0) (by simp [results, Tryz.results163, go_sem, Ex.k, Ex.o, Ex.s, Ex.v, h0, h1, h2, h3, h4]) rfl ⟨_, _, _, rfl, F7.out.fin (List.mem_cons_self ..), F7.out.st, F7.out.bb⟩

set_option maxRecDepth 100000 in
set_option maxHeartbeats 2000000 in
theorem primary_5 (m : Nat) (HG : Prs 39 (.ex 0) (m + 1)) (HC : PrsC (m + 1)) (w : World) (b : Nat) (s : PS) (e : Ex) (s' : PS) (S : St w b s) (n0 : ¬ acp ⟨#[40]⟩ s = true) (n1 : ¬ acp ⟨#[116, 114, 117, 101]⟩ s = true) (n2 : ¬ acp ⟨#[102, 97, 108, 115, 101]⟩ s = true) (k2 : ¬ (pk s).k = 2) (h1 : (pk s).k = 3) (h : some (Ex.mk 1 0 ⟨#[]⟩ (pk s).v [], adv s) = some (e, s')) :
    Calls Tryz.prog 163 #[ptr b] w (GX w b e s') := by
  have F0 := Lib.hid ((Fr.start0 S).box zX 42)
  obtain ⟨z, hz⟩ : ∃ z, pk s = z := ⟨_, rfl⟩
  have CP := Lib.hid (peek_b _ b s F0.out.st)
  rw [hz] at CP
  obtain ⟨rfl, rfl⟩ := some_pair h
  have hg := Lib.hid (pk_gd h1 (by decide) (by decide) S.gd)
  rw [hz] at h1 ⊢
  rw [hz] at k2
  have CN0 := Lib.hid (fun W S => accept_no W b s ⟨#[40]⟩ S (by simpa using n0))
  have CN1 := Lib.hid (fun W S => accept_no W b s ⟨#[116, 114, 117, 101]⟩ S (by simpa using n1))
  have CN2 := Lib.hid (fun W S => accept_no W b s ⟨#[102, 97, 108, 115, 101]⟩ S (by simpa using n2))
  have q2 : (z.k == 2) = false := beq_eq_false_iff_ne.2 k2
  have q3 : (z.k == 3) = true := beq_iff_eq.2 h1
  clear S h h1 HG HC hz n0 n1 n2 k2
  go_enter Tryz.func163, Tryz.ntmps163
  go_wp2_with (first
    | (go_at_call 62; (with_reducible refine CP.out.mono ?_); rintro _ W1 ⟨rfl, B1⟩; have F1 := Lib.hid ((F0.out.below B1).box #[.int .i64 z.k, .string (tx z), .int .i64 z.v, .int .i64 z.ln] 60); clear B1)
    | (go_at_call 67; (with_reducible refine (CN0.out _ F1.out.st).mono ?_); rintro _ N0 ⟨rfl, S1, B1⟩; have F2 := Lib.hid (F1.out.below B1); clear S1 B1)
    | (go_at_call 67; (with_reducible refine (CN1.out _ F2.out.st).mono ?_); rintro _ N1 ⟨rfl, S1, B1⟩; have F3 := Lib.hid (F2.out.below B1); clear S1 B1)
    | (go_at_call 67; (with_reducible refine (CN2.out _ F3.out.st).mono ?_); rintro _ N2 ⟨rfl, S1, B1⟩; have F4 := Lib.hid (F3.out.below B1); clear S1 B1; have XT : EBox N2 W1.heap.size [.int .i64 z.k, .string (tx z), .int .i64 z.v, .int .i64 z.ln] := (F4.out.bx _ (List.mem_cons_self ..)).1; have x0 := XT.cell (i := 0) rfl; have x1 := XT.cell (i := 1) rfl; have x2 := XT.cell (i := 2) rfl; have x3 := XT.cell (i := 3) rfl; clear XT; have hne : W1.heap.size ≠ b := (by have h8 := (F4.out.bx _ (List.mem_cons_self ..)).2.1; have h9 := F4.out.lt; simp only at h8; omega); obtain ⟨_, At, nt, ct, at_, toks, X, hs⟩ := F4.out.st; have c1 := X.c1; have z1 := X.fre 1; have hlt := (X.here (by rw [← hs]; exact F4.out.st.gd)).1; have hn := X.hn; have F5 := Lib.hid (F4.out.call (St.advance X hs hg.out) ((But.refl b N2).set 1 (.int .i64 ((at_ : Int) + 1)))); clear X hs; have F6 := Lib.hid (F5.out.tree (A := none) (n := 0) (l := []) (RdX.nil _ _ none)))
    | (with_reducible refine bset5 rk_ex rfl (F6.out.bx _ (List.mem_cons_of_mem _ (List.mem_cons_self ..))).1 rfl rfl ?_; intro V XV BV sV; have F7 := Lib.hid (F6.out.set (pre := [_]) XV BV sV); have h0 := XV.cell (i := 0) rfl; have h1 := XV.cell (i := 1) rfl; have h2 := XV.cell (i := 2) rfl; have h3 := XV.cell (i := 3) rfl; have h4 := XV.cell (i := 4) rfl; clear XV BV sV))
  exact bodyPost_ret (v := exV (.mk 1 0 ⟨#[]⟩ z.v []) none 0 0) (by simp [results, Tryz.results163, go_sem, Ex.k, Ex.o, Ex.s, Ex.v, h0, h1, h2, h3, h4]) rfl ⟨_, _, _, rfl, F7.out.fin (List.mem_cons_self ..), F7.out.st, F7.out.bb⟩

set_option maxRecDepth 100000 in
set_option maxHeartbeats 2000000 in
theorem primary_6 (m : Nat) (HG : Prs 39 (.ex 0) (m + 1)) (HC : PrsC (m + 1)) (w : World) (b : Nat) (s : PS) (e : Ex) (s' : PS) (S : St w b s) (n0 : ¬ acp ⟨#[40]⟩ s = true) (n1 : ¬ acp ⟨#[116, 114, 117, 101]⟩ s = true) (n2 : ¬ acp ⟨#[102, 97, 108, 115, 101]⟩ s = true) (k2 : ¬ (pk s).k = 2) (k3 : ¬ (pk s).k = 3) (h1 : tyw (tx (pk s)).toList = true) (h : pe m (.ca (tx (pk s))) (xp ⟨#[40]⟩ (adv s)) = some (e, s')) :
    Calls Tryz.prog 163 #[ptr b] w (GX w b e s') := by
  have F0 := Lib.hid ((Fr.start0 S).box zX 42)
  obtain ⟨z, hz⟩ : ∃ z, pk s = z := ⟨_, rfl⟩
  have CP := Lib.hid (peek_b _ b s F0.out.st)
  rw [hz] at CP
  have hg := Lib.hid (pk_tx_gd (s := s) (by intro q; rw [q, tyw_nil] at h1; cases h1) S.gd).2
  rw [hz] at h1 h
  have htw := Lib.hid h1
  have HA := Lib.hid (fun W S => HC m (Nat.lt_succ_self m) W b (xp ⟨#[40]⟩ (adv s)) (tx z) e s' S h)
  have CN0 := Lib.hid (fun W S => accept_no W b s ⟨#[40]⟩ S (by simpa using n0))
  have CN1 := Lib.hid (fun W S => accept_no W b s ⟨#[116, 114, 117, 101]⟩ S (by simpa using n1))
  have CN2 := Lib.hid (fun W S => accept_no W b s ⟨#[102, 97, 108, 115, 101]⟩ S (by simpa using n2))
  rw [hz] at k2 k3
  have q2 : (z.k == 2) = false := beq_eq_false_iff_ne.2 k2
  have q3 : (z.k == 3) = false := beq_eq_false_iff_ne.2 k3
  clear S h h1 HG HC hz n0 n1 n2 k2 k3
  go_enter Tryz.func163, Tryz.ntmps163
  go_wp2_with (first
    | (go_at_call 62; (with_reducible refine CP.out.mono ?_); rintro _ W1 ⟨rfl, B1⟩; have F1 := Lib.hid ((F0.out.below B1).box #[.int .i64 z.k, .string (tx z), .int .i64 z.v, .int .i64 z.ln] 60); clear B1)
    | (go_at_call 67; (with_reducible refine (CN0.out _ F1.out.st).mono ?_); rintro _ N0 ⟨rfl, S1, B1⟩; have F2 := Lib.hid (F1.out.below B1); clear S1 B1)
    | (go_at_call 67; (with_reducible refine (CN1.out _ F2.out.st).mono ?_); rintro _ N1 ⟨rfl, S1, B1⟩; have F3 := Lib.hid (F2.out.below B1); clear S1 B1)
    | (go_at_call 67; (with_reducible refine (CN2.out _ F3.out.st).mono ?_); rintro _ N2 ⟨rfl, S1, B1⟩; have F4 := Lib.hid (F3.out.below B1); clear S1 B1; have XT : EBox N2 W1.heap.size [.int .i64 z.k, .string (tx z), .int .i64 z.v, .int .i64 z.ln] := (F4.out.bx _ (List.mem_cons_self ..)).1; have x0 := XT.cell (i := 0) rfl; have x1 := XT.cell (i := 1) rfl; have x2 := XT.cell (i := 2) rfl; have x3 := XT.cell (i := 3) rfl; clear XT; have hne : W1.heap.size ≠ b := (by have h8 := (F4.out.bx _ (List.mem_cons_self ..)).2.1; have h9 := F4.out.lt; simp only at h8; omega); obtain ⟨_, At, nt, ct, at_, toks, X, hs⟩ := F4.out.st; have c1 := X.c1; have z1 := X.fre 1; have hlt := (X.here (by rw [← hs]; exact F4.out.st.gd)).1; have hn := X.hn; have F5 := Lib.hid (F4.out.call (St.advance X hs hg.out) ((But.refl b N2).set 1 (.int .i64 ((at_ : Int) + 1)))); clear X hs)
    | (go_at_call 162; (refine (isTypeWord_q (tx z) _).mono ?_); rintro _ _ ⟨rfl, rfl⟩; rw [htw.out])
    | (go_at_call 65; (with_reducible refine (expect_b _ b _ ⟨#[40]⟩ F5.out.st (by decide)).mono ?_); rintro _ W5 ⟨rfl, S1, B1⟩; have F6 := Lib.hid (F5.out.call S1 B1); clear S1 B1; have XT : EBox W5 W1.heap.size [.int .i64 z.k, .string (tx z), .int .i64 z.v, .int .i64 z.ln] := (F6.out.bx _ (List.mem_cons_self ..)).1; have y1 := XT.cell (i := 1) rfl; clear XT)
    | (go_at_call 173; (with_reducible refine (HA.out _ F6.out.st).mono ?_); rintro _ W7 ⟨A, n, c, rfl, R, S1, B1⟩; have F7 := Lib.hid (F6.out.got0 S1 B1 R); clear R S1 B1)
    | (with_reducible refine bset5 rk_ex rfl (F7.out.bx _ (List.mem_cons_of_mem _ (List.mem_cons_self ..))).1 rfl rfl ?_; intro V XV BV sV; have F8 := Lib.hid (F7.out.set (pre := [_]) XV BV sV); have h0 := XV.cell (i := 0) rfl; have h1 := XV.cell (i := 1) rfl; have h2 := XV.cell (i := 2) rfl; have h3 := XV.cell (i := 3) rfl; have h4 := XV.cell (i := 4) rfl; clear XV BV sV))
  exact bodyPost_ret (v := exV e A n c) (by simp [results, Tryz.results163, go_sem, Ex.k, Ex.o, Ex.s, Ex.v, h0, h1, h2, h3, h4]) rfl ⟨_, _, _, rfl, F8.out.fin (List.mem_cons_self ..), F8.out.st, F8.out.bb⟩

set_option maxRecDepth 100000 in
set_option maxHeartbeats 2000000 in
theorem primary_7 (m : Nat) (HG : Prs 39 (.ex 0) (m + 1)) (HC : PrsC (m + 1)) (w : World) (b : Nat) (s : PS) (e : Ex) (s' : PS) (S : St w b s) (n0 : ¬ acp ⟨#[40]⟩ s = true) (n1 : ¬ acp ⟨#[116, 114, 117, 101]⟩ s = true) (n2 : ¬ acp ⟨#[102, 97, 108, 115, 101]⟩ s = true) (k2 : ¬ (pk s).k = 2) (k3 : ¬ (pk s).k = 3) (t0 : ¬ tyw (tx (pk s)).toList = true) (h1 : acp ⟨#[40]⟩ (nmS s) = true) (h : pe m (.ca (nmT s)) (adv (nmS s)) = some (e, s')) :
    Calls Tryz.prog 163 #[ptr b] w (GX w b e s') := by
  have F0 := Lib.hid ((Fr.start0 S).box zX 42)
  obtain ⟨z, hz⟩ : ∃ z, pk s = z := ⟨_, rfl⟩
  have CP := Lib.hid (peek_b _ b s F0.out.st)
  rw [hz] at CP
  rw [hz] at t0
  have htw : Hid (tyw (tx z).toList = false) := Lib.hid (by simpa using t0)
  have HA := Lib.hid (fun W S => HC m (Nat.lt_succ_self m) W b (adv (nmS s)) (nmT s) e s' S h)
  have CA := Lib.hid (fun W S => accept_yes W b (nmS s) ⟨#[40]⟩ S (by decide) h1)
  have CN0 := Lib.hid (fun W S => accept_no W b s ⟨#[40]⟩ S (by simpa using n0))
  have CN1 := Lib.hid (fun W S => accept_no W b s ⟨#[116, 114, 117, 101]⟩ S (by simpa using n1))
  have CN2 := Lib.hid (fun W S => accept_no W b s ⟨#[102, 97, 108, 115, 101]⟩ S (by simpa using n2))
  rw [hz] at k2 k3
  have q2 : (z.k == 2) = false := beq_eq_false_iff_ne.2 k2
  have q3 : (z.k == 3) = false := beq_eq_false_iff_ne.2 k3
  clear S h h1 HG HC hz n0 n1 n2 k2 k3 t0
  go_enter Tryz.func163, Tryz.ntmps163
  go_wp2_with (first
    | (go_at_call 62; (with_reducible refine CP.out.mono ?_); rintro _ W1 ⟨rfl, B1⟩; have F1 := Lib.hid ((F0.out.below B1).box #[.int .i64 z.k, .string (tx z), .int .i64 z.v, .int .i64 z.ln] 60); clear B1)
    | (go_at_call 67; (with_reducible refine (CN0.out _ F1.out.st).mono ?_); rintro _ N0 ⟨rfl, S1, B1⟩; have F2 := Lib.hid (F1.out.below B1); clear S1 B1)
    | (go_at_call 67; (with_reducible refine (CN1.out _ F2.out.st).mono ?_); rintro _ N1 ⟨rfl, S1, B1⟩; have F3 := Lib.hid (F2.out.below B1); clear S1 B1)
    | (go_at_call 67; (with_reducible refine (CN2.out _ F3.out.st).mono ?_); rintro _ N2 ⟨rfl, S1, B1⟩; have F4 := Lib.hid (F3.out.below B1); clear S1 B1; have XT : EBox N2 W1.heap.size [.int .i64 z.k, .string (tx z), .int .i64 z.v, .int .i64 z.ln] := (F4.out.bx _ (List.mem_cons_self ..)).1; have x0 := XT.cell (i := 0) rfl; have x1 := XT.cell (i := 1) rfl; have x2 := XT.cell (i := 2) rfl; have x3 := XT.cell (i := 3) rfl; clear XT)
    | (go_at_call 162; (refine (isTypeWord_q (tx z) _).mono ?_); rintro _ _ ⟨rfl, rfl⟩; rw [htw.out])
    | (go_at_call 113; (with_reducible refine (name_b _ b _ F4.out.st).mono ?_); rintro _ W5 ⟨rfl, S1, B1⟩; have F5 := Lib.hid (F4.out.call S1 B1); clear S1 B1)
    | (go_at_call 67; (with_reducible refine (CA.out _ F5.out.st).mono ?_); rintro _ W6 ⟨rfl, S1, B1⟩; have F6 := Lib.hid (F5.out.call S1 B1); clear S1 B1)
    | (go_at_call 173; (with_reducible refine (HA.out _ F6.out.st).mono ?_); rintro _ W7 ⟨A, n, c, rfl, R, S1, B1⟩; have F7 := Lib.hid (F6.out.got0 S1 B1 R); clear R S1 B1)
    | (with_reducible refine bset5 rk_ex rfl (F7.out.bx _ (List.mem_cons_of_mem _ (List.mem_cons_self ..))).1 rfl rfl ?_; intro V XV BV sV; have F8 := Lib.hid (F7.out.set (pre := [_]) XV BV sV); have h0 := XV.cell (i := 0) rfl; have h1 := XV.cell (i := 1) rfl; have h2 := XV.cell (i := 2) rfl; have h3 := XV.cell (i := 3) rfl; have h4 := XV.cell (i := 4) rfl; clear XV BV sV))
  exact bodyPost_ret (v := exV e A n c) (by simp [results, Tryz.results163, go_sem, Ex.k, Ex.o, Ex.s, Ex.v, h0, h1, h2, h3, h4]) rfl ⟨_, _, _, rfl, F8.out.fin (List.mem_cons_self ..), F8.out.st, F8.out.bb⟩

set_option maxRecDepth 100000 in
set_option maxHeartbeats 2000000 in
theorem primary_8 (m : Nat) (HG : Prs 39 (.ex 0) (m + 1)) (HC : PrsC (m + 1)) (w : World) (b : Nat) (s : PS) (e : Ex) (s' : PS) (S : St w b s) (n0 : ¬ acp ⟨#[40]⟩ s = true) (n1 : ¬ acp ⟨#[116, 114, 117, 101]⟩ s = true) (n2 : ¬ acp ⟨#[102, 97, 108, 115, 101]⟩ s = true) (k2 : ¬ (pk s).k = 2) (k3 : ¬ (pk s).k = 3) (t0 : ¬ tyw (tx (pk s)).toList = true) (h1 : ¬ acp ⟨#[40]⟩ (nmS s) = true) (h : some (Ex.mk 4 0 (nmT s) 0 [], nmS s) = some (e, s')) :
    Calls Tryz.prog 163 #[ptr b] w (GX w b e s') := by
  have F0 := Lib.hid ((Fr.start0 S).box zX 42)
  obtain ⟨z, hz⟩ : ∃ z, pk s = z := ⟨_, rfl⟩
  have CP := Lib.hid (peek_b _ b s F0.out.st)
  rw [hz] at CP
  obtain ⟨rfl, rfl⟩ := some_pair h
  rw [hz] at t0
  have htw : Hid (tyw (tx z).toList = false) := Lib.hid (by simpa using t0)
  have CA := Lib.hid (fun W S => accept_no W b (nmS s) ⟨#[40]⟩ S (by simpa using h1))
  have CN0 := Lib.hid (fun W S => accept_no W b s ⟨#[40]⟩ S (by simpa using n0))
  have CN1 := Lib.hid (fun W S => accept_no W b s ⟨#[116, 114, 117, 101]⟩ S (by simpa using n1))
  have CN2 := Lib.hid (fun W S => accept_no W b s ⟨#[102, 97, 108, 115, 101]⟩ S (by simpa using n2))
  rw [hz] at k2 k3
  have q2 : (z.k == 2) = false := beq_eq_false_iff_ne.2 k2
  have q3 : (z.k == 3) = false := beq_eq_false_iff_ne.2 k3
  clear S h h1 HG HC hz n0 n1 n2 k2 k3 t0
  go_enter Tryz.func163, Tryz.ntmps163
  go_wp2_with (first
    | (go_at_call 62; (with_reducible refine CP.out.mono ?_); rintro _ W1 ⟨rfl, B1⟩; have F1 := Lib.hid ((F0.out.below B1).box #[.int .i64 z.k, .string (tx z), .int .i64 z.v, .int .i64 z.ln] 60); clear B1)
    | (go_at_call 67; (with_reducible refine (CN0.out _ F1.out.st).mono ?_); rintro _ N0 ⟨rfl, S1, B1⟩; have F2 := Lib.hid (F1.out.below B1); clear S1 B1)
    | (go_at_call 67; (with_reducible refine (CN1.out _ F2.out.st).mono ?_); rintro _ N1 ⟨rfl, S1, B1⟩; have F3 := Lib.hid (F2.out.below B1); clear S1 B1)
    | (go_at_call 67; (with_reducible refine (CN2.out _ F3.out.st).mono ?_); rintro _ N2 ⟨rfl, S1, B1⟩; have F4 := Lib.hid (F3.out.below B1); clear S1 B1; have XT : EBox N2 W1.heap.size [.int .i64 z.k, .string (tx z), .int .i64 z.v, .int .i64 z.ln] := (F4.out.bx _ (List.mem_cons_self ..)).1; have x0 := XT.cell (i := 0) rfl; have x1 := XT.cell (i := 1) rfl; have x2 := XT.cell (i := 2) rfl; have x3 := XT.cell (i := 3) rfl; clear XT)
    | (go_at_call 162; (refine (isTypeWord_q (tx z) _).mono ?_); rintro _ _ ⟨rfl, rfl⟩; rw [htw.out])
    | (go_at_call 113; (with_reducible refine (name_b _ b _ F4.out.st).mono ?_); rintro _ W5 ⟨rfl, S1, B1⟩; have F5 := Lib.hid (F4.out.call S1 B1); clear S1 B1)
    | (go_at_call 67; (with_reducible refine (CA.out _ F5.out.st).mono ?_); rintro _ W6 ⟨rfl, S1, B1⟩; have F6 := Lib.hid ((F5.out.below B1).tree (A := none) (n := 0) (l := []) (RdX.nil _ _ none)); clear S1 B1)
    | (with_reducible refine bset5 rk_ex rfl (F6.out.bx _ (List.mem_cons_of_mem _ (List.mem_cons_self ..))).1 rfl rfl ?_; intro V XV BV sV; have F7 := Lib.hid (F6.out.set (pre := [_]) XV BV sV); have h0 := XV.cell (i := 0) rfl; have h1 := XV.cell (i := 1) rfl; have h2 := XV.cell (i := 2) rfl; have h3 := XV.cell (i := 3) rfl; have h4 := XV.cell (i := 4) rfl; clear XV BV sV))
  exact bodyPost_ret (v := exV (.mk 4 0 (nmT s) 0 []) none 0 0) (by simp [results, Tryz.results163, go_sem, Ex.k, Ex.o, Ex.s, Ex.v, h0, h1, h2, h3, h4]) rfl ⟨_, _, _, rfl, F7.out.fin (List.mem_cons_self ..), F7.out.st, F7.out.bb⟩

theorem primary_s (m : Nat) (HG : Prs 39 (.ex 0) m) (HC : PrsC m) (w : World) (b : Nat) (s : PS) (e : Ex) (s' : PS) (S : St w b s) (h : pe m .pr s = some (e, s')) : Calls Tryz.prog 163 #[ptr b] w (GX w b e s') := by
  obtain ⟨m, rfl⟩ : ∃ q, m = q + 1 := by cases m with | zero => cases h | succ m => exact ⟨m, rfl⟩
  rw [pe] at h
  split at h
  · rename_i n0; exact primary_1 m HG HC w b s e s' S n0 h
  · rename_i n0
    split at h
    · rename_i n1; exact primary_2 m HG HC w b s e s' S n0 n1 h
    · rename_i n1
      split at h
      · rename_i n2; exact primary_3 m HG HC w b s e s' S n0 n1 n2 h
      · rename_i n2
        split at h
        · rename_i k2; exact primary_4 m HG HC w b s e s' S n0 n1 n2 k2 h
        · rename_i k2
          split at h
          · rename_i k3; exact primary_5 m HG HC w b s e s' S n0 n1 n2 k2 k3 h
          · rename_i k3
            split at h
            · rename_i t0; exact primary_6 m HG HC w b s e s' S n0 n1 n2 k2 k3 t0 h
            · rename_i t0
              split at h
              · rename_i a0; exact primary_7 m HG HC w b s e s' S n0 n1 n2 k2 k3 t0 a0 h
              · rename_i a0; exact primary_8 m HG HC w b s e s' S n0 n1 n2 k2 k3 t0 a0 h

end Go.Proofs.YtjpkcgepdfpbnaaGreatDoor

/- The parser of expressions, whole; the fuel it needs. Written by tools/gen/genY11.py. -/
namespace Go.Proofs.YtjpkcgepdfpbnaaGreatDoor
open Go.RowKit Go.Sort Go.ChangeShapes Go.WideShapes
set_option linter.unusedVariables false

structure AllX (m : Nat) : Prop where
  expression : Prs 39 (.ex 0) m
  exclusion : Prs 78 (.ex 1) m
  conjunction : Prs 100 (.ex 2) m
  comparison : Prs 125 (.ex 3) m
  shift : Prs 146 (.ex 4) m
  sum : Prs 154 (.ex 5) m
  product : Prs 164 (.ex 6) m
  unary : Prs 174 (.un) m
  post_ : Prs 152 (.po) m
  primary : Prs 163 (.pr) m
  call : PrsC m

theorem prs_succ {g : FuncId} {nt : NT} {m : Nat} (h : Prs g nt m) (k : ∀ W b s e s', St W b s → pe m nt s = some (e, s') → Calls Tryz.prog g #[ptr b] W (GX W b e s')) : Prs g nt (m + 1) := fun j hj W b s e s' S hp => by
  rcases Nat.lt_succ_iff_lt_or_eq.1 hj with hj | rfl
  · exact h j hj W b s e s' S hp
  · exact k W b s e s' S hp

theorem allX : ∀ m : Nat, m ≤ 1000000000 → AllX m
  | 0, _ => by
    constructor <;> intro j hj <;> exact absurd hj (Nat.not_lt_zero _)
  | m + 1, hm => by
    have A := allX m (by omega)
    exact {
      expression := prs_succ A.expression fun W b s e s' S h => expression_s m A.exclusion W b s e s' S h
      exclusion := prs_succ A.exclusion fun W b s e s' S h => exclusion_s m A.conjunction W b s e s' S h
      conjunction := prs_succ A.conjunction fun W b s e s' S h => conjunction_s m A.comparison W b s e s' S h
      comparison := prs_succ A.comparison fun W b s e s' S h => comparison_s m A.shift W b s e s' S h
      shift := prs_succ A.shift fun W b s e s' S h => shift_s m A.sum W b s e s' S h
      sum := prs_succ A.sum fun W b s e s' S h => sum_s m A.product W b s e s' S h
      product := prs_succ A.product fun W b s e s' S h => product_s m A.unary W b s e s' S h
      unary := prs_succ A.unary fun W b s e s' S h => by
        cases m with
        | zero => cases h
        | succ m => exact unary_s m A.unary A.post_ W b s e s' S h
      post_ := prs_succ A.post_ fun W b s e s' S h => postfix_s m A.primary A.expression W b s e s' S h
      primary := prs_succ A.primary fun W b s e s' S h => primary_s m A.expression A.call W b s e s' S h
      call := fun j hj W b s t e s' S hp => by
        rcases Nat.lt_succ_iff_lt_or_eq.1 hj with hj | rfl
        · exact A.call j hj W b s t e s' S hp
        · exact call_s j (by omega) A.expression W b s t e s' S hp }

/-! ### the fuel -/

/-- The number of tokens to come. -/
def lft (s : PS) : Nat := if 0 < s.2 then 0 else s.1.length

def cst : NT → Nat
  | .ex k => 12 - k
  | .lp _ _ => 1
  | .un => 5
  | .po => 4
  | .pl _ => 1
  | .pr => 3
  | .ca _ => 15
  | .ls => 14
  | .li _ => 1

def okN : NT → Prop
  | .ex k => k ≤ 6
  | .lp k _ => k ≤ 6
  | _ => True

theorem lft_adv {s : PS} (h : ¬ 0 < s.2) (h2 : s.1 ≠ []) : lft (adv s) + 1 = lft s := by
  obtain ⟨r, w⟩ := s
  cases r with
  | nil => exact absurd rfl h2
  | cons z r => unfold lft adv; simp only at h ⊢; rw [if_neg h, if_neg h]; rfl

theorem hdT_ne {r : List Tk} {t : ByteArray} (h : tx (hdT r) = t) (ht : t ≠ ⟨#[]⟩) : r ≠ [] := by
  rintro rfl
  exact ht h.symm

theorem lft_acp {t : ByteArray} {s : PS} (ht : t ≠ ⟨#[]⟩) (h : acp t s = true) : lft (adv s) + 1 = lft s := by
  have := acp_ok ht h
  exact lft_adv this.1 (hdT_ne this.2 ht)
theorem lft_k {s : PS} {k : Int} (h : (pk s).k = k) (h0 : k ≠ 0) : lft (adv s) + 1 = lft s := by
  have := pk_k h h0
  exact lft_adv this.1 (by rintro e; rw [e] at this; exact h0 this.2.symm)
theorem lft_fl (s : PS) : lft (fl s) ≤ lft s := by
  unfold fl
  split
  · exact Nat.le_refl _
  · rename_i h
    unfold lft
    rw [if_neg h]
    split <;> simp
theorem lft_xp {t : ByteArray} {s : PS} (ht : t ≠ ⟨#[]⟩) : lft (xp t s) ≤ lft s := by
  unfold xp
  split
  · rename_i h; have := lft_acp ht h; omega
  · exact lft_fl s
theorem lft_nmS (s : PS) : lft (nmS s) ≤ lft s := by
  unfold nmS
  split
  · rename_i h; have := lft_k (nmq_k h) (by decide); omega
  · exact lft_fl s
theorem lft_tx {s : PS} (h : tx (pk s) ≠ ⟨#[]⟩) : lft (adv s) + 1 = lft s := by
  unfold pk at h
  split at h
  · exact absurd rfl h
  · rename_i q
    exact lft_adv q (by rintro e; rw [e] at h; exact h rfl)

theorem cst_opd {k : Nat} (h : k ≤ 6) : cst (opd k) = 11 - k ∧ okN (opd k) := by
  unfold opd
  split
  · exact ⟨by show 12 - (k + 1) = 11 - k; omega, by show k + 1 ≤ 6; omega⟩
  · have : k = 6 := by omega
    subst this
    exact ⟨rfl, trivial⟩

/-- The nodes that are there ahead; those of a result. -/
def sz : NT → Nat
  | .lp _ x => x.nodes
  | .pl x => x.nodes
  | .li a => Ex.nodesL a
  | .ca _ => 2
  | .ex _ => 1
  | .un => 1
  | .po => 1
  | .pr => 1
  | .ls => 1
def rs : NT → Ex → Nat
  | .ls, e => Ex.nodesL e.l
  | .li _, e => Ex.nodesL e.l
  | .lp _ _, e => e.nodes
  | .pl _, e => e.nodes
  | .ca _, e => e.nodes
  | .ex _, e => e.nodes
  | .un, e => e.nodes
  | .po, e => e.nodes
  | .pr, e => e.nodes

theorem rs_opd (k : Nat) (e : Ex) : rs (opd k) e = e.nodes := by unfold opd; split <;> rfl
theorem sz_opd (k : Nat) : sz (opd k) = 1 := by unfold opd; split <;> rfl

theorem pe_total : ∀ (n : Nat) (nt : NT) (s : PS), okN nt → 16 * lft s + cst nt ≤ n → ∃ e s', pe n nt s = some (e, s') ∧ lft s' ≤ lft s ∧ rs nt e + 2 * lft s' ≤ 2 * lft s + sz nt
  | 0, nt, s, _, h => by
    exfalso
    cases nt <;> simp only [cst, okN] at * <;> omega
  | n + 1, .ex k, s, hk, h => by
    have hk : k ≤ 6 := hk
    have hc := cst_opd hk
    simp only [cst] at h
    obtain ⟨e, s1, h1, l1, q1⟩ := pe_total n (opd k) s hc.2 (by omega)
    rw [rs_opd, sz_opd] at q1
    obtain ⟨e2, s2, h2, l2, q2⟩ := pe_total n (.lp k e) s1 hk (by show 16 * lft s1 + 1 ≤ n; omega)
    exact ⟨e2, s2, by rw [pe, h1]; exact h2, by omega, by simp only [rs, sz, Ex.nodes, Ex.nodesL, Ex.nodesL_app, Ex.l] at *; omega⟩
  | n + 1, .lp k e, s, hk, h => by
    have hk : k ≤ 6 := hk
    have hc := cst_opd hk
    simp only [cst] at h
    rw [pe]
    cases ho : opv k (tx (pk s)) with
    | none => exact ⟨e, s, rfl, Nat.le_refl _, Nat.le_of_eq (by simp only [rs, sz]; omega)⟩
    | some op =>
      have hl := lft_tx (opv_ne ho)
      obtain ⟨y, s1, h1, l1, q1⟩ := pe_total n (opd k) (adv s) hc.2 (by omega)
      rw [rs_opd, sz_opd] at q1
      simp only [h1, Option.bind_some]
      split
      · exact ⟨_, s1, rfl, by omega, by simp only [rs, sz, Ex.nodes, Ex.nodesL, Ex.nodesL_app, Ex.l] at *; omega⟩
      · obtain ⟨e2, s2, h2, l2, q2⟩ := pe_total n (.lp k (.mk 6 op ⟨#[]⟩ 0 [e, y])) s1 hk (by show 16 * lft s1 + 1 ≤ n; omega)
        exact ⟨e2, s2, h2, by omega, by simp only [rs, sz, Ex.nodes, Ex.nodesL, Ex.nodesL_app, Ex.l] at *; omega⟩
  | n + 1, .un, s, _, h => by
    simp only [cst] at h
    rw [pe]
    split
    · rename_i q
      have hl := lft_acp (by decide) q
      obtain ⟨y, s1, h1, l1, q1⟩ := pe_total n .un (adv s) trivial (by show 16 * lft (adv s) + 5 ≤ n; omega)
      exact ⟨_, s1, by rw [h1]; rfl, by omega, by simp only [rs, sz, Ex.nodes, Ex.nodesL, Ex.nodesL_app, Ex.l] at *; omega⟩
    · split
      · rename_i q
        have hl := lft_acp (by decide) q
        obtain ⟨y, s1, h1, l1, q1⟩ := pe_total n .un (adv s) trivial (by show 16 * lft (adv s) + 5 ≤ n; omega)
        exact ⟨_, s1, by rw [h1]; rfl, by omega, by simp only [rs, sz, Ex.nodes, Ex.nodesL, Ex.nodesL_app, Ex.l] at *; omega⟩
      · obtain ⟨y, s1, h1, l1, q1⟩ := pe_total n .po s trivial (by show 16 * lft s + 4 ≤ n; omega)
        exact ⟨y, s1, h1, l1, q1⟩
  | n + 1, .po, s, _, h => by
    simp only [cst] at h
    obtain ⟨e, s1, h1, l1, q1⟩ := pe_total n .pr s trivial (by show 16 * lft s + 3 ≤ n; omega)
    obtain ⟨e2, s2, h2, l2, q2⟩ := pe_total n (.pl e) s1 trivial (by show 16 * lft s1 + 1 ≤ n; omega)
    exact ⟨e2, s2, by rw [pe, h1]; exact h2, by omega, by simp only [rs, sz, Ex.nodes, Ex.nodesL, Ex.nodesL_app, Ex.l] at *; omega⟩
  | n + 1, .pl e, s, _, h => by
    simp only [cst] at h
    rw [pe]
    split
    · rename_i q
      have hl := lft_acp (by decide) q
      have := lft_nmS (adv s)
      obtain ⟨e2, s2, h2, l2, q2⟩ := pe_total n (.pl (.mk 8 0 (nmT (adv s)) 0 [e])) (nmS (adv s)) trivial (by show 16 * lft (nmS (adv s)) + 1 ≤ n; omega)
      exact ⟨e2, s2, h2, by omega, by simp only [rs, sz, Ex.nodes, Ex.nodesL, Ex.nodesL_app, Ex.l] at *; omega⟩
    · split
      · rename_i q
        have hl := lft_acp (by decide) q
        obtain ⟨y, s1, h1, l1, q1⟩ := pe_total n (.ex 0) (adv s) (by show 0 ≤ 6; omega) (by show 16 * lft (adv s) + 12 ≤ n; omega)
        have := lft_xp (t := ⟨#[93]⟩) (s := s1) (by decide)
        obtain ⟨e2, s2, h2, l2, q2⟩ := pe_total n (.pl (.mk 9 0 ⟨#[]⟩ 0 [e, y])) (xp ⟨#[93]⟩ s1) trivial (by show 16 * lft (xp ⟨#[93]⟩ s1) + 1 ≤ n; omega)
        exact ⟨e2, s2, by rw [h1]; exact h2, by omega, by simp only [rs, sz, Ex.nodes, Ex.nodesL, Ex.nodesL_app, Ex.l] at *; omega⟩
      · exact ⟨e, s, rfl, Nat.le_refl _, Nat.le_of_eq (by simp only [rs, sz]; omega)⟩
  | n + 1, .pr, s, _, h => by
    simp only [cst] at h
    rw [pe]
    split
    · rename_i q
      have hl := lft_acp (by decide) q
      obtain ⟨y, s1, h1, l1, q1⟩ := pe_total n (.ex 0) (adv s) (by show 0 ≤ 6; omega) (by show 16 * lft (adv s) + 12 ≤ n; omega)
      have := lft_xp (t := ⟨#[41]⟩) (s := s1) (by decide)
      exact ⟨_, _, by rw [h1]; rfl, by show lft (xp ⟨#[41]⟩ s1) ≤ _; omega, by simp only [rs, sz, Ex.nodes, Ex.nodesL, Ex.nodesL_app, Ex.l] at *; omega⟩
    · split
      · rename_i q
        have hl := lft_acp (by decide) q
        exact ⟨_, _, rfl, by omega, by simp only [rs, sz, Ex.nodes, Ex.nodesL, Ex.nodesL_app, Ex.l] at *; omega⟩
      · split
        · rename_i q
          have hl := lft_acp (by decide) q
          exact ⟨_, _, rfl, by omega, by simp only [rs, sz, Ex.nodes, Ex.nodesL, Ex.nodesL_app, Ex.l] at *; omega⟩
        · split
          · rename_i q
            have hl := lft_k q (by decide)
            exact ⟨_, _, rfl, by omega, by simp only [rs, sz, Ex.nodes, Ex.nodesL, Ex.nodesL_app, Ex.l] at *; omega⟩
          · split
            · rename_i q
              have hl := lft_k q (by decide)
              exact ⟨_, _, rfl, by omega, by simp only [rs, sz, Ex.nodes, Ex.nodesL, Ex.nodesL_app, Ex.l] at *; omega⟩
            · split
              · rename_i q
                have hl := lft_tx (s := s) (by intro e; rw [e, tyw_nil] at q; cases q)
                have := lft_xp (t := ⟨#[40]⟩) (s := adv s) (by decide)
                obtain ⟨e2, s2, h2, l2, q2⟩ := pe_total n (.ca (tx (pk s))) (xp ⟨#[40]⟩ (adv s)) trivial (by show 16 * lft (xp ⟨#[40]⟩ (adv s)) + 15 ≤ n; omega)
                exact ⟨e2, s2, h2, by omega, by simp only [rs, sz, Ex.nodes, Ex.nodesL, Ex.nodesL_app, Ex.l] at *; omega⟩
              · have h9 := lft_nmS s
                split
                · rename_i q
                  have hl := lft_acp (by decide) q
                  obtain ⟨e2, s2, h2, l2, q2⟩ := pe_total n (.ca (nmT s)) (adv (nmS s)) trivial (by show 16 * lft (adv (nmS s)) + 15 ≤ n; omega)
                  exact ⟨e2, s2, h2, by omega, by simp only [rs, sz, Ex.nodes, Ex.nodesL, Ex.nodesL_app, Ex.l] at *; omega⟩
                · exact ⟨_, _, rfl, h9, by simp only [rs, sz, Ex.nodes, Ex.nodesL, Ex.nodesL_app, Ex.l] at *; omega⟩
  | n + 1, .ca t, s, _, h => by
    simp only [cst] at h
    obtain ⟨e, s1, h1, l1, q1⟩ := pe_total n .ls s trivial (by show 16 * lft s + 14 ≤ n; omega)
    exact ⟨_, s1, by rw [pe, h1]; rfl, l1, by simp only [rs, sz, Ex.nodes, Ex.nodesL, Ex.nodesL_app, Ex.l] at *; omega⟩
  | n + 1, .ls, s, _, h => by
    simp only [cst] at h
    rw [pe]
    split
    · rename_i q
      have hl := lft_acp (by decide) q
      exact ⟨_, _, rfl, by omega, by simp only [rs, sz, Ex.nodes, Ex.nodesL, Ex.nodesL_app, Ex.l] at *; omega⟩
    · obtain ⟨y, s1, h1, l1, q1⟩ := pe_total n (.ex 0) s (by show 0 ≤ 6; omega) (by show 16 * lft s + 12 ≤ n; omega)
      obtain ⟨e2, s2, h2, l2, q2⟩ := pe_total n (.li [y]) s1 trivial (by show 16 * lft s1 + 1 ≤ n; omega)
      exact ⟨e2, s2, by rw [h1]; exact h2, by omega, by simp only [rs, sz, Ex.nodes, Ex.nodesL, Ex.nodesL_app, Ex.l] at *; omega⟩
  | n + 1, .li a, s, _, h => by
    simp only [cst] at h
    rw [pe]
    split
    · rename_i q
      have hl := lft_acp (by decide) q
      obtain ⟨y, s1, h1, l1, q1⟩ := pe_total n (.ex 0) (adv s) (by show 0 ≤ 6; omega) (by show 16 * lft (adv s) + 12 ≤ n; omega)
      obtain ⟨e2, s2, h2, l2, q2⟩ := pe_total n (.li (a ++ [y])) s1 trivial (by show 16 * lft s1 + 1 ≤ n; omega)
      exact ⟨e2, s2, by rw [h1]; exact h2, by omega, by simp only [rs, sz, Ex.nodes, Ex.nodesL, Ex.nodesL_app, Ex.l] at *; omega⟩
    · have := lft_xp (t := ⟨#[41]⟩) (s := s) (by decide)
      exact ⟨_, _, rfl, this, by simp only [rs, sz, Ex.nodes, Ex.nodesL, Ex.nodesL_app, Ex.l] at *; omega⟩

end Go.Proofs.YtjpkcgepdfpbnaaGreatDoor
