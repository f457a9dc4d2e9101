/- Validate of package isa. -/
import Derived.Test.YtnhnbblplnhmlaaGreatDoorU5
namespace Go.Proofs.YtnhnbblplnhmlaaGreatDoor
set_option linter.unusedSimpArgs false
open Go.RowKit Go.Sort Go.ChangeShapes Go.WideShapes
set_option linter.unusedVariables false

theorem VSt.new (W : World) (p : Pr) (A : Option Addr) (n c : Nat) : VSt (W.alloc (.cells #[.int .i64 p.st, .int .i64 p.rg, .int .i64 p.ip, .int .i64 p.ou, .int .i64 p.un, .int .i64 p.tx, .int .i64 p.bf, .slice A n c, .slice none 0 0, .int .i64 0] 74)) W.heap.size p A n c [] := by
  have q := fun i v h => box_cell W #[.int .i64 p.st, .int .i64 p.rg, .int .i64 p.ip, .int .i64 p.ou, .int .i64 p.un, .int .i64 p.tx, .int .i64 p.bf, .slice A n c, .slice none 0 0, .int .i64 0] 74 i v h
  refine ⟨q 0 _ rfl, q 1 _ rfl, q 2 _ rfl, q 3 _ rfl, q 4 _ rfl, q 5 _ rfl, q 6 _ rfl, ⟨none, 0, q 8 _ rfl, ?_⟩, q 9 _ rfl, fun i => by simp⟩
  have := Own.nil (W.alloc (.cells #[.int .i64 p.st, .int .i64 p.rg, .int .i64 p.ip, .int .i64 p.ou, .int .i64 p.un, .int .i64 p.tx, .int .i64 p.bf, .slice A n c, .slice none 0 0, .int .i64 0] 74)) 22 .i64
  simpa using this

set_option maxRecDepth 100000 in
set_option maxHeartbeats 400000 in
theorem validateL_b (p : Pr) (A : Option Addr) (n c : Nat) (w : World) (R : RdE inC 6 w w.heap.size A n p.cd) (h1 : wth p.st 1 3 = true) (h2 : cnts p = true) (h3 : n ≤ 16384) :
    Calls Tryz.prog 16 #[.agg (prA p A n c)] w fun e w' => e = .returned (.int .i64 (ckL p p.cd [])) ∧ Below w.heap.size w w' := by
  obtain ⟨c0, c1, c2, c3, c4, c5, c6, c7, BB⟩ := boxP w p A n c 31
  have E0 := rngP w p A n c 31
  have hst : 1 ≤ p.st ∧ p.st ≤ 3 := by simpa [wth] using h1
  obtain ⟨G, hG⟩ : ∃ G, ckL p p.cd [] = G := ⟨_, rfl⟩
  rw [hG]
  have HG := Lib.hid hG
  have ch : ∀ W, Calls Tryz.prog 40 #[.agg #[.int .i64 p.st, .int .i64 p.rg, .int .i64 p.ip, .int .i64 p.ou, .int .i64 p.un, .int .i64 p.tx, .int .i64 p.bf, .slice A n c]] W fun e w' => e = .returned (.bool (cnts p)) ∧ Below W.heap.size W w' := fun W => hasValid_q p A n c W
  rw [h2] at ch
  have CH := Lib.hid ch
  have HN := Lib.hid R.len
  have HR := Lib.hid R
  have H2 := Lib.hid h2
  clear h1 h2 hG R ch
  go_enter Tryz.func16, Tryz.ntmps16
  go_wp2_with (first
    | (go_at_call 40; (with_reducible refine (CH.out _).mono ?_); rintro _ _ ⟨rfl, B⟩; (replace BB := bon BB B; replace c0 := cell_below B c0; replace c7 := cell_below B c7; replace E0 := rangeAt_on E0 B); clear B)
    | ((with_reducible refine pload E0 rfl ?_); have c7b := fun (o : Obj) => cell_below ((Below.refl _ _).alloc (Nat.le_refl _) o) c7; go_simp))
  rename World => W
  have VN := VSt.new W p A n c
  have BU : Below w.heap.size w (W.alloc (.cells #[.int .i64 p.st, .int .i64 p.rg, .int .i64 p.ip, .int .i64 p.ou, .int .i64 p.un, .int .i64 p.tx, .int .i64 p.bf, .slice A n c, .slice none 0 0, .int .i64 0] 74)) := BB.alloc BB.size _
  obtain ⟨U, hU⟩ : ∃ U, W.alloc (.cells #[.int .i64 p.st, .int .i64 p.rg, .int .i64 p.ip, .int .i64 p.ou, .int .i64 p.un, .int .i64 p.tx, .int .i64 p.bf, .slice A n c, .slice none 0 0, .int .i64 0] 74) = U := ⟨_, rfl⟩
  have hbw := BB.size
  obtain ⟨b, hb⟩ : ∃ b, W.heap.size = b := ⟨_, rfl⟩
  rw [hU] at BU VN ⊢
  rw [hb] at VN hbw ⊢
  have HV := Lib.hid VN
  clear c0 c1 c2 c3 c4 c5 c6 c7 E0 BB CH hU hb VN
  go_loopw [30] (fun i wr => ∃ (k : Nat) (s : List Int), k ≤ n ∧ i = .int .i64 (k : Int) ∧ VSt wr b p A n c s ∧ Kn s ∧ s.length ≤ k ∧ ckL p (p.cd.drop k) s = G ∧ Below w.heap.size w wr) (fun i _ => n - (intOf i).toNat)
  case atStart => exact ⟨0, [], Nat.zero_le _, rfl, HV.out, by simp [Kn], by simp, HG.out, BU⟩
  case round =>
    obtain ⟨k, s, hk, rfl, VS, hkn, hsl, hG, BB⟩ := hrel
    by_cases hlt : k < n
    · have R1 := HR.out.below BB
      obtain ⟨b1, o1, x, rfl, hb1, E1, hx⟩ := R1.at_ hlt
      obtain ⟨e, t, hc⟩ : ∃ e t, ck1 p x s = (e, t) := ⟨_, _, rfl⟩
      have ci := fun W V => instruction_b b p (some ⟨b1, o1, none⟩) n c s x W V (by omega) hkn H2.out
      rw [hc] at ci
      have HI := ck1_inv hc hkn
      have CI := Lib.hid ci
      have HX := Lib.hid (fun (h : e = 0) => ckL_on hG hx.out (hc.trans (by rw [h])))
      have HY := Lib.hid (fun (h : e ≠ 0) => ckL_off hG hx.out hc h)
      have HC := Lib.hid HI
      have VH := Lib.hid VS
      clear R1 ci HI hc hG hkn VS hx
      by_cases he : e = 0
      · subst he
        go_wp2_with (first
          | (with_reducible refine iload E1 rfl ?_; go_simp)
          | ((with_reducible refine istore rfl rfl ?_); have E2 := rngI wr x 24; have V2 := Lib.hid (VH.out.on (box_below wr (inA x) 24)); go_simp)
          | (with_reducible refine iload E2 rfl ?_; go_simp)
          | (go_at_call 41; (with_reducible refine (CI.out _ V2.out).mono ?_); rintro _ W9 ⟨rfl, V9, B9⟩))
        go_roundw
        case rel => exact ⟨k + 1, t, by omega, by go_num, V9, HC.out.1, by have := HC.out.2; omega, HX.out trivial, BB.trans ((box_below wr (inA x) 24).mono BB.size |>.trans (B9.mono hbw))⟩
        case measure => simp [intOf]; omega
      · have he2 : (e != 0) = true := by simpa using he
        go_wp2_with (first
          | (with_reducible refine iload E1 rfl ?_; go_simp)
          | ((with_reducible refine istore rfl rfl ?_); have E2 := rngI wr x 24; have V2 := Lib.hid (VH.out.on (box_below wr (inA x) 24)); go_simp)
          | (with_reducible refine iload E2 rfl ?_; go_simp)
          | (go_at_call 41; (with_reducible refine (CI.out _ V2.out).mono ?_); rintro _ W9 ⟨rfl, V9, B9⟩))
        go_ret
        exact ⟨ret_i64' (HY.out he), BB.trans ((box_below wr (inA x) 24).mono BB.size |>.trans (B9.mono hbw))⟩
    · obtain rfl : k = n := by omega
      rw [List.drop_eq_nil_of_le (by rw [HN.out]; exact Nat.le_refl _), ckL] at hG
      obtain ⟨S, d, c8, own⟩ := VS.opn
      clear own VS
      by_cases h0 : s.length = 0
      · rw [if_pos h0] at hG
        subst hG
        rw [h0] at c8
        go_wp2
        go_ret
        exact ⟨rfl, BB⟩
      · rw [if_neg h0] at hG
        subst hG
        obtain ⟨m, hm⟩ : ∃ m, s.length = m + 1 := ⟨s.length - 1, by omega⟩
        rw [hm] at c8
        go_wp2
        go_ret
        exact ⟨rfl, BB⟩

set_option maxRecDepth 100000 in
theorem validate_b (p : Pr) (A : Option Addr) (n c : Nat) (w : World) (R : RdE inC 6 w w.heap.size A n p.cd) (hn : n ≤ 9223372036854775807) :
    Calls Tryz.prog 16 #[.agg (prA p A n c)] w fun e w' => e = .returned (.int .i64 (vald p)) ∧ Below w.heap.size w w' := by
  obtain ⟨c0, c1, c2, c3, c4, c5, c6, c7, BB⟩ := boxP w p A n c 31
  have E0 := rngP w p A n c 31
  have ch : ∀ W, Calls Tryz.prog 40 #[.agg #[.int .i64 p.st, .int .i64 p.rg, .int .i64 p.ip, .int .i64 p.ou, .int .i64 p.un, .int .i64 p.tx, .int .i64 p.bf, .slice A n c]] W fun e w' => e = .returned (.bool (cnts p)) ∧ Below W.heap.size W w' := fun W => hasValid_q p A n c W
  have hl := R.len
  unfold vald
  by_cases h1 : wth p.st 1 3 = true
  · rw [if_pos h1]
    have hst : 1 ≤ p.st ∧ p.st ≤ 3 := by simpa [wth] using h1
    by_cases h2 : cnts p = true
    · rw [if_pos h2]
      by_cases h3 : (p.cd.length : Int) ≤ 16384
      · rw [if_pos h3]
        exact validateL_b p A n c w R h1 h2 (by omega)
      · rw [if_neg h3]
        have h4 : 16384 < n := by omega
        rw [h2] at ch
        have CH := Lib.hid ch
        clear ch h1 h2 h3 R hl
        go_enter Tryz.func16, Tryz.ntmps16
        go_wp2_with (first
          | (go_at_call 40; (with_reducible refine (CH.out _).mono ?_); rintro _ _ ⟨rfl, B⟩; (replace BB := bon BB B; replace c0 := cell_below B c0; replace c7 := cell_below B c7; replace E0 := rangeAt_on E0 B); clear B)
          | (with_reducible refine pload E0 rfl ?_; go_simp))
        go_ret
        exact ⟨rfl, BB⟩
    · rw [if_neg h2]
      rw [Bool.not_eq_true] at h2
      rw [h2] at ch
      have CH := Lib.hid ch
      clear ch h1 h2 R hl
      go_enter Tryz.func16, Tryz.ntmps16
      go_wp2_with (first
        | (go_at_call 40; (with_reducible refine (CH.out _).mono ?_); rintro _ _ ⟨rfl, B⟩; (replace BB := bon BB B; replace c0 := cell_below B c0; replace c7 := cell_below B c7; replace E0 := rangeAt_on E0 B); clear B)
        | (with_reducible refine pload E0 rfl ?_; go_simp))
      go_ret
      exact ⟨rfl, BB⟩
  · rw [if_neg h1]
    have hst : p.st < 1 ∨ 3 < p.st := by
      simp [wth] at h1
      omega
    clear ch h1 R hl
    rcases hst with h | h
    all_goals
      go_enter Tryz.func16, Tryz.ntmps16
      go_wp2
      all_goals
        go_ret
        exact ⟨rfl, BB⟩

end Go.Proofs.YtnhnbblplnhmlaaGreatDoor
