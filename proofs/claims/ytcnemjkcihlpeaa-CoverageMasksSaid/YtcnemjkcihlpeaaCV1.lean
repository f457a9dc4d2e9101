/- What isPixel, Positions, Mask of package coverage return. -/
import Derived.Test.YtcnemjkcihlpeaaCVMath
import Derived.Test.YtcnemjkcihlpeaaMix
import Derived.Test.YtcnemjkcihlpeaaSet
namespace Go.Proofs.Ytcnemjkcihlpeaa
set_option linter.unusedSimpArgs false
open Go.RowKit Go.Sort Go.ChangeShapes Go.WideShapes
set_option linter.unusedVariables false

theorem pix_b (x y : Int) (w : World) : Calls Try.prog 27 #[.int .i64 x, .int .i64 y] w fun e w' => e = .returned (.bool (pixel x y)) ∧ Below w.heap.size w w' := by
  unfold pixel
  go_enter Try.func27, Try.ntmps27
  go_wp2
  all_goals go_ret
  all_goals exact ⟨ret_bool (by first | (simp_all; done) | (simp_all; omega)), Below.refl _ _⟩

theorem pos_1 (w : World) : Calls Try.prog 9 #[.int .i64 1] w fun e w' => ∃ A c, e = .returned (.slice A 1 c) ∧ RdE pt2 2 w' w'.heap.size A 1 [(128, 128)] ∧ Below w.heap.size w w' := by
  have OW : OwnE pt2 2 (w.alloc (.cells #[.int .i64 128, .int .i64 128] 24)) w.heap.size 24 (some ⟨w.heap.size, 0, none⟩) 1 1 [(128, 128)] := OwnE.lit ptEnc w 24 [(128, 128)] (by simp [maxLen])
  have R := OW.rd ptEnc
  have BB := box_below w #[.int .i64 128, .int .i64 128] 24
  clear OW
  have HR := Lib.hid R
  clear R
  go_enter Try.func9, Try.ntmps9
  go_wp2
  go_ret
  exact ⟨_, _, rfl, HR.out, BB⟩

theorem pos_2 (w : World) : Calls Try.prog 9 #[.int .i64 2] w fun e w' => ∃ A c, e = .returned (.slice A 2 c) ∧ RdE pt2 2 w' w'.heap.size A 2 [(192, 192), (64, 64)] ∧ Below w.heap.size w w' := by
  have OW : OwnE pt2 2 (w.alloc (.cells #[.int .i64 192, .int .i64 192, .int .i64 64, .int .i64 64] 24)) w.heap.size 24 (some ⟨w.heap.size, 0, none⟩) 2 2 [(192, 192), (64, 64)] := OwnE.lit ptEnc w 24 [(192, 192), (64, 64)] (by simp [maxLen])
  have R := OW.rd ptEnc
  have BB := box_below w #[.int .i64 192, .int .i64 192, .int .i64 64, .int .i64 64] 24
  clear OW
  have HR := Lib.hid R
  clear R
  go_enter Try.func9, Try.ntmps9
  go_wp2
  go_ret
  exact ⟨_, _, rfl, HR.out, BB⟩

theorem pos_4 (w : World) : Calls Try.prog 9 #[.int .i64 4] w fun e w' => ∃ A c, e = .returned (.slice A 4 c) ∧ RdE pt2 2 w' w'.heap.size A 4 [(96, 32), (224, 96), (32, 160), (160, 224)] ∧ Below w.heap.size w w' := by
  have OW : OwnE pt2 2 (w.alloc (.cells #[.int .i64 96, .int .i64 32, .int .i64 224, .int .i64 96, .int .i64 32, .int .i64 160, .int .i64 160, .int .i64 224] 24)) w.heap.size 24 (some ⟨w.heap.size, 0, none⟩) 4 4 [(96, 32), (224, 96), (32, 160), (160, 224)] := OwnE.lit ptEnc w 24 [(96, 32), (224, 96), (32, 160), (160, 224)] (by simp [maxLen])
  have R := OW.rd ptEnc
  have BB := box_below w #[.int .i64 96, .int .i64 32, .int .i64 224, .int .i64 96, .int .i64 32, .int .i64 160, .int .i64 160, .int .i64 224] 24
  clear OW
  have HR := Lib.hid R
  clear R
  go_enter Try.func9, Try.ntmps9
  go_wp2
  go_ret
  exact ⟨_, _, rfl, HR.out, BB⟩

theorem pos_8 (w : World) : Calls Try.prog 9 #[.int .i64 8] w fun e w' => ∃ A c, e = .returned (.slice A 8 c) ∧ RdE pt2 2 w' w'.heap.size A 8 [(144, 80), (112, 176), (208, 144), (80, 48), (48, 208), (16, 112), (176, 240), (240, 16)] ∧ Below w.heap.size w w' := by
  have OW : OwnE pt2 2 (w.alloc (.cells #[.int .i64 144, .int .i64 80, .int .i64 112, .int .i64 176, .int .i64 208, .int .i64 144, .int .i64 80, .int .i64 48, .int .i64 48, .int .i64 208, .int .i64 16, .int .i64 112, .int .i64 176, .int .i64 240, .int .i64 240, .int .i64 16] 24)) w.heap.size 24 (some ⟨w.heap.size, 0, none⟩) 8 8 [(144, 80), (112, 176), (208, 144), (80, 48), (48, 208), (16, 112), (176, 240), (240, 16)] := OwnE.lit ptEnc w 24 [(144, 80), (112, 176), (208, 144), (80, 48), (48, 208), (16, 112), (176, 240), (240, 16)] (by simp [maxLen])
  have R := OW.rd ptEnc
  have BB := box_below w #[.int .i64 144, .int .i64 80, .int .i64 112, .int .i64 176, .int .i64 208, .int .i64 144, .int .i64 80, .int .i64 48, .int .i64 48, .int .i64 208, .int .i64 16, .int .i64 112, .int .i64 176, .int .i64 240, .int .i64 240, .int .i64 16] 24
  clear OW
  have HR := Lib.hid R
  clear R
  go_enter Try.func9, Try.ntmps9
  go_wp2
  go_ret
  exact ⟨_, _, rfl, HR.out, BB⟩

theorem pos_none (n : Int) (h1 : ¬ n = 1) (h2 : ¬ n = 2) (h4 : ¬ n = 4) (h8 : ¬ n = 8) (w : World) : Calls Try.prog 9 #[.int .i64 n] w fun e w' => ∃ A c, e = .returned (.slice A 0 c) ∧ RdE pt2 2 w' w'.heap.size A 0 [] ∧ Below w.heap.size w w' := by
  have g1 : (n == 1) = false := by simpa using h1
  have g2 : (n == 2) = false := by simpa using h2
  have g4 : (n == 4) = false := by simpa using h4
  have g8 : (n == 8) = false := by simpa using h8
  go_enter Try.func9, Try.ntmps9
  go_wp2
  go_ret
  exact ⟨_, _, rfl, RdE.nil _ _ _ _ _, Below.refl _ _⟩

theorem pos_b (n : Int) (w : World) : Calls Try.prog 9 #[.int .i64 n] w fun e w' => ∃ A c, e = .returned (.slice A (posl n).length c) ∧ RdE pt2 2 w' w'.heap.size A (posl n).length (posl n) ∧ Below w.heap.size w w' := by
  by_cases h1 : n = 1
  · subst h1; exact pos_1 w
  by_cases h2 : n = 2
  · subst h2; exact pos_2 w
  by_cases h4 : n = 4
  · subst h4; exact pos_4 w
  by_cases h8 : n = 8
  · subst h8; exact pos_8 w
  have e : posl n = [] := by unfold posl; rw [if_neg h1, if_neg h2, if_neg h4, if_neg h8]
  rw [e]
  exact pos_none n h1 h2 h4 h8 w

set_option maxRecDepth 100000 in
set_option maxHeartbeats 2000000 in
theorem mask_no (a b c : SV) (p : Int) (f : Bool) (x y n : Int) (h : pixel x y = false) (w : World) : Calls Try.prog 20 #[.agg #[.int .i64 a.x, .int .i64 a.y, .int .i64 a.z, .int .i64 a.q, .slice a.A a.n a.c, .int .i64 b.x, .int .i64 b.y, .int .i64 b.z, .int .i64 b.q, .slice b.A b.n b.c, .int .i64 c.x, .int .i64 c.y, .int .i64 c.z, .int .i64 c.q, .slice c.A c.n c.c, .int .i64 p, .bool f], .int .i64 x, .int .i64 y, .int .i64 n] w fun e w' => e = .returned (.int .i64 0) ∧ Below w.heap.size w w' := by
  have BB := box_below w #[.int .i64 a.x, .int .i64 a.y, .int .i64 a.z, .int .i64 a.q, .slice a.A a.n a.c, .int .i64 b.x, .int .i64 b.y, .int .i64 b.z, .int .i64 b.q, .slice b.A b.n b.c, .int .i64 c.x, .int .i64 c.y, .int .i64 c.z, .int .i64 c.q, .slice c.A c.n c.c, .int .i64 p, .bool f] 36
  have X0 := EBox.made w #[.int .i64 a.x, .int .i64 a.y, .int .i64 a.z, .int .i64 a.q, .slice a.A a.n a.c, .int .i64 b.x, .int .i64 b.y, .int .i64 b.z, .int .i64 b.q, .slice b.A b.n b.c, .int .i64 c.x, .int .i64 c.y, .int .i64 c.z, .int .i64 c.q, .slice c.A c.n c.c, .int .i64 p, .bool f] 36
  have Etr := range_cut X0.1 0 17
  simp only [List.drop_succ_cons, List.drop_zero, List.take_succ_cons, List.take_zero, Nat.zero_add] at Etr
  clear X0
  have CP' := fun W => pix_b x y W
  rw [h] at CP'
  have CP := Lib.hid CP'
  clear CP' h Etr
  go_enter Try.func20, Try.ntmps20
  go_wp2_with (go_at_call 27; (with_reducible refine (CP.out _).mono ?_); rintro _ W9 ⟨rfl, B⟩; replace BB := bon BB B; skip; skip; clear B)
  go_ret
  exact ⟨rfl, BB⟩

theorem rk_pt : RowK Try.prog 24 2 := ⟨⟨_, Try.underlying24, rfl⟩, by kernel_rfl⟩

set_option maxRecDepth 100000 in
set_option maxHeartbeats 4000000 in
theorem mask_yes (a b c : SV) (p : Int) (f : Bool) (x y n : Int) (h : pixel x y = true) (w : World) : Calls Try.prog 20 #[.agg #[.int .i64 a.x, .int .i64 a.y, .int .i64 a.z, .int .i64 a.q, .slice a.A a.n a.c, .int .i64 b.x, .int .i64 b.y, .int .i64 b.z, .int .i64 b.q, .slice b.A b.n b.c, .int .i64 c.x, .int .i64 c.y, .int .i64 c.z, .int .i64 c.q, .slice c.A c.n c.c, .int .i64 p, .bool f], .int .i64 x, .int .i64 y, .int .i64 n] w fun e w' => e = .returned (.int .i64 (mbits a b c x y (posl n) 0 : Nat)) ∧ Below w.heap.size w w' := by
  have BB := box_below w #[.int .i64 a.x, .int .i64 a.y, .int .i64 a.z, .int .i64 a.q, .slice a.A a.n a.c, .int .i64 b.x, .int .i64 b.y, .int .i64 b.z, .int .i64 b.q, .slice b.A b.n b.c, .int .i64 c.x, .int .i64 c.y, .int .i64 c.z, .int .i64 c.q, .slice c.A c.n c.c, .int .i64 p, .bool f] 36
  have X0 := EBox.made w #[.int .i64 a.x, .int .i64 a.y, .int .i64 a.z, .int .i64 a.q, .slice a.A a.n a.c, .int .i64 b.x, .int .i64 b.y, .int .i64 b.z, .int .i64 b.q, .slice b.A b.n b.c, .int .i64 c.x, .int .i64 c.y, .int .i64 c.z, .int .i64 c.q, .slice c.A c.n c.c, .int .i64 p, .bool f] 36
  have Etr := range_cut X0.1 0 17
  simp only [List.drop_succ_cons, List.drop_zero, List.take_succ_cons, List.take_zero, Nat.zero_add] at Etr
  clear X0
  have CP' := fun W => pix_b x y W
  rw [h] at CP'
  have CP := Lib.hid CP'
  obtain ⟨hx0, hx1, hy0, hy1⟩ : 0 ≤ x ∧ x < 64 ∧ 0 ≤ y ∧ y < 64 := by simpa [pixel] using h
  have hl8 := posl_len n
  have HBD := Lib.hid (posl_bd n)
  have HT := Lib.hid (fun k p hk => mbits_take a b c x y (l := posl n) (k := k) (p := p) hk)
  have HS := Lib.hid (fun k hk => mbits_small a b c x y (posl n) k hk)
  have CQ := Lib.hid (fun W => pos_b n W)
  have HF : Hid ((posl n).take (posl n).length = posl n) := Lib.hid List.take_length
  generalize posl n = l at *
  obtain ⟨N, hN⟩ : ∃ N, l.length = N := ⟨_, rfl⟩
  rw [hN] at hl8
  have HN := Lib.hid hN
  clear CP' h hN
  go_enter Try.func20, Try.ntmps20
  go_wp2_with (first
    | (go_at_call 27; (with_reducible refine (CP.out _).mono ?_); rintro _ W1 ⟨rfl, B⟩; replace BB := bon BB B; replace Etr := rangeAt_on Etr (B); skip; clear B)
    | (go_at_call 9; (with_reducible refine (CQ.out _).mono ?_); rintro _ W2 ⟨A, q, rfl, R, B⟩; replace BB := bon BB B; replace Etr := rangeAt_on Etr B; rw [HN.out] at R ⊢; have HR := Lib.hid R; clear B R))
  have LE := Lib.hid Etr
  clear Etr CP CQ
  go_loopw [9, 19] (fun m i wr => ∃ k : Nat, k ≤ N ∧ i = .int .i64 (k : Int) ∧ m = .int .i64 (mbits a b c x y (l.take k) 0 : Nat) ∧ Below W2.heap.size W2 wr) (fun _ i _ => N - (intOf i).toNat)
  case atStart => exact ⟨0, Nat.zero_le _, rfl, rfl, Below.refl _ _⟩
  case round =>
    obtain ⟨k, hk, rfl, rfl, B1⟩ := hrel
    rename World => wr
    by_cases hlt : k < N
    · have BX := BB
      clear BB
      have BB := B1
      have Etr := rangeAt_on LE.out B1
      obtain ⟨bb, off, ⟨p0, p1⟩, rfl, lb, ha, hx⟩ := (HR.out.on B1).at_ hlt
      clear B1
      simp only [pt2] at ha
      obtain ⟨⟨q0, q1⟩, q2, q3⟩ := HBD.out _ (List.mem_of_getElem? hx.out)
      simp only at q0 q1 q2 q3
      have ht := HT.out k _ hx.out
      have hs := HS.out k (by have := HN.out; omega)
      have hp7 : 2 ^ k ≤ 2 ^ 7 := Nat.pow_le_pow_right (by omega) (show k ≤ 7 by omega)
      obtain ⟨m, hm⟩ : ∃ m, mbits a b c x y (l.take k) 0 = m := ⟨_, rfl⟩
      rw [hm] at ht hs ⊢
      have ho := or_high (m : Int) (k : Int) (by omega) (by omega) (by rw [pw_nat]; simp only [Int.toNat_natCast]; omega)
      rw [or_comm', pw_nat, Int.toNat_natCast] at ho
      obtain ⟨M, hM⟩ : ∃ M, 2 ^ k = M := ⟨_, rfl⟩
      rw [hM] at ht hs ho hp7
      have hM2 : (2 : Int) ^ k = (M : Int) := by rw [← hM]; simp
      clear hM hm
      have BZ := box_below wr #[.int .i64 p0, .int .i64 p1] 24
      have XC := EBox.made wr #[.int .i64 p0, .int .i64 p1] 24
      replace Etr := rangeAt_on Etr BZ
      replace BB := bon BB BZ
      have e0 := XC.cell (i := 0) rfl
      have e1 := XC.cell (i := 1) rfl
      clear BZ XC hx
      have cc := fun W => cov_b a b c p f (x * 256 + p0) (y * 256 + p1) W
      obtain ⟨v, hv⟩ : ∃ v, cov a b c (x * 256 + p0) (y * 256 + p1) = v := ⟨_, rfl⟩
      simp only [hv] at ht cc
      have CC := Lib.hid cc
      have HTT := Lib.hid ht
      clear cc hv ht
      cases v
      · go_wp2_with (first
    | ((with_reducible refine eload2L rk_pt ha ?_ ?_); (focus rfl))
    | ((with_reducible refine eload17L rk_tr Etr ?_ ?_); (focus rfl))
    | (go_at_call 30; (with_reducible refine (CC.out _).mono ?_); rintro _ W5 ⟨rfl, B⟩; replace BB := bon BB B; skip; skip; clear B))
        go_roundw
        case rel => exact ⟨k + 1, by omega, by go_num, by rw [HTT.out]; simp <;> omega, BB⟩
        case measure => simp [intOf]; omega
      · go_wp2_with (first
    | ((with_reducible refine eload2L rk_pt ha ?_ ?_); (focus rfl))
    | ((with_reducible refine eload17L rk_tr Etr ?_ ?_); (focus rfl))
    | (go_at_call 30; (with_reducible refine (CC.out _).mono ?_); rintro _ W5 ⟨rfl, B⟩; replace BB := bon BB B; skip; skip; clear B))
        go_roundw
        case rel => exact ⟨k + 1, by omega, by go_num, by rw [HTT.out]; simp <;> omega, BB⟩
        case measure => simp [intOf]; omega
    · obtain rfl : k = N := by omega
      replace BB := bon BB B1
      have hf : l.take k = l := by rw [← HN.out]; exact HF.out
      rw [hf]
      clear hf
      go_wp2
      go_ret
      exact ⟨rfl, BB⟩

theorem mask_b (a b c : SV) (p : Int) (f : Bool) (x y n : Int) (w : World) : Calls Try.prog 20 #[.agg #[.int .i64 a.x, .int .i64 a.y, .int .i64 a.z, .int .i64 a.q, .slice a.A a.n a.c, .int .i64 b.x, .int .i64 b.y, .int .i64 b.z, .int .i64 b.q, .slice b.A b.n b.c, .int .i64 c.x, .int .i64 c.y, .int .i64 c.z, .int .i64 c.q, .slice c.A c.n c.c, .int .i64 p, .bool f], .int .i64 x, .int .i64 y, .int .i64 n] w fun e w' => e = .returned (.int .i64 (maskv a b c x y n)) ∧ Below w.heap.size w w' := by
  unfold maskv
  cases h : pixel x y
  · exact mask_no a b c p f x y n h w
  · exact mask_yes a b c p f x y n h w

end Go.Proofs.Ytcnemjkcihlpeaa
