/- One component of a texel, written and read: package texel's putComponent and component. -/
import Derived.Test.YtcjlgfadjedgbaaT6b
import Derived.Test.YtcjlgfadjedgbaaTailK
namespace Go.Proofs.Ytcjlgfadjedgbaa
open Go.RowKit Go.Sort

theorem little_at (A : Option Addr) (n c : Nat) (l : List Int) (w : World) (R : Rd w w.heap.size .u8 A n l) (p m : Int) (q k : Nat) (ep : p = q) (em : m = k) (hn : n ≤ 9223372036854775807) (m1 : 1 ≤ k) (m4 : k ≤ 4) (hp : q + k ≤ n) :
    Calls Try.prog 89 #[.slice A n c, .int .i64 p, .int .i64 m] w fun e w' => e = .returned (.int .i64 (litv (part l q k))) ∧ Below w.heap.size w w' := by
  subst ep; subst em; exact little_yes A n c q k l w R hn m1 m4 hp

theorem put_at (A : Option Addr) (n c : Nat) (l : List Int) (v : Int) (w : World) (R : Rd w w.heap.size .u8 A n l) (p m : Int) (q k : Nat) (ep : p = q) (em : m = k) (hn : n ≤ 140737488355328) (m1 : 1 ≤ k) (m4 : k ≤ 4) (hp : q + k ≤ n) :
    Calls Try.prog 85 #[.slice A n c, .int .i64 p, .int .i64 m, .int .i64 v] w (GivesOwn w w.heap.size 5 .u8 (putL l q v k)) := by
  subst ep; subst em; exact putLittle_yes A n c q k l v w R hn m1 m4 hp

theorem thv_b (x : Int) (w : World) : Calls Try.prog 86 #[.agg #[.int .i64 5, .int .i64 10, .bool true], .int .i64 x] w fun e w' => e = .returned (.int .i64 (hv x)) ∧ Below w.heap.size w w' :=
  encode_yes 5 10 x true w (by omega) (by omega) (by omega) (by omega)

theorem tdv_b (p : Int) (w : World) (h0 : 0 ≤ p) (h1 : p < 65536) : Calls Try.prog 113 #[.agg #[.int .i64 5, .int .i64 10, .bool true], .int .i64 p] w fun e w' => e = .returned (.int .i64 (dv p)) ∧ Below w.heap.size w w' :=
  decode_yes 5 10 p true w (by omega) (by omega) (by omega) (by omega) h0 (by rw [show pw (5 + 10 + sbit true) = 65536 by decide]; exact h1)

set_option maxRecDepth 100000 in
theorem tput_half (f x0 x1 x2 x3 : Int) (i : Nat) (A : Option Addr) (n c : Nat) (w : World) (hf : f = 5 ∨ f = 6) (hi : i < ncm f) (R : Rd w w.heap.size .u8 A n (encK f x0 x1 x2 x3 i)) :
    Calls Try.prog 61 #[.int .i64 f, .slice A n c, .int .i64 i, .int .i64 (cmp x0 x1 x2 x3 i)] w (GivesRd w .u8 (encK f x0 x1 x2 x3 (i + 1))) := by
  have hn : n = nsz f := by rw [← R.len, encK_len]
  have hi2 : 2 * i + 2 ≤ n ∧ n ≤ 8 := by rw [hn]; rcases hf with rfl | rfl; (have hi : i < 1 := hi; show _ ≤ 2 ∧ 2 ≤ 8; omega); (have hi : i < 4 := hi; show _ ≤ 8 ∧ 8 ≤ 8; omega)
  have hq := encK_half (x0 := x0) (x1 := x1) (x2 := x2) (x3 := x3) hf hi
  have ch := fun W => of_q (ishalf_q f W)
  rw [decide_eq_true hf] at ch
  have ce := fun W => thv_b (cmp x0 x1 x2 x3 i) W
  obtain ⟨X, hX⟩ : ∃ X, cmp x0 x1 x2 x3 i = X := ⟨_, rfl⟩
  obtain ⟨h, hh⟩ : ∃ h, hv X = h := ⟨_, rfl⟩
  obtain ⟨L, hL⟩ : ∃ L, encK f x0 x1 x2 x3 i = L := ⟨_, rfl⟩
  obtain ⟨M, hM⟩ : ∃ M, encK f x0 x1 x2 x3 (i + 1) = M := ⟨_, rfl⟩
  rw [hX, hh] at ce
  rw [hX, hh, hL, hM] at hq
  rw [hL] at R
  rw [hX, hM]
  have cp := fun W (RW : Rd W W.heap.size .u8 A n L) => put_at A n c L h W RW (i * 2) 2 (2 * i) 2 (by omega) rfl (by omega) (by omega) (by omega) hi2.1
  rw [hq] at cp
  have CH := Lib.hid ch
  have CE := Lib.hid ce
  have CP := Lib.hid cp
  have K1 := R
  have BB : Below w.heap.size w w := Below.refl _ _
  obtain ⟨g1, g2⟩ := hi2
  have g3 : (i : Int) ≤ 3 := by omega
  clear ch ce cp hq hX hh hL hM R hf hi hn
  go_enter Try.func61, Try.ntmps61
  go_wp2_with (first
    | (go_at_call 84; (with_reducible refine (CH.out _).mono ?_); rintro _ _ ⟨rfl, B⟩; (replace BB := bon BB B; replace K1 := Rd.on K1 B))
    | (go_at_call 87; (with_reducible refine (half_b _).mono ?_); rintro _ _ ⟨rfl, B⟩; (replace BB := bon BB B; replace K1 := Rd.on K1 B))
    | (go_at_call 86; (with_reducible refine (CE.out _).mono ?_); rintro _ _ ⟨rfl, B⟩; (replace BB := bon BB B; replace K1 := Rd.on K1 B))
    | (go_at_call 85; (with_reducible refine (CP.out _ K1).mono ?_); rintro _ W5 ⟨A5, n5, c5, rfl, own5, B5⟩))
  go_ret
  exact ⟨A5, n5, c5, rfl, own5.room, own5.rd, BB.trans (B5.mono BB.size)⟩

set_option maxRecDepth 100000 in
theorem tput_int (f x0 x1 x2 x3 : Int) (i : Nat) (A : Option Addr) (n c : Nat) (w : World) (hf : f = 1 ∨ f = 2 ∨ f = 3 ∨ f = 4) (hi : i < ncm f) (R : Rd w w.heap.size .u8 A n (encK f x0 x1 x2 x3 i)) :
    Calls Try.prog 61 #[.int .i64 f, .slice A n c, .int .i64 i, .int .i64 (cmp x0 x1 x2 x3 i)] w (GivesRd w .u8 (encK f x0 x1 x2 x3 (i + 1))) := by
  have hn : n = nsz f := by rw [← R.len, encK_len]
  have hs : 1 ≤ n ∧ n ≤ 4 := by rw [hn]; rcases hf with rfl | rfl | rfl | rfl <;> decide
  obtain ⟨⟨b0, b1⟩, ⟨s0, s1⟩, ⟨a0, a1⟩, ⟨y0, y1⟩, ho⟩ := acc_step (x0 := x0) (x1 := x1) (x2 := x2) (x3 := x3) hf hi
  obtain ⟨ev, ep⟩ := encK_int (x0 := x0) (x1 := x1) (x2 := x2) (x3 := x3) hf hi
  have ch := fun W => of_q (ishalf_q f W)
  rw [decide_eq_false (by omega)] at ch
  have cl := fun W => place_b f i W hf hi
  unfold PlaceGives at cl
  have cu := fun W => tunorm_b (cmp x0 x1 x2 x3 i) (wdt f i) W
  have hz := pw_i64_mul (unv (cmp x0 x1 x2 x3 i) (wdt f i)) (shf f i) (by omega) (by omega)
  obtain ⟨sh, hsh⟩ : ∃ s, shf f i = s := ⟨_, rfl⟩
  obtain ⟨wd, hwd⟩ : ∃ b, wdt f i = b := ⟨_, rfl⟩
  obtain ⟨X, hX⟩ : ∃ X, cmp x0 x1 x2 x3 i = X := ⟨_, rfl⟩
  obtain ⟨u, hu⟩ : ∃ u, unv X wd = u := ⟨_, rfl⟩
  obtain ⟨y, hy⟩ : ∃ y, u * pw sh = y := ⟨_, rfl⟩
  obtain ⟨acc, hacc⟩ : ∃ a, accK f x0 x1 x2 x3 i = a := ⟨_, rfl⟩
  obtain ⟨acd, hacd⟩ : ∃ a, accK f x0 x1 x2 x3 (i + 1) = a := ⟨_, rfl⟩
  obtain ⟨L, hL⟩ : ∃ L, encK f x0 x1 x2 x3 i = L := ⟨_, rfl⟩
  obtain ⟨M, hM⟩ : ∃ M, encK f x0 x1 x2 x3 (i + 1) = M := ⟨_, rfl⟩
  rw [hsh, hwd] at cl
  rw [hX, hwd, hu] at cu hz
  rw [hsh, hy] at hz
  rw [hX, hwd, hu, hsh, hy, hacc, hacd] at ho
  rw [hL, hacc] at ev
  rw [hL, hacd, hM, ← hn] at ep
  rw [hsh] at s0 s1
  rw [hL] at R
  rw [hX, hM]
  have hLn := R.len
  have ce := fun W (RW : Rd W W.heap.size .u8 A n L) => little_at A n c L W RW 0 n 0 n rfl rfl (by omega) (by omega) (by omega) (by omega)
  rw [part_whole L n hLn, ev] at ce
  have cp := fun W (RW : Rd W W.heap.size .u8 A n L) => put_at A n c L acd W RW 0 n 0 n rfl rfl (by omega) (by omega) (by omega) (by omega)
  rw [ep] at cp
  have CH := Lib.hid ch
  have CL := Lib.hid cl
  have CU := Lib.hid cu
  have CE := Lib.hid ce
  have CP := Lib.hid cp
  have K1 := R
  have BB : Below w.heap.size w w := Below.refl _ _
  clear ch cl cu ce cp hX hu hy hacc hacd hL hM R hf hi hn hsh hwd ev ep a0 a1 y0 y1 b0 b1 hLn
  go_enter Try.func61, Try.ntmps61
  go_wp2_with (first
    | (go_at_call 84; (with_reducible refine (CH.out _).mono ?_); rintro _ _ ⟨rfl, B⟩; replace BB := bon BB B; replace K1 := K1.on B)
    | (go_at_call 88; (with_reducible refine (CL.out _).mono ?_); rintro _ W2 ⟨rfl, B⟩; replace BB := bon BB B; replace K1 := K1.on B))
  have bb := box_below W2 #[.int .i64 sh, .int .i64 wd] 92
  refine letter (S := fun V => V.cell? ⟨W2.heap.size, 0, none⟩ = some (.int .i64 sh) ∧ V.cell? ⟨W2.heap.size, 1, none⟩ = some (.int .i64 wd) ∧ Rd V V.heap.size .u8 A n L ∧ Below w.heap.size w V) ?_ ⟨by simp, by simp, K1.on bb, bon BB bb⟩
  clear bb BB K1 B
  rintro V ⟨c0, c1, K1, BB⟩
  have k_c0 := cell_regrown c0
  have k_c1 := cell_regrown c1
  refine wp_region_tailK (n := 15) (by kernel_rfl) (by kernel_rfl) ?_
  simp only [List.take_succ_cons, List.take_zero, List.drop_succ_cons, List.drop_zero]
  repeat (first | go_big_quiet_step ((first | (go_at_call 89; exact Calls.regrown_of (CE.out _ (K1.on (below_regrown _ _ _)))) | (go_at_call 90; exact Calls.regrown_of (CU.out _)))) | quiet_step ((first | (go_at_call 89; exact Calls.regrown_of (CE.out _ (K1.on (below_regrown _ _ _)))) | (go_at_call 90; exact Calls.regrown_of (CU.out _)))))
  refine wpQuiet_nil ?_
  intro W hw'
  have B := below_regrown' hw'
  clear hw' k_c0 k_c1
  replace BB := bon BB B
  replace K1 := Rd.on K1 B
  replace c0 := cell_below B c0
  replace c1 := cell_below B c1
  go_wp2_with (go_at_call 85; (with_reducible refine (CP.out _ K1).mono ?_); rintro _ W5 ⟨A5, n5, c5, rfl, own5, B5⟩)
  go_ret
  exact ⟨A5, n5, c5, rfl, own5.room, own5.rd, BB.trans (B5.mono BB.size)⟩

/-! ### component -/

set_option maxRecDepth 100000 in
theorem tcomp_half (f : Int) (l : List Int) (i : Nat) (A : Option Addr) (n c : Nat) (w : World) (hf : f = 5 ∨ f = 6) (hi : i < ncm f) (hl : n = nsz f) (R : Rd w w.heap.size .u8 A n l) :
    Calls Try.prog 101 #[.int .i64 f, .slice A n c, .int .i64 i] w fun e w' => e = .returned (.int .i64 (dec f l i)) ∧ Below w.heap.size w w' := by
  have hi2 : 2 * i + 2 ≤ n ∧ n ≤ 8 := by rw [hl]; rcases hf with rfl | rfl; (have hi : i < 1 := hi; show _ ≤ 2 ∧ 2 ≤ 8; omega); (have hi : i < 4 := hi; show _ ≤ 8 ∧ 8 ≤ 8; omega)
  have hd := dec_halfK (l := l) hf (by rw [R.len, hl]) hi
  have hr := litv_rng (part l (2 * i) 2) (part_rng (rd_rng255 R))
  rw [part_len (by rw [R.len]; omega)] at hr
  have ch := fun W => of_q (ishalf_q f W)
  rw [decide_eq_true hf] at ch
  have ce := fun W (RW : Rd W W.heap.size .u8 A n l) => little_at A n c l W RW (i * 2) 2 (2 * i) 2 (by omega) rfl (by omega) (by omega) (by omega) hi2.1
  obtain ⟨p, hp⟩ : ∃ p, litv (part l (2 * i) 2) = p := ⟨_, rfl⟩
  rw [hp] at hr hd ce
  have cd := fun W => tdv_b p W hr.1 hr.2
  obtain ⟨d, hdd⟩ : ∃ d, dv p = d := ⟨_, rfl⟩
  rw [hdd] at cd hd
  rw [hd]
  have CH := Lib.hid ch
  have CE := Lib.hid ce
  have CD := Lib.hid cd
  have K1 := R
  have BB : Below w.heap.size w w := Below.refl _ _
  obtain ⟨g1, g2⟩ := hi2
  have g3 : (i : Int) ≤ 3 := by omega
  clear ch ce cd hd hdd hp hr R hf hi hl
  go_enter Try.func101, Try.ntmps101
  go_wp2_with (first
    | (go_at_call 84; (with_reducible refine (CH.out _).mono ?_); rintro _ _ ⟨rfl, B⟩; (replace BB := bon BB B; replace K1 := Rd.on K1 B))
    | (go_at_call 87; (with_reducible refine (half_b _).mono ?_); rintro _ _ ⟨rfl, B⟩; (replace BB := bon BB B; replace K1 := Rd.on K1 B))
    | (go_at_call 89; (with_reducible refine (CE.out _ K1).mono ?_); rintro _ _ ⟨rfl, B⟩; (replace BB := bon BB B; replace K1 := Rd.on K1 B))
    | (go_at_call 113; (with_reducible refine (CD.out _).mono ?_); rintro _ _ ⟨rfl, B⟩; (replace BB := bon BB B; replace K1 := Rd.on K1 B)))
  go_ret
  exact ⟨rfl, BB⟩

set_option maxRecDepth 100000 in
theorem tcomp_int (f : Int) (l : List Int) (i : Nat) (A : Option Addr) (n c : Nat) (w : World) (hf : f = 1 ∨ f = 2 ∨ f = 3 ∨ f = 4) (hi : i < ncm f) (hl : n = nsz f) (R : Rd w w.heap.size .u8 A n l) :
    Calls Try.prog 101 #[.int .i64 f, .slice A n c, .int .i64 i] w fun e w' => e = .returned (.int .i64 (dec f l i)) ∧ Below w.heap.size w w' := by
  have hs : 1 ≤ n ∧ n ≤ 4 := by rw [hl]; rcases hf with rfl | rfl | rfl | rfl <;> decide
  have hll : l.length = nsz f := by rw [R.len, hl]
  obtain ⟨⟨b0, b1⟩, ⟨s0, s1⟩, _⟩ := acc_step (x0 := 0) (x1 := 0) (x2 := 0) (x3 := 0) hf hi
  have hd := dec_step hf hll (rd_rng255 R) hi
  have hN := litv_rng l (rd_rng255 R)
  have h4 := pow256_le (show l.length ≤ 4 by rw [R.len]; omega)
  have e4 : (256 : Int) ^ 4 = 4294967296 := by decide
  have ch := fun W => of_q (ishalf_q f W)
  rw [decide_eq_false (by omega)] at ch
  have cl := fun W => place_b f i W hf hi
  unfold PlaceGives at cl
  have hp2 := pw_16b ⟨b0, b1⟩
  have hpw := pw_i64 (wdt f i) (by omega)
  have cm := fun W => of_q (maxunorm_q (wdt f i) (pw (wdt f i)) W b0 b1 hpw hp2.1 hp2.2)
  have ha := and_pw (litv l / pw (shf f i)) (wdt f i) (by omega) (by omega)
  have cf := fun W => tfromu_b (litv l / pw (shf f i) % pw (wdt f i)) (wdt f i) W
  rw [← hd] at cf
  have ce := fun W (RW : Rd W W.heap.size .u8 A n l) => little_at A n c l W RW 0 n 0 n rfl rfl (by omega) (by omega) (by omega) (by omega)
  rw [part_whole l n R.len] at ce
  obtain ⟨sh, hsh⟩ : ∃ s, shf f i = s := ⟨_, rfl⟩
  obtain ⟨wd, hwd⟩ : ∃ b, wdt f i = b := ⟨_, rfl⟩
  obtain ⟨D, hD⟩ : ∃ D, dec f l i = D := ⟨_, rfl⟩
  obtain ⟨N, hN'⟩ : ∃ N, litv l = N := ⟨_, rfl⟩
  rw [hsh, hwd] at cl
  rw [hwd] at cm b0 b1
  rw [hN', hsh, hwd, hD] at cf
  rw [hN', hsh, hwd] at ha
  rw [hN'] at ce hN
  rw [hsh] at s0 s1
  rw [hD]
  have hq : N / 2 ^ sh.toNat = N / pw sh := rfl
  obtain ⟨q, hqq⟩ : ∃ q, N / pw sh = q := ⟨_, rfl⟩
  obtain ⟨m, hm⟩ : ∃ m, pw wd = m := ⟨_, rfl⟩
  rw [hqq] at ha cf hq
  rw [hm] at ha cf cm
  obtain ⟨r, hr⟩ : ∃ r, q % m = r := ⟨_, rfl⟩
  rw [hr] at ha cf
  have CH := Lib.hid ch
  have CL := Lib.hid cl
  have CM := Lib.hid cm
  have CE := Lib.hid ce
  have CF := Lib.hid cf
  have K1 := R
  have BB : Below w.heap.size w w := Below.refl _ _
  clear ch cl cm ce cf hd hll hN h4 e4 hp2 hpw R hf hi hl hsh hwd hD hN' hqq hm hr b0 b1
  go_enter Try.func101, Try.ntmps101
  go_wp2_with (first
    | (go_at_call 84; (with_reducible refine (CH.out _).mono ?_); rintro _ _ ⟨rfl, B⟩; replace BB := bon BB B; replace K1 := K1.on B)
    | (go_at_call 88; (with_reducible refine (CL.out _).mono ?_); rintro _ W2 ⟨rfl, B⟩; replace BB := bon BB B; replace K1 := K1.on B))
  have bb := box_below W2 #[.int .i64 sh, .int .i64 wd] 92
  refine letter (S := fun V => V.cell? ⟨W2.heap.size, 0, none⟩ = some (.int .i64 sh) ∧ V.cell? ⟨W2.heap.size, 1, none⟩ = some (.int .i64 wd) ∧ Rd V V.heap.size .u8 A n l ∧ Below w.heap.size w V) ?_ ⟨by simp, by simp, K1.on bb, bon BB bb⟩
  clear bb BB K1 B
  rintro V ⟨c0, c1, K1, BB⟩
  have k_c0 := cell_regrown c0
  have k_c1 := cell_regrown c1
  refine wp_region_quiet_below (by kernel_rfl) (by kernel_rfl) ?_
  repeat (first | go_big_quiet_step ((first | (go_at_call 89; exact Calls.regrown_of (CE.out _ (K1.on (below_regrown _ _ _)))) | (go_at_call 110; exact Calls.regrown_of (CM.out _)) | (go_at_call 114; exact Calls.regrown_of (CF.out _)))) | quiet_step ((first | (go_at_call 89; exact Calls.regrown_of (CE.out _ (K1.on (below_regrown _ _ _)))) | (go_at_call 110; exact Calls.regrown_of (CM.out _)) | (go_at_call 114; exact Calls.regrown_of (CF.out _)))))
  refine wpQuiet_nil ?_
  intro W hw'
  have B := below_regrown' hw'
  clear hw' k_c0 k_c1
  replace BB := bon BB B
  replace K1 := Rd.on K1 B
  replace c0 := cell_below B c0
  replace c1 := cell_below B c1
  go_wp2
  go_ret
  exact ⟨rfl, BB⟩

end Go.Proofs.Ytcjlgfadjedgbaa
