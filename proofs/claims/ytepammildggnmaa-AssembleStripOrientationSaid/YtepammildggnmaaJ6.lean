/- What Rotate, directed return; the walk of AssembleRotate. -/
import Derived.Test.YtepammildggnmaaJ5
import Derived.Test.YtepammildggnmaaOpenI
namespace Go.Proofs.Ytepammildggnmaa
open Go.RowKit Go.Sort Go.ChangeShapes Go.WideShapes
set_option linter.unusedVariables false

def rx (x y z n : Int) : Int := if n % 3 = 0 then x else if n % 3 = 1 then y else z
def ry (x y z n : Int) : Int := if n % 3 = 0 then y else if n % 3 = 1 then z else x
def rz (x y z n : Int) : Int := if n % 3 = 0 then z else if n % 3 = 1 then x else y

theorem tmod3 (n : Int) : n.tmod 3 = -2 ∧ n % 3 = 1 ∨ n.tmod 3 = -1 ∧ n % 3 = 2 ∨ n.tmod 3 = 0 ∧ n % 3 = 0 ∨ n.tmod 3 = 1 ∧ n % 3 = 1 ∨ n.tmod 3 = 2 ∧ n % 3 = 2 := by
  rcases Int.lt_or_le n 0 with h | h
  · have h1 : n.tmod 3 = -((-n) % 3) := by
      have := Int.neg_tmod (a := -n) (b := 3)
      rw [Int.neg_neg] at this
      rw [this, Int.tmod_eq_emod_of_nonneg (by omega)]
    omega
  · rw [Int.tmod_eq_emod_of_nonneg h]
    omega

set_option maxRecDepth 100000 in
set_option maxHeartbeats 1000000 in
theorem rot_b (x y z n : Int) (w : World) :
    Calls Try.prog 27 #[.agg #[.int .i64 x, .int .i64 y, .int .i64 z], .int .i64 n] w fun e w' => e = .returned (.agg #[.int .i64 (rx x y z n), .int .i64 (ry x y z n), .int .i64 (rz x y z n)]) ∧ Below w.heap.size w w' := by
  have b0 := box_below w #[.int .i64 x, .int .i64 y, .int .i64 z] 24
  have z1 : (w.alloc (.cells #[.int .i64 x, .int .i64 y, .int .i64 z] 24)).heap.size = w.heap.size + 1 := by simp
  have X0 := EBox.made (w.alloc (.cells #[.int .i64 x, .int .i64 y, .int .i64 z] 24)) #[.int .i64 0, .int .i64 0, .int .i64 0] 24
  have b1 := box_below (w.alloc (.cells #[.int .i64 x, .int .i64 y, .int .i64 z] 24)) #[.int .i64 0, .int .i64 0, .int .i64 0] 24
  have c0 := cell_below b1 (box_cell w #[.int .i64 x, .int .i64 y, .int .i64 z] 24 0 _ rfl)
  have c1 := cell_below b1 (box_cell w #[.int .i64 x, .int .i64 y, .int .i64 z] 24 1 _ rfl)
  have c2 := cell_below b1 (box_cell w #[.int .i64 x, .int .i64 y, .int .i64 z] 24 2 _ rfl)
  have BB := bon b0 b1
  rw [z1] at X0
  have X9 := Lib.hid X0
  clear b0 b1 z1 X0
  unfold rx ry rz
  rcases tmod3 n with ⟨hm, he⟩ | ⟨hm, he⟩ | ⟨hm, he⟩ | ⟨hm, he⟩ | ⟨hm, he⟩
  all_goals
    simp only [he]
    simp only [if_true, show ((1 : Int) = 0) = False by simp, show ((2 : Int) = 0) = False by simp, show ((2 : Int) = 1) = False by simp, if_false]
    clear he
    go_enter Try.func27, Try.ntmps27
    go_wp2_with fail
    have k_c0 := cell_regrown c0
    have k_c1 := cell_regrown c1
    have k_c2 := cell_regrown c2
    refine wp_region_tail (n := 14) (by kernel_rfl) (by kernel_rfl) ?_
    simp only [List.take_succ_cons, List.take_zero, List.drop_succ_cons, List.drop_zero]
    repeat (first | go_big_quiet_step ((first | fail)) | quiet_step ((first | fail)))
    refine wpQuiet_nil ?_
    intro W hw'
    have B := below_regrown' hw'
    clear hw' k_c0 k_c1 k_c2
    replace BB := bon BB B
    replace c0 := cell_below B c0
    replace c1 := cell_below B c1
    replace c2 := cell_below B c2
    have X1 := X9.out.on (by decide) B
    refine eset3L triK X1 rfl rfl ?_
    intro V1 X2 B1 hc hf
    go_wp2
    have r0 := X2.cell (i := 0) rfl
    have r1 := X2.cell (i := 1) rfl
    have r2 := X2.cell (i := 2) rfl
    refine bodyPost_ret (by simp [results, Try.results27, go_sem, r0, r1, r2]) rfl ⟨rfl, BB.trans (B1.mono (by omega))⟩

/-- directed's answer. -/
def dirb (x y z p q : Int) : Bool := (x == p && y == q) || (y == p && z == q) || (z == p && x == q)

set_option maxRecDepth 100000 in
theorem directed_b (x y z p q : Int) (w : World) :
    Calls Try.prog 26 #[.agg #[.int .i64 x, .int .i64 y, .int .i64 z], .int .i64 p, .int .i64 q] w fun e w' => e = .returned (.bool (dirb x y z p q)) ∧ Below w.heap.size w w' := by
  have BB := box_below w #[.int .i64 x, .int .i64 y, .int .i64 z] 24
  go_enter Try.func26, Try.ntmps26
  go_wp2
  all_goals go_ret
  all_goals exact ⟨ret_bool (by first | (simp_all [dirb]; done) | (rw [Bool.eq_iff_iff]; simp_all [dirb])), box_below _ _ _⟩

theorem rot_rot (x y z n m : Int) (k : Int) (hk : k % 3 = (n + m) % 3) :
    rx (rx x y z n) (ry x y z n) (rz x y z n) m = rx x y z k ∧ ry (rx x y z n) (ry x y z n) (rz x y z n) m = ry x y z k ∧ rz (rx x y z n) (ry x y z n) (rz x y z n) m = rz x y z k := by
  unfold rx ry rz
  have h1 : n % 3 = 0 ∨ n % 3 = 1 ∨ n % 3 = 2 := by omega
  have h2 : m % 3 = 0 ∨ m % 3 = 1 ∨ m % 3 = 2 := by omega
  rcases h1 with h1 | h1 | h1 <;> rcases h2 with h2 | h2 | h2 <;> (have h3 : k % 3 = 0 ∨ k % 3 = 1 ∨ k % 3 = 2 := by omega) <;> rcases h3 with h3 | h3 | h3 <;> first | (exfalso; omega) | simp [h1, h2, h3]

theorem rot_same (x y z n m : Int) (h : m % 3 = n % 3) : rx x y z m = rx x y z n ∧ ry x y z m = ry x y z n ∧ rz x y z m = rz x y z n := by
  unfold rx ry rz
  rw [h]
  exact ⟨rfl, rfl, rfl⟩

theorem rot_dir (x y z n : Int) : dirb (rx x y z n) (ry x y z n) (rz x y z n) x y = true ∧ dirb (rx x y z n) (ry x y z n) (rz x y z n) y z = true ∧ dirb (rx x y z n) (ry x y z n) (rz x y z n) z x = true := by
  unfold rx ry rz dirb
  have h1 : n % 3 = 0 ∨ n % 3 = 1 ∨ n % 3 = 2 := by omega
  rcases h1 with h1 | h1 | h1 <;> simp [h1]

set_option maxRecDepth 100000 in
set_option maxHeartbeats 4000000 in
theorem rotate_walk (x y z n m : Int) (w : World) (hn : -9223372036854775808 ≤ n ∧ n ≤ 9223372036854775807) (hm : -9223372036854775808 ≤ m ∧ m ≤ 9223372036854775807) :
    Calls Try.prog 9 #[.agg #[.int .i64 x, .int .i64 y, .int .i64 z], .int .i64 n, .int .i64 m] w fun e w' => e = .returned (.bool true) ∧ Below w.heap.size w w' := by
  have BB := box_below w #[.int .i64 x, .int .i64 y, .int .i64 z] 24
  have c0 := box_cell w #[.int .i64 x, .int .i64 y, .int .i64 z] 24 0 _ rfl
  have c1 := box_cell w #[.int .i64 x, .int .i64 y, .int .i64 z] 24 1 _ rfl
  have c2 := box_cell w #[.int .i64 x, .int .i64 y, .int .i64 z] 24 2 _ rfl
  have hn3 := tmod3 n
  have hm3 := tmod3 m
  obtain ⟨a, ha⟩ : ∃ a, n.tmod 3 = a := ⟨_, rfl⟩
  obtain ⟨b, hb⟩ : ∃ b, m.tmod 3 = b := ⟨_, rfl⟩
  rw [ha] at hn3
  rw [hb] at hm3
  have ha2 : -2 ≤ a ∧ a ≤ 2 ∧ a % 3 = n % 3 := by omega
  have hb2 : -2 ≤ b ∧ b ≤ 2 ∧ b % 3 = m % 3 := by omega
  clear hn3 hm3
  obtain ⟨s, hs⟩ : ∃ s, a + b = s := ⟨_, rfl⟩
  have gs : IntKind.i64.wrap (a + b) = s := by rw [hs]; exact IntWalk.i64_in _ (by omega)
  have ga : IntKind.i64.wrap a = a := IntWalk.i64_in _ (by omega)
  have gb : IntKind.i64.wrap b = b := IntWalk.i64_in _ (by omega)
  have r1 := rot_rot x y z n m s (by omega)
  have r2 := rot_same x y z n a (by omega)
  have r3 := rot_same x y z 1 (-2) (by decide)
  have hd := rot_dir x y z n
  have r0 : rx x y z 0 = x ∧ ry x y z 0 = y ∧ rz x y z 0 = z := ⟨rfl, rfl, rfl⟩
  have r4 : rx x y z 1 = y ∧ ry x y z 1 = z ∧ rz x y z 1 = x := ⟨rfl, rfl, rfl⟩
  have C1 := Lib.hid (fun W => rot_b x y z n W)
  have c3 := fun W => rot_b x y z s W
  have c4 := fun W => rot_b x y z a W
  have c5 := fun W => rot_b x y z 0 W
  have c6 := fun W => rot_b x y z (-2) W
  have c7 := fun W => rot_b x y z 1 W
  rw [r2.1, r2.2.1, r2.2.2] at c4
  rw [r0.1, r0.2.1, r0.2.2] at c5
  rw [r3.1, r3.2.1, r3.2.2] at c6
  rw [r4.1, r4.2.1, r4.2.2] at c6 c7
  rw [← r1.1, ← r1.2.1, ← r1.2.2] at c3
  obtain ⟨p, hp⟩ : ∃ p, rx x y z n = p := ⟨_, rfl⟩
  obtain ⟨q, hq⟩ : ∃ q, ry x y z n = q := ⟨_, rfl⟩
  obtain ⟨r, hr⟩ : ∃ r, rz x y z n = r := ⟨_, rfl⟩
  rw [hp, hq, hr] at C1 c3 c4 hd
  have c2' := fun W => rot_b p q r m W
  obtain ⟨p', hp'⟩ : ∃ p', rx p q r m = p' := ⟨_, rfl⟩
  obtain ⟨q', hq'⟩ : ∃ q', ry p q r m = q' := ⟨_, rfl⟩
  obtain ⟨r', hr'⟩ : ∃ r', rz p q r m = r' := ⟨_, rfl⟩
  rw [hp', hq', hr'] at c3 c2'
  have C2 := Lib.hid c2'
  have C3 := Lib.hid c3
  have C4 := Lib.hid c4
  have C5 := Lib.hid c5
  have C6 := Lib.hid c6
  have C7 := Lib.hid c7
  have d0 := fun W => directed_b p q r x y W
  have d1 := fun W => directed_b p q r y z W
  have d2 := fun W => directed_b p q r z x W
  rw [hd.1] at d0
  rw [hd.2.1] at d1
  rw [hd.2.2] at d2
  have D0 := Lib.hid d0
  have D1 := Lib.hid d1
  have D2 := Lib.hid d2
  have E1 := eq3 p' q' r' p' q' r'
  have E2 := eq3 p q r p q r
  have E3 := eq3 x y z x y z
  have E4 := eq3 y z x y z x
  simp only [beq_self_eq_true, Bool.and_self] at E1 E2 E3 E4
  have GU := guard3
  clear c2' c3 c4 c5 c6 c7 d0 d1 d2 r0 r1 r2 r3 r4 hd hp hq hr hp' hq' hr' hs ha2 hb2 hn hm
  go_enter Try.func9, Try.ntmps9
  go_wp2_with (first
    | ((with_reducible refine eload3L triK (EBox.made w #[.int .i64 x, .int .i64 y, .int .i64 z] 24).1 ?_ ?_); focus rfl)
    | (go_at_call 27; (with_reducible refine (C1.out _).mono ?_); rintro _ W1 ⟨rfl, B⟩; replace BB := bon BB B; replace c0 := cell_below B c0; replace c1 := cell_below B c1; replace c2 := cell_below B c2; have BX := box_below W1 #[.int .i64 p, .int .i64 q, .int .i64 r] 24; have e0 := box_cell W1 #[.int .i64 p, .int .i64 q, .int .i64 r] 24 0 _ rfl; have e1 := box_cell W1 #[.int .i64 p, .int .i64 q, .int .i64 r] 24 1 _ rfl; have e2 := box_cell W1 #[.int .i64 p, .int .i64 q, .int .i64 r] 24 2 _ rfl; replace BB := bon BB BX; replace c0 := cell_below BX c0; replace c1 := cell_below BX c1; replace c2 := cell_below BX c2; clear B BX)
    | ((with_reducible refine estore3L triK ?_ ?_ ?_ ?_); focus rfl; focus rfl; focus rfl))
  have k_c0 := cell_regrown c0
  have k_c1 := cell_regrown c1
  have k_c2 := cell_regrown c2
  have k_e0 := cell_regrown e0
  have k_e1 := cell_regrown e1
  have k_e2 := cell_regrown e2
  refine wp_region_quiet_below (by kernel_rfl) (by kernel_rfl) ?_
  repeat (first | go_big_quiet_step ((first | (go_at_call 27; with_reducible exact Calls.regrown_of (C2.out _)) | (go_at_call 27; with_reducible exact Calls.regrown_of (C3.out _)) | (go_at_call 27; with_reducible exact Calls.regrown_of (C4.out _)) | (go_at_call 27; with_reducible exact Calls.regrown_of (C5.out _)) | (go_at_call 27; with_reducible exact Calls.regrown_of (C6.out _)) | (go_at_call 27; with_reducible exact Calls.regrown_of (C7.out _)))) | quiet_step ((first | (go_at_call 27; with_reducible exact Calls.regrown_of (C2.out _)) | (go_at_call 27; with_reducible exact Calls.regrown_of (C3.out _)) | (go_at_call 27; with_reducible exact Calls.regrown_of (C4.out _)) | (go_at_call 27; with_reducible exact Calls.regrown_of (C5.out _)) | (go_at_call 27; with_reducible exact Calls.regrown_of (C6.out _)) | (go_at_call 27; with_reducible exact Calls.regrown_of (C7.out _)))))
  refine wpQuiet_nil ?_
  intro W hw'
  have B := below_regrown' hw'
  clear hw' k_c0 k_c1 k_c2 k_e0 k_e1 k_e2
  replace BB := bon BB B
  replace c0 := cell_below B c0
  replace c1 := cell_below B c1
  replace c2 := cell_below B c2
  replace e0 := cell_below B e0
  replace e1 := cell_below B e1
  replace e2 := cell_below B e2
  go_wp2
  go_loopw [8] (fun i wr => ∃ k : Nat, k ≤ 3 ∧ i = .int .i64 (k : Int) ∧ wr.cell? ⟨w.heap.size, 0, none⟩ = some (.int .i64 x) ∧ wr.cell? ⟨w.heap.size, 1, none⟩ = some (.int .i64 y) ∧ wr.cell? ⟨w.heap.size, 2, none⟩ = some (.int .i64 z) ∧ wr.cell? ⟨W1.heap.size, 0, none⟩ = some (.int .i64 p) ∧ wr.cell? ⟨W1.heap.size, 1, none⟩ = some (.int .i64 q) ∧ wr.cell? ⟨W1.heap.size, 2, none⟩ = some (.int .i64 r) ∧ Below w.heap.size w wr) (fun i _ => 3 - (intOf i).toNat)
  case atStart => exact ⟨0, by omega, rfl, c0, c1, c2, e0, e1, e2, BB⟩
  case round =>
    clear c0 c1 c2 e0 e1 e2 BB B
    obtain ⟨k, hk, rfl, c0, c1, c2, e0, e1, e2, BB⟩ := hrel
    rcases (show k = 0 ∨ k = 1 ∨ k = 2 ∨ k = 3 by omega) with rfl | rfl | rfl | rfl
    · go_wp2_with fail
      have k_c0 := cell_regrown c0
      have k_c1 := cell_regrown c1
      have k_c2 := cell_regrown c2
      have k_e0 := cell_regrown e0
      have k_e1 := cell_regrown e1
      have k_e2 := cell_regrown e2
      refine wp_region_quiet_below (by kernel_rfl) (by kernel_rfl) ?_
      repeat (first | go_big_quiet_step ((first | (go_at_call 26; with_reducible exact Calls.regrown_of (D0.out _)))) | quiet_step ((first | (go_at_call 26; with_reducible exact Calls.regrown_of (D0.out _)))))
      refine wpQuiet_nil ?_
      intro W hw'
      have B := below_regrown' hw'
      clear hw' k_c0 k_c1 k_c2 k_e0 k_e1 k_e2
      replace BB := bon BB B
      replace c0 := cell_below B c0
      replace c1 := cell_below B c1
      replace c2 := cell_below B c2
      replace e0 := cell_below B e0
      replace e1 := cell_below B e1
      replace e2 := cell_below B e2
      go_wp2
      go_roundw
      case rel => exact ⟨1, by omega, rfl, c0, c1, c2, e0, e1, e2, BB⟩
      case measure => decide
    · go_wp2_with fail
      have k_c0 := cell_regrown c0
      have k_c1 := cell_regrown c1
      have k_c2 := cell_regrown c2
      have k_e0 := cell_regrown e0
      have k_e1 := cell_regrown e1
      have k_e2 := cell_regrown e2
      refine wp_region_quiet_below (by kernel_rfl) (by kernel_rfl) ?_
      repeat (first | go_big_quiet_step ((first | (go_at_call 26; with_reducible exact Calls.regrown_of (D1.out _)))) | quiet_step ((first | (go_at_call 26; with_reducible exact Calls.regrown_of (D1.out _)))))
      refine wpQuiet_nil ?_
      intro W hw'
      have B := below_regrown' hw'
      clear hw' k_c0 k_c1 k_c2 k_e0 k_e1 k_e2
      replace BB := bon BB B
      replace c0 := cell_below B c0
      replace c1 := cell_below B c1
      replace c2 := cell_below B c2
      replace e0 := cell_below B e0
      replace e1 := cell_below B e1
      replace e2 := cell_below B e2
      go_wp2
      go_roundw
      case rel => exact ⟨2, by omega, rfl, c0, c1, c2, e0, e1, e2, BB⟩
      case measure => decide
    · go_wp2_with fail
      have k_c0 := cell_regrown c0
      have k_c1 := cell_regrown c1
      have k_c2 := cell_regrown c2
      have k_e0 := cell_regrown e0
      have k_e1 := cell_regrown e1
      have k_e2 := cell_regrown e2
      refine wp_region_quiet_below (by kernel_rfl) (by kernel_rfl) ?_
      repeat (first | go_big_quiet_step ((first | (go_at_call 26; with_reducible exact Calls.regrown_of (D2.out _)))) | quiet_step ((first | (go_at_call 26; with_reducible exact Calls.regrown_of (D2.out _)))))
      refine wpQuiet_nil ?_
      intro W hw'
      have B := below_regrown' hw'
      clear hw' k_c0 k_c1 k_c2 k_e0 k_e1 k_e2
      replace BB := bon BB B
      replace c0 := cell_below B c0
      replace c1 := cell_below B c1
      replace c2 := cell_below B c2
      replace e0 := cell_below B e0
      replace e1 := cell_below B e1
      replace e2 := cell_below B e2
      go_wp2
      go_roundw
      case rel => exact ⟨3, by omega, rfl, c0, c1, c2, e0, e1, e2, BB⟩
      case measure => decide
    · go_wp2_with fail
      have k_c0 := cell_regrown c0
      have k_c1 := cell_regrown c1
      have k_c2 := cell_regrown c2
      have k_e0 := cell_regrown e0
      have k_e1 := cell_regrown e1
      have k_e2 := cell_regrown e2
      refine wp_region_quiet_below (by kernel_rfl) (by kernel_rfl) ?_
      repeat (first | go_big_quiet_step ((first | (go_at_call 27; with_reducible exact Calls.regrown_of (C7.out _)) | (go_at_call 19; with_reducible exact Calls.regrown_of (example_b _)))) | quiet_step ((first | (go_at_call 27; with_reducible exact Calls.regrown_of (C7.out _)) | (go_at_call 19; with_reducible exact Calls.regrown_of (example_b _)))))
      refine wpQuiet_nil ?_
      intro W hw'
      have B := below_regrown' hw'
      clear hw' k_c0 k_c1 k_c2 k_e0 k_e1 k_e2
      replace BB := bon BB B
      replace c0 := cell_below B c0
      replace c1 := cell_below B c1
      replace c2 := cell_below B c2
      replace e0 := cell_below B e0
      replace e1 := cell_below B e1
      replace e2 := cell_below B e2
      go_wp2
      go_ret
      exact ⟨rfl, BB⟩

end Go.Proofs.Ytepammildggnmaa
