/- What Grid, Tiles, TileRect, TileOf of package binning and of the reference return. -/
import Derived.Test.YtaeocpjddhghdaaProg
import Derived.Test.YtaeocpjddhghdaaBNMath
import Derived.Test.YtaeocpjddhghdaaRowN
import Derived.WalkKit
import Derived.IntWalk
import Derived.Test.YtaeocpjddhghdaaTail
import Derived.WalkSpells
import Derived.Lib.Hide
namespace Go.Proofs.Ytaeocpjddhghdaa
set_option linter.unusedSimpArgs false
open Go.RowKit Go.Sort Go.ChangeShapes Go.WideShapes
set_option linter.unusedVariables false

theorem ret_two {k : IntKind} {a b c d : Int} (h : a = c) (q : b = d) : Ending.returned (.tuple #[.int k a, .int k b]) = .returned (.tuple #[.int k c, .int k d]) := by rw [h, q]
theorem ret_int {k : IntKind} {a b : Int} (h : a = b) : Ending.returned (.int k a) = .returned (.int k b) := by rw [h]

theorem ret_bool {a b : Bool} (h : a = b) : Ending.returned (.bool a) = .returned (.bool b) := by rw [h]

theorem and_no {p q : Bool} (h : (p && q) = false) : p = false ∨ q = false := by cases p <;> cases q <;> simp_all

theorem side_b (n : Int) (w : World) : Calls Try.prog 28 #[.int .i64 n] w fun e w' => e = .returned (.bool (szd n)) ∧ Below w.heap.size w w' := by
  rcases szd_ways n with ⟨h1, h2, h3⟩ | ⟨h1, h3⟩ | ⟨h1, h2, h3⟩
  all_goals
    rw [h3]
    clear h3
    go_enter Try.func28, Try.ntmps28
    go_wp2
    all_goals go_ret
    all_goals exact ⟨ret_bool (by first | rfl | (simp; done) | (simp; omega)), Below.refl _ _⟩

theorem sized_b (a b : Int) (w : World) : Calls Try.prog 30 #[.int .i64 a, .int .i64 b] w fun e w' => e = .returned (.bool (szd a && szd b)) ∧ Below w.heap.size w w' := by
  rcases szd_ways a with ⟨h1, h2, h3⟩ | ⟨h1, h3⟩ | ⟨h1, h2, h3⟩ <;> rcases szd_ways b with ⟨q1, q2, q3⟩ | ⟨q1, q3⟩ | ⟨q1, q2, q3⟩
  all_goals
    rw [h3, q3]
    clear h3 q3
    go_enter Try.func30, Try.ntmps30
    go_wp2
    all_goals go_ret
    all_goals exact ⟨ret_bool (by first | rfl | (simp; done) | (simp; omega)), Below.refl _ _⟩

theorem tilesFor_b (n : Int) (h1 : 1 ≤ n) (h2 : n ≤ 64) (w : World) : Calls Try.prog 29 #[.int .i64 n] w fun e w' => e = .returned (.int .i64 (tls n)) ∧ Below w.heap.size w w' := by
  have ht : (n + 8 - 1) / 8 = tls n := by unfold tls; omega
  go_enter Try.func29, Try.ntmps29
  go_wp2
  go_ret
  exact ⟨ret_int ht, Below.refl _ _⟩

set_option maxRecDepth 100000 in
theorem grid_b (a b : Int) (w : World) : Calls Try.prog 16 #[.int .i64 a, .int .i64 b] w fun e w' => e = .returned (.tuple #[.int .i64 (cols a b), .int .i64 (rows a b)]) ∧ Below w.heap.size w w' := by
  have BB := Below.refl w.heap.size w
  have CA := fun W => side_b a W
  have CB := fun W => side_b b W
  rcases szd_ways a with ⟨h1, h2, h3⟩ | ⟨h1, h3⟩ | ⟨h1, h2, h3⟩ <;> rcases szd_ways b with ⟨q1, q2, q3⟩ | ⟨q1, q3⟩ | ⟨q1, q2, q3⟩
  all_goals
    rw [h3] at CA
    rw [q3] at CB
    first | rw [(cols_yes h3 q3).1, (cols_yes h3 q3).2] | rw [(cols_no (.inl h3)).1, (cols_no (.inl h3)).2] | rw [(cols_no (.inr q3)).1, (cols_no (.inr q3)).2]
    have DA := Lib.hid CA
    have DB := Lib.hid CB
    clear h3 q3 CA CB
    go_enter Try.func16, Try.ntmps16
    go_wp2_with (first
      | (go_at_call 28; first
          | ((with_reducible refine (DA.out _).mono ?_); rintro _ _ ⟨rfl, B⟩; replace BB := bon BB B; clear B)
          | ((with_reducible refine (DB.out _).mono ?_); rintro _ _ ⟨rfl, B⟩; replace BB := bon BB B; clear B))
      | (go_at_call 29; first
          | ((with_reducible refine (tilesFor_b a h1 h2 _).mono ?_); rintro _ _ ⟨rfl, B⟩; replace BB := bon BB B; clear B)
          | ((with_reducible refine (tilesFor_b b q1 q2 _).mono ?_); rintro _ _ ⟨rfl, B⟩; replace BB := bon BB B; clear B)))
    go_ret2
    exact ⟨rfl, BB⟩

set_option maxRecDepth 100000 in
theorem rgrid_b (a b : Int) (w : World) : Calls Try.prog 17 #[.int .i64 a, .int .i64 b] w fun e w' => e = .returned (.tuple #[.int .i64 (cols a b), .int .i64 (rows a b)]) ∧ Below w.heap.size w w' := by
  have BB := Below.refl w.heap.size w
  have CA := fun W => sized_b a b W
  cases h : (szd a && szd b)
  · have hn : szd a = false ∨ szd b = false := and_no h
    rw [h] at CA
    rw [(cols_no hn).1, (cols_no hn).2]
    have DA := Lib.hid CA
    clear CA h hn
    go_enter Try.func17, Try.ntmps17
    go_wp2_with (first | (go_at_call 30; refine (DA.out _).mono ?_; rintro _ _ ⟨rfl, B⟩; replace BB := bon BB B))
    go_ret2
    exact ⟨rfl, BB⟩
  · rw [h] at CA
    have hy : szd a = true ∧ szd b = true := by simpa using h
    rw [(cols_yes hy.1 hy.2).1, (cols_yes hy.1 hy.2).2]
    have ha : 1 ≤ a ∧ a ≤ 64 := by simpa [szd] using hy.1
    have hb : 1 ≤ b ∧ b ≤ 64 := by simpa [szd] using hy.2
    obtain ⟨h1, h2⟩ := ha
    obtain ⟨q1, q2⟩ := hb
    have t1 : (a + 8 - 1) / 8 = tls a := by unfold tls; omega
    have t2 : (b + 8 - 1) / 8 = tls b := by unfold tls; omega
    have DA := Lib.hid CA
    clear CA h hy
    go_enter Try.func17, Try.ntmps17
    go_wp2_with (first | (go_at_call 30; refine (DA.out _).mono ?_; rintro _ _ ⟨rfl, B⟩; replace BB := bon BB B))
    go_ret2
    exact ⟨ret_two t1 t2, BB⟩

set_option maxRecDepth 100000 in
theorem tiles_b (a b : Int) (w : World) : Calls Try.prog 20 #[.int .i64 a, .int .i64 b] w fun e w' => e = .returned (.int .i64 (cols a b * rows a b)) ∧ Below w.heap.size w w' := by
  have BB := Below.refl w.heap.size w
  obtain ⟨⟨h1, h2⟩, ⟨h3, h4⟩, h5, h6⟩ := cols_bd a b
  go_enter Try.func20, Try.ntmps20
  go_wp2_with (first | (go_at_call 16; refine (grid_b a b _).mono ?_; rintro _ _ ⟨rfl, B⟩; replace BB := bon BB B))
  go_ret
  exact ⟨rfl, BB⟩

set_option maxRecDepth 100000 in
theorem rtiles_b (a b : Int) (w : World) : Calls Try.prog 21 #[.int .i64 a, .int .i64 b] w fun e w' => e = .returned (.int .i64 (cols a b * rows a b)) ∧ Below w.heap.size w w' := by
  have BB := Below.refl w.heap.size w
  obtain ⟨⟨h1, h2⟩, ⟨h3, h4⟩, h5, h6⟩ := cols_bd a b
  go_enter Try.func21, Try.ntmps21
  go_wp2_with (first | (go_at_call 17; refine (rgrid_b a b _).mono ?_; rintro _ _ ⟨rfl, B⟩; replace BB := bon BB B))
  go_ret
  exact ⟨rfl, BB⟩

/-- TileRect's answer. -/
def trv (a b t : Int) : Value := .tuple #[.int .i64 (trx a b t), .int .i64 (tryv a b t), .int .i64 (trw a b t), .int .i64 (trh a b t)]

theorem trv_no {a b t : Int} (h : t < 0 ∨ cols a b * rows a b ≤ t) : trv a b t = .tuple #[.int .i64 0, .int .i64 0, .int .i64 0, .int .i64 0] := by
  unfold trv trx tryv trw trh
  rw [if_pos h, if_pos h, if_pos h, if_pos h]

theorem trv_yes {a b t : Int} (h : ¬ (t < 0 ∨ cols a b * rows a b ≤ t)) : trv a b t = .tuple #[.int .i64 (t % cols a b * 8), .int .i64 (t / cols a b * 8), .int .i64 (min 8 (a - t % cols a b * 8)), .int .i64 (min 8 (b - t / cols a b * 8))] := by
  unfold trv trx tryv trw trh
  rw [if_neg h, if_neg h, if_neg h, if_neg h]

theorem pos_sized {a b : Int} (h : 0 < cols a b * rows a b) : szd a = true ∧ szd b = true := by
  cases h1 : szd a
  · rw [(cols_no (.inl h1)).1, Int.zero_mul] at h; omega
  · cases h2 : szd b
    · rw [(cols_no (.inr h2)).1, Int.zero_mul] at h; omega
    · exact ⟨rfl, rfl⟩

theorem szd_yes {n : Int} (h : szd n = true) : 1 ≤ n ∧ n ≤ 64 := by simpa [szd] using h

set_option maxRecDepth 100000 in
set_option maxHeartbeats 1000000 in
theorem rect_b (a b t : Int) (w : World) : Calls Try.prog 18 #[.int .i64 a, .int .i64 b, .int .i64 t] w fun e w' => e = .returned (trv a b t) ∧ Below w.heap.size w w' := by
  have BB := Below.refl w.heap.size w
  have CT := fun W => tiles_b a b W
  have CG := fun W => grid_b a b W
  rcases (show t < 0 ∨ (0 ≤ t ∧ cols a b * rows a b ≤ t) ∨ (0 ≤ t ∧ t < cols a b * rows a b) by omega) with h | ⟨h1, h2⟩ | ⟨h1, h2⟩
  · rw [trv_no (.inl h)]
    clear CT CG
    go_enter Try.func18, Try.ntmps18
    go_wp2
    exact bodyPost_ret (by simp [results, Try.results18, go_sem]) rfl ⟨rfl, BB⟩
  · rw [trv_no (.inr h2)]
    obtain ⟨p, hp⟩ : ∃ p, cols a b * rows a b = p := ⟨_, rfl⟩
    rw [hp] at CT h2
    have DT := Lib.hid CT
    clear CT CG hp
    go_enter Try.func18, Try.ntmps18
    go_wp2_with (first | (go_at_call 20; refine (DT.out _).mono ?_; rintro _ _ ⟨rfl, B⟩; replace BB := bon BB B))
    exact bodyPost_ret (by simp [results, Try.results18, go_sem]) rfl ⟨rfl, BB⟩
  · rw [trv_yes (by omega)]
    obtain ⟨ha, hb⟩ := pos_sized (by omega : 0 < cols a b * rows a b)
    obtain ⟨a1, a2⟩ := szd_yes ha
    obtain ⟨b1, b2⟩ := szd_yes hb
    have c1 : 1 ≤ cols a b := by rw [(cols_yes ha hb).1]; have := tls_bd a1 a2; omega
    obtain ⟨⟨_, c2⟩, ⟨r1, r2⟩, _⟩ := cols_bd a b
    obtain ⟨p1, p2, p3, p4, p5⟩ := tile_parts c1 r1 h1 h2
    obtain ⟨t1, t2⟩ := tile_t c1 h1
    obtain ⟨c, hc⟩ : ∃ c, cols a b = c := ⟨_, rfl⟩
    obtain ⟨q, hq⟩ : ∃ q, rows a b = q := ⟨_, rfl⟩
    rw [hc, hq] at CT CG h2
    rw [hq] at r1 r2 p4
    rw [hc] at c1 c2 p1 p2 p3 p4 p5 t1 t2 ⊢
    obtain ⟨u, hu⟩ : ∃ u, t % c = u := ⟨_, rfl⟩
    obtain ⟨v, hv⟩ : ∃ v, t / c = v := ⟨_, rfl⟩
    obtain ⟨p, hp⟩ : ∃ p, c * q = p := ⟨_, rfl⟩
    rw [hp] at CT h2
    rw [hu] at p1 p2 t1 ⊢
    rw [hv] at p3 p4 t2 ⊢
    have DT := Lib.hid CT
    have DG := Lib.hid CG
    have hc0 : c ≠ 0 := by omega
    clear CT CG hp hu hv p5 ha hb hc hq
    go_enter Try.func18, Try.ntmps18
    go_wp2_with (first | (go_at_call 20; refine (DT.out _).mono ?_; rintro _ _ ⟨rfl, B⟩; replace BB := bon BB B) | (go_at_call 16; refine (DG.out _).mono ?_; rintro _ _ ⟨rfl, B⟩; replace BB := bon BB B))
    refine wp_region_quiet_below (by kernel_rfl) (by kernel_rfl) ?_
    repeat (first | go_big_quiet_step ((first | fail)) | quiet_step ((first | fail)))
    refine wpQuiet_nil ?_
    intro W hw'
    have B := below_regrown' hw'
    clear hw'
    replace BB := bon BB B
    go_wp2
    all_goals exact bodyPost_ret (v := .tuple #[.int .i64 (u * 8), .int .i64 (v * 8), .int .i64 (min 8 (a - u * 8)), .int .i64 (min 8 (b - v * 8))]) (by simp [results, Try.results18, go_sem] <;> omega) rfl ⟨rfl, BB⟩

set_option maxRecDepth 100000 in
set_option maxHeartbeats 1000000 in
theorem rrect_b (a b t : Int) (w : World) : Calls Try.prog 19 #[.int .i64 a, .int .i64 b, .int .i64 t] w fun e w' => e = .returned (trv a b t) ∧ Below w.heap.size w w' := by
  have BB := Below.refl w.heap.size w
  have CT := fun W => rtiles_b a b W
  have CG := fun W => rgrid_b a b W
  rcases (show t < 0 ∨ (0 ≤ t ∧ cols a b * rows a b ≤ t) ∨ (0 ≤ t ∧ t < cols a b * rows a b) by omega) with h | ⟨h1, h2⟩ | ⟨h1, h2⟩
  · rw [trv_no (.inl h)]
    clear CT CG
    go_enter Try.func19, Try.ntmps19
    go_wp2
    exact bodyPost_ret (by simp [results, Try.results19, go_sem]) rfl ⟨rfl, BB⟩
  · rw [trv_no (.inr h2)]
    obtain ⟨p, hp⟩ : ∃ p, cols a b * rows a b = p := ⟨_, rfl⟩
    rw [hp] at CT h2
    have DT := Lib.hid CT
    clear CT CG hp
    go_enter Try.func19, Try.ntmps19
    go_wp2_with (first | (go_at_call 21; refine (DT.out _).mono ?_; rintro _ _ ⟨rfl, B⟩; replace BB := bon BB B))
    exact bodyPost_ret (by simp [results, Try.results19, go_sem]) rfl ⟨rfl, BB⟩
  · rw [trv_yes (by omega)]
    obtain ⟨ha, hb⟩ := pos_sized (by omega : 0 < cols a b * rows a b)
    obtain ⟨a1, a2⟩ := szd_yes ha
    obtain ⟨b1, b2⟩ := szd_yes hb
    have c1 : 1 ≤ cols a b := by rw [(cols_yes ha hb).1]; have := tls_bd a1 a2; omega
    obtain ⟨⟨_, c2⟩, ⟨r1, r2⟩, _⟩ := cols_bd a b
    obtain ⟨p1, p2, p3, p4, p5⟩ := tile_parts c1 r1 h1 h2
    obtain ⟨t1, t2⟩ := tile_t c1 h1
    obtain ⟨c, hc⟩ : ∃ c, cols a b = c := ⟨_, rfl⟩
    obtain ⟨q, hq⟩ : ∃ q, rows a b = q := ⟨_, rfl⟩
    rw [hc, hq] at CT CG h2
    rw [hq] at r1 r2 p4
    rw [hc] at c1 c2 p1 p2 p3 p4 p5 t1 t2 ⊢
    obtain ⟨u, hu⟩ : ∃ u, t % c = u := ⟨_, rfl⟩
    obtain ⟨v, hv⟩ : ∃ v, t / c = v := ⟨_, rfl⟩
    obtain ⟨p, hp⟩ : ∃ p, c * q = p := ⟨_, rfl⟩
    rw [hp] at CT h2
    rw [hu] at p1 p2 t1 ⊢
    rw [hv] at p3 p4 t2 ⊢
    have DT := Lib.hid CT
    have DG := Lib.hid CG
    have hc0 : c ≠ 0 := by omega
    clear CT CG hp hu hv p5 ha hb hc hq
    go_enter Try.func19, Try.ntmps19
    go_wp2_with (first | (go_at_call 21; refine (DT.out _).mono ?_; rintro _ _ ⟨rfl, B⟩; replace BB := bon BB B) | (go_at_call 17; refine (DG.out _).mono ?_; rintro _ _ ⟨rfl, B⟩; replace BB := bon BB B))
    refine wp_region_quiet_below (by kernel_rfl) (by kernel_rfl) ?_
    repeat (first | go_big_quiet_step ((first | fail)) | quiet_step ((first | fail)))
    refine wpQuiet_nil ?_
    intro W hw'
    have B := below_regrown' hw'
    clear hw'
    replace BB := bon BB B
    go_wp2
    all_goals exact bodyPost_ret (v := .tuple #[.int .i64 (u * 8), .int .i64 (v * 8), .int .i64 (min 8 (a - u * 8)), .int .i64 (min 8 (b - v * 8))]) (by simp [results, Try.results19, go_sem] <;> omega) rfl ⟨rfl, BB⟩

theorem tof_no {a b x y : Int} (h : (szd a && szd b) = false ∨ x < 0 ∨ a ≤ x ∨ y < 0 ∨ b ≤ y) : tof a b x y = -1 := if_pos h

theorem tof_yes {a b x y : Int} (ha : szd a = true) (hb : szd b = true) (h1 : 0 ≤ x) (h2 : x < a) (h3 : 0 ≤ y) (h4 : y < b) : tof a b x y = y / 8 * tls a + x / 8 := by
  unfold tof
  rw [if_neg (by simp [ha, hb]; omega), (cols_yes ha hb).1]

set_option maxRecDepth 100000 in
set_option maxHeartbeats 1000000 in
theorem tileOf_b (a b x y : Int) (w : World) : Calls Try.prog 9 #[.int .i64 a, .int .i64 b, .int .i64 x, .int .i64 y] w fun e w' => e = .returned (.int .i64 (tof a b x y)) ∧ Below w.heap.size w w' := by
  have BB := Below.refl w.heap.size w
  have CG := fun W => grid_b a b W
  cases hs : (szd a && szd b)
  · rw [tof_no (.inl hs)]
    have hn : szd a = false ∨ szd b = false := and_no hs
    rw [(cols_no hn).1, (cols_no hn).2] at CG
    have DG := Lib.hid CG
    clear CG hs hn
    go_enter Try.func9, Try.ntmps9
    go_wp2_with (first | (go_at_call 16; refine (DG.out _).mono ?_; rintro _ _ ⟨rfl, B⟩; replace BB := bon BB B))
    go_ret
    exact ⟨rfl, BB⟩
  have hy : szd a = true ∧ szd b = true := by simpa using hs
  obtain ⟨a1, a2⟩ := szd_yes hy.1
  obtain ⟨b1, b2⟩ := szd_yes hy.2
  have ta := tls_bd a1 a2
  have tb := tls_bd b1 b2
  rw [(cols_yes hy.1 hy.2).1, (cols_yes hy.1 hy.2).2] at CG
  have hp : 1 ≤ tls a * tls b ∧ tls a * tls b ≤ 64 := ⟨by have : 1 * 1 ≤ tls a * tls b := Int.mul_le_mul ta.1 tb.1 (by omega) (by omega); omega, by have : tls a * tls b ≤ 8 * 8 := Int.mul_le_mul ta.2.1 tb.2.1 (by omega) (by omega); omega⟩
  rcases (show x < 0 ∨ (0 ≤ x ∧ a ≤ x) ∨ (0 ≤ x ∧ x < a ∧ y < 0) ∨ (0 ≤ x ∧ x < a ∧ 0 ≤ y ∧ b ≤ y) ∨ (0 ≤ x ∧ x < a ∧ 0 ≤ y ∧ y < b) by omega) with q1 | ⟨q1, q2⟩ | ⟨q1, q2, q3⟩ | ⟨q1, q2, q3, q4⟩ | ⟨q1, q2, q3, q4⟩
  iterate 4
    · rw [tof_no (by omega)]
      obtain ⟨c, hc⟩ : ∃ c, tls a = c := ⟨_, rfl⟩
      obtain ⟨r, hr⟩ : ∃ r, tls b = r := ⟨_, rfl⟩
      rw [hc, hr] at CG hp
      obtain ⟨hp1, hp2⟩ := hp
      have hp0 : ¬ c * r = 0 := by omega
      have DG := Lib.hid CG
      clear CG hs hy ta tb hc hr
      go_enter Try.func9, Try.ntmps9
      go_wp2_with (first | (go_at_call 16; refine (DG.out _).mono ?_; rintro _ _ ⟨rfl, B⟩; replace BB := bon BB B))
      go_ret
      exact ⟨rfl, BB⟩
  rw [tof_yes hy.1 hy.2 q1 q2 q3 q4]
  have e1 : y.tdiv 8 = y / 8 := Int.tdiv_eq_ediv_of_nonneg q3
  have e2 : x.tdiv 8 = x / 8 := Int.tdiv_eq_ediv_of_nonneg q1
  obtain ⟨ta1, ta2, _⟩ := ta
  have hm : 0 ≤ y / 8 * tls a ∧ y / 8 * tls a ≤ 64 := ⟨Int.mul_nonneg (by omega) (by omega), by have : y / 8 * tls a ≤ 8 * 8 := Int.mul_le_mul (by omega) ta2 (by omega) (by omega); omega⟩
  obtain ⟨hm1, hm2⟩ := hm
  obtain ⟨c, hc⟩ : ∃ c, tls a = c := ⟨_, rfl⟩
  obtain ⟨r, hr⟩ : ∃ r, tls b = r := ⟨_, rfl⟩
  rw [hc, hr] at CG hp
  rw [hc] at hm1 hm2 ta1 ta2 ⊢
  obtain ⟨hp1, hp2⟩ := hp
  have hp0 : ¬ c * r = 0 := by omega
  have G0 : (c * r == 0) = false := by simpa using hp0
  have G1 : decide (x < 0) = false := by simp only [decide_eq_false_iff_not]; omega
  have G2 : decide (a ≤ x) = false := by simp only [decide_eq_false_iff_not]; omega
  have G3 : decide (y < 0) = false := by simp only [decide_eq_false_iff_not]; omega
  have G4 : decide (b ≤ y) = false := by simp only [decide_eq_false_iff_not]; omega
  have DG := Lib.hid CG
  clear CG hs hy tb hc hr
  go_enter Try.func9, Try.ntmps9
  go_wp2_with (first | (go_at_call 16; refine (DG.out _).mono ?_; rintro _ _ ⟨rfl, B⟩; replace BB := bon BB B))
  go_ret
  exact ⟨rfl, BB⟩

set_option maxRecDepth 100000 in
set_option maxHeartbeats 1000000 in
theorem rtileOf_b (a b x y : Int) (w : World) : Calls Try.prog 22 #[.int .i64 a, .int .i64 b, .int .i64 x, .int .i64 y] w fun e w' => e = .returned (.int .i64 (tof a b x y)) ∧ Below w.heap.size w w' := by
  have BB := Below.refl w.heap.size w
  have CG := fun W => rgrid_b a b W
  have CS := fun W => sized_b a b W
  cases hs : (szd a && szd b)
  · rw [tof_no (.inl hs)]
    rw [hs] at CS
    have DS := Lib.hid CS
    clear CG CS hs
    go_enter Try.func22, Try.ntmps22
    go_wp2_with (first | (go_at_call 30; refine (DS.out _).mono ?_; rintro _ _ ⟨rfl, B⟩; replace BB := bon BB B))
    go_ret
    exact ⟨rfl, BB⟩
  rw [hs] at CS
  have DS := Lib.hid CS
  have hy : szd a = true ∧ szd b = true := by simpa using hs
  obtain ⟨a1, a2⟩ := szd_yes hy.1
  obtain ⟨b1, b2⟩ := szd_yes hy.2
  have ta := tls_bd a1 a2
  rcases (show x < 0 ∨ (0 ≤ x ∧ a ≤ x) ∨ (0 ≤ x ∧ x < a ∧ y < 0) ∨ (0 ≤ x ∧ x < a ∧ 0 ≤ y ∧ b ≤ y) ∨ (0 ≤ x ∧ x < a ∧ 0 ≤ y ∧ y < b) by omega) with q1 | ⟨q1, q2⟩ | ⟨q1, q2, q3⟩ | ⟨q1, q2, q3, q4⟩ | ⟨q1, q2, q3, q4⟩
  iterate 4
    · rw [tof_no (by omega)]
      clear CG CS hs hy ta
      go_enter Try.func22, Try.ntmps22
      go_wp2_with (first | (go_at_call 30; refine (DS.out _).mono ?_; rintro _ _ ⟨rfl, B⟩; replace BB := bon BB B))
      go_ret
      exact ⟨rfl, BB⟩
  rw [tof_yes hy.1 hy.2 q1 q2 q3 q4]
  rw [(cols_yes hy.1 hy.2).1, (cols_yes hy.1 hy.2).2] at CG
  have e1 : y.tdiv 8 = y / 8 := Int.tdiv_eq_ediv_of_nonneg q3
  have e2 : x.tdiv 8 = x / 8 := Int.tdiv_eq_ediv_of_nonneg q1
  obtain ⟨ta1, ta2, _⟩ := ta
  have hm : 0 ≤ y / 8 * tls a ∧ y / 8 * tls a ≤ 64 := ⟨Int.mul_nonneg (by omega) (by omega), by have : y / 8 * tls a ≤ 8 * 8 := Int.mul_le_mul (by omega) ta2 (by omega) (by omega); omega⟩
  obtain ⟨hm1, hm2⟩ := hm
  have DG := Lib.hid CG
  clear CG CS hs hy
  go_enter Try.func22, Try.ntmps22
  go_wp2_with (first | (go_at_call 30; refine (DS.out _).mono ?_; rintro _ _ ⟨rfl, B⟩; replace BB := bon BB B) | (go_at_call 17; refine (DG.out _).mono ?_; rintro _ _ ⟨rfl, B⟩; replace BB := bon BB B))
  go_ret
  exact ⟨rfl, BB⟩

end Go.Proofs.Ytaeocpjddhghdaa
