/- The walks of the laws of package minifloat: each answers true, whatever the format and the numbers. -/
import Derived.Test.YtpbciedbdooleaaMRef2
import Derived.Outline
namespace Go.Proofs.Ytpbciedbdooleaa
open Go.RowKit Go.Sort

theorem example_b (w : World) :
    Calls Try.prog 19 #[] w fun x w' => x = .returned (.bool true) ∧ Below w.heap.size w w' := by
  have BB := Below.refl w.heap.size w
  have x1 : encv 5 10 true 65536 = 15360 := by decide +kernel
  have x2 : decv 5 10 1 = 0 := by decide +kernel
  have x3 : decv 5 10 (encv 5 10 true 134283264) = 134217728 := by decide +kernel
  have k1 : (1 : Int) < pw (5 + 10 + sbit true) := by decide +kernel
  have K1 := Lib.hid k1
  clear k1
  go_enter Try.func19, Try.ntmps19
  go_wp2_with (first | (go_at_call 17; refine (half_b _).mono ?_; rintro _ _ ⟨rfl, B⟩; replace BB := bon BB B; obtain ⟨B, c0, c1, c2, BB⟩ := box3_on BB (.int .i64 5) (.int .i64 10) (.bool true) 23) | (first | (go_at_call 22; refine (encode_yes _ _ _ _ _ (by omega) (by omega) (by omega) (by omega)).mono ?_; rintro _ _ ⟨rfl, B⟩; replace BB := bon BB B; replace c0 := cell_below B c0; replace c1 := cell_below B c1; replace c2 := cell_below B c2) | (go_at_call 20; refine (decode_yes _ _ _ _ _ (by omega) (by omega) (by omega) (by omega) (by omega) K1.out).mono ?_; rintro _ _ ⟨rfl, B⟩; replace BB := bon BB B; replace c0 := cell_below B c0; replace c1 := cell_below B c1; replace c2 := cell_below B c2) | (go_at_call 24; refine (quantize_yes _ _ _ _ _ (by omega) (by omega) (by omega) (by omega)).mono ?_; rintro _ _ ⟨rfl, B⟩; replace BB := bon BB B; replace c0 := cell_below B c0; replace c1 := cell_below B c1; replace c2 := cell_below B c2)))
  go_ret
  exact ⟨rfl, BB⟩

theorem decodes_walk (e m b : Int) (s : Bool) (w : World) :
    Calls Try.prog 4 #[.agg #[.int .i64 e, .int .i64 m, .bool s], .int .i64 b] w fun x w' => x = .returned (.bool true) ∧ Below w.heap.size w w' := by
  obtain ⟨c0, c1, c2, BB⟩ := box3 w (.int .i64 e) (.int .i64 m) (.bool s) 23
  by_cases h : (2 ≤ e ∧ e ≤ 5 ∧ 1 ≤ m ∧ m ≤ 10) ∧ 0 ≤ b ∧ b < pw (e + m + sbit s)
  · obtain ⟨⟨h1, h2, h3, h4⟩, h5, h6⟩ := h
    go_enter Try.func4, Try.ntmps4
    go_wp2
    have k_c0 := cell_regrown c0
    have k_c1 := cell_regrown c1
    have k_c2 := cell_regrown c2
    refine wp_region_quiet_below (by kernel_rfl) (by kernel_rfl) ?_
    repeat (first | go_big_quiet_step ((first | (go_at_call 20; exact Calls.regrown_of (decode_yes _ _ _ _ _ h1 h2 h3 h4 h5 h6)) | (go_at_call 21; exact Calls.regrown_of (rdecode_yes _ _ _ _ _ h1 h2 h3 h4 h5 h6)) | (go_at_call 19; exact Calls.regrown_of (example_b _)))) | quiet_step ((first | (go_at_call 20; exact Calls.regrown_of (decode_yes _ _ _ _ _ h1 h2 h3 h4 h5 h6)) | (go_at_call 21; exact Calls.regrown_of (rdecode_yes _ _ _ _ _ h1 h2 h3 h4 h5 h6)) | (go_at_call 19; exact Calls.regrown_of (example_b _)))))
    refine wpQuiet_nil ?_
    intro W hw'
    have B := below_regrown' hw'
    clear hw' k_c0 k_c1 k_c2
    replace BB := bon BB B
    replace c0 := cell_below B c0
    replace c1 := cell_below B c1
    replace c2 := cell_below B c2
    go_wp2
    go_ret
    exact ⟨rfl, BB⟩
  · have H := Lib.hid h
    clear h
    go_enter Try.func4, Try.ntmps4
    go_wp2
    have k_c0 := cell_regrown c0
    have k_c1 := cell_regrown c1
    have k_c2 := cell_regrown c2
    refine wp_region_quiet_below (by kernel_rfl) (by kernel_rfl) ?_
    repeat (first | go_big_quiet_step ((first | (go_at_call 20; exact Calls.regrown_of (decode_no _ _ _ _ _ H.out)) | (go_at_call 21; exact Calls.regrown_of (rdecode_no _ _ _ _ _ H.out)) | (go_at_call 19; exact Calls.regrown_of (example_b _)))) | quiet_step ((first | (go_at_call 20; exact Calls.regrown_of (decode_no _ _ _ _ _ H.out)) | (go_at_call 21; exact Calls.regrown_of (rdecode_no _ _ _ _ _ H.out)) | (go_at_call 19; exact Calls.regrown_of (example_b _)))))
    refine wpQuiet_nil ?_
    intro W hw'
    have B := below_regrown' hw'
    clear hw' k_c0 k_c1 k_c2
    replace BB := bon BB B
    replace c0 := cell_below B c0
    replace c1 := cell_below B c1
    replace c2 := cell_below B c2
    go_wp2
    go_ret
    exact ⟨rfl, BB⟩

theorem encodes_walk (e m x : Int) (s : Bool) (w : World) :
    Calls Try.prog 5 #[.agg #[.int .i64 e, .int .i64 m, .bool s], .int .i64 x] w fun x w' => x = .returned (.bool true) ∧ Below w.heap.size w w' := by
  obtain ⟨c0, c1, c2, BB⟩ := box3 w (.int .i64 e) (.int .i64 m) (.bool s) 23
  by_cases h : 2 ≤ e ∧ e ≤ 5 ∧ 1 ≤ m ∧ m ≤ 10
  · obtain ⟨h1, h2, h3, h4⟩ := h
    go_enter Try.func5, Try.ntmps5
    go_wp2
    have k_c0 := cell_regrown c0
    have k_c1 := cell_regrown c1
    have k_c2 := cell_regrown c2
    refine wp_region_quiet_below (by kernel_rfl) (by kernel_rfl) ?_
    repeat (first | go_big_quiet_step ((first | (go_at_call 22; exact Calls.regrown_of (encode_yes _ _ _ _ _ h1 h2 h3 h4)) | (go_at_call 23; exact Calls.regrown_of (rencode_yes _ _ _ _ _ h1 h2 h3 h4)) | (go_at_call 24; exact Calls.regrown_of (quantize_yes _ _ _ _ _ h1 h2 h3 h4)) | (go_at_call 25; exact Calls.regrown_of (rquantize_yes _ _ _ _ _ h1 h2 h3 h4)) | (go_at_call 19; exact Calls.regrown_of (example_b _)))) | quiet_step ((first | (go_at_call 22; exact Calls.regrown_of (encode_yes _ _ _ _ _ h1 h2 h3 h4)) | (go_at_call 23; exact Calls.regrown_of (rencode_yes _ _ _ _ _ h1 h2 h3 h4)) | (go_at_call 24; exact Calls.regrown_of (quantize_yes _ _ _ _ _ h1 h2 h3 h4)) | (go_at_call 25; exact Calls.regrown_of (rquantize_yes _ _ _ _ _ h1 h2 h3 h4)) | (go_at_call 19; exact Calls.regrown_of (example_b _)))))
    refine wpQuiet_nil ?_
    intro W hw'
    have B := below_regrown' hw'
    clear hw' k_c0 k_c1 k_c2
    replace BB := bon BB B
    replace c0 := cell_below B c0
    replace c1 := cell_below B c1
    replace c2 := cell_below B c2
    go_wp2
    go_ret
    exact ⟨rfl, BB⟩
  · have H := Lib.hid h
    clear h
    go_enter Try.func5, Try.ntmps5
    go_wp2
    have k_c0 := cell_regrown c0
    have k_c1 := cell_regrown c1
    have k_c2 := cell_regrown c2
    refine wp_region_quiet_below (by kernel_rfl) (by kernel_rfl) ?_
    repeat (first | go_big_quiet_step ((first | (go_at_call 22; exact Calls.regrown_of (encode_no _ _ _ _ _ H.out)) | (go_at_call 23; exact Calls.regrown_of (rencode_no _ _ _ _ _ H.out)) | (go_at_call 24; exact Calls.regrown_of (quantize_no _ _ _ _ _ H.out)) | (go_at_call 25; exact Calls.regrown_of (rquantize_no _ _ _ _ _ H.out)) | (go_at_call 19; exact Calls.regrown_of (example_b _)))) | quiet_step ((first | (go_at_call 22; exact Calls.regrown_of (encode_no _ _ _ _ _ H.out)) | (go_at_call 23; exact Calls.regrown_of (rencode_no _ _ _ _ _ H.out)) | (go_at_call 24; exact Calls.regrown_of (quantize_no _ _ _ _ _ H.out)) | (go_at_call 25; exact Calls.regrown_of (rquantize_no _ _ _ _ _ H.out)) | (go_at_call 19; exact Calls.regrown_of (example_b _)))))
    refine wpQuiet_nil ?_
    intro W hw'
    have B := below_regrown' hw'
    clear hw' k_c0 k_c1 k_c2
    replace BB := bon BB B
    replace c0 := cell_below B c0
    replace c1 := cell_below B c1
    replace c2 := cell_below B c2
    go_wp2
    go_ret
    exact ⟨rfl, BB⟩

theorem formats_walk (e m b : Int) (s : Bool) (w : World) :
    Calls Try.prog 3 #[.agg #[.int .i64 e, .int .i64 m, .bool s], .int .i64 b] w fun x w' => x = .returned (.bool true) ∧ Below w.heap.size w w' := by
  obtain ⟨c0, c1, c2, BB⟩ := box3 w (.int .i64 e) (.int .i64 m) (.bool s) 23
  by_cases h : 2 ≤ e ∧ e ≤ 5 ∧ 1 ≤ m ∧ m ≤ 10
  · obtain ⟨h1, h2, h3, h4⟩ := h
    by_cases hb : 0 ≤ b ∧ b < pw (e + m + sbit s)
    · obtain ⟨h5, h6⟩ := hb
      go_enter Try.func3, Try.ntmps3
      go_wp2
      have k_c0 := cell_regrown c0
      have k_c1 := cell_regrown c1
      have k_c2 := cell_regrown c2
      refine wp_region_quiet_below (by kernel_rfl) (by kernel_rfl) ?_
      repeat (first | go_big_quiet_step ((first | (go_at_call 11; exact Calls.regrown_of (valid_yes _ _ _ _ h1 h2 h3 h4)) | (go_at_call 12; exact Calls.regrown_of (rvalid_yes _ _ _ _ h1 h2 h3 h4)) | (go_at_call 13; exact Calls.regrown_of (bits_b _ _ _ _ h1 h2 h3 h4)) | (go_at_call 14; exact Calls.regrown_of (rbits_b _ _ _ _ h1 h2 h3 h4)) | (go_at_call 15; exact Calls.regrown_of (finite_yes _ _ _ _ _ h1 h2 h3 h4 h5 h6)) | (go_at_call 16; exact Calls.regrown_of (rfinite_yes _ _ _ _ _ h1 h2 h3 h4 h5 h6)) | (go_at_call 17; exact Calls.regrown_of (half_b _)) | (go_at_call 18; exact Calls.regrown_of (rhalf_b _)) | (go_at_call 19; exact Calls.regrown_of (example_b _)))) | quiet_step ((first | (go_at_call 11; exact Calls.regrown_of (valid_yes _ _ _ _ h1 h2 h3 h4)) | (go_at_call 12; exact Calls.regrown_of (rvalid_yes _ _ _ _ h1 h2 h3 h4)) | (go_at_call 13; exact Calls.regrown_of (bits_b _ _ _ _ h1 h2 h3 h4)) | (go_at_call 14; exact Calls.regrown_of (rbits_b _ _ _ _ h1 h2 h3 h4)) | (go_at_call 15; exact Calls.regrown_of (finite_yes _ _ _ _ _ h1 h2 h3 h4 h5 h6)) | (go_at_call 16; exact Calls.regrown_of (rfinite_yes _ _ _ _ _ h1 h2 h3 h4 h5 h6)) | (go_at_call 17; exact Calls.regrown_of (half_b _)) | (go_at_call 18; exact Calls.regrown_of (rhalf_b _)) | (go_at_call 19; exact Calls.regrown_of (example_b _)))))
      refine wpQuiet_nil ?_
      intro W hw'
      have B := below_regrown' hw'
      clear hw' k_c0 k_c1 k_c2
      replace BB := bon BB B
      replace c0 := cell_below B c0
      replace c1 := cell_below B c1
      replace c2 := cell_below B c2
      go_wp2
      go_ret
      exact ⟨rfl, BB⟩
    · have H := Lib.hid hb
      clear hb
      go_enter Try.func3, Try.ntmps3
      go_wp2
      have k_c0 := cell_regrown c0
      have k_c1 := cell_regrown c1
      have k_c2 := cell_regrown c2
      refine wp_region_quiet_below (by kernel_rfl) (by kernel_rfl) ?_
      repeat (first | go_big_quiet_step ((first | (go_at_call 11; exact Calls.regrown_of (valid_yes _ _ _ _ h1 h2 h3 h4)) | (go_at_call 12; exact Calls.regrown_of (rvalid_yes _ _ _ _ h1 h2 h3 h4)) | (go_at_call 13; exact Calls.regrown_of (bits_b _ _ _ _ h1 h2 h3 h4)) | (go_at_call 14; exact Calls.regrown_of (rbits_b _ _ _ _ h1 h2 h3 h4)) | (go_at_call 15; exact Calls.regrown_of (finite_no _ _ _ _ _ (fun h => H.out h.2))) | (go_at_call 16; exact Calls.regrown_of (rfinite_no _ _ _ _ _ (fun h => H.out h.2))) | (go_at_call 17; exact Calls.regrown_of (half_b _)) | (go_at_call 18; exact Calls.regrown_of (rhalf_b _)) | (go_at_call 19; exact Calls.regrown_of (example_b _)))) | quiet_step ((first | (go_at_call 11; exact Calls.regrown_of (valid_yes _ _ _ _ h1 h2 h3 h4)) | (go_at_call 12; exact Calls.regrown_of (rvalid_yes _ _ _ _ h1 h2 h3 h4)) | (go_at_call 13; exact Calls.regrown_of (bits_b _ _ _ _ h1 h2 h3 h4)) | (go_at_call 14; exact Calls.regrown_of (rbits_b _ _ _ _ h1 h2 h3 h4)) | (go_at_call 15; exact Calls.regrown_of (finite_no _ _ _ _ _ (fun h => H.out h.2))) | (go_at_call 16; exact Calls.regrown_of (rfinite_no _ _ _ _ _ (fun h => H.out h.2))) | (go_at_call 17; exact Calls.regrown_of (half_b _)) | (go_at_call 18; exact Calls.regrown_of (rhalf_b _)) | (go_at_call 19; exact Calls.regrown_of (example_b _)))))
      refine wpQuiet_nil ?_
      intro W hw'
      have B := below_regrown' hw'
      clear hw' k_c0 k_c1 k_c2
      replace BB := bon BB B
      replace c0 := cell_below B c0
      replace c1 := cell_below B c1
      replace c2 := cell_below B c2
      go_wp2
      go_ret
      exact ⟨rfl, BB⟩
  · have H := Lib.hid h
    clear h
    go_enter Try.func3, Try.ntmps3
    go_wp2
    have k_c0 := cell_regrown c0
    have k_c1 := cell_regrown c1
    have k_c2 := cell_regrown c2
    refine wp_region_quiet_below (by kernel_rfl) (by kernel_rfl) ?_
    repeat (first | go_big_quiet_step ((first | (go_at_call 11; exact Calls.regrown_of (valid_no _ _ _ _ H.out)) | (go_at_call 12; exact Calls.regrown_of (rvalid_no _ _ _ _ H.out)) | (go_at_call 13; exact Calls.regrown_of (bits_no _ _ _ _ H.out)) | (go_at_call 14; exact Calls.regrown_of (rbits_no _ _ _ _ H.out)) | (go_at_call 15; exact Calls.regrown_of (finite_no _ _ _ _ _ (fun h => H.out h.1))) | (go_at_call 16; exact Calls.regrown_of (rfinite_no _ _ _ _ _ (fun h => H.out h.1))) | (go_at_call 17; exact Calls.regrown_of (half_b _)) | (go_at_call 18; exact Calls.regrown_of (rhalf_b _)) | (go_at_call 19; exact Calls.regrown_of (example_b _)))) | quiet_step ((first | (go_at_call 11; exact Calls.regrown_of (valid_no _ _ _ _ H.out)) | (go_at_call 12; exact Calls.regrown_of (rvalid_no _ _ _ _ H.out)) | (go_at_call 13; exact Calls.regrown_of (bits_no _ _ _ _ H.out)) | (go_at_call 14; exact Calls.regrown_of (rbits_no _ _ _ _ H.out)) | (go_at_call 15; exact Calls.regrown_of (finite_no _ _ _ _ _ (fun h => H.out h.1))) | (go_at_call 16; exact Calls.regrown_of (rfinite_no _ _ _ _ _ (fun h => H.out h.1))) | (go_at_call 17; exact Calls.regrown_of (half_b _)) | (go_at_call 18; exact Calls.regrown_of (rhalf_b _)) | (go_at_call 19; exact Calls.regrown_of (example_b _)))))
    refine wpQuiet_nil ?_
    intro W hw'
    have B := below_regrown' hw'
    clear hw' k_c0 k_c1 k_c2
    replace BB := bon BB B
    replace c0 := cell_below B c0
    replace c1 := cell_below B c1
    replace c2 := cell_below B c2
    go_wp2
    go_ret
    exact ⟨rfl, BB⟩

theorem monotonic_walk (e m x y : Int) (s : Bool) (w : World) :
    Calls Try.prog 8 #[.agg #[.int .i64 e, .int .i64 m, .bool s], .int .i64 x, .int .i64 y] w fun x w' => x = .returned (.bool true) ∧ Below w.heap.size w w' := by
  obtain ⟨c0, c1, c2, BB⟩ := box3 w (.int .i64 e) (.int .i64 m) (.bool s) 23
  by_cases hxy : y < x
  · go_enter Try.func8, Try.ntmps8
    go_wp2_with (first | (go_at_call 19; refine (example_b _).mono ?_; rintro _ _ ⟨rfl, B⟩; replace BB := bon BB B; replace c0 := cell_below B c0; replace c1 := cell_below B c1; replace c2 := cell_below B c2))
    go_ret
    exact ⟨rfl, BB⟩
  by_cases h : 2 ≤ e ∧ e ≤ 5 ∧ 1 ≤ m ∧ m ≤ 10
  · obtain ⟨h1, h2, h3, h4⟩ := h
    have hm := qv_mono e m s x y h1 h2 h3 h4 (by omega)
    unfold qv at hm
    have t1 : decide (decv e m (encv e m s x) ≤ decv e m (encv e m s y)) = true := by simpa using hm
    go_enter Try.func8, Try.ntmps8
    go_wp2
    have k_c0 := cell_regrown c0
    have k_c1 := cell_regrown c1
    have k_c2 := cell_regrown c2
    refine wp_region_quiet_below (by kernel_rfl) (by kernel_rfl) ?_
    repeat (first | go_big_quiet_step ((first | (go_at_call 24; exact Calls.regrown_of (quantize_yes _ _ _ _ _ h1 h2 h3 h4)) | (go_at_call 19; exact Calls.regrown_of (example_b _)))) | quiet_step ((first | (go_at_call 24; exact Calls.regrown_of (quantize_yes _ _ _ _ _ h1 h2 h3 h4)) | (go_at_call 19; exact Calls.regrown_of (example_b _)))))
    refine wpQuiet_nil ?_
    intro W hw'
    have B := below_regrown' hw'
    clear hw' k_c0 k_c1 k_c2
    replace BB := bon BB B
    replace c0 := cell_below B c0
    replace c1 := cell_below B c1
    replace c2 := cell_below B c2
    go_wp2
    go_ret
    exact ⟨rfl, BB⟩
  · have H := Lib.hid h
    clear h
    go_enter Try.func8, Try.ntmps8
    go_wp2
    have k_c0 := cell_regrown c0
    have k_c1 := cell_regrown c1
    have k_c2 := cell_regrown c2
    refine wp_region_quiet_below (by kernel_rfl) (by kernel_rfl) ?_
    repeat (first | go_big_quiet_step ((first | (go_at_call 24; exact Calls.regrown_of (quantize_no _ _ _ _ _ H.out)) | (go_at_call 19; exact Calls.regrown_of (example_b _)))) | quiet_step ((first | (go_at_call 24; exact Calls.regrown_of (quantize_no _ _ _ _ _ H.out)) | (go_at_call 19; exact Calls.regrown_of (example_b _)))))
    refine wpQuiet_nil ?_
    intro W hw'
    have B := below_regrown' hw'
    clear hw' k_c0 k_c1 k_c2
    replace BB := bon BB B
    replace c0 := cell_below B c0
    replace c1 := cell_below B c1
    replace c2 := cell_below B c2
    go_wp2
    go_ret
    exact ⟨rfl, BB⟩

theorem idempotent_walk (x : Int) (w : World) :
    Calls Try.prog 9 #[.int .i64 x] w fun x w' => x = .returned (.bool true) ∧ Below w.heap.size w w' := by
  have BB := Below.refl w.heap.size w
  have hm := qv_half_idem x
  unfold qv at hm
  go_enter Try.func9, Try.ntmps9
  go_wp2_with (first | (go_at_call 17; refine (half_b _).mono ?_; rintro _ _ ⟨rfl, B⟩; replace BB := bon BB B) | (go_at_call 24; refine (quantize_yes _ _ _ _ _ (by omega) (by omega) (by omega) (by omega)).mono ?_; rintro _ _ ⟨rfl, B⟩; replace BB := bon BB B) | (go_at_call 19; refine (example_b _).mono ?_; rintro _ _ ⟨rfl, B⟩; replace BB := bon BB B))
  go_ret
  exact ⟨rfl, BB⟩

theorem roundtrip_walk (e m b : Int) (s : Bool) (w : World) :
    Calls Try.prog 6 #[.agg #[.int .i64 e, .int .i64 m, .bool s], .int .i64 b] w fun x w' => x = .returned (.bool true) ∧ Below w.heap.size w w' := by
  obtain ⟨c0, c1, c2, BB⟩ := box3 w (.int .i64 e) (.int .i64 m) (.bool s) 23
  by_cases h : (2 ≤ e ∧ e ≤ 5 ∧ 1 ≤ m ∧ m ≤ 10) ∧ 0 ≤ b ∧ b < pw (e + m + sbit s)
  case neg =>
    have H := Lib.hid h
    clear h
    go_enter Try.func6, Try.ntmps6
    go_wp2_with (first | (go_at_call 15; refine (finite_no _ _ _ _ _ H.out).mono ?_; rintro _ _ ⟨rfl, B⟩; replace BB := bon BB B; replace c0 := cell_below B c0; replace c1 := cell_below B c1; replace c2 := cell_below B c2) | (go_at_call 19; refine (example_b _).mono ?_; rintro _ _ ⟨rfl, B⟩; replace BB := bon BB B; replace c0 := cell_below B c0; replace c1 := cell_below B c1; replace c2 := cell_below B c2))
    go_ret
    exact ⟨rfl, BB⟩
  obtain ⟨⟨h1, h2, h3, h4⟩, h5, h6⟩ := h
  by_cases hf : pexp e m b = pw e - 1
  · have t1 : (pexp e m b != pw e - 1) = false := by simpa using hf
    clear hf
    go_enter Try.func6, Try.ntmps6
    go_wp2_with (first | (go_at_call 15; refine (finite_yes _ _ _ _ _ h1 h2 h3 h4 h5 h6).mono ?_; rintro _ _ ⟨rfl, B⟩; replace BB := bon BB B; replace c0 := cell_below B c0; replace c1 := cell_below B c1; replace c2 := cell_below B c2) | (go_at_call 19; refine (example_b _).mono ?_; rintro _ _ ⟨rfl, B⟩; replace BB := bon BB B; replace c0 := cell_below B c0; replace c1 := cell_below B c1; replace c2 := cell_below B c2))
    go_ret
    exact ⟨rfl, BB⟩
  have t1 : (pexp e m b != pw e - 1) = true := by simpa using hf
  have HF := Lib.hid hf
  clear hf
  by_cases he : 4 < e
  · go_enter Try.func6, Try.ntmps6
    go_wp2_with (first | (go_at_call 15; refine (finite_yes _ _ _ _ _ h1 h2 h3 h4 h5 h6).mono ?_; rintro _ _ ⟨rfl, B⟩; replace BB := bon BB B; replace c0 := cell_below B c0; replace c1 := cell_below B c1; replace c2 := cell_below B c2) | (go_at_call 19; refine (example_b _).mono ?_; rintro _ _ ⟨rfl, B⟩; replace BB := bon BB B; replace c0 := cell_below B c0; replace c1 := cell_below B c1; replace c2 := cell_below B c2))
    go_ret
    exact ⟨rfl, BB⟩
  by_cases hz : 0 < b ∧ decv e m b = 0
  · obtain ⟨z1, z2⟩ := hz
    have t2 : (decv e m b == 0) = true := by simpa using z2
    clear z2
    go_enter Try.func6, Try.ntmps6
    go_wp2_with (first | (go_at_call 15; refine (finite_yes _ _ _ _ _ h1 h2 h3 h4 h5 h6).mono ?_; rintro _ _ ⟨rfl, B⟩; replace BB := bon BB B; replace c0 := cell_below B c0; replace c1 := cell_below B c1; replace c2 := cell_below B c2) | (go_at_call 20; refine (decode_yes _ _ _ _ _ h1 h2 h3 h4 h5 h6).mono ?_; rintro _ _ ⟨rfl, B⟩; replace BB := bon BB B; replace c0 := cell_below B c0; replace c1 := cell_below B c1; replace c2 := cell_below B c2) | (go_at_call 19; refine (example_b _).mono ?_; rintro _ _ ⟨rfl, B⟩; replace BB := bon BB B; replace c0 := cell_below B c0; replace c1 := cell_below B c1; replace c2 := cell_below B c2))
    go_ret
    exact ⟨rfl, BB⟩
  have hr := roundtrip e m b s h1 (by omega) h3 h4 h5 h6 HF.out hz
  by_cases hb : 0 < b
  · have t2 : (decv e m b == 0) = false := by simp; intro hc; exact hz ⟨hb, hc⟩
    clear hz
    go_enter Try.func6, Try.ntmps6
    go_wp2_with (first | (go_at_call 15; refine (finite_yes _ _ _ _ _ h1 h2 h3 h4 h5 h6).mono ?_; rintro _ _ ⟨rfl, B⟩; replace BB := bon BB B; replace c0 := cell_below B c0; replace c1 := cell_below B c1; replace c2 := cell_below B c2) | (go_at_call 20; refine (decode_yes _ _ _ _ _ h1 h2 h3 h4 h5 h6).mono ?_; rintro _ _ ⟨rfl, B⟩; replace BB := bon BB B; replace c0 := cell_below B c0; replace c1 := cell_below B c1; replace c2 := cell_below B c2) | (go_at_call 19; refine (example_b _).mono ?_; rintro _ _ ⟨rfl, B⟩; replace BB := bon BB B; replace c0 := cell_below B c0; replace c1 := cell_below B c1; replace c2 := cell_below B c2))
    have k_c0 := cell_regrown c0
    have k_c1 := cell_regrown c1
    have k_c2 := cell_regrown c2
    refine wp_region_quiet_below (by kernel_rfl) (by kernel_rfl) ?_
    repeat (first | go_big_quiet_step ((first | (go_at_call 20; exact Calls.regrown_of (decode_yes _ _ _ _ _ h1 h2 h3 h4 h5 h6)) | (go_at_call 22; exact Calls.regrown_of (encode_yes _ _ _ _ _ h1 h2 h3 h4)) | (go_at_call 19; exact Calls.regrown_of (example_b _)))) | quiet_step ((first | (go_at_call 20; exact Calls.regrown_of (decode_yes _ _ _ _ _ h1 h2 h3 h4 h5 h6)) | (go_at_call 22; exact Calls.regrown_of (encode_yes _ _ _ _ _ h1 h2 h3 h4)) | (go_at_call 19; exact Calls.regrown_of (example_b _)))))
    refine wpQuiet_nil ?_
    intro W hw'
    have B := below_regrown' hw'
    clear hw' k_c0 k_c1 k_c2
    replace BB := bon BB B
    replace c0 := cell_below B c0
    replace c1 := cell_below B c1
    replace c2 := cell_below B c2
    go_wp2
    go_ret
    exact ⟨rfl, BB⟩
  · clear hz
    go_enter Try.func6, Try.ntmps6
    go_wp2_with (first | (go_at_call 15; refine (finite_yes _ _ _ _ _ h1 h2 h3 h4 h5 h6).mono ?_; rintro _ _ ⟨rfl, B⟩; replace BB := bon BB B; replace c0 := cell_below B c0; replace c1 := cell_below B c1; replace c2 := cell_below B c2) | (go_at_call 20; refine (decode_yes _ _ _ _ _ h1 h2 h3 h4 h5 h6).mono ?_; rintro _ _ ⟨rfl, B⟩; replace BB := bon BB B; replace c0 := cell_below B c0; replace c1 := cell_below B c1; replace c2 := cell_below B c2) | (go_at_call 19; refine (example_b _).mono ?_; rintro _ _ ⟨rfl, B⟩; replace BB := bon BB B; replace c0 := cell_below B c0; replace c1 := cell_below B c1; replace c2 := cell_below B c2))
    have k_c0 := cell_regrown c0
    have k_c1 := cell_regrown c1
    have k_c2 := cell_regrown c2
    refine wp_region_quiet_below (by kernel_rfl) (by kernel_rfl) ?_
    repeat (first | go_big_quiet_step ((first | (go_at_call 20; exact Calls.regrown_of (decode_yes _ _ _ _ _ h1 h2 h3 h4 h5 h6)) | (go_at_call 22; exact Calls.regrown_of (encode_yes _ _ _ _ _ h1 h2 h3 h4)) | (go_at_call 19; exact Calls.regrown_of (example_b _)))) | quiet_step ((first | (go_at_call 20; exact Calls.regrown_of (decode_yes _ _ _ _ _ h1 h2 h3 h4 h5 h6)) | (go_at_call 22; exact Calls.regrown_of (encode_yes _ _ _ _ _ h1 h2 h3 h4)) | (go_at_call 19; exact Calls.regrown_of (example_b _)))))
    refine wpQuiet_nil ?_
    intro W hw'
    have B := below_regrown' hw'
    clear hw' k_c0 k_c1 k_c2
    replace BB := bon BB B
    replace c0 := cell_below B c0
    replace c1 := cell_below B c1
    replace c2 := cell_below B c2
    go_wp2
    go_ret
    exact ⟨rfl, BB⟩

theorem zero_walk (e m b : Int) (s : Bool) (w : World) :
    Calls Try.prog 7 #[.agg #[.int .i64 e, .int .i64 m, .bool s], .int .i64 b] w fun x w' => x = .returned (.bool true) ∧ Below w.heap.size w w' := by
  obtain ⟨c0, c1, c2, BB⟩ := box3 w (.int .i64 e) (.int .i64 m) (.bool s) 23
  by_cases h : (2 ≤ e ∧ e ≤ 5 ∧ 1 ≤ m ∧ m ≤ 10) ∧ 0 ≤ b ∧ b < pw (e + m + sbit s)
  case neg =>
    have H := Lib.hid h
    clear h
    go_enter Try.func7, Try.ntmps7
    go_wp2_with (first | (go_at_call 15; refine (finite_no _ _ _ _ _ H.out).mono ?_; rintro _ _ ⟨rfl, B⟩; replace BB := bon BB B; replace c0 := cell_below B c0; replace c1 := cell_below B c1; replace c2 := cell_below B c2) | (go_at_call 19; refine (example_b _).mono ?_; rintro _ _ ⟨rfl, B⟩; replace BB := bon BB B; replace c0 := cell_below B c0; replace c1 := cell_below B c1; replace c2 := cell_below B c2))
    go_ret
    exact ⟨rfl, BB⟩
  obtain ⟨⟨h1, h2, h3, h4⟩, h5, h6⟩ := h
  by_cases hf : pexp e m b = pw e - 1
  · have t1 : (pexp e m b != pw e - 1) = false := by simpa using hf
    clear hf
    go_enter Try.func7, Try.ntmps7
    go_wp2_with (first | (go_at_call 15; refine (finite_yes _ _ _ _ _ h1 h2 h3 h4 h5 h6).mono ?_; rintro _ _ ⟨rfl, B⟩; replace BB := bon BB B; replace c0 := cell_below B c0; replace c1 := cell_below B c1; replace c2 := cell_below B c2) | (go_at_call 19; refine (example_b _).mono ?_; rintro _ _ ⟨rfl, B⟩; replace BB := bon BB B; replace c0 := cell_below B c0; replace c1 := cell_below B c1; replace c2 := cell_below B c2))
    go_ret
    exact ⟨rfl, BB⟩
  have t1 : (pexp e m b != pw e - 1) = true := by simpa using hf
  have HF := Lib.hid hf
  clear hf
  by_cases he : 4 < e
  · go_enter Try.func7, Try.ntmps7
    go_wp2_with (first | (go_at_call 15; refine (finite_yes _ _ _ _ _ h1 h2 h3 h4 h5 h6).mono ?_; rintro _ _ ⟨rfl, B⟩; replace BB := bon BB B; replace c0 := cell_below B c0; replace c1 := cell_below B c1; replace c2 := cell_below B c2) | (go_at_call 19; refine (example_b _).mono ?_; rintro _ _ ⟨rfl, B⟩; replace BB := bon BB B; replace c0 := cell_below B c0; replace c1 := cell_below B c1; replace c2 := cell_below B c2))
    go_ret
    exact ⟨rfl, BB⟩
  by_cases hz : decv e m b = 0
  case neg =>
    have t2 : (decv e m b != 0) = true := by simpa using hz
    clear hz
    go_enter Try.func7, Try.ntmps7
    go_wp2_with (first | (go_at_call 15; refine (finite_yes _ _ _ _ _ h1 h2 h3 h4 h5 h6).mono ?_; rintro _ _ ⟨rfl, B⟩; replace BB := bon BB B; replace c0 := cell_below B c0; replace c1 := cell_below B c1; replace c2 := cell_below B c2) | (go_at_call 20; refine (decode_yes _ _ _ _ _ h1 h2 h3 h4 h5 h6).mono ?_; rintro _ _ ⟨rfl, B⟩; replace BB := bon BB B; replace c0 := cell_below B c0; replace c1 := cell_below B c1; replace c2 := cell_below B c2) | (go_at_call 19; refine (example_b _).mono ?_; rintro _ _ ⟨rfl, B⟩; replace BB := bon BB B; replace c0 := cell_below B c0; replace c1 := cell_below B c1; replace c2 := cell_below B c2))
    go_ret
    exact ⟨rfl, BB⟩
  have t2 : (decv e m b != 0) = false := by simpa using hz
  have sb := sbit_bd s
  rcases zero_only e m b s h1 (by omega) h3 h4 h5 h6 HF.out hz with rfl | ⟨rfl, rfl⟩
  · clear hz
    go_enter Try.func7, Try.ntmps7
    go_wp2_with (first | (go_at_call 15; refine (finite_yes _ _ _ _ _ h1 h2 h3 h4 h5 h6).mono ?_; rintro _ _ ⟨rfl, B⟩; replace BB := bon BB B; replace c0 := cell_below B c0; replace c1 := cell_below B c1; replace c2 := cell_below B c2) | (go_at_call 20; refine (decode_yes _ _ _ _ _ h1 h2 h3 h4 h5 h6).mono ?_; rintro _ _ ⟨rfl, B⟩; replace BB := bon BB B; replace c0 := cell_below B c0; replace c1 := cell_below B c1; replace c2 := cell_below B c2) | (go_at_call 13; refine (bits_b _ _ _ _ h1 h2 h3 h4).mono ?_; rintro _ _ ⟨rfl, B⟩; replace BB := bon BB B; replace c0 := cell_below B c0; replace c1 := cell_below B c1; replace c2 := cell_below B c2) | (go_at_call 19; refine (example_b _).mono ?_; rintro _ _ ⟨rfl, B⟩; replace BB := bon BB B; replace c0 := cell_below B c0; replace c1 := cell_below B c1; replace c2 := cell_below B c2))
    go_ret
    exact ⟨rfl, BB⟩
  · clear hz
    have p1 := pw_pos (e + m)
    have t3 : (pw (e + m) == 0) = false := by simp; omega
    have s1 : sbit true = 1 := rfl
    have i0 : IntKind.u64.wrap (e + m + sbit true - 1) = e + m + sbit true - 1 := IntWalk.u64_in _ (by omega)
    have i1 : IntKind.i64.wrap (2 ^ ((e + m + sbit true).toNat - 1)) = pw (e + m) := by
      rw [show (e + m + sbit true).toNat - 1 = (e + m).toNat by omega]; exact pw_i64 _ (by omega)
    have S1 := Lib.hid s1
    clear s1
    go_enter Try.func7, Try.ntmps7
    go_wp2_with (first | (go_at_call 15; refine (finite_yes _ _ _ _ _ h1 h2 h3 h4 h5 h6).mono ?_; rintro _ _ ⟨rfl, B⟩; replace BB := bon BB B; replace c0 := cell_below B c0; replace c1 := cell_below B c1; replace c2 := cell_below B c2) | (go_at_call 20; refine (decode_yes _ _ _ _ _ h1 h2 h3 h4 h5 h6).mono ?_; rintro _ _ ⟨rfl, B⟩; replace BB := bon BB B; replace c0 := cell_below B c0; replace c1 := cell_below B c1; replace c2 := cell_below B c2) | (go_at_call 13; refine (bits_b _ _ _ _ h1 h2 h3 h4).mono ?_; rintro _ _ ⟨rfl, B⟩; replace BB := bon BB B; replace c0 := cell_below B c0; replace c1 := cell_below B c1; replace c2 := cell_below B c2) | (go_at_call 19; refine (example_b _).mono ?_; rintro _ _ ⟨rfl, B⟩; replace BB := bon BB B; replace c0 := cell_below B c0; replace c1 := cell_below B c1; replace c2 := cell_below B c2))
    all_goals first
      | (go_ret; exact ⟨rfl, BB⟩)
      | (exfalso; omega)
      | (exfalso; simp_all; done)

set_option maxHeartbeats 2000000 in
theorem nearest_walk (e m x b : Int) (s : Bool) (w : World) :
    Calls Try.prog 10 #[.agg #[.int .i64 e, .int .i64 m, .bool s], .int .i64 x, .int .i64 b] w fun x w' => x = .returned (.bool true) ∧ Below w.heap.size w w' := by
  obtain ⟨c0, c1, c2, BB⟩ := box3 w (.int .i64 e) (.int .i64 m) (.bool s) 23
  rcases Int.lt_or_le x (-536870911) with hx | hx
  · go_enter Try.func10, Try.ntmps10
    go_wp2_with (first | (go_at_call 19; refine (example_b _).mono ?_; rintro _ _ ⟨rfl, B⟩; replace BB := bon BB B; replace c0 := cell_below B c0; replace c1 := cell_below B c1; replace c2 := cell_below B c2))
    go_ret
    exact ⟨rfl, BB⟩
  rcases Int.lt_or_le 536870911 x with hx2 | hx2
  · go_enter Try.func10, Try.ntmps10
    go_wp2_with (first | (go_at_call 19; refine (example_b _).mono ?_; rintro _ _ ⟨rfl, B⟩; replace BB := bon BB B; replace c0 := cell_below B c0; replace c1 := cell_below B c1; replace c2 := cell_below B c2))
    go_ret
    exact ⟨rfl, BB⟩
  by_cases h : (2 ≤ e ∧ e ≤ 5 ∧ 1 ≤ m ∧ m ≤ 10) ∧ 0 ≤ b ∧ b < pw (e + m + sbit s)
  case neg =>
    have H := Lib.hid h
    clear h
    go_enter Try.func10, Try.ntmps10
    go_wp2_with (first | (go_at_call 15; refine (finite_no _ _ _ _ _ H.out).mono ?_; rintro _ _ ⟨rfl, B⟩; replace BB := bon BB B; replace c0 := cell_below B c0; replace c1 := cell_below B c1; replace c2 := cell_below B c2) | (go_at_call 19; refine (example_b _).mono ?_; rintro _ _ ⟨rfl, B⟩; replace BB := bon BB B; replace c0 := cell_below B c0; replace c1 := cell_below B c1; replace c2 := cell_below B c2))
    go_ret
    exact ⟨rfl, BB⟩
  obtain ⟨⟨h1, h2, h3, h4⟩, h5, h6⟩ := h
  by_cases hf : pexp e m b = pw e - 1
  · have t1 : (pexp e m b != pw e - 1) = false := by simpa using hf
    clear hf
    go_enter Try.func10, Try.ntmps10
    go_wp2_with (first | (go_at_call 15; refine (finite_yes _ _ _ _ _ h1 h2 h3 h4 h5 h6).mono ?_; rintro _ _ ⟨rfl, B⟩; replace BB := bon BB B; replace c0 := cell_below B c0; replace c1 := cell_below B c1; replace c2 := cell_below B c2) | (go_at_call 19; refine (example_b _).mono ?_; rintro _ _ ⟨rfl, B⟩; replace BB := bon BB B; replace c0 := cell_below B c0; replace c1 := cell_below B c1; replace c2 := cell_below B c2))
    go_ret
    exact ⟨rfl, BB⟩
  have t1 : (pexp e m b != pw e - 1) = true := by simpa using hf
  have HF := Lib.hid hf
  clear hf
  by_cases he : 4 < e
  · go_enter Try.func10, Try.ntmps10
    go_wp2_with (first | (go_at_call 15; refine (finite_yes _ _ _ _ _ h1 h2 h3 h4 h5 h6).mono ?_; rintro _ _ ⟨rfl, B⟩; replace BB := bon BB B; replace c0 := cell_below B c0; replace c1 := cell_below B c1; replace c2 := cell_below B c2) | (go_at_call 19; refine (example_b _).mono ?_; rintro _ _ ⟨rfl, B⟩; replace BB := bon BB B; replace c0 := cell_below B c0; replace c1 := cell_below B c1; replace c2 := cell_below B c2))
    go_ret
    exact ⟨rfl, BB⟩
  have hn := nearest e m x b s h1 (by omega) h3 h4 h5 h6 HF.out hx hx2
  have hq := qv_bd e m s x h1 h2 h3 h4
  have hd : -536870911 ≤ decv e m b ∧ decv e m b ≤ 536870911 := by
    rcases finite_cases e m b s h1 h3 h5 h6 HF.out with hb | ⟨_, p, rfl, p0, p1⟩
    · have := dq_bd e m b h1 h2 h4 h5; rw [decv_low e m b h1 h2 h3 h4 h5 hb]; omega
    · have := dq_bd e m p h1 h2 h4 p0; rw [decv_high e m p h1 h2 h3 h4 p0 p1]; omega
  have hQ := quantize_yes e m x s
  have hD := decode_yes e m b s
  change -536870911 ≤ decv e m (encv e m s x) ∧ decv e m (encv e m s x) ≤ 536870911 at hq
  change dist (decv e m (encv e m s x)) x ≤ dist (decv e m b) x at hn
  generalize decv e m (encv e m s x) = q at *
  generalize decv e m b = d at *
  unfold dist at hn
  rcases Int.lt_or_le q x with g1 | g1 <;> rcases Int.lt_or_le d x with g2 | g2
  all_goals
    first | rw [if_pos g1] at hn | rw [if_neg (by omega)] at hn
    first | rw [if_pos g2] at hn | rw [if_neg (by omega)] at hn
    go_enter Try.func10, Try.ntmps10
    go_wp2_with (first | (go_at_call 15; refine (finite_yes _ _ _ _ _ h1 h2 h3 h4 h5 h6).mono ?_; rintro _ _ ⟨rfl, B⟩; replace BB := bon BB B; replace c0 := cell_below B c0; replace c1 := cell_below B c1; replace c2 := cell_below B c2) | (go_at_call 24; refine (hQ _ h1 h2 h3 h4).mono ?_; rintro _ _ ⟨rfl, B⟩; replace BB := bon BB B; replace c0 := cell_below B c0; replace c1 := cell_below B c1; replace c2 := cell_below B c2) | (go_at_call 20; refine (hD _ h1 h2 h3 h4 h5 h6).mono ?_; rintro _ _ ⟨rfl, B⟩; replace BB := bon BB B; replace c0 := cell_below B c0; replace c1 := cell_below B c1; replace c2 := cell_below B c2) | (go_at_call 19; refine (example_b _).mono ?_; rintro _ _ ⟨rfl, B⟩; replace BB := bon BB B; replace c0 := cell_below B c0; replace c1 := cell_below B c1; replace c2 := cell_below B c2))
    all_goals first
      | (go_ret; exact ⟨rfl, BB⟩)
      | (exfalso; omega)

end Go.Proofs.Ytpbciedbdooleaa
