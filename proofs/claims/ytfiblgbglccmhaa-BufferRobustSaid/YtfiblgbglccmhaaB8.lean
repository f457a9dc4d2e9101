/- The walk of BufferRobust. -/
import Derived.Test.YtfiblgbglccmhaaB6
namespace Go.Proofs.Ytfiblgbglccmhaa
open Go.RowKit Go.Sort

theorem loadInt_out (A : Option Addr) (n c : Nat) (l : List Int) (i : Int) (w : World) (R : Rd w w.heap.size .u8 A n l) (hn : n ≤ 9223372036854775807) (h : ¬ (0 ≤ i ∧ i < (n : Int) / 4)) :
    Calls Try.prog 10 #[.slice A n c, .int .i64 i] w fun e w' => e = .returned (.int .i64 0) ∧ Below w.heap.size w w' := by
  have := loadInt_b A n c l i w R hn
  rwa [ldi_out (by rw [R.len]; exact h)] at this

set_option maxRecDepth 100000 in
set_option maxHeartbeats 4000000 in
theorem robust_walk (A : Option Addr) (n c : Nat) (l : List Int) (b o s f i v : Int) (w : World) (R : Rd w w.heap.size .u8 A n l) (_hc : n ≤ c) (hn : n ≤ 140737488351232) :
    Calls Try.prog 7 #[.slice A n c, .agg #[.int .i64 b, .int .i64 o, .int .i64 s, .int .i64 f], .int .i64 i, .int .i64 v] w fun e w' => e = .returned (.bool true) ∧ Below w.heap.size w w' := by
  obtain ⟨a0, a1, a2, a3, BB⟩ := box4 w (.int .i64 b) (.int .i64 o) (.int .i64 s) (.int .i64 f) 30
  have K1 := R.on BB
  have hl := R.len
  have CS := Lib.hid (fun W R => storeInt_b A n c l i v W R (by omega))
  have HO := Lib.hid (fun j => sti_other (l := l) (i := i) (v := v) (j := j))
  have HS := Lib.hid ((sti_len l i v).trans hl)
  rw [hl] at HO
  obtain ⟨S, hS⟩ : ∃ S, sti l i v = S := ⟨_, rfl⟩
  rw [hS] at CS HO HS
  have CI := Lib.hid (fun (h : ¬ (0 ≤ i ∧ i < (n : Int) / 4)) W R => loadInt_out A n c l i W R (by omega) h)
  have CV := Lib.hid (fun W => attr_b b o s f W)
  have CC := Lib.hid (fun W => of_q (cps_q f W))
  have CZ := Lib.hid (fun W => of_q (size_q f W))
  have CL := Lib.hid (fun W R => load_b A n c l b o s f i W R (by omega))
  have hz16 := sizv_le f
  have k4 := cps_le f
  have HA : Hid (attr b o s f → (0 ≤ o ∧ o ≤ 4096) ∧ (0 ≤ s ∧ s ≤ 256)) := Lib.hid fun h => ⟨h.2.1, h.2.2.1⟩
  have HL1 : Hid (attr b o s f → (ldv l b o s f i).length = cps f) := Lib.hid fun h => by
    unfold ldv
    rw [if_pos h]
    split
    · exact lat_len _ _ _ _
    · exact List.length_replicate
  have HL2 : Hid (attr b o s f → (n : Int) < o + i * s + (sizv f : Nat) → ldv l b o s f i = List.replicate (cps f) 0) := Lib.hid fun h h2 => by
    unfold ldv
    rw [if_pos h, hl, if_neg (by omega)]
  obtain ⟨LD, hLD⟩ : ∃ LD, ldv l b o s f i = LD := ⟨_, rfl⟩
  obtain ⟨k, hk⟩ : ∃ k, cps f = k := ⟨_, rfl⟩
  obtain ⟨z, hz⟩ : ∃ z, sizv f = z := ⟨_, rfl⟩
  rw [hLD] at CL HL1 HL2
  rw [hk] at CC HL1 HL2 k4
  rw [hz] at CZ HL2 hz16
  have HI : Hid (0 ≤ i → i ≤ 65536 → 0 ≤ s → s ≤ 256 → 0 ≤ i * s ∧ i * s ≤ 65536 * 256) := Lib.hid fun h0 h1 h2 h3 => mul_bds h0 h1 h2 h3
  clear hl R hS hLD hk hz
  rcases (show (0 ≤ i ∧ i < (n : Int) / 4) ∨ i < 0 ∨ (0 ≤ i ∧ (n : Int) / 4 ≤ i) by omega) with ⟨i0, i1⟩ | i0 | ⟨i0, i1⟩
  · skip
    go_enter Try.func7, Try.ntmps7
    go_wp2_with (go_at_call 13; (with_reducible refine (CS.out _ K1).mono ?_); rintro _ W2 ⟨A2, n2, d2, rfl, _, K2, B⟩; (replace BB := bon BB B; replace K1 := Rd.on K1 B; replace a0 := cell_below B a0; replace a1 := cell_below B a1; replace a2 := cell_below B a2; replace a3 := cell_below B a3); obtain rfl : n2 = n := by (have h1 := K2.len; have h2 := HS.out; omega))
    go_loopw [34] (fun t wr => ∃ k' : Nat, k' ≤ n2 ∧ t = .int .i64 k' ∧ wr.cell? ⟨w.heap.size, 0, none⟩ = some (.int .i64 b) ∧ wr.cell? ⟨w.heap.size, 1, none⟩ = some (.int .i64 o) ∧ wr.cell? ⟨w.heap.size, 2, none⟩ = some (.int .i64 s) ∧ wr.cell? ⟨w.heap.size, 3, none⟩ = some (.int .i64 f) ∧ Rd wr wr.heap.size .u8 A n2 l ∧ Rd wr wr.heap.size .u8 A2 n2 S ∧ Below w.heap.size w wr) (fun t _ => n2 - (intOf t).toNat)
    case atStart => exact ⟨0, by omega, rfl, a0, a1, a2, a3, K1, K2, BB⟩
    case round =>
      clear a0 a1 a2 a3 K1 K2 BB B
      obtain ⟨k', hk', rfl, a0, a1, a2, a3, K1, K2, BB⟩ := hrel
      by_cases hlt : k' < n2
      · obtain ⟨b1, o1, x, rfl, c1, x0, x1, hx⟩ := K1.byte hlt
        obtain ⟨b2, o2, y, rfl, c2, y0, y1, hy⟩ := K2.byte hlt
        have hE : ¬ (0 ≤ i ∧ i < (n2 : Int) / 4) ∨ (k' : Int) / 4 ≠ i → x = y := fun h => by
          have h1 := HO.out k' h
          rw [hx.out, hy.out] at h1
          injection h1 with h1
          exact h1.symm
        by_cases hxy : x = y
        · subst hxy
          have hn' : (k' : Int) < (n2 : Int) := by omega
          go_wp2_with fail
          have k_a0 := cell_regrown a0
          have k_a1 := cell_regrown a1
          have k_a2 := cell_regrown a2
          have k_a3 := cell_regrown a3
          have k_c1 := cell_regrown c1
          have k_c2 := cell_regrown c2
          refine wp_region_quiet_below (by kernel_rfl) (by kernel_rfl) ?_
          repeat (first | go_big_quiet_step ((first | fail)) | quiet_step ((first | fail)))
          refine wpQuiet_nil ?_
          intro W hw'
          have B := below_regrown' hw'
          clear hw' k_a0 k_a1 k_a2 k_a3 k_c1 k_c2
          replace BB := bon BB B
          replace K1 := Rd.on K1 B
          replace K2 := Rd.on K2 B
          replace a0 := cell_below B a0
          replace a1 := cell_below B a1
          replace a2 := cell_below B a2
          replace a3 := cell_below B a3
          replace c1 := cell_below B c1
          replace c2 := cell_below B c2
          go_wp2
          go_roundw
          case rel => exact ⟨k' + 1, by omega, by go_num, a0, a1, a2, a3, K1, K2, BB⟩
          case measure => simp [intOf]; omega
        · have hq : ((k' : Int) / 4) = i := Classical.byContradiction fun hc => hxy (hE (.inr hc))
          have t2 : ((k' : Int) / 4 != i) = false := by simp [hq]
          have t3 : (x != y) = true := by simp [hxy]
          clear hq hE
          go_wp2_with fail
          have k_a0 := cell_regrown a0
          have k_a1 := cell_regrown a1
          have k_a2 := cell_regrown a2
          have k_a3 := cell_regrown a3
          have k_c1 := cell_regrown c1
          have k_c2 := cell_regrown c2
          refine wp_region_quiet_below (by kernel_rfl) (by kernel_rfl) ?_
          repeat (first | go_big_quiet_step ((first | fail)) | quiet_step ((first | fail)))
          refine wpQuiet_nil ?_
          intro W hw'
          have B := below_regrown' hw'
          clear hw' k_a0 k_a1 k_a2 k_a3 k_c1 k_c2
          replace BB := bon BB B
          replace K1 := Rd.on K1 B
          replace K2 := Rd.on K2 B
          replace a0 := cell_below B a0
          replace a1 := cell_below B a1
          replace a2 := cell_below B a2
          replace a3 := cell_below B a3
          replace c1 := cell_below B c1
          replace c2 := cell_below B c2
          go_wp2
          go_roundw
          case rel => exact ⟨k' + 1, by omega, by go_num, a0, a1, a2, a3, K1, K2, BB⟩
          case measure => simp [intOf]; omega
      · obtain rfl : k' = n2 := by omega
        clear K2
        rcases (show (0 ≤ i ∧ 65536 < i) ∨ (0 ≤ i ∧ i ≤ 65536) by omega) with ⟨g1, g2⟩ | ⟨g1, g2⟩
        · go_wp2_with (first | (go_at_call 15; refine (bexample_b _).mono ?_; rintro _ _ ⟨rfl, B⟩; replace BB := bon BB B; replace K1 := Rd.on K1 B; replace a0 := cell_below B a0; replace a1 := cell_below B a1; replace a2 := cell_below B a2; replace a3 := cell_below B a3))
          go_ret
          exact ⟨rfl, BB⟩
        · by_cases hat : attr b o s f
          · have cv := CV.out
            rw [decide_eq_true hat] at cv
            have CVT := Lib.hid cv
            obtain ⟨⟨o0, o1⟩, s0, s1⟩ := HA.out hat
            have hll := HL1.out hat
            have hl2 := HL2.out hat
            obtain ⟨q, hq⟩ : ∃ q, i * s = q := ⟨_, rfl⟩
            have hqb := HI.out g1 g2 s0 s1
            rw [hq] at hqb hl2
            obtain ⟨q0, q1⟩ := hqb
            have gq : IntKind.i64.wrap (i * s) = q := by rw [hq]; exact IntWalk.i64_in _ (by omega)
            have HLL := Lib.hid hll
            have HLZ := Lib.hid hl2
            clear cv hat hll hl2 hq
            go_wp2_with (first
              | (go_at_call 20; (with_reducible refine (CVT.out _).mono ?_); rintro _ W4 ⟨rfl, B⟩; replace BB := bon BB B; replace a0 := cell_below B a0; replace a1 := cell_below B a1; replace a2 := cell_below B a2; replace a3 := cell_below B a3; replace K1 := K1.on B)

              | (go_at_call 23; (with_reducible refine (CL.out _ K1).mono ?_); rintro _ W5 ⟨A5, n5, d5, rfl, _, K5, B⟩; replace BB := bon BB B; replace a1 := cell_below B a1; replace a2 := cell_below B a2; replace a3 := cell_below B a3; obtain rfl : n5 = k := (by have h1 := K5.len; have h2 := HLL.out; omega))
              | (go_at_call 16; (with_reducible refine (CC.out _).mono ?_); rintro _ W6 ⟨rfl, B⟩; replace BB := bon BB B; replace a1 := cell_below B a1; replace a2 := cell_below B a2; replace a3 := cell_below B a3; replace K5 := K5.on B))
            have k_a1 := cell_regrown a1
            have k_a2 := cell_regrown a2
            have k_a3 := cell_regrown a3
            refine wp_region_quiet_below (by kernel_rfl) (by kernel_rfl) ?_
            repeat (first | go_big_quiet_step ((first | (go_at_call 18; exact Calls.regrown_of (CZ.out _)))) | quiet_step ((first | (go_at_call 18; exact Calls.regrown_of (CZ.out _)))))
            refine wpQuiet_nil ?_
            intro W hw'
            have B := below_regrown' hw'
            clear hw' k_a1 k_a2 k_a3
            replace BB := bon BB B
            replace a1 := cell_below B a1
            replace a2 := cell_below B a2
            replace a3 := cell_below B a3
            replace K5 := Rd.on K5 B
            by_cases hfit : o + q + (z : Int) ≤ (k' : Int)
            · go_wp2_with (go_at_call 15; (with_reducible refine (bexample_b _).mono ?_); rintro _ W9 ⟨rfl, B9⟩)
              go_ret
              exact ⟨rfl, bon BB B9⟩
            · have e := HLZ.out (by omega)
              clear a1 a2 a3 B
              go_wp2
              go_loopw [124] (fun t wr => ∃ m' : Nat, m' ≤ n5 ∧ t = .int .i64 m' ∧ Rd wr wr.heap.size .i64 A5 n5 LD ∧ Below w.heap.size w wr) (fun t _ => n5 - (intOf t).toNat)
              case atStart => exact ⟨0, by omega, rfl, K5, BB⟩
              case round =>
                clear K5 BB
                obtain ⟨m', hm', rfl, K5, BB⟩ := hrel
                by_cases hlt : m' < n5
                · obtain ⟨b5, o5, x, rfl, c5, x0, x1, hx⟩ := K5.int hlt
                  obtain rfl : x = 0 := by
                    have h1 := hx.out
                    rw [e] at h1
                    exact List.eq_of_mem_replicate (List.mem_of_getElem? h1)
                  clear hx
                  have K6 := Lib.hid K5
                  clear K5
                  go_wp2
                  go_roundw
                  case rel => exact ⟨m' + 1, by omega, by go_num, K6.out, BB⟩
                  case measure => simp [intOf]; omega
                · go_wp2_with (go_at_call 15; (with_reducible refine (bexample_b _).mono ?_); rintro _ W9 ⟨rfl, B9⟩)
                  go_ret
                  exact ⟨rfl, bon BB B9⟩
          · have cv := CV.out
            rw [decide_eq_false hat] at cv
            have CVF := Lib.hid cv
            clear cv hat
            go_wp2_with (first | (go_at_call 20; refine (CVF.out _).mono ?_; rintro _ _ ⟨rfl, B⟩; replace BB := bon BB B; replace K1 := Rd.on K1 B; replace a0 := cell_below B a0; replace a1 := cell_below B a1; replace a2 := cell_below B a2; replace a3 := cell_below B a3) | (go_at_call 15; refine (bexample_b _).mono ?_; rintro _ _ ⟨rfl, B⟩; replace BB := bon BB B; replace K1 := Rd.on K1 B; replace a0 := cell_below B a0; replace a1 := cell_below B a1; replace a2 := cell_below B a2; replace a3 := cell_below B a3))
            go_ret
            exact ⟨rfl, BB⟩
  · have HIN : Hid (¬ (0 ≤ i ∧ i < (n : Int) / 4)) := Lib.hid (by omega)
    go_enter Try.func7, Try.ntmps7
    go_wp2_with (go_at_call 13; (with_reducible refine (CS.out _ K1).mono ?_); rintro _ W2 ⟨A2, n2, d2, rfl, _, K2, B⟩; (replace BB := bon BB B; replace K1 := Rd.on K1 B; replace a0 := cell_below B a0; replace a1 := cell_below B a1; replace a2 := cell_below B a2; replace a3 := cell_below B a3); obtain rfl : n2 = n := by (have h1 := K2.len; have h2 := HS.out; omega))
    go_loopw [34] (fun t wr => ∃ k' : Nat, k' ≤ n2 ∧ t = .int .i64 k' ∧ wr.cell? ⟨w.heap.size, 0, none⟩ = some (.int .i64 b) ∧ wr.cell? ⟨w.heap.size, 1, none⟩ = some (.int .i64 o) ∧ wr.cell? ⟨w.heap.size, 2, none⟩ = some (.int .i64 s) ∧ wr.cell? ⟨w.heap.size, 3, none⟩ = some (.int .i64 f) ∧ Rd wr wr.heap.size .u8 A n2 l ∧ Rd wr wr.heap.size .u8 A2 n2 S ∧ Below w.heap.size w wr) (fun t _ => n2 - (intOf t).toNat)
    case atStart => exact ⟨0, by omega, rfl, a0, a1, a2, a3, K1, K2, BB⟩
    case round =>
      clear a0 a1 a2 a3 K1 K2 BB B
      obtain ⟨k', hk', rfl, a0, a1, a2, a3, K1, K2, BB⟩ := hrel
      by_cases hlt : k' < n2
      · obtain ⟨b1, o1, x, rfl, c1, x0, x1, hx⟩ := K1.byte hlt
        obtain ⟨b2, o2, y, rfl, c2, y0, y1, hy⟩ := K2.byte hlt
        have hE : ¬ (0 ≤ i ∧ i < (n2 : Int) / 4) ∨ (k' : Int) / 4 ≠ i → x = y := fun h => by
          have h1 := HO.out k' h
          rw [hx.out, hy.out] at h1
          injection h1 with h1
          exact h1.symm
        by_cases hxy : x = y
        · subst hxy
          have hn' : (k' : Int) < (n2 : Int) := by omega
          go_wp2_with fail
          have k_a0 := cell_regrown a0
          have k_a1 := cell_regrown a1
          have k_a2 := cell_regrown a2
          have k_a3 := cell_regrown a3
          have k_c1 := cell_regrown c1
          have k_c2 := cell_regrown c2
          refine wp_region_quiet_below (by kernel_rfl) (by kernel_rfl) ?_
          repeat (first | go_big_quiet_step ((first | fail)) | quiet_step ((first | fail)))
          refine wpQuiet_nil ?_
          intro W hw'
          have B := below_regrown' hw'
          clear hw' k_a0 k_a1 k_a2 k_a3 k_c1 k_c2
          replace BB := bon BB B
          replace K1 := Rd.on K1 B
          replace K2 := Rd.on K2 B
          replace a0 := cell_below B a0
          replace a1 := cell_below B a1
          replace a2 := cell_below B a2
          replace a3 := cell_below B a3
          replace c1 := cell_below B c1
          replace c2 := cell_below B c2
          go_wp2
          go_roundw
          case rel => exact ⟨k' + 1, by omega, by go_num, a0, a1, a2, a3, K1, K2, BB⟩
          case measure => simp [intOf]; omega
        · exact absurd (hE (.inl HIN.out)) hxy
      · obtain rfl : k' = n2 := by omega
        clear K2
        skip
        · go_wp2_with (first | (go_at_call 15; refine (bexample_b _).mono ?_; rintro _ _ ⟨rfl, B⟩; replace BB := bon BB B; replace K1 := Rd.on K1 B; replace a0 := cell_below B a0; replace a1 := cell_below B a1; replace a2 := cell_below B a2; replace a3 := cell_below B a3) | (go_at_call 10; refine (CI.out HIN.out _ K1).mono ?_; rintro _ _ ⟨rfl, B⟩; replace BB := bon BB B; replace K1 := Rd.on K1 B; replace a0 := cell_below B a0; replace a1 := cell_below B a1; replace a2 := cell_below B a2; replace a3 := cell_below B a3))
          go_ret
          exact ⟨rfl, BB⟩
  · have HIN : Hid (¬ (0 ≤ i ∧ i < (n : Int) / 4)) := Lib.hid (by omega)
    go_enter Try.func7, Try.ntmps7
    go_wp2_with (go_at_call 13; (with_reducible refine (CS.out _ K1).mono ?_); rintro _ W2 ⟨A2, n2, d2, rfl, _, K2, B⟩; (replace BB := bon BB B; replace K1 := Rd.on K1 B; replace a0 := cell_below B a0; replace a1 := cell_below B a1; replace a2 := cell_below B a2; replace a3 := cell_below B a3); obtain rfl : n2 = n := by (have h1 := K2.len; have h2 := HS.out; omega))
    go_loopw [34] (fun t wr => ∃ k' : Nat, k' ≤ n2 ∧ t = .int .i64 k' ∧ wr.cell? ⟨w.heap.size, 0, none⟩ = some (.int .i64 b) ∧ wr.cell? ⟨w.heap.size, 1, none⟩ = some (.int .i64 o) ∧ wr.cell? ⟨w.heap.size, 2, none⟩ = some (.int .i64 s) ∧ wr.cell? ⟨w.heap.size, 3, none⟩ = some (.int .i64 f) ∧ Rd wr wr.heap.size .u8 A n2 l ∧ Rd wr wr.heap.size .u8 A2 n2 S ∧ Below w.heap.size w wr) (fun t _ => n2 - (intOf t).toNat)
    case atStart => exact ⟨0, by omega, rfl, a0, a1, a2, a3, K1, K2, BB⟩
    case round =>
      clear a0 a1 a2 a3 K1 K2 BB B
      obtain ⟨k', hk', rfl, a0, a1, a2, a3, K1, K2, BB⟩ := hrel
      by_cases hlt : k' < n2
      · obtain ⟨b1, o1, x, rfl, c1, x0, x1, hx⟩ := K1.byte hlt
        obtain ⟨b2, o2, y, rfl, c2, y0, y1, hy⟩ := K2.byte hlt
        have hE : ¬ (0 ≤ i ∧ i < (n2 : Int) / 4) ∨ (k' : Int) / 4 ≠ i → x = y := fun h => by
          have h1 := HO.out k' h
          rw [hx.out, hy.out] at h1
          injection h1 with h1
          exact h1.symm
        by_cases hxy : x = y
        · subst hxy
          have hn' : (k' : Int) < (n2 : Int) := by omega
          go_wp2_with fail
          have k_a0 := cell_regrown a0
          have k_a1 := cell_regrown a1
          have k_a2 := cell_regrown a2
          have k_a3 := cell_regrown a3
          have k_c1 := cell_regrown c1
          have k_c2 := cell_regrown c2
          refine wp_region_quiet_below (by kernel_rfl) (by kernel_rfl) ?_
          repeat (first | go_big_quiet_step ((first | fail)) | quiet_step ((first | fail)))
          refine wpQuiet_nil ?_
          intro W hw'
          have B := below_regrown' hw'
          clear hw' k_a0 k_a1 k_a2 k_a3 k_c1 k_c2
          replace BB := bon BB B
          replace K1 := Rd.on K1 B
          replace K2 := Rd.on K2 B
          replace a0 := cell_below B a0
          replace a1 := cell_below B a1
          replace a2 := cell_below B a2
          replace a3 := cell_below B a3
          replace c1 := cell_below B c1
          replace c2 := cell_below B c2
          go_wp2
          go_roundw
          case rel => exact ⟨k' + 1, by omega, by go_num, a0, a1, a2, a3, K1, K2, BB⟩
          case measure => simp [intOf]; omega
        · exact absurd (hE (.inl HIN.out)) hxy
      · obtain rfl : k' = n2 := by omega
        clear K2
        rcases (show (0 ≤ i ∧ 65536 < i) ∨ (0 ≤ i ∧ i ≤ 65536) by omega) with ⟨g1, g2⟩ | ⟨g1, g2⟩
        · go_wp2_with (first | (go_at_call 15; refine (bexample_b _).mono ?_; rintro _ _ ⟨rfl, B⟩; replace BB := bon BB B; replace K1 := Rd.on K1 B; replace a0 := cell_below B a0; replace a1 := cell_below B a1; replace a2 := cell_below B a2; replace a3 := cell_below B a3) | (go_at_call 10; refine (CI.out HIN.out _ K1).mono ?_; rintro _ _ ⟨rfl, B⟩; replace BB := bon BB B; replace K1 := Rd.on K1 B; replace a0 := cell_below B a0; replace a1 := cell_below B a1; replace a2 := cell_below B a2; replace a3 := cell_below B a3))
          go_ret
          exact ⟨rfl, BB⟩
        · by_cases hat : attr b o s f
          · have cv := CV.out
            rw [decide_eq_true hat] at cv
            have CVT := Lib.hid cv
            obtain ⟨⟨o0, o1⟩, s0, s1⟩ := HA.out hat
            have hll := HL1.out hat
            have hl2 := HL2.out hat
            obtain ⟨q, hq⟩ : ∃ q, i * s = q := ⟨_, rfl⟩
            have hqb := HI.out g1 g2 s0 s1
            rw [hq] at hqb hl2
            obtain ⟨q0, q1⟩ := hqb
            have gq : IntKind.i64.wrap (i * s) = q := by rw [hq]; exact IntWalk.i64_in _ (by omega)
            have HLL := Lib.hid hll
            have HLZ := Lib.hid hl2
            clear cv hat hll hl2 hq
            go_wp2_with (first
              | (go_at_call 20; (with_reducible refine (CVT.out _).mono ?_); rintro _ W4 ⟨rfl, B⟩; replace BB := bon BB B; replace a0 := cell_below B a0; replace a1 := cell_below B a1; replace a2 := cell_below B a2; replace a3 := cell_below B a3; replace K1 := K1.on B)
              | (go_at_call 10; (with_reducible refine (CI.out HIN.out _ K1).mono ?_); rintro _ W3 ⟨rfl, B⟩; replace BB := bon BB B; replace a0 := cell_below B a0; replace a1 := cell_below B a1; replace a2 := cell_below B a2; replace a3 := cell_below B a3; replace K1 := K1.on B)
              | (go_at_call 23; (with_reducible refine (CL.out _ K1).mono ?_); rintro _ W5 ⟨A5, n5, d5, rfl, _, K5, B⟩; replace BB := bon BB B; replace a1 := cell_below B a1; replace a2 := cell_below B a2; replace a3 := cell_below B a3; obtain rfl : n5 = k := (by have h1 := K5.len; have h2 := HLL.out; omega))
              | (go_at_call 16; (with_reducible refine (CC.out _).mono ?_); rintro _ W6 ⟨rfl, B⟩; replace BB := bon BB B; replace a1 := cell_below B a1; replace a2 := cell_below B a2; replace a3 := cell_below B a3; replace K5 := K5.on B))
            have k_a1 := cell_regrown a1
            have k_a2 := cell_regrown a2
            have k_a3 := cell_regrown a3
            refine wp_region_quiet_below (by kernel_rfl) (by kernel_rfl) ?_
            repeat (first | go_big_quiet_step ((first | (go_at_call 18; exact Calls.regrown_of (CZ.out _)))) | quiet_step ((first | (go_at_call 18; exact Calls.regrown_of (CZ.out _)))))
            refine wpQuiet_nil ?_
            intro W hw'
            have B := below_regrown' hw'
            clear hw' k_a1 k_a2 k_a3
            replace BB := bon BB B
            replace a1 := cell_below B a1
            replace a2 := cell_below B a2
            replace a3 := cell_below B a3
            replace K5 := Rd.on K5 B
            by_cases hfit : o + q + (z : Int) ≤ (k' : Int)
            · go_wp2_with (go_at_call 15; (with_reducible refine (bexample_b _).mono ?_); rintro _ W9 ⟨rfl, B9⟩)
              go_ret
              exact ⟨rfl, bon BB B9⟩
            · have e := HLZ.out (by omega)
              clear a1 a2 a3 B
              go_wp2
              go_loopw [124] (fun t wr => ∃ m' : Nat, m' ≤ n5 ∧ t = .int .i64 m' ∧ Rd wr wr.heap.size .i64 A5 n5 LD ∧ Below w.heap.size w wr) (fun t _ => n5 - (intOf t).toNat)
              case atStart => exact ⟨0, by omega, rfl, K5, BB⟩
              case round =>
                clear K5 BB
                obtain ⟨m', hm', rfl, K5, BB⟩ := hrel
                by_cases hlt : m' < n5
                · obtain ⟨b5, o5, x, rfl, c5, x0, x1, hx⟩ := K5.int hlt
                  obtain rfl : x = 0 := by
                    have h1 := hx.out
                    rw [e] at h1
                    exact List.eq_of_mem_replicate (List.mem_of_getElem? h1)
                  clear hx
                  have K6 := Lib.hid K5
                  clear K5
                  go_wp2
                  go_roundw
                  case rel => exact ⟨m' + 1, by omega, by go_num, K6.out, BB⟩
                  case measure => simp [intOf]; omega
                · go_wp2_with (go_at_call 15; (with_reducible refine (bexample_b _).mono ?_); rintro _ W9 ⟨rfl, B9⟩)
                  go_ret
                  exact ⟨rfl, bon BB B9⟩
          · have cv := CV.out
            rw [decide_eq_false hat] at cv
            have CVF := Lib.hid cv
            clear cv hat
            go_wp2_with (first | (go_at_call 20; refine (CVF.out _).mono ?_; rintro _ _ ⟨rfl, B⟩; replace BB := bon BB B; replace K1 := Rd.on K1 B; replace a0 := cell_below B a0; replace a1 := cell_below B a1; replace a2 := cell_below B a2; replace a3 := cell_below B a3) | (go_at_call 15; refine (bexample_b _).mono ?_; rintro _ _ ⟨rfl, B⟩; replace BB := bon BB B; replace K1 := Rd.on K1 B; replace a0 := cell_below B a0; replace a1 := cell_below B a1; replace a2 := cell_below B a2; replace a3 := cell_below B a3) | (go_at_call 10; refine (CI.out HIN.out _ K1).mono ?_; rintro _ _ ⟨rfl, B⟩; replace BB := bon BB B; replace K1 := Rd.on K1 B; replace a0 := cell_below B a0; replace a1 := cell_below B a1; replace a2 := cell_below B a2; replace a3 := cell_below B a3))
            go_ret
            exact ⟨rfl, BB⟩

end Go.Proofs.Ytfiblgbglccmhaa
