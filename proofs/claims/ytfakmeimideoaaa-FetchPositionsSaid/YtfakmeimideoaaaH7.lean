/- The walks of FetchPositions, FetchOutside. -/
import Derived.Test.YtfakmeimideoaaaH6
namespace Go.Proofs.Ytfakmeimideoaaa
open Go.RowKit Go.Sort Go.ChangeShapes Go.WideShapes
set_option linter.unusedVariables false

theorem nodup_ne {l : List Int} (h : l.Nodup) {i j : Nat} {x y : Int} (hi : l[i]? = some x) (hj : l[j]? = some y) (hlt : i < j) : x ≠ y := by
  intro e
  subst e
  obtain ⟨h1, e1⟩ := List.getElem?_eq_some_iff.1 hi
  obtain ⟨h2, e2⟩ := List.getElem?_eq_some_iff.1 hj
  exact List.pairwise_iff_getElem.1 h i j h1 h2 hlt (e1.trans e2.symm)

set_option maxRecDepth 100000 in
set_option maxHeartbeats 2000000 in
theorem positions_walk (A : Option Addr) (n c : Nat) (l : List Int) (w : World) (R : Rd w w.heap.size .i64 A n l) (hn : n ≤ 9223372036854775807) :
    Calls Try.prog 7 #[.slice A n c] w fun e w' => e = .returned (.bool true) ∧ Below w.heap.size w w' := by
  have BB : Below w.heap.size w w := Below.refl _ _
  have K1 := Lib.hid R
  by_cases h : n ≤ 300
  · have C1 := Lib.hid (fun W R => unique_b A n c l W R (by omega))
    have h1 := uq_len1 l n (by rw [R.len]; omega)
    have h2 := uq_len2 l n (by rw [R.len]; omega)
    have hok := uq_ok l n (by rw [R.len]; omega)
    rw [← R.len, List.take_length, R.len] at h1 h2
    rw [← R.len, List.take_length] at hok
    obtain ⟨⟨d, p⟩, hs⟩ : ∃ s, uq l = s := ⟨_, rfl⟩
    rw [hs] at C1 h1 h2 hok
    have H1 : Hid (d.length ≤ n) := Lib.hid h1
    have H2 : Hid (p.length = n) := Lib.hid h2
    have HO := Lib.hid hok
    clear R hs h1 h2 hok
    go_enter Try.func7, Try.ntmps7
    go_wp2_with (go_at_call 23; (with_reducible refine (C1.out _ ((K1.out.below BB).more BB.size)).mono ?_); rintro _ W1 ⟨A5, n5, d5, A6, n6, d6, rfl, R5, R6, B⟩; dsimp only at R5 R6; replace BB := bon BB B; clear B; obtain rfl : n6 = n := (by have q1 := R6.len; have q2 := H2.out; omega))
    have h5 : n5 ≤ n6 := by have q1 := R5.len; have q2 := H1.out; omega
    have K5 := Lib.hid R5
    have K6 := Lib.hid R6
    clear R5 R6
    have B0 := Below.refl W1.heap.size W1
    go_loopw [5] (fun i wr => ∃ k : Nat, k ≤ n6 ∧ i = .int .i64 (k : Int) ∧ Below W1.heap.size W1 wr) (fun i _ => n6 - (intOf i).toNat)
    case atStart => exact ⟨0, by omega, rfl, B0⟩
    case round =>
      clear B0
      obtain ⟨k, hk, rfl, B0⟩ := hrel
      rename World => wr
      by_cases hlt : k < n6
      · have BR := bon BB B0
        obtain ⟨b1, o1, x, rfl, cx, x0, x1, hx⟩ := (K1.out.below BR).int hlt
        obtain ⟨b2, o2, q, rfl, cq, q0, q1, hq⟩ := (K6.out.below B0).int hlt
        obtain ⟨q', hq', hc⟩ := HO.out.at_ k x hx.out
        have e : q' = q := by have h9 := hq.out; simp only at hq'; rw [hq'] at h9; injection h9
        subst e
        simp only at hc
        by_cases hneg : x < 0
        · obtain rfl : q' = -1 := by omega
          clear hc hq' hq hx BR
          go_wp2
          go_roundw
          case rel => exact ⟨k + 1, by omega, by go_num, B0⟩
          case measure => simp [intOf]; omega
        · obtain ⟨_, hq0, hd⟩ := hc.resolve_left fun h => hneg h.1
          obtain ⟨j, rfl⟩ : ∃ j : Nat, q' = j := ⟨q'.toNat, by omega⟩
          rw [Int.toNat_natCast] at hd
          have hj : j < n5 := by rw [← K5.out.len]; exact (List.getElem?_eq_some_iff.1 hd).1
          obtain ⟨b3, o3, y, rfl, cy, y0, y1, hy⟩ := (K5.out.below B0).int hj
          obtain rfl : y = x := by have h9 := hy.out; rw [hd] at h9; injection h9 with h9; exact h9.symm
          clear hc hq' hq hx BR hd hy
          have t1 : ¬ (n5 : Int) ≤ (j : Int) := by omega
          go_wp2_with fail
          have BK := BB
          clear BB
          have BB := B0
          have k_cx := cell_regrown cx
          have k_cq := cell_regrown cq
          have k_cy := cell_regrown cy
          refine wp_region_quiet_below (by kernel_rfl) (by kernel_rfl) ?_
          repeat (first | go_big_quiet_step ((first | fail)) | quiet_step ((first | fail)))
          refine wpQuiet_nil ?_
          intro W hw'
          have B := below_regrown' hw'
          clear hw' k_cx k_cq k_cy
          replace BB := bon BB B
          replace cx := cell_below B cx
          replace cq := cell_below B cq
          replace cy := cell_below B cy
          go_wp2
          go_roundw
          case rel => exact ⟨k + 1, by omega, by go_num, BB⟩
          case measure => simp [intOf]; omega
      · obtain rfl : k = n6 := by omega
        replace BB := bon BB B0
        have K7 := Lib.hid (K5.out.on B0)
        clear K5 K6 B0
        go_wp2
        have B0 := Below.refl wr.heap.size wr
        go_loopw [6] (fun i w3 => ∃ m : Nat, m ≤ n5 ∧ i = .int .i64 (m : Int) ∧ Below wr.heap.size wr w3) (fun i _ => n5 - (intOf i).toNat)
        case atStart => exact ⟨0, by omega, rfl, B0⟩
        case round =>
          clear B0
          obtain ⟨m, hm, rfl, B0⟩ := hrel
          rename World => w3
          by_cases hlt2 : m < n5
          · go_wp2
            go_loopw [7] (fun i w4 => ∃ j : Nat, j ≤ m ∧ i = .int .i64 (j : Int) ∧ Below wr.heap.size wr w4) (fun i _ => m - (intOf i).toNat)
            case atStart => exact ⟨0, by omega, rfl, B0⟩
            case round =>
              clear B0
              obtain ⟨j, hj, rfl, B0⟩ := hrel
              rename World => w4
              by_cases hlt3 : j < m
              · obtain ⟨b3, o3, y, rfl, cy, y0, y1, hy⟩ := (K7.out.below B0).int (show j < n5 by omega)
                obtain ⟨b4, o4, z, e4, cz, z0, z1, hz⟩ := (K7.out.below B0).int hlt2
                injection e4 with e4
                injection e4 with e4 e5
                subst e4
                subst e5
                have hne : (y == z) = false := by have := nodup_ne HO.out.nd hy.out hz.out hlt3; simpa using this
                clear hy hz
                go_wp2_with fail
                have BK := BB
                clear BB
                have BB := B0
                have k_cy := cell_regrown cy
                have k_cz := cell_regrown cz
                refine wp_region_quiet_below (by kernel_rfl) (by kernel_rfl) ?_
                repeat (first | go_big_quiet_step ((first | fail)) | quiet_step ((first | fail)))
                refine wpQuiet_nil ?_
                intro W hw'
                have B := below_regrown' hw'
                clear hw' k_cy k_cz
                replace BB := bon BB B
                replace cy := cell_below B cy
                replace cz := cell_below B cz
                go_wp2
                go_roundw
                case rel => exact ⟨j + 1, by omega, by go_num, BB⟩
                case measure => simp [intOf]; omega
              · obtain rfl : j = m := by omega
                go_wp2
                go_roundw
                case rel => exact ⟨j + 1, by omega, by go_num, B0⟩
                case measure => simp [intOf]; omega
          · obtain rfl : m = n5 := by omega
            replace BB := bon BB B0
            go_wp2_with (go_at_call 14; (with_reducible refine (hexample_b _).mono ?_); rintro _ W9 ⟨rfl, B⟩; replace BB := bon BB B; clear B)
            go_ret
            exact ⟨rfl, BB⟩
  · clear R
    go_enter Try.func7, Try.ntmps7
    go_wp2_with (go_at_call 14; (with_reducible refine (hexample_b _).mono ?_); rintro _ W1 ⟨rfl, B⟩; replace BB := bon BB B)
    go_ret
    exact ⟨rfl, BB⟩

end Go.Proofs.Ytfakmeimideoaaa
