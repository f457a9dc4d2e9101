/- The walks of BufferRoundTrip and BufferRobust. -/
import Derived.Test.YtfiblgbglccmhaaB6
namespace Go.Proofs.Ytfiblgbglccmhaa
open Go.RowKit Go.Sort

theorem cps_fix {f : Int} (h : 1 ≤ f ∧ f ≤ 4) : ((cps f : Nat) : Int) = f := by
  rcases (show f = 1 ∨ f = 2 ∨ f = 3 ∨ f = 4 by omega) with rfl | rfl | rfl | rfl <;> rfl

/-- What was appended in a fixed format is loaded. -/
theorem ldv_bts {l vs : List Int} {f : Int} (hf : 1 ≤ f ∧ f ≤ 4) (hl : l.length ≤ 4096) (hn : (vs.length : Int) = f) (hv : ∀ x ∈ vs, -536870911 ≤ x ∧ x ≤ 536870911) : ldv (l ++ bts f vs (cps f)) 0 l.length 0 f 0 = vs := by
  have hc := cps_fix hf
  have hcn : cps f = vs.length := by omega
  unfold ldv
  rw [if_pos ⟨by omega, by omega, by omega, by omega⟩, if_pos ⟨by omega, by omega, by rw [List.length_append, bts_len]; unfold sizv; omega⟩]
  rw [show ((l.length : Int) + 0 * 0).toNat = l.length by omega, hcn, lat_bts hf l vs _ hv rfl _ (Nat.le_refl _), List.take_length]

set_option maxRecDepth 100000 in
set_option maxHeartbeats 1000000 in
theorem roundTrip_walk (A A2 : Option Addr) (n c n2 c2 : Nat) (l vs : List Int) (f : Int) (w : World) (R : Rd w w.heap.size .u8 A n l) (R2 : Rd w w.heap.size .i64 A2 n2 vs) (_hc : n ≤ c) (_hc2 : n2 ≤ c2) (hn : n ≤ 140737488351232) (hn2 : n2 * 8 ≤ 140737488351232) :
    Calls Try.prog 9 #[.slice A n c, .int .i64 f, .slice A2 n2 c2] w fun e w' => e = .returned (.bool true) ∧ Below w.heap.size w w' := by
  have BB : Below w.heap.size w w := Below.refl _ _
  have K1 := R
  have K2 := R2
  by_cases h : (1 ≤ f ∧ f ≤ 4) ∧ (n2 : Int) = f ∧ n ≤ 4096
  · obtain ⟨⟨f1, f4⟩, hnf, hn4⟩ := h
    have t1 : ((n2 : Int) != f) = false := by simp [hnf]
    have hl := R.len
    have hv := R2.len
    have CA := Lib.hid (fun W R R2 => append_b A A2 n c n2 c2 l vs f W R R2 hn)
    have CL := Lib.hid (fun A n c W R hn => load_b A n c (l ++ bts f vs (cps f)) 0 (l.length : Nat) 0 f 0 W R hn)
    have HV := Lib.hid (fun (h : ∀ x ∈ vs, -536870911 ≤ x ∧ x ≤ 536870911) => ldv_bts (l := l) (vs := vs) ⟨f1, f4⟩ (by omega) (by omega) h)
    have HLEN : Hid ((l ++ bts f vs (cps f)).length ≤ 9223372036854775807) := Lib.hid (by
      rw [List.length_append, bts_len, hl]
      have := sizv_le f
      unfold sizv at this
      omega)
    obtain ⟨L, hL⟩ : ∃ L, l ++ bts f vs (cps f) = L := ⟨_, rfl⟩
    rw [hL] at CA CL HV HLEN
    rw [hl] at CL HV
    clear hL R R2
    go_enter Try.func9, Try.ntmps9
    go_wp2
    go_loopw [30] (fun i wr => ∃ k : Nat, k ≤ n2 ∧ i = .int .i64 k ∧ (∀ x ∈ vs.take k, -536870911 ≤ x ∧ x ≤ 536870911) ∧ wr = w) (fun i _ => n2 - (intOf i).toNat)
    case atStart => exact ⟨0, by omega, rfl, by simp, rfl⟩
    case round =>
      obtain ⟨k, hk, rfl, hr, rfl⟩ := hrel
      by_cases hlt : k < n2
      · obtain ⟨b, off, x, rfl, cx, x0, x1, hx⟩ := K2.int hlt
        have HR := Lib.hid hr
        clear hr
        by_cases hxr : -536870911 ≤ x ∧ x ≤ 536870911
        · obtain ⟨y0, y1⟩ := hxr
          have HT : Hid (vs.take (k + 1) = vs.take k ++ [x]) := Lib.hid (by
            obtain ⟨h1, h2⟩ := List.getElem?_eq_some_iff.1 hx.out
            rw [List.take_succ_eq_append_getElem h1, h2])
          go_wp2
          go_roundw
          case rel =>
            refine ⟨k + 1, by omega, by go_num, fun z hz => ?_, by first | rfl | trivial⟩
            rw [HT.out] at hz
            rcases List.mem_append.1 hz with hz | hz
            · exact HR.out z hz
            · obtain rfl : z = x := by simpa using hz
              exact ⟨y0, y1⟩
          case measure => simp [intOf]; omega
        · rcases (show x < -536870911 ∨ (-536870911 ≤ x ∧ 536870911 < x) by omega) with h1 | ⟨h1, h2⟩
          all_goals
            clear hxr
            go_wp2_with (first | (go_at_call 15; refine (bexample_b _).mono ?_; rintro _ _ ⟨rfl, B⟩; replace BB := bon BB B; replace K1 := Rd.on K1 B; replace K2 := Rd.on K2 B))
            go_ret
            exact ⟨rfl, BB⟩
      · obtain rfl : k = n2 := by omega
        rw [← hv, List.take_length] at hr
        have e := HV.out hr
        rw [e] at CL
        clear hr e HV
        go_wp2_with (first
          | (go_at_call 25; (with_reducible refine (CA.out _ K1 K2).mono ?_); rintro _ W2 ⟨A3, n3, d3, rfl, _, R3, B⟩; (replace BB := bon BB B; replace K1 := Rd.on K1 B; replace K2 := Rd.on K2 B))
          | (go_at_call 23; (with_reducible refine (CL.out _ _ _ _ R3 (by have h1 := R3.len; have h2 := HLEN.out; omega)).mono ?_); rintro _ W3 ⟨A4, n4, d4, rfl, _, R4, B⟩; (replace BB := bon BB B; replace K1 := Rd.on K1 B; replace K2 := Rd.on K2 B); clear R3)
          | (go_at_call 22; refine (sameInts_b _ _ _ _ _ _ _ _ _ _ R4 K2 (Nat.le_refl _) (Nat.le_refl _) (by have h1 := R4.len; omega)).mono ?_; rintro _ W4 ⟨rfl, B⟩; clear R4; (replace BB := bon BB B; replace K1 := Rd.on K1 B; replace K2 := Rd.on K2 B))
          | (go_at_call 15; (with_reducible refine (bexample_b _).mono ?_); rintro _ W9 ⟨rfl, B⟩; (replace BB := bon BB B; replace K1 := Rd.on K1 B; replace K2 := Rd.on K2 B)))
        go_ret
        exact ⟨rfl, BB⟩
  · clear R R2
    rcases (show f < 1 ∨ (1 ≤ f ∧ 4 < f) ∨ (1 ≤ f ∧ f ≤ 4 ∧ (n2 : Int) ≠ f) ∨ (1 ≤ f ∧ f ≤ 4 ∧ (n2 : Int) = f ∧ (4096 : Int) < n) by omega) with h1 | ⟨h1, h2⟩ | ⟨h1, h2, h3⟩ | ⟨h1, h2, h3, h4⟩
    · clear h
      go_enter Try.func9, Try.ntmps9
      go_wp2_with (first | (go_at_call 15; refine (bexample_b _).mono ?_; rintro _ _ ⟨rfl, B⟩; replace BB := bon BB B; replace K1 := Rd.on K1 B; replace K2 := Rd.on K2 B))
      go_ret
      exact ⟨rfl, BB⟩
    · clear h
      go_enter Try.func9, Try.ntmps9
      go_wp2_with (first | (go_at_call 15; refine (bexample_b _).mono ?_; rintro _ _ ⟨rfl, B⟩; replace BB := bon BB B; replace K1 := Rd.on K1 B; replace K2 := Rd.on K2 B))
      go_ret
      exact ⟨rfl, BB⟩
    · have t1 : ((n2 : Int) != f) = true := by simp [h3]
      clear h
      go_enter Try.func9, Try.ntmps9
      go_wp2_with (first | (go_at_call 15; refine (bexample_b _).mono ?_; rintro _ _ ⟨rfl, B⟩; replace BB := bon BB B; replace K1 := Rd.on K1 B; replace K2 := Rd.on K2 B))
      go_ret
      exact ⟨rfl, BB⟩
    · have t1 : ((n2 : Int) != f) = false := by simp [h3]
      clear h
      go_enter Try.func9, Try.ntmps9
      go_wp2_with (first | (go_at_call 15; refine (bexample_b _).mono ?_; rintro _ _ ⟨rfl, B⟩; replace BB := bon BB B; replace K1 := Rd.on K1 B; replace K2 := Rd.on K2 B))
      go_ret
      exact ⟨rfl, BB⟩

end Go.Proofs.Ytfiblgbglccmhaa
