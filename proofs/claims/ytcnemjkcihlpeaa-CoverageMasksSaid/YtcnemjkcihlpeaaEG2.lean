/- What Valid, Covers, Weights, Bounds of package edge and of the reference return. -/
import Derived.Test.YtcnemjkcihlpeaaEG1
import Derived.Test.YtcnemjkcihlpeaaCopy
import Derived.Deep.RegionHeld
namespace Go.Proofs.Ytcnemjkcihlpeaa
set_option linter.unusedSimpArgs false
open Go.RowKit Go.Sort Go.ChangeShapes Go.WideShapes
set_option linter.unusedVariables false

theorem zero_sv : ZeroIs Try.prog 33 #[.int .i64 0, .int .i64 0, .int .i64 0, .int .i64 0, .slice none 0 0] := zeroIs_of (by kernel_rfl)

/-- A triangle that is valid. -/
def trv (a b c : SV) : Bool := decide (0 < areav a b c)

set_option maxRecDepth 100000 in
theorem valid34_b (a b c : SV) (p : Int) (f : Bool) (w : World) : Calls Try.prog 25 #[.agg #[.int .i64 a.x, .int .i64 a.y, .int .i64 a.z, .int .i64 a.q, .slice a.A a.n a.c, .int .i64 b.x, .int .i64 b.y, .int .i64 b.z, .int .i64 b.q, .slice b.A b.n b.c, .int .i64 c.x, .int .i64 c.y, .int .i64 c.z, .int .i64 c.q, .slice c.A c.n c.c, .int .i64 p, .bool f]] w fun e w' => e = .returned (.bool (trv a b c)) ∧ Below w.heap.size w w' := by
  have BB := box_below w #[.int .i64 a.x, .int .i64 a.y, .int .i64 a.z, .int .i64 a.q, .slice a.A a.n a.c, .int .i64 b.x, .int .i64 b.y, .int .i64 b.z, .int .i64 b.q, .slice b.A b.n b.c, .int .i64 c.x, .int .i64 c.y, .int .i64 c.z, .int .i64 c.q, .slice c.A c.n c.c, .int .i64 p, .bool f] 36
  have X0 := EBox.made w #[.int .i64 a.x, .int .i64 a.y, .int .i64 a.z, .int .i64 a.q, .slice a.A a.n a.c, .int .i64 b.x, .int .i64 b.y, .int .i64 b.z, .int .i64 b.q, .slice b.A b.n b.c, .int .i64 c.x, .int .i64 c.y, .int .i64 c.z, .int .i64 c.q, .slice c.A c.n c.c, .int .i64 p, .bool f] 36
  have Et3 := range_cut X0.1 0 15
  simp only [List.drop_succ_cons, List.drop_zero, List.take_succ_cons, List.take_zero, Nat.zero_add] at Et3
  clear X0
  go_enter Try.func25, Try.ntmps25
  go_wp2_with (first
    | ((with_reducible refine eload15L rk_t3 Et3 ?_ ?_); focus rfl)
    | (first | (go_at_call 36; refine (area_b a b c _).mono ?_; rintro _ _ ⟨rfl, B⟩; replace BB := bon BB B)))
  go_ret
  exact ⟨rfl, BB⟩

theorem valid_at (a b c : SV) (p : Int) (f : Bool) (v : Bool) (h : trv a b c = v) (w : World) : Calls Try.prog 25 #[.agg #[.int .i64 a.x, .int .i64 a.y, .int .i64 a.z, .int .i64 a.q, .slice a.A a.n a.c, .int .i64 b.x, .int .i64 b.y, .int .i64 b.z, .int .i64 b.q, .slice b.A b.n b.c, .int .i64 c.x, .int .i64 c.y, .int .i64 c.z, .int .i64 c.q, .slice c.A c.n c.c, .int .i64 p, .bool f]] w fun e w' => e = .returned (.bool v) ∧ Below w.heap.size w w' := h ▸ valid34_b a b c p f w

def cov (a b c : SV) (px py : Int) : Bool := trv a b c && (acc a.x a.y b.x b.y px py && (acc b.x b.y c.x c.y px py && acc c.x c.y a.x a.y px py))

set_option maxRecDepth 100000 in
set_option maxHeartbeats 2000000 in
theorem cov_b (a b c : SV) (p : Int) (f : Bool) (px py : Int) (w : World) : Calls Try.prog 30 #[.agg #[.int .i64 a.x, .int .i64 a.y, .int .i64 a.z, .int .i64 a.q, .slice a.A a.n a.c, .int .i64 b.x, .int .i64 b.y, .int .i64 b.z, .int .i64 b.q, .slice b.A b.n b.c, .int .i64 c.x, .int .i64 c.y, .int .i64 c.z, .int .i64 c.q, .slice c.A c.n c.c, .int .i64 p, .bool f], .int .i64 px, .int .i64 py] w fun e w' => e = .returned (.bool (cov a b c px py)) ∧ Below w.heap.size w w' := by
  have BB := box_below w #[.int .i64 a.x, .int .i64 a.y, .int .i64 a.z, .int .i64 a.q, .slice a.A a.n a.c, .int .i64 b.x, .int .i64 b.y, .int .i64 b.z, .int .i64 b.q, .slice b.A b.n b.c, .int .i64 c.x, .int .i64 c.y, .int .i64 c.z, .int .i64 c.q, .slice c.A c.n c.c, .int .i64 p, .bool f] 36
  have X0 := EBox.made w #[.int .i64 a.x, .int .i64 a.y, .int .i64 a.z, .int .i64 a.q, .slice a.A a.n a.c, .int .i64 b.x, .int .i64 b.y, .int .i64 b.z, .int .i64 b.q, .slice b.A b.n b.c, .int .i64 c.x, .int .i64 c.y, .int .i64 c.z, .int .i64 c.q, .slice c.A c.n c.c, .int .i64 p, .bool f] 36
  have Etr := range_cut X0.1 0 17
  have Et3 := range_cut X0.1 0 15
  have Esv_0 := range_cut X0.1 0 5
  have Esv_1 := range_cut X0.1 5 5
  have Esv_2 := range_cut X0.1 10 5
  simp only [List.drop_succ_cons, List.drop_zero, List.take_succ_cons, List.take_zero, Nat.zero_add] at Etr Et3 Esv_0 Esv_1 Esv_2
  clear X0
  have CV := Lib.hid (fun W => valid34_b a b c p f W)
  have I0 := ixv0 a b c
  have I1 := ixv1 a b c
  have I2 := ixv2 a b c
  unfold cov
  obtain ⟨v, hv⟩ : ∃ v, trv a b c = v := ⟨_, rfl⟩
  rw [hv] at CV ⊢
  clear hv
  cases v
  · go_enter Try.func30, Try.ntmps30
    go_wp2_with (first | ((with_reducible refine eload17L rk_tr Etr ?_ ?_); focus rfl) | (first | (go_at_call 25; refine (CV.out _).mono ?_; rintro _ _ ⟨rfl, B⟩; replace BB := bon BB B; replace Etr := rangeAt_on Etr B; replace Et3 := rangeAt_on Et3 B; replace Esv_0 := rangeAt_on Esv_0 B; replace Esv_1 := rangeAt_on Esv_1 B; replace Esv_2 := rangeAt_on Esv_2 B)))
    go_ret
    exact ⟨rfl, BB⟩
  go_enter Try.func30, Try.ntmps30
  go_wp2_with (first | ((with_reducible refine eload17L rk_tr Etr ?_ ?_); focus rfl) | ((with_reducible refine eload15L rk_t3 Et3 ?_ ?_); focus rfl) | (first | (go_at_call 25; refine (CV.out _).mono ?_; rintro _ _ ⟨rfl, B⟩; replace BB := bon BB B; replace Etr := rangeAt_on Etr B; replace Et3 := rangeAt_on Et3 B; replace Esv_0 := rangeAt_on Esv_0 B; replace Esv_1 := rangeAt_on Esv_1 B; replace Esv_2 := rangeAt_on Esv_2 B)))
  have L0 := Lib.hid Esv_0
  have L1 := Lib.hid Esv_1
  have L2 := Lib.hid Esv_2
  clear Etr Et3 Esv_0 Esv_1 Esv_2 CV
  rename World => W1
  go_loopw [15] (fun i wr => ∃ k : Nat, k ≤ 3 ∧ i = .int .i64 k ∧ Below W1.heap.size W1 wr ∧ (0 < k → acc a.x a.y b.x b.y px py = true) ∧ (1 < k → acc b.x b.y c.x c.y px py = true) ∧ (2 < k → acc c.x c.y a.x a.y px py = true)) (fun i _ => 3 - (intOf i).toNat)
  case atStart => exact ⟨0, Nat.zero_le _, rfl, Below.refl _ _, by omega, by omega, by omega⟩
  case round =>
    obtain ⟨k, hk, rfl, B1, ha, hb, hc⟩ := hrel
    rename World => wr
    rcases (show k = 0 ∨ k = 1 ∨ k = 2 ∨ k = 3 by omega) with rfl | rfl | rfl | rfl
    · clear ha hb hc
      have Esv_0 := rangeAt_on (rangeAt_on L1.out B1) (box_below wr #[.int .i64 a.x, .int .i64 a.y, .int .i64 a.z, .int .i64 a.q, .slice a.A a.n a.c] 33)
      replace B1 := bon B1 (box_below wr #[.int .i64 a.x, .int .i64 a.y, .int .i64 a.z, .int .i64 a.q, .slice a.A a.n a.c] 33)
      have CA := Lib.hid (fun W => acc_b a.x a.y b.x b.y px py W)
      obtain ⟨v, hv⟩ : ∃ v, acc a.x a.y b.x b.y px py = v := ⟨_, rfl⟩
      rw [hv] at CA
      have H9 := Lib.hid hv
      clear hv
      cases v
      · go_wp2_with (first
          | ((with_reducible refine eload5L rk_sv Esv_0 ?_ ?_); focus rfl)
          | (go_at_call 37; (with_reducible refine (CA.out _).mono ?_); rintro _ W5 ⟨rfl, B⟩; replace B := bon (box_below _ _ _) B; replace B1 := bon B1 B; clear B))
        go_ret
        exact ⟨ret_bool (by rw [H9.out]; rfl), bon BB B1⟩
      · go_wp2_with (first
          | ((with_reducible refine eload5L rk_sv Esv_0 ?_ ?_); focus rfl)
          | (go_at_call 37; (with_reducible refine (CA.out _).mono ?_); rintro _ W5 ⟨rfl, B⟩; replace B := bon (box_below _ _ _) B; replace B1 := bon B1 B; clear B))
        go_roundw
        case rel => exact ⟨1, by omega, by go_num, B1, fun _ => H9.out, by omega, by omega⟩
        case measure => simp [intOf]
    · have Ha := Lib.hid (ha (by omega))
      clear ha hb hc
      have Esv_0 := rangeAt_on (rangeAt_on L2.out B1) (box_below wr #[.int .i64 b.x, .int .i64 b.y, .int .i64 b.z, .int .i64 b.q, .slice b.A b.n b.c] 33)
      replace B1 := bon B1 (box_below wr #[.int .i64 b.x, .int .i64 b.y, .int .i64 b.z, .int .i64 b.q, .slice b.A b.n b.c] 33)
      have CA := Lib.hid (fun W => acc_b b.x b.y c.x c.y px py W)
      obtain ⟨v, hv⟩ : ∃ v, acc b.x b.y c.x c.y px py = v := ⟨_, rfl⟩
      rw [hv] at CA
      have H9 := Lib.hid hv
      clear hv
      cases v
      · go_wp2_with (first
          | ((with_reducible refine eload5L rk_sv Esv_0 ?_ ?_); focus rfl)
          | (go_at_call 37; (with_reducible refine (CA.out _).mono ?_); rintro _ W5 ⟨rfl, B⟩; replace B := bon (box_below _ _ _) B; replace B1 := bon B1 B; clear B))
        go_ret
        exact ⟨ret_bool (by rw [Ha.out]; rw [H9.out]; rfl), bon BB B1⟩
      · go_wp2_with (first
          | ((with_reducible refine eload5L rk_sv Esv_0 ?_ ?_); focus rfl)
          | (go_at_call 37; (with_reducible refine (CA.out _).mono ?_); rintro _ W5 ⟨rfl, B⟩; replace B := bon (box_below _ _ _) B; replace B1 := bon B1 B; clear B))
        go_roundw
        case rel => exact ⟨2, by omega, by go_num, B1, fun _ => Ha.out, fun _ => H9.out, by omega⟩
        case measure => simp [intOf]
    · have Ha := Lib.hid (ha (by omega))
      have Hb := Lib.hid (hb (by omega))
      clear ha hb hc
      have Esv_0 := rangeAt_on (rangeAt_on L0.out B1) (box_below wr #[.int .i64 c.x, .int .i64 c.y, .int .i64 c.z, .int .i64 c.q, .slice c.A c.n c.c] 33)
      replace B1 := bon B1 (box_below wr #[.int .i64 c.x, .int .i64 c.y, .int .i64 c.z, .int .i64 c.q, .slice c.A c.n c.c] 33)
      have CA := Lib.hid (fun W => acc_b c.x c.y a.x a.y px py W)
      obtain ⟨v, hv⟩ : ∃ v, acc c.x c.y a.x a.y px py = v := ⟨_, rfl⟩
      rw [hv] at CA
      have H9 := Lib.hid hv
      clear hv
      cases v
      · go_wp2_with (first
          | ((with_reducible refine eload5L rk_sv Esv_0 ?_ ?_); focus rfl)
          | (go_at_call 37; (with_reducible refine (CA.out _).mono ?_); rintro _ W5 ⟨rfl, B⟩; replace B := bon (box_below _ _ _) B; replace B1 := bon B1 B; clear B))
        go_ret
        exact ⟨ret_bool (by rw [Ha.out]; rw [Hb.out]; rw [H9.out]; rfl), bon BB B1⟩
      · go_wp2_with (first
          | ((with_reducible refine eload5L rk_sv Esv_0 ?_ ?_); focus rfl)
          | (go_at_call 37; (with_reducible refine (CA.out _).mono ?_); rintro _ W5 ⟨rfl, B⟩; replace B := bon (box_below _ _ _) B; replace B1 := bon B1 B; clear B))
        go_roundw
        case rel => exact ⟨3, by omega, by go_num, B1, fun _ => Ha.out, fun _ => Hb.out, fun _ => H9.out⟩
        case measure => simp [intOf]
    · have HA := Lib.hid (ha (by omega))
      have HB := Lib.hid (hb (by omega))
      have HC := Lib.hid (hc (by omega))
      go_wp2
      go_ret
      exact ⟨ret_bool (by rw [HA.out, HB.out, HC.out]; rfl), bon BB B1⟩

end Go.Proofs.Ytcnemjkcihlpeaa
