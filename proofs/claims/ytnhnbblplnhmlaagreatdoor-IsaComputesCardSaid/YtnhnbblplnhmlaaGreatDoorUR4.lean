/- The reference: what an opcode computes. Written by tools/gen/genUR4.py. -/
import Derived.Test.YtnhnbblplnhmlaaGreatDoorU2
import Derived.Test.YtnhnbblplnhmlaaGreatDoorMRef2
namespace Go.Proofs.YtnhnbblplnhmlaaGreatDoor
set_option linter.unusedSimpArgs false
open Go.RowKit Go.Sort
set_option linter.unusedVariables false

theorem rtruth_q (x : Bool) (w : World) : Calls Tryz.prog 26 #[.bool x] w fun e w' => e = .returned (.int .i64 (tru x)) ∧ w = w' := by
  cases x
  all_goals
    go_enter Tryz.func26, Tryz.ntmps26
    go_wp2
    go_ret
    exact ⟨rfl, rfl⟩

theorem rquotient_q (x y : Int) (w : World) (h1 : -2147483648 ≤ x) (h2 : x ≤ 2147483647) (h3 : -2147483648 ≤ y) (h4 : y ≤ 2147483647) : Calls Tryz.prog 59 #[.int .i64 x, .int .i64 y] w fun e w' => e = .returned (.int .i64 (if y = 0 then 0 else x.tdiv y)) ∧ w = w' := by
  by_cases hy : y = 0
  · subst hy
    go_enter Tryz.func59, Tryz.ntmps59
    go_wp2
    go_ret
    exact ⟨rfl, rfl⟩
  · have q := tdiv_rng h1 h2 hy
    have hy2 : (y == 0) = false := by simpa using hy
    rw [if_neg hy]
    go_enter Tryz.func59, Tryz.ntmps59
    go_wp2
    go_ret
    exact ⟨rfl, rfl⟩

theorem rpower22_q (k : Nat) (w : World) (hk : k ≤ 31) : Calls Tryz.prog 61 #[.int .i64 (k : Int)] w fun e w' => e = .returned (.int .i64 (2 ^ k)) ∧ w = w' := by
  go_enter Tryz.func61, Tryz.ntmps61
  go_wp2
  go_loopw [3, 4] (fun u i wr => ∃ j : Nat, j ≤ k ∧ i = .int .i64 (j : Int) ∧ u = .int .i64 (2 ^ j) ∧ w = wr) (fun _ i _ => k - (intOf i).toNat)
  case atStart => exact ⟨0, Nat.zero_le _, rfl, by simp, by simp⟩
  case round =>
    obtain ⟨j, hj, rfl, rfl, rfl⟩ := hrel
    have hp := pw31 (j : Int) (by omega) (by omega)
    rw [Int.toNat_natCast] at hp
    have HS := Lib.hid (pow_s j)
    obtain ⟨P2, hP⟩ : ∃ P2, (2 : Int) ^ j = P2 := ⟨_, rfl⟩
    rw [hP] at hp HS ⊢
    by_cases hlt : j < k
    · go_wp2
      go_roundw
      case rel => exact ⟨j + 1, by omega, by go_num, by rw [HS.out]; go_num, by simp⟩
      case measure => simp [intOf]; omega
    · obtain rfl : j = k := by omega
      go_wp2
      go_ret
      exact ⟨by rw [hP]; rfl, rfl⟩

theorem and1 (x : Int) : bits .and .i64 x 1 = x % 2 := and_pw x 1 (by decide) (by decide)

def gK (k : Int) : Int → Int → Int := if k = 0 then gAnd else if k = 1 then gOr else gXor
theorem gK_rng (k : Int) : ∀ a b, (a = 0 ∨ a = 1) → (b = 0 ∨ b = 1) → 0 ≤ gK k a b ∧ gK k a b ≤ 1 := by
  intro a b ha hb
  unfold gK
  split
  · rcases ha with rfl | rfl <;> rcases hb with rfl | rfl <;> decide
  split
  · rcases ha with rfl | rfl <;> rcases hb with rfl | rfl <;> decide
  · rcases ha with rfl | rfl <;> rcases hb with rfl | rfl <;> decide

set_option maxRecDepth 100000 in
set_option maxHeartbeats 4000000 in
theorem rbits_b22 (k x y : Int) (w : World) (hk : k = 0 ∨ k = 1 ∨ k = 2) : Calls Tryz.prog 60 #[.int .i64 k, .int .i64 x, .int .i64 y] w fun e w' => e = .returned (.int .i64 (wrapv (hor (gK k) x y 32))) ∧ Below w.heap.size w w' := by
  go_enter Tryz.func60, Tryz.ntmps60
  go_wp2
  go_loopw [7, 8] (fun u i wr => ∃ j : Nat, j ≤ 32 ∧ i = .int .i64 (31 - (j : Int)) ∧ u = .int .i64 (hor (gK k) x y j) ∧ w = wr) (fun _ i _ => ((intOf i) + 1).toNat)
  case atStart => exact ⟨0, by omega, rfl, rfl, rfl⟩
  case round =>
    obtain ⟨j, hj, rfl, rfl, rfl⟩ := hrel
    have hr := hor_rng (gK_rng k) x y j
    have hp : (2 : Int) ^ j ≤ 4294967296 := by
      have h := Nat.pow_le_pow_right (show 0 < 2 by decide) hj
      have e : ((2 ^ j : Nat) : Int) = (2 : Int) ^ j := by simp
      rw [← e]
      exact Int.ofNat_le.2 h
    by_cases hlt : j < 32
    · have b1 := bitI_01 x (31 - j)
      have b2 := bitI_01 y (31 - j)
      have hx : x / 2 ^ (31 - j) % 2 = bitI x (31 - j) := rfl
      have hy : y / 2 ^ (31 - j) % 2 = bitI y (31 - j) := rfl
      have HH : Hid (hor (gK k) x y (j + 1) = hor (gK k) x y j * 2 + gK k (bitI x (31 - j)) (bitI y (31 - j))) := Lib.hid rfl
      have q1 := and1 (x / 2 ^ (31 - j))
      have q2 := and1 (y / 2 ^ (31 - j))
      rw [hx] at q1
      rw [hy] at q2
      have e31 : (31 - (j : Int)).toNat = 31 - j := by omega
      obtain ⟨s, hs⟩ : ∃ s, 31 - j = s := ⟨_, rfl⟩
      obtain ⟨n, hn⟩ : ∃ n, hor (gK k) x y j = n := ⟨_, rfl⟩
      rw [hs] at b1 b2 q1 q2 HH e31
      rw [hn] at HH hr ⊢
      have HS : Hid (31 - (j : Int) = (s : Int)) := Lib.hid (by omega)
      have hs31 : s ≤ 31 := by omega
      clear hx hy hs hn e31
      rw [HS.out]
      have HK : Hid (Value.int .i64 ((s : Int) - 1) = Value.int .i64 (31 - ((j + 1 : Nat) : Int))) := Lib.hid (by have q := HS.out; congr 1; omega)
      rcases b1 with b1 | b1
      all_goals
        rcases b2 with b2 | b2
        all_goals
          rw [b1] at q1 HH
          rw [b2] at q2 HH
          clear b1 b2
          rcases hk with rfl | rfl | rfl
          all_goals
            go_wp2
            go_roundw
            case rel => exact ⟨j + 1, by omega, HK.out, (by rw [HH.out]; first | (simp [gK, gAnd, gOr, gXor]; done) | (simp [gK, gAnd, gOr, gXor]; decide)), by simp⟩
            case measure => first | (simp [intOf]; done) | (simp [intOf]; omega)
    · obtain rfl : j = 32 := by omega
      go_wp2_with (go_at_call 28; (with_reducible refine (rwrap_b _ _).mono ?_); rintro _ _ ⟨rfl, B⟩)
      go_ret
      exact ⟨rfl, B⟩

set_option maxRecDepth 100000 in
set_option maxHeartbeats 1000000 in
theorem rint7_b (a b : Int) (w : World) (h1 : -2147483648 ≤ a) (h2 : a ≤ 2147483647) (h3 : -2147483648 ≤ b) (h4 : b ≤ 2147483647) : Calls Tryz.prog 27 #[.int .i64 7, .int .i64 a, .int .i64 b] w fun e w' => e = .returned (.int .i64 (inv 7 a b)) ∧ Below w.heap.size w w' := by
  have BB : Below w.heap.size w w := Below.refl _ _
  go_enter Tryz.func27, Tryz.ntmps27
  go_wp2_with (first | (go_at_call 28; (with_reducible refine (rwrap_b _ _).mono ?_); rintro _ _ ⟨rfl, B⟩; replace BB := bon BB B; clear B))
  all_goals
    go_ret
    refine ⟨ret_i64' ?_, BB⟩
    first | rfl | (simp; done) | (simp; omega)

set_option maxRecDepth 100000 in
set_option maxHeartbeats 1000000 in
theorem rint8_b (a b : Int) (w : World) (h1 : -2147483648 ≤ a) (h2 : a ≤ 2147483647) (h3 : -2147483648 ≤ b) (h4 : b ≤ 2147483647) : Calls Tryz.prog 27 #[.int .i64 8, .int .i64 a, .int .i64 b] w fun e w' => e = .returned (.int .i64 (inv 8 a b)) ∧ Below w.heap.size w w' := by
  have BB : Below w.heap.size w w := Below.refl _ _
  go_enter Tryz.func27, Tryz.ntmps27
  go_wp2_with (first | (go_at_call 28; (with_reducible refine (rwrap_b _ _).mono ?_); rintro _ _ ⟨rfl, B⟩; replace BB := bon BB B; clear B))
  all_goals
    go_ret
    refine ⟨ret_i64' ?_, BB⟩
    first | rfl | (simp; done) | (simp; omega)

set_option maxRecDepth 100000 in
set_option maxHeartbeats 1000000 in
theorem rint9_b (a b : Int) (w : World) (h1 : -2147483648 ≤ a) (h2 : a ≤ 2147483647) (h3 : -2147483648 ≤ b) (h4 : b ≤ 2147483647) : Calls Tryz.prog 27 #[.int .i64 9, .int .i64 a, .int .i64 b] w fun e w' => e = .returned (.int .i64 (inv 9 a b)) ∧ Below w.heap.size w w' := by
  have BB : Below w.heap.size w w := Below.refl _ _
  have hm := prod_bd a b 2147483648 ⟨by omega, by omega⟩ ⟨by omega, by omega⟩
  go_enter Tryz.func27, Tryz.ntmps27
  go_wp2_with (first | (go_at_call 28; (with_reducible refine (rwrap_b _ _).mono ?_); rintro _ _ ⟨rfl, B⟩; replace BB := bon BB B; clear B))
  all_goals
    go_ret
    refine ⟨ret_i64' ?_, BB⟩
    first | rfl | (simp; done) | (simp; omega)

set_option maxRecDepth 100000 in
set_option maxHeartbeats 1000000 in
theorem rint10_b (a b : Int) (w : World) (h1 : -2147483648 ≤ a) (h2 : a ≤ 2147483647) (h3 : -2147483648 ≤ b) (h4 : b ≤ 2147483647) : Calls Tryz.prog 27 #[.int .i64 10, .int .i64 a, .int .i64 b] w fun e w' => e = .returned (.int .i64 (inv 10 a b)) ∧ Below w.heap.size w w' := by
  have BB : Below w.heap.size w w := Below.refl _ _
  go_enter Tryz.func27, Tryz.ntmps27
  go_wp2_with (first | (go_at_call 59; (with_reducible refine (rquotient_q _ _ _ h1 h2 h3 h4).mono ?_); rintro _ _ ⟨rfl, rfl⟩) | (go_at_call 28; (with_reducible refine (rwrap_b _ _).mono ?_); rintro _ _ ⟨rfl, B⟩; replace BB := bon BB B; clear B))
  all_goals
    go_ret
    refine ⟨ret_i64' ?_, BB⟩
    (by_cases hb : b = 0 <;> simp [inv, divi, hb, wrapv])

set_option maxRecDepth 100000 in
set_option maxHeartbeats 1000000 in
theorem rint12_b (a b : Int) (w : World) (h1 : -2147483648 ≤ a) (h2 : a ≤ 2147483647) (h3 : -2147483648 ≤ b) (h4 : b ≤ 2147483647) : Calls Tryz.prog 27 #[.int .i64 12, .int .i64 a, .int .i64 b] w fun e w' => e = .returned (.int .i64 (inv 12 a b)) ∧ Below w.heap.size w w' := by
  have BB : Below w.heap.size w w := Below.refl _ _
  go_enter Tryz.func27, Tryz.ntmps27
  go_wp2_with (first | (go_at_call 60; (with_reducible refine (rbits_b22 0 _ _ _ (by omega)).mono ?_); rintro _ _ ⟨rfl, B⟩; replace BB := bon BB B; clear B))
  all_goals
    go_ret
    refine ⟨ret_i64' ?_, BB⟩
    (rw [show gK 0 = gAnd from rfl, hor_and, ← and_32 h1 h2 h3 h4]; rfl)

set_option maxRecDepth 100000 in
set_option maxHeartbeats 1000000 in
theorem rint13_b (a b : Int) (w : World) (h1 : -2147483648 ≤ a) (h2 : a ≤ 2147483647) (h3 : -2147483648 ≤ b) (h4 : b ≤ 2147483647) : Calls Tryz.prog 27 #[.int .i64 13, .int .i64 a, .int .i64 b] w fun e w' => e = .returned (.int .i64 (inv 13 a b)) ∧ Below w.heap.size w w' := by
  have BB : Below w.heap.size w w := Below.refl _ _
  go_enter Tryz.func27, Tryz.ntmps27
  go_wp2_with (first | (go_at_call 60; (with_reducible refine (rbits_b22 1 _ _ _ (by omega)).mono ?_); rintro _ _ ⟨rfl, B⟩; replace BB := bon BB B; clear B))
  all_goals
    go_ret
    refine ⟨ret_i64' ?_, BB⟩
    (rw [show gK 1 = gOr from rfl, hor_or, ← or_32 h1 h2 h3 h4]; rfl)

set_option maxRecDepth 100000 in
set_option maxHeartbeats 1000000 in
theorem rint14_b (a b : Int) (w : World) (h1 : -2147483648 ≤ a) (h2 : a ≤ 2147483647) (h3 : -2147483648 ≤ b) (h4 : b ≤ 2147483647) : Calls Tryz.prog 27 #[.int .i64 14, .int .i64 a, .int .i64 b] w fun e w' => e = .returned (.int .i64 (inv 14 a b)) ∧ Below w.heap.size w w' := by
  have BB : Below w.heap.size w w := Below.refl _ _
  go_enter Tryz.func27, Tryz.ntmps27
  go_wp2_with (first | (go_at_call 60; (with_reducible refine (rbits_b22 2 _ _ _ (by omega)).mono ?_); rintro _ _ ⟨rfl, B⟩; replace BB := bon BB B; clear B))
  all_goals
    go_ret
    refine ⟨ret_i64' ?_, BB⟩
    (rw [show gK 2 = gXor from rfl, hor_xor, ← xor_32 h1 h2 h3 h4]; rfl)

theorem rquotient_n (x y : Int) (w : World) (h1 : -2147483648 ≤ x) (h2 : x ≤ 2147483647) (h3 : -2147483648 ≤ y) (h4 : y ≤ 2147483647) (hy : y ≠ 0) : Calls Tryz.prog 59 #[.int .i64 x, .int .i64 y] w fun e w' => e = .returned (.int .i64 (x.tdiv y)) ∧ w = w' := by
  have h := rquotient_q x y w h1 h2 h3 h4
  rw [if_neg hy] at h
  exact h

set_option maxRecDepth 100000 in
set_option maxHeartbeats 1000000 in
theorem rint11_b (a b : Int) (w : World) (h1 : -2147483648 ≤ a) (h2 : a ≤ 2147483647) (h3 : -2147483648 ≤ b) (h4 : b ≤ 2147483647) : Calls Tryz.prog 27 #[.int .i64 11, .int .i64 a, .int .i64 b] w fun e w' => e = .returned (.int .i64 (inv 11 a b)) ∧ Below w.heap.size w w' := by
  have BB : Below w.heap.size w w := Below.refl _ _
  by_cases hb : b = 0
  · subst hb
    go_enter Tryz.func27, Tryz.ntmps27
    go_wp2
    go_ret
    exact ⟨rfl, BB⟩
  have hq := tdiv_rng h1 h2 hb
  have hb2 : (b == 0) = false := by simpa using hb
  have HM := Lib.hid (Int.tmod_def a b)
  have CQ := Lib.hid (fun W => rquotient_n a b W h1 h2 h3 h4 hb)
  obtain ⟨q, hqq⟩ : ∃ q, a.tdiv b = q := ⟨_, rfl⟩
  rw [hqq] at hq HM CQ
  have hm := prod_bd b q 2147483648 ⟨by omega, by omega⟩ ⟨by omega, by omega⟩
  clear hqq
  go_enter Tryz.func27, Tryz.ntmps27
  go_wp2_with (go_at_call 59; (with_reducible refine (CQ.out _).mono ?_); rintro _ _ ⟨rfl, rfl⟩)
  all_goals
    go_ret
    refine ⟨ret_i64' ?_, BB⟩
    (have hmm := HM.out; simp [inv, modi, hb]; omega)

set_option maxRecDepth 100000 in
set_option maxHeartbeats 1000000 in
theorem rint15_b (a b : Int) (w : World) (h1 : -2147483648 ≤ a) (h2 : a ≤ 2147483647) (h3 : -2147483648 ≤ b) (h4 : b ≤ 2147483647) : Calls Tryz.prog 27 #[.int .i64 15, .int .i64 a, .int .i64 b] w fun e w' => e = .returned (.int .i64 (inv 15 a b)) ∧ Below w.heap.size w w' := by
  have BB : Below w.heap.size w w := Below.refl _ _
  have hs := shf_rng b
  have ht : (if b.tmod 32 < 0 then b.tmod 32 + 32 else b.tmod 32) = shf b := by unfold shf; rw [tm_if]; split <;> split <;> omega
  have hb5 : -32 < b.tmod 32 ∧ b.tmod 32 < 32 := by rw [tm_if]; split <;> omega
  obtain ⟨sn, hsn⟩ : ∃ sn : Nat, shf b = sn := ⟨(shf b).toNat, by omega⟩
  rw [hsn] at ht hs
  have hp := pw31 (sn : Int) hs.1 hs.2
  rw [Int.toNat_natCast] at hp
  have hl := shl_rng h1 h2 hp.1 hp.2
  have HSN : Hid ((shf b).toNat = sn) := Lib.hid (by omega)
  have CP := Lib.hid (fun W => rpower22_q sn W (by omega))
  clear hsn
  obtain ⟨m, hm⟩ : ∃ m, b.tmod 32 = m := ⟨_, rfl⟩
  rw [hm] at ht hb5
  have HM := Lib.hid hm
  obtain ⟨P, hP⟩ : ∃ P : Int, 2 ^ sn = P := ⟨_, rfl⟩
  rw [hP] at hp hl CP
  have HP := Lib.hid hP
  clear hP
  by_cases hneg : m < 0
  · rw [if_pos hneg] at ht
    rw [← ht] at CP hs
    have HT := Lib.hid ht
    clear ht
    go_enter Tryz.func27, Tryz.ntmps27
    go_wp2_with (first | (go_at_call 61; (with_reducible refine (CP.out _).mono ?_); rintro _ _ ⟨rfl, rfl⟩) | (go_at_call 28; (with_reducible refine (rwrap_b _ _).mono ?_); rintro _ _ ⟨rfl, B⟩; replace BB := bon BB B; clear B))
    all_goals
      go_ret
      refine ⟨ret_i64' ?_, BB⟩
      first | (simp [inv, HSN.out, HP.out]; done) | (have q := HT.out; have q2 : (m + 32).toNat = sn := (by omega); simp [inv, HSN.out, HP.out, q2])
  · rw [if_neg hneg] at ht
    rw [← ht] at CP hs
    have HT := Lib.hid ht
    clear ht
    go_enter Tryz.func27, Tryz.ntmps27
    go_wp2_with (first | (go_at_call 61; (with_reducible refine (CP.out _).mono ?_); rintro _ _ ⟨rfl, rfl⟩) | (go_at_call 28; (with_reducible refine (rwrap_b _ _).mono ?_); rintro _ _ ⟨rfl, B⟩; replace BB := bon BB B; clear B))
    all_goals
      go_ret
      refine ⟨ret_i64' ?_, BB⟩
      first | (simp [inv, HSN.out, HP.out]; done) | (have q := HT.out; have q2 : (m).toNat = sn := (by omega); simp [inv, HSN.out, HP.out, q2])

set_option maxRecDepth 100000 in
set_option maxHeartbeats 1000000 in
theorem rint16_b (a b : Int) (w : World) (h1 : -2147483648 ≤ a) (h2 : a ≤ 2147483647) (h3 : -2147483648 ≤ b) (h4 : b ≤ 2147483647) : Calls Tryz.prog 27 #[.int .i64 16, .int .i64 a, .int .i64 b] w fun e w' => e = .returned (.int .i64 (inv 16 a b)) ∧ Below w.heap.size w w' := by
  have BB : Below w.heap.size w w := Below.refl _ _
  have hs := shf_rng b
  have ht : (if b.tmod 32 < 0 then b.tmod 32 + 32 else b.tmod 32) = shf b := by unfold shf; rw [tm_if]; split <;> split <;> omega
  have hb5 : -32 < b.tmod 32 ∧ b.tmod 32 < 32 := by rw [tm_if]; split <;> omega
  obtain ⟨sn, hsn⟩ : ∃ sn : Nat, shf b = sn := ⟨(shf b).toNat, by omega⟩
  rw [hsn] at ht hs
  have hp := pw31 (sn : Int) hs.1 hs.2
  rw [Int.toNat_natCast] at hp
  have hl := shl_rng h1 h2 hp.1 hp.2
  have HSN : Hid ((shf b).toNat = sn) := Lib.hid (by omega)
  have CP := Lib.hid (fun W => rpower22_q sn W (by omega))
  clear hsn
  obtain ⟨m, hm⟩ : ∃ m, b.tmod 32 = m := ⟨_, rfl⟩
  rw [hm] at ht hb5
  have HM := Lib.hid hm
  obtain ⟨P, hP⟩ : ∃ P : Int, 2 ^ sn = P := ⟨_, rfl⟩
  rw [hP] at hp hl CP
  have HP := Lib.hid hP
  clear hP
  by_cases hneg : m < 0
  · rw [if_pos hneg] at ht
    rw [← ht] at CP hs
    have HT := Lib.hid ht
    clear ht
    go_enter Tryz.func27, Tryz.ntmps27
    go_wp2
    all_goals
      go_ret
      refine ⟨ret_i64' ?_, BB⟩
      first | (simp [inv, HSN.out, HP.out]; done) | (have q := HT.out; have q2 : (m + 32).toNat = sn := (by omega); simp [inv, HSN.out, HP.out, q2])
  · rw [if_neg hneg] at ht
    rw [← ht] at CP hs
    have HT := Lib.hid ht
    clear ht
    go_enter Tryz.func27, Tryz.ntmps27
    go_wp2
    all_goals
      go_ret
      refine ⟨ret_i64' ?_, BB⟩
      first | (simp [inv, HSN.out, HP.out]; done) | (have q := HT.out; have q2 : (m).toNat = sn := (by omega); simp [inv, HSN.out, HP.out, q2])

set_option maxRecDepth 100000 in
set_option maxHeartbeats 1000000 in
theorem rint24_b (a b : Int) (w : World) (h1 : -2147483648 ≤ a) (h2 : a ≤ 2147483647) (h3 : -2147483648 ≤ b) (h4 : b ≤ 2147483647) : Calls Tryz.prog 27 #[.int .i64 24, .int .i64 a, .int .i64 b] w fun e w' => e = .returned (.int .i64 (wrapv (abi a))) ∧ Below w.heap.size w w' := by
  have BB : Below w.heap.size w w := Below.refl _ _
  go_enter Tryz.func27, Tryz.ntmps27
  go_wp2_with (first | (go_at_call 28; (with_reducible refine (rwrap_b _ _).mono ?_); rintro _ _ ⟨rfl, B⟩; replace BB := bon BB B; clear B))
  all_goals
    go_ret
    refine ⟨ret_i64' ?_, BB⟩
    (unfold abi; split <;> first | (congr 1; done) | (congr 1; omega) | (simp; done) | (simp; omega))

set_option maxRecDepth 100000 in
set_option maxHeartbeats 1000000 in
theorem rint26_b (a b : Int) (w : World) (h1 : -2147483648 ≤ a) (h2 : a ≤ 2147483647) (h3 : -2147483648 ≤ b) (h4 : b ≤ 2147483647) : Calls Tryz.prog 27 #[.int .i64 26, .int .i64 a, .int .i64 b] w fun e w' => e = .returned (.int .i64 (wrapv (-a))) ∧ Below w.heap.size w w' := by
  have BB : Below w.heap.size w w := Below.refl _ _
  go_enter Tryz.func27, Tryz.ntmps27
  go_wp2_with (first | (go_at_call 28; (with_reducible refine (rwrap_b _ _).mono ?_); rintro _ _ ⟨rfl, B⟩; replace BB := bon BB B; clear B))
  all_goals
    go_ret
    refine ⟨ret_i64' ?_, BB⟩
    first | rfl | (simp; done) | (simp; omega)

set_option maxRecDepth 100000 in
set_option maxHeartbeats 1000000 in
theorem rint27_b (a b : Int) (w : World) (h1 : -2147483648 ≤ a) (h2 : a ≤ 2147483647) (h3 : -2147483648 ≤ b) (h4 : b ≤ 2147483647) : Calls Tryz.prog 27 #[.int .i64 27, .int .i64 a, .int .i64 b] w fun e w' => e = .returned (.int .i64 (-a - 1)) ∧ Below w.heap.size w w' := by
  have BB : Below w.heap.size w w := Below.refl _ _
  go_enter Tryz.func27, Tryz.ntmps27
  go_wp2
  all_goals
    go_ret
    refine ⟨ret_i64' ?_, BB⟩
    first | rfl | (simp; done) | (simp; omega)

set_option maxRecDepth 100000 in
set_option maxHeartbeats 1000000 in
theorem rcmp17_b (a b : Int) (w : World) : Calls Tryz.prog 24 #[.int .i64 17, .int .i64 a, .int .i64 b] w fun e w' => e = .returned (.int .i64 (biv 17 a b)) ∧ Below w.heap.size w w' := by
  have BB : Below w.heap.size w w := Below.refl _ _
  go_enter Tryz.func24, Tryz.ntmps24
  go_wp2_with (first | (go_at_call 26; (with_reducible refine (rtruth_q _ _).mono ?_); rintro _ _ ⟨rfl, rfl⟩))
  all_goals
    go_ret
    refine ⟨ret_i64' ?_, BB⟩
    first | rfl | (simp [biv]; done) | (simp [biv]; omega)

set_option maxRecDepth 100000 in
set_option maxHeartbeats 1000000 in
theorem rcmp18_b (a b : Int) (w : World) : Calls Tryz.prog 24 #[.int .i64 18, .int .i64 a, .int .i64 b] w fun e w' => e = .returned (.int .i64 (biv 18 a b)) ∧ Below w.heap.size w w' := by
  have BB : Below w.heap.size w w := Below.refl _ _
  go_enter Tryz.func24, Tryz.ntmps24
  go_wp2_with (first | (go_at_call 26; (with_reducible refine (rtruth_q _ _).mono ?_); rintro _ _ ⟨rfl, rfl⟩))
  all_goals
    go_ret
    refine ⟨ret_i64' ?_, BB⟩
    first | rfl | (simp [biv]; done) | (simp [biv]; omega)

set_option maxRecDepth 100000 in
set_option maxHeartbeats 1000000 in
theorem rcmp19_b (a b : Int) (w : World) : Calls Tryz.prog 24 #[.int .i64 19, .int .i64 a, .int .i64 b] w fun e w' => e = .returned (.int .i64 (biv 19 a b)) ∧ Below w.heap.size w w' := by
  have BB : Below w.heap.size w w := Below.refl _ _
  go_enter Tryz.func24, Tryz.ntmps24
  go_wp2_with (first | (go_at_call 26; (with_reducible refine (rtruth_q _ _).mono ?_); rintro _ _ ⟨rfl, rfl⟩))
  all_goals
    go_ret
    refine ⟨ret_i64' ?_, BB⟩
    first | rfl | (simp [biv]; done) | (simp [biv]; omega)

set_option maxRecDepth 100000 in
set_option maxHeartbeats 1000000 in
theorem rcmp20_b (a b : Int) (w : World) : Calls Tryz.prog 24 #[.int .i64 20, .int .i64 a, .int .i64 b] w fun e w' => e = .returned (.int .i64 (biv 20 a b)) ∧ Below w.heap.size w w' := by
  have BB : Below w.heap.size w w := Below.refl _ _
  go_enter Tryz.func24, Tryz.ntmps24
  go_wp2_with (first | (go_at_call 26; (with_reducible refine (rtruth_q _ _).mono ?_); rintro _ _ ⟨rfl, rfl⟩))
  all_goals
    go_ret
    refine ⟨ret_i64' ?_, BB⟩
    first | rfl | (simp [biv]; done) | (simp [biv]; omega)

set_option maxRecDepth 100000 in
set_option maxHeartbeats 1000000 in
theorem rcmp21_b (a b : Int) (w : World) : Calls Tryz.prog 24 #[.int .i64 21, .int .i64 a, .int .i64 b] w fun e w' => e = .returned (.int .i64 (biv 21 a b)) ∧ Below w.heap.size w w' := by
  have BB : Below w.heap.size w w := Below.refl _ _
  go_enter Tryz.func24, Tryz.ntmps24
  go_wp2
  all_goals
    go_ret
    refine ⟨ret_i64' ?_, BB⟩
    first | rfl | (simp [biv]; done) | (simp [biv]; omega)

set_option maxRecDepth 100000 in
set_option maxHeartbeats 1000000 in
theorem rcmp22_b (a b : Int) (w : World) : Calls Tryz.prog 24 #[.int .i64 22, .int .i64 a, .int .i64 b] w fun e w' => e = .returned (.int .i64 (biv 22 a b)) ∧ Below w.heap.size w w' := by
  have BB : Below w.heap.size w w := Below.refl _ _
  go_enter Tryz.func24, Tryz.ntmps24
  go_wp2
  all_goals
    go_ret
    refine ⟨ret_i64' ?_, BB⟩
    first | rfl | (simp [biv]; done) | (simp [biv]; omega)

set_option maxRecDepth 100000 in
set_option maxHeartbeats 1000000 in
theorem rcv29_b (a b c : Int) (w : World) : Calls Tryz.prog 29 #[.int .i64 29, .int .i64 a, .int .i64 b, .int .i64 c] w fun e w' => e = .returned (.int .i64 (unv 29 a)) ∧ Below w.heap.size w w' := by
  have BB : Below w.heap.size w w := Below.refl _ _
  go_enter Tryz.func29, Tryz.ntmps29
  go_wp2_with (first | (go_at_call 62; (with_reducible refine (rfloor_b _ _).mono ?_); rintro _ _ ⟨rfl, B⟩; replace BB := bon BB B; clear B))
  all_goals
    go_ret
    refine ⟨ret_i64' ?_, BB⟩
    first | (simp [unv]; done) | (simp [unv]; omega) | rfl

set_option maxRecDepth 100000 in
set_option maxHeartbeats 1000000 in
theorem rcv30_b (a b c : Int) (w : World) : Calls Tryz.prog 29 #[.int .i64 30, .int .i64 a, .int .i64 b, .int .i64 c] w fun e w' => e = .returned (.int .i64 (unv 30 a)) ∧ Below w.heap.size w w' := by
  have BB : Below w.heap.size w w := Below.refl _ _
  go_enter Tryz.func29, Tryz.ntmps29
  go_wp2_with (first | (go_at_call 63; (with_reducible refine (rfract_b _ _).mono ?_); rintro _ _ ⟨rfl, B⟩; replace BB := bon BB B; clear B))
  all_goals
    go_ret
    refine ⟨ret_i64' ?_, BB⟩
    first | (simp [unv]; done) | (simp [unv]; omega) | rfl

set_option maxRecDepth 100000 in
set_option maxHeartbeats 1000000 in
theorem rcv31_b (a b c : Int) (w : World) : Calls Tryz.prog 29 #[.int .i64 31, .int .i64 a, .int .i64 b, .int .i64 c] w fun e w' => e = .returned (.int .i64 (unv 31 a)) ∧ Below w.heap.size w w' := by
  have BB : Below w.heap.size w w := Below.refl _ _
  go_enter Tryz.func29, Tryz.ntmps29
  go_wp2_with (first | (go_at_call 64; (with_reducible refine (rsqrt_b _ _).mono ?_); rintro _ _ ⟨rfl, B⟩; replace BB := bon BB B; clear B))
  all_goals
    go_ret
    refine ⟨ret_i64' ?_, BB⟩
    first | (simp [unv]; done) | (simp [unv]; omega) | rfl

set_option maxRecDepth 100000 in
set_option maxHeartbeats 1000000 in
theorem rcv32_b (a b c : Int) (w : World) : Calls Tryz.prog 29 #[.int .i64 32, .int .i64 a, .int .i64 b, .int .i64 c] w fun e w' => e = .returned (.int .i64 (unv 32 a)) ∧ Below w.heap.size w w' := by
  have BB : Below w.heap.size w w := Below.refl _ _
  go_enter Tryz.func29, Tryz.ntmps29
  go_wp2_with (first | (go_at_call 66; (with_reducible refine (rhalf_b _).mono ?_); rintro _ _ ⟨rfl, B⟩; replace BB := bon BB B; clear B) | (go_at_call 65; (with_reducible refine (rquantize_yes 5 10 _ true _ (by decide) (by decide) (by decide) (by decide)).mono ?_); rintro _ _ ⟨rfl, B⟩; replace BB := bon BB B; clear B))
  all_goals
    go_ret
    refine ⟨ret_i64' ?_, BB⟩
    first | (simp [unv]; done) | (simp [unv]; omega) | rfl

set_option maxRecDepth 100000 in
set_option maxHeartbeats 1000000 in
theorem rcv35_b (a b c : Int) (w : World) : Calls Tryz.prog 29 #[.int .i64 35, .int .i64 a, .int .i64 b, .int .i64 c] w fun e w' => e = .returned (.int .i64 (unv 35 a)) ∧ Below w.heap.size w w' := by
  have BB : Below w.heap.size w w := Below.refl _ _
  go_enter Tryz.func29, Tryz.ntmps29
  go_wp2_with (first | (go_at_call 26; (with_reducible refine (rtruth_q _ _).mono ?_); rintro _ _ ⟨rfl, rfl⟩))
  all_goals
    go_ret
    refine ⟨ret_i64' ?_, BB⟩
    first | (simp [unv]; done) | (simp [unv]; omega) | rfl

set_option maxRecDepth 100000 in
set_option maxHeartbeats 1000000 in
theorem rcv36_b (a b c : Int) (w : World) : Calls Tryz.prog 29 #[.int .i64 36, .int .i64 a, .int .i64 b, .int .i64 c] w fun e w' => e = .returned (.int .i64 (if a = 0 then c else b)) ∧ Below w.heap.size w w' := by
  have BB : Below w.heap.size w w := Below.refl _ _
  go_enter Tryz.func29, Tryz.ntmps29
  go_wp2
  all_goals
    go_ret
    refine ⟨ret_i64' ?_, BB⟩
    first | rfl | (simp; done) | (simp_all; done) | (split <;> simp_all)

set_option maxRecDepth 100000 in
set_option maxHeartbeats 1000000 in
theorem rcv33_b (a b c : Int) (w : World) : Calls Tryz.prog 29 #[.int .i64 33, .int .i64 a, .int .i64 b, .int .i64 c] w fun e w' => e = .returned (.int .i64 (unv 33 a)) ∧ Below w.heap.size w w' := by
  have BB : Below w.heap.size w w := Below.refl _ _
  obtain ⟨x, hx⟩ : ∃ x, wrapv a = x := ⟨_, rfl⟩
  have hw := wrapv_rng a
  have CW := Lib.hid (fun W => rwrap_b a W)
  rw [hx] at hw CW
  have HX := Lib.hid hx
  clear hx
  go_enter Tryz.func29, Tryz.ntmps29
  go_wp2_with (first | (go_at_call 28; (with_reducible refine (CW.out _).mono ?_); rintro _ _ ⟨rfl, B⟩; replace BB := bon BB B; clear B) | (go_at_call 25; (with_reducible refine (rsaturate_b _ _).mono ?_); rintro _ _ ⟨rfl, B⟩; replace BB := bon BB B; clear B))
  all_goals
    go_ret
    refine ⟨ret_i64' ?_, BB⟩
    (simp [unv, HX.out]; done)

set_option maxRecDepth 100000 in
set_option maxHeartbeats 1000000 in
theorem rcv34_b (a b c : Int) (w : World) : Calls Tryz.prog 29 #[.int .i64 34, .int .i64 a, .int .i64 b, .int .i64 c] w fun e w' => e = .returned (.int .i64 (unv 34 a)) ∧ Below w.heap.size w w' := by
  have BB : Below w.heap.size w w := Below.refl _ _
  obtain ⟨y, hy⟩ : ∃ y, sat a = y := ⟨_, rfl⟩
  have hs := sat_bd a
  have CS := Lib.hid (fun W => rsaturate_b a W)
  rw [hy] at hs CS
  have HY := Lib.hid hy
  clear hy
  go_enter Tryz.func29, Tryz.ntmps29
  go_wp2_with (first | (go_at_call 25; (with_reducible refine (CS.out _).mono ?_); rintro _ _ ⟨rfl, B⟩; replace BB := bon BB B; clear B))
  all_goals
    go_ret
    refine ⟨ret_i64' ?_, BB⟩
    (simp [unv, HY.out]; done)

set_option maxRecDepth 100000 in
set_option maxHeartbeats 4000000 in
theorem rcv0_b (o a b c : Int) (w : World) (ho : o < 1 ∨ 36 < o) : Calls Tryz.prog 29 #[.int .i64 o, .int .i64 a, .int .i64 b, .int .i64 c] w fun e w' => e = .returned (.int .i64 0) ∧ Below w.heap.size w w' := by
  have BB : Below w.heap.size w w := Below.refl _ _
  have e29 : (o == 29) = false := by simp; omega
  have e30 : (o == 30) = false := by simp; omega
  have e31 : (o == 31) = false := by simp; omega
  have e32 : (o == 32) = false := by simp; omega
  have e33 : (o == 33) = false := by simp; omega
  have e34 : (o == 34) = false := by simp; omega
  have e35 : (o == 35) = false := by simp; omega
  have e36 : (o == 36) = false := by simp; omega
  go_enter Tryz.func29, Tryz.ntmps29
  go_wp2
  all_goals first
    | (exfalso; omega)
    | (go_ret; exact ⟨rfl, BB⟩)

end Go.Proofs.YtnhnbblplnhmlaaGreatDoor
