/- How the bytes of an int are read: getVarint, ReadInt of both. Written by tools/gen/genC4.py. -/
import Derived.Test.YtaimkplcnkbjlaaC3
import Derived.WalkMore
import Derived.ScopeJumps
namespace Go.Proofs.Ytaimkplcnkbjlaa
open Go.RowKit Go.Sort

theorem or_u64 (m : Nat) (acc y : Int) (h0 : 0 ≤ acc) (h1 : acc < 2 ^ m) (h2 : 0 ≤ y) (h3 : acc + y * 2 ^ m < 18446744073709551616) : bits .or .u64 acc (y * 2 ^ m) = acc + y * 2 ^ m := by
  have e : (2 : Int) ^ m = ((2 ^ m : Nat) : Int) := by simp
  have hy : y * 2 ^ m = ((2 ^ m * y.toNat : Nat) : Int) := by
    rw [e, Int.natCast_mul, Int.toNat_of_nonneg h2, Int.mul_comm]
  have hp : 0 ≤ y * 2 ^ m := by rw [hy]; exact Int.natCast_nonneg _
  have a1 : (BitVec.ofInt 64 acc).toNat = acc.toNat := by rw [BitVec.toNat_ofInt]; omega
  have a2 : (BitVec.ofInt 64 (y * 2 ^ m)).toNat = 2 ^ m * y.toNat := by rw [BitVec.toNat_ofInt, hy]; omega
  have key : (BitVec.ofInt 64 acc ||| BitVec.ofInt 64 (y * 2 ^ m)).toNat = 2 ^ m * y.toNat + acc.toNat := by
    rw [BitVec.toNat_or, a1, a2, Nat.or_comm]
    exact (Nat.two_pow_add_eq_or_of_lt (i := m) (b := acc.toNat) (by omega) y.toNat).symm
  show IntKind.u64.wrap ((BitVec.ofInt 64 acc ||| BitVec.ofInt 64 (y * 2 ^ m)).toNat : Nat) = acc + y * 2 ^ m
  rw [key, u64_in _ (by omega) (by omega)]
  omega

theorem pow_7 (k : Nat) : (2 : Int) ^ (7 * k) = 128 ^ k := by rw [Int.pow_mul]; rfl

/-- A group more. -/
theorem group_on (k : Nat) (x acc : Int) (hk : k ≤ 9) (h0 : 0 ≤ acc) (h1 : acc < 128 ^ k) (x0 : 0 ≤ x) (x1 : x < 128) (h9 : k = 9 → x ≤ 1) :
    IntKind.u64.wrap (x * 2 ^ (7 * k)) = x * 128 ^ k ∧ bits .or .u64 acc (x * 128 ^ k) = acc + x * 128 ^ k ∧ 0 ≤ acc + x * 128 ^ k ∧ acc + x * 128 ^ k < 128 ^ (k + 1) ∧ acc + x * 128 ^ k < 18446744073709551616 ∧
      IntKind.u64.wrap (acc + x * 128 ^ k) = acc + x * 128 ^ k := by
  have hp := pow128_pos k
  have hs := pow128_succ k
  have hm := Int.mul_le_mul_of_nonneg_right (show x ≤ 127 by omega) (show (0 : Int) ≤ 128 ^ k by omega)
  have hm0 := Int.mul_nonneg x0 (show (0 : Int) ≤ 128 ^ k by omega)
  have hlt : acc + x * 128 ^ k < 18446744073709551616 := by
    by_cases e9 : k = 9
    · subst e9
      have e : (128 : Int) ^ 9 = 9223372036854775808 := by decide
      have := h9 rfl
      rw [e] at h1 ⊢
      omega
    · have h8 := pow128_le (show k ≤ 8 by omega)
      have e : (128 : Int) ^ 8 = 72057594037927936 := by decide
      omega
  refine ⟨?_, ?_, by omega, by omega, hlt, u64_in _ (by omega) hlt⟩
  · rw [pow_7, u64_in _ hm0 (by omega)]
  · rw [← pow_7] at h1 hlt ⊢
    exact or_u64 (7 * k) acc x h0 h1 x0 hlt

theorem ret_t3 {k : IntKind} {a b c a' b' c' : Int} (h1 : a = a') (h2 : b = b') (h3 : c = c') :
    Ending.returned (.tuple #[.int k a, .int .i64 b, .int .i64 c]) = .returned (.tuple #[.int k a', .int .i64 b', .int .i64 c']) := by rw [h1, h2, h3]

section
variable {l : List Int} {p n k : Nat} {acc x U K E : Int}

theorem at_end (h : Hid (vr (l.drop p) k acc = (U, K, E))) (hl : l.length ≤ p) : U = 0 ∧ K = 0 ∧ E = 4 := by
  have h := h.out
  rw [List.drop_eq_nil_of_le hl, vr_nil] at h
  simp only [Prod.mk.injEq] at h
  omega

theorem at_nine (h : Hid (vr (l.drop p) 9 acc = (U, K, E))) (hx : Hid (l[p]? = some x)) (h1 : 1 < x) : U = 0 ∧ K = 0 ∧ E = 3 := by
  have h := h.out
  rw [list_step hx, vr_nine h1] at h
  simp only [Prod.mk.injEq] at h
  omega

theorem at_zero (h : Hid (vr (l.drop p) k acc = (U, K, E))) (hx : Hid (l[p]? = some 0)) (h1 : 0 < k) : U = 0 ∧ K = 0 ∧ E = 3 := by
  have h := h.out
  rw [list_step hx, vr_zero h1] at h
  simp only [Prod.mk.injEq] at h
  omega

theorem at_last (h : Hid (vr (l.drop p) k acc = (U, K, E))) (hx : Hid (l[p]? = some x)) (h1 : ¬ (k = 9 ∧ 1 < x)) (h2 : x < 128) (h3 : ¬ (x = 0 ∧ 0 < k)) : U = acc + x * 128 ^ k ∧ K = k + 1 ∧ E = 0 := by
  have h := h.out
  rw [list_step hx, vr_end h1 h2 h3] at h
  simp only [Prod.mk.injEq] at h
  omega

theorem at_more (h : Hid (vr (l.drop p) k acc = (U, K, E))) (hx : Hid (l[p]? = some x)) (h1 : ¬ (k = 9 ∧ 1 < x)) (h2 : 128 ≤ x) : Hid (vr (l.drop (p + 1)) (k + 1) (acc + x % 128 * 128 ^ k) = (U, K, E)) := by
  have h := h.out
  rw [list_step hx, vr_on h1 h2] at h
  exact Lib.hid h
end

set_option maxRecDepth 100000 in
set_option maxHeartbeats 2000000 in
theorem getVarint_b (A : Option Addr) (n c B p0 : Nat) (l : List Int) (U K E NX : Int) (w : World) (R : Rd w B .u8 A n l) (hn : n ≤ 9223372036854775807) (h0 : p0 ≤ n) (hv : vr (l.drop p0) 0 0 = (U, K, E)) (hN : NX = if E = 0 then (p0 : Int) + K else 0) :
    Calls Try.prog 39 #[.slice A n c, .int .i64 p0] w fun e w' => e = .returned (.tuple #[.int .u64 U, .int .i64 NX, .int .i64 E]) ∧ Below w.heap.size w w' := by
  have HV0 := Lib.hid hv
  have HN := Lib.hid hN
  have HL : Hid (l.length = n) := Lib.hid R.len
  clear hv hN
  have bo : bits .or .u64 0 0 = 0 := by decide
  go_enter Try.func39, Try.ntmps39
  go_wp2
  refine wp_scope_jumps 0 (fun a' w' => w' = w ∧ ∃ (k p : Nat) (acc : Int), 1 ≤ k ∧ k ≤ 9 ∧ p = p0 + k ∧ p ≤ n ∧ 0 ≤ acc ∧ acc < 128 ^ k ∧ vr (l.drop p) k acc = (U, K, E) ∧ ∃ u9 u10 u11 u12 u13 u14 u15 u16 u17 u18 u19 u20 u21 u22 u23 u24 u25 u26 u27 u28 u29 u30 u31 u32 u33 u34 u35 u36 u37 u38 u39 u40 u41 u42 u43 u44, a' = { tmps := #[.slice A n c, .int .i64 p, undef, undef, .int .u64 0, .int .i64 0, .int .i64 0, .int .u64 acc, .int .i64 (7 * (k : Int)), u9, u10, u11, u12, u13, u14, u15, u16, u17, u18, u19, u20, u21, u22, u23, u24, u25, u26, u27, u28, u29, u30, u31, u32, u33, u34, u35, u36, u37, u38, u39, u40, u41, u42, u43, u44], defers := [] }) (fun a' _ => n - (intOf (a'.tmps.getD 1 undef)).toNat) rfl ?_ ?_
  · by_cases hp : p0 < n
    · obtain ⟨b, off, x, rfl, cx, x0, x1, hx⟩ := R.byte hp
      clear R
      have hpe : ((p0 : Int) == (n : Int)) = false := by simp; omega
      have hpi : (p0 : Int) < (n : Int) := by omega
      have hor : bits .or .u64 0 (x % 128) = x % 128 := by
        have := (group_on 0 (x % 128) 0 (by omega) (by omega) (by omega) (by omega) (by omega) (by omega)).2.1
        simpa using this
      by_cases hlt : x < 128
      · obtain ⟨rfl, rfl, rfl⟩ := at_last HV0 hx (by omega) hlt (by omega)
        have hxm : Hid (x % 128 = x) := Lib.hid (by omega)
        by_cases hx0 : x = 0
        · have ex : (x == 0) = true := by simpa using hx0
          go_wp2
          go_step3
          go_wp2
          simp only [Exit.jump]
          go_ret3
          exact ⟨ret_t3 (by first | (rw [hxm.out]; simp) | (rw [hx0]; simp)) (by have h := HN.out; simp at h; omega) rfl, Below.refl _ _⟩
        · have ex : (x == 0) = false := by simpa using hx0
          go_wp2
          go_step3
          go_wp2
          simp only [Exit.jump]
          go_ret3
          exact ⟨ret_t3 (by first | (rw [hxm.out]; simp) | (rw [hx0]; simp)) (by have h := HN.out; simp at h; omega) rfl, Below.refl _ _⟩
      · have hlt' : 128 ≤ x := by omega
        have HV := at_more HV0 hx (by omega) hlt'
        go_wp2
        go_step3
        go_wp2
        go_step3
        exact ⟨rfl, rfl, 1, p0 + 1, x % 128, by omega, by omega, rfl, by omega, by omega, by omega, by simpa using HV.out, _, _, _, _, _, _, _, _, _, _, _, _, _, _, _, _, _, _, _, _, _, _, _, _, _, _, _, _, _, _, _, _, _, _, _, _, rfl⟩
    · obtain rfl : p0 = n := by omega
      obtain ⟨rfl, rfl, rfl⟩ := at_end HV0 (by rw [HL.out]; exact Nat.le_refl _)
      go_wp2
      go_step3
      go_wp2
      simp only [Exit.jump]
      go_ret3
      exact ⟨ret_t3 rfl (by have h := HN.out; simp at h; omega) rfl, Below.refl _ _⟩
  · rintro a' w' ⟨rfl, k, p, acc, k1, k9, hp0, hpn, a0, a1, hv, u9, u10, u11, u12, u13, u14, u15, u16, u17, u18, u19, u20, u21, u22, u23, u24, u25, u26, u27, u28, u29, u30, u31, u32, u33, u34, u35, u36, u37, u38, u39, u40, u41, u42, u43, u44, rfl⟩
    have HV := Lib.hid hv
    have HP := Lib.hid hp0
    have HA := Lib.hid a1
    clear hv hp0 a1
    by_cases hp : p < n
    · obtain ⟨b, off, x, rfl, cx, x0, x1, hx⟩ := R.byte hp
      clear R
      have hpe : ((p : Int) == (n : Int)) = false := by simp; omega
      have hpi : (p : Int) < (n : Int) := by omega
      by_cases e9 : k = 9 ∧ 1 < x
      · obtain ⟨rfl, hx1⟩ := e9
        obtain ⟨rfl, rfl, rfl⟩ := at_nine HV hx hx1
        go_wp2
        simp only [Exit.jump]
        go_ret3
        exact ⟨ret_t3 rfl (by have h := HN.out; simp at h; omega) rfl, Below.refl _ _⟩
      · by_cases hlt : x < 128
        · by_cases hx0 : x = 0
          · subst hx0
            obtain ⟨rfl, rfl, rfl⟩ := at_zero HV hx k1
            go_wp2
            all_goals simp only [Exit.jump]
            all_goals go_ret3
            all_goals exact ⟨ret_t3 rfl (by have h := HN.out; simp at h; omega) rfl, Below.refl _ _⟩
          · have ex : (x == 0) = false := by simpa using hx0
            obtain ⟨hU, hK, rfl⟩ := at_last HV hx e9 hlt (by omega)
            have HU := Lib.hid hU
            have HK := Lib.hid hK
            clear hU hK
            by_cases k9' : k = 9
            · subst k9'
              obtain rfl : x = 1 := by omega
              have hor : bits .or .u64 acc 9223372036854775808 = U := by
                rw [HU.out]
                exact (group_on 9 1 acc k9 a0 HA.out x0 hlt (by omega)).2.1
              go_wp2
              simp only [Exit.jump]
              go_ret3
              exact ⟨ret_t3 rfl (by have h := HN.out; have h2 := HK.out; have h3 := HP.out; simp at h; omega) rfl, Below.refl _ _⟩
            · have hne : ((7 * (k : Int)) == 63) = false := by simp; omega
              have hxm : x % 128 = x := by omega
              obtain ⟨g1, g2, _, _, _, _⟩ := group_on k x acc k9 a0 HA.out x0 hlt (by omega)
              obtain ⟨y, hy⟩ : ∃ y, y = x * 128 ^ k := ⟨_, rfl⟩
              rw [← HU.out, ← hy] at g2
              rw [← hy, ← hxm] at g1
              have HX := Lib.hid hxm
              clear hxm hy
              go_wp2
              simp only [Exit.jump]
              go_ret3
              exact ⟨ret_t3 rfl (by have h := HN.out; have h2 := HK.out; have h3 := HP.out; simp at h; omega) rfl, Below.refl _ _⟩
        · have hlt' : 128 ≤ x := by omega
          have HV1 := at_more HV hx e9 hlt'
          obtain ⟨g1, g2, g3, g4, _, _⟩ := group_on k (x % 128) acc k9 a0 HA.out (by omega) (by omega) (by omega)
          obtain ⟨y, hy⟩ : ∃ y, y = x % 128 * 128 ^ k := ⟨_, rfl⟩
          rw [← hy] at g1 g2 g3 g4 HV1
          have HY := Lib.hid hy
          have G3 := Lib.hid g3
          have G4 := Lib.hid g4
          have hk9 : k < 9 := by omega
          have hne : ((7 * (k : Int)) == 63) = false := by simp; omega
          clear hy g3 g4
          go_wp2
          go_step3
          refine ⟨rfl, ⟨rfl, k + 1, p + 1, acc + y, by omega, by omega, by rw [HP.out]; omega, by omega, G3.out, G4.out, HV1.out, _, _, _, _, _, _, _, _, _, _, _, _, _, _, _, _, _, _, _, _, _, _, _, _, _, _, _, _, _, _, _, _, _, _, _, _, rfl⟩, ?_⟩
          simp [intOf]
          omega
    · obtain rfl : p = n := by omega
      obtain ⟨rfl, rfl, rfl⟩ := at_end HV (by rw [HL.out]; exact Nat.le_refl _)
      go_wp2
      simp only [Exit.jump]
      go_ret3
      exact ⟨ret_t3 rfl (by have h := HN.out; simp at h; omega) rfl, Below.refl _ _⟩

end Go.Proofs.Ytaimkplcnkbjlaa
