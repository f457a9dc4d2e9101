/- Powers of two as plain numbers. No program is named here. -/
import Derived.WalkKit
import Derived.Laws.MathBits
namespace Go.Proofs.Ytcnemjkcihlpeaa
set_option linter.unusedSimpArgs false
open Go.RowKit

/-- 2^k for k from 0 on. -/
def pw (k : Int) : Int := 2 ^ k.toNat
theorem pw_nat (k : Int) : pw k = ((2 ^ k.toNat : Nat) : Int) := by unfold pw; simp
theorem pw_pos (k : Int) : 1 ≤ pw k := by
  rw [pw_nat]; have := Nat.one_le_two_pow (n := k.toNat); omega
theorem pw_le (a b : Int) (h : a ≤ b) : pw a ≤ pw b := by
  rw [pw_nat, pw_nat]; exact Int.ofNat_le.2 (Nat.pow_le_pow_right (by omega) (by omega))
theorem pw_add (a b : Int) (ha : 0 ≤ a) (hb : 0 ≤ b) : pw (a + b) = pw a * pw b := by
  unfold pw; rw [show (a + b).toNat = a.toNat + b.toNat by omega, Int.pow_add]
theorem pw_succ (a : Int) (ha : 0 ≤ a) : pw (a + 1) = 2 * pw a := by
  rw [pw_add a 1 ha (by omega)]; show pw a * 2 = _; omega
theorem pw_lt (a b : Int) (ha : 0 ≤ a) (h : a < b) : 2 * pw a ≤ pw b := by
  rw [← pw_succ a ha]; exact pw_le _ _ (by omega)
theorem pw_62 (k : Int) (h : k ≤ 62) : pw k ≤ 4611686018427387904 := pw_le k 62 h
theorem pw_wrap (k : Int) (h : k ≤ 62) : wrap64 (2 ^ k.toNat) = pw k := by
  have h1 := pw_62 k h
  have h2 := pw_pos k
  show wrap64 (pw k) = pw k
  exact IntWalk.wrap64_in _ (by omega)
theorem pw_wrap_mul (n k : Int) (h : -9223372036854775808 ≤ n * pw k) (h2 : n * pw k ≤ 9223372036854775807) : wrap64 (n * 2 ^ k.toNat) = n * pw k := by
  show wrap64 (n * pw k) = n * pw k
  exact IntWalk.wrap64_in _ (by omega)

theorem pw_i64 (k : Int) (h : k ≤ 62) : IntKind.i64.wrap (2 ^ k.toNat) = pw k := by
  have h1 := pw_62 k h
  have h2 := pw_pos k
  exact IntWalk.i64_in (pw k) (by omega)
theorem pw_i64_mul (n k : Int) (h : -9223372036854775808 ≤ n * pw k) (h2 : n * pw k ≤ 9223372036854775807) : IntKind.i64.wrap (n * 2 ^ k.toNat) = n * pw k :=
  IntWalk.i64_in (n * pw k) (by omega)
theorem pw_lit (k : Nat) : (2 : Int) ^ k = pw k := by unfold pw; simp

/-! ### the low bits of a number -/
theorem and_pw (n k : Int) (h0 : 0 ≤ k) (h : k ≤ 62) : bits .and .i64 n (pw k - 1) = n % pw k := by
  have h1 := pw_pos k
  have h2 := pw_62 k h
  have e2 : pw k = ((2 ^ k.toNat : Nat) : Int) := pw_nat k
  have h3 : 2 ^ k.toNat ≤ 4611686018427387904 := by omega
  have hm : (BitVec.ofInt 64 (pw k - 1)).toNat = 2 ^ k.toNat - 1 := by rw [BitVec.toNat_ofInt, e2]; omega
  have key : (BitVec.ofInt 64 n &&& BitVec.ofInt 64 (pw k - 1)).toNat = (n % ((2 ^ 64 : Nat) : Int)).toNat % 2 ^ k.toNat := by
    rw [BitVec.toNat_and, BitVec.toNat_ofInt, hm, Nat.and_two_pow_sub_one_eq_mod]
  show IntKind.i64.wrap ((BitVec.ofInt 64 n &&& BitVec.ofInt 64 (pw k - 1)).toNat : Nat) = n % pw k
  have hlt : (n % ((2 ^ 64 : Nat) : Int)).toNat % 2 ^ k.toNat < 2 ^ k.toNat := Nat.mod_lt _ (by omega)
  rw [key, IntKind.wrap_i64, e2]
  have e3 : (((n % ((2 ^ 64 : Nat) : Int)).toNat % 2 ^ k.toNat : Nat) : Int) = n % ((2 ^ k.toNat : Nat) : Int) := by
    rw [Int.natCast_emod, Int.toNat_of_nonneg (Int.emod_nonneg _ (by omega)), Int.emod_emod_of_dvd]
    exact Int.natCast_dvd_natCast.2 (Nat.pow_dvd_pow 2 (by omega))
  rw [e3]
  have g1 := Int.emod_nonneg n (b := ((2 ^ k.toNat : Nat) : Int)) (by omega)
  have g2 := Int.emod_lt_of_pos n (b := ((2 ^ k.toNat : Nat) : Int)) (by omega)
  omega

/-- A high bit beside lower ones. -/
theorem or_high (n k : Int) (h : k ≤ 62) (h0 : 0 ≤ n) (h1 : n < pw k) : bits .or .i64 (pw k) n = pw k + n := by
  have h2 := pw_62 k h
  have e2 : pw k = ((2 ^ k.toNat : Nat) : Int) := pw_nat k
  have a1 : (BitVec.ofInt 64 (pw k)).toNat = 2 ^ k.toNat := by rw [BitVec.toNat_ofInt, e2]; omega
  have a2 : (BitVec.ofInt 64 n).toNat = n.toNat := by rw [BitVec.toNat_ofInt]; omega
  have key : (BitVec.ofInt 64 (pw k) ||| BitVec.ofInt 64 n).toNat = 2 ^ k.toNat + n.toNat := by
    rw [BitVec.toNat_or, a1, a2]
    have := Nat.two_pow_add_eq_or_of_lt (i := k.toNat) (b := n.toNat) (by omega) 1
    simpa using this.symm
  show IntKind.i64.wrap ((BitVec.ofInt 64 (pw k) ||| BitVec.ofInt 64 n).toNat : Nat) = pw k + n
  rw [key, IntKind.wrap_i64, e2]
  omega
theorem or_comm' (a b : Int) : bits .or .i64 a b = bits .or .i64 b a := by
  show IntKind.i64.wrap ((BitVec.ofInt 64 a ||| BitVec.ofInt 64 b).toNat : Nat) = IntKind.i64.wrap ((BitVec.ofInt 64 b ||| BitVec.ofInt 64 a).toNat : Nat)
  rw [BitVec.or_comm]

/-! ### the number of bits of a number -/
def blen (x : Int) : Int := (bitLen x.toNat : Nat)
theorem blen_zero : blen 0 = 0 := by decide
theorem blen_spec (x : Int) (h : 0 < x) : 1 ≤ blen x ∧ pw (blen x - 1) ≤ x ∧ x < pw (blen x) := by
  obtain ⟨h1, h2⟩ := bitLen_spec x.toNat
  have h3 := h2 (by omega)
  have h4 : 1 ≤ bitLen x.toNat := by unfold bitLen; rw [if_neg (by omega)]; omega
  refine ⟨by unfold blen; omega, ?_, ?_⟩
  · rw [pw_nat]; unfold blen; rw [show ((bitLen x.toNat : Nat) - 1 : Int).toNat = bitLen x.toNat - 1 by omega]; omega
  · rw [pw_nat]; unfold blen; rw [Int.toNat_natCast]; omega
theorem blen_shift (x : Int) (b : Nat) (h : 2 ^ b ≤ x) : blen x = b + blen (x / 2 ^ b) := by
  have hp : (0 : Int) < 2 ^ b := Int.pow_pos (by omega)
  have e : (x / 2 ^ b).toNat = x.toNat / 2 ^ b := by
    have h0 : (x.toNat : Int) = x := Int.toNat_of_nonneg (by omega)
    have h1 : ((2 ^ b : Nat) : Int) = 2 ^ b := by simp
    rw [← h0, ← h1, ← Int.natCast_ediv, Int.toNat_natCast, Int.toNat_natCast]
  have hne : x.toNat / 2 ^ b ≠ 0 := by
    have h1 : ((2 ^ b : Nat) : Int) = 2 ^ b := by simp
    have h2 : 2 ^ b ≤ x.toNat := by omega
    have h3 : 0 < 2 ^ b := Nat.two_pow_pos b
    have := Nat.div_pos h2 h3
    omega
  unfold blen
  rw [e, bitLen_shift x.toNat b hne]
  omega
theorem blen_8 (x : Int) (h : 256 ≤ x) : blen x = 8 + blen (x / 256) := blen_shift x 8 h
theorem blen_16 (x : Int) (h : 65536 ≤ x) : blen x = 16 + blen (x / 65536) := blen_shift x 16 h
theorem blen_tab (x : Int) : (bitLen x.toNat : Int) = blen x := rfl
theorem blen_bd30 (x : Int) (h0 : 0 ≤ x) (h : x < 1073741824) : 0 ≤ blen x ∧ blen x ≤ 30 := by
  by_cases hx : x = 0
  · subst hx; decide
  obtain ⟨h1, h2, h3⟩ := blen_spec x (by omega)
  refine ⟨by omega, ?_⟩
  apply Classical.byContradiction
  intro hn
  have := pw_le 30 (blen x - 1) (by omega)
  have e : pw 30 = 1073741824 := rfl
  omega
theorem blen_bd (x : Int) (h0 : 0 ≤ x) (h : x < 536870912) : 0 ≤ blen x ∧ blen x ≤ 29 := by
  by_cases hx : x = 0
  · subst hx; decide
  obtain ⟨h1, h2, h3⟩ := blen_spec x (by omega)
  refine ⟨by omega, ?_⟩
  apply Classical.byContradiction
  intro hn
  have := pw_le 29 (blen x - 1) (by omega)
  have e : pw 29 = 536870912 := rfl
  omega

end Go.Proofs.Ytcnemjkcihlpeaa
