/- Bit by bit operations of numbers of 32 bits, and the same bit by bit. No function of a program is named here. -/
import Derived.Test.YtnhnbblplnhmlaaGreatDoorUMath
namespace Go.Proofs.YtnhnbblplnhmlaaGreatDoor
set_option linter.unusedSimpArgs false
open Go.RowKit

theorem toInt_wrapv (v : BitVec 32) : v.toInt = wrapv (v.toNat : Int) := by
  have h := v.isLt
  rw [BitVec.toInt_eq_toNat_cond]
  unfold wrapv
  split <;> omega

theorem wrap_toInt (v : BitVec 64) : IntKind.i64.wrap ((v.toNat : Nat) : Int) = v.toInt := by
  have h := v.isLt
  rw [IntKind.wrap_i64, BitVec.toInt_eq_toNat_cond]
  split <;> omega

theorem ofInt_ext {x : Int} (h1 : -2147483648 ≤ x) (h2 : x ≤ 2147483647) : BitVec.ofInt 64 x = (BitVec.ofInt 32 x).signExtend 64 := by
  apply BitVec.eq_of_toInt_eq
  rw [BitVec.toInt_signExtend_of_le (by decide), BitVec.toInt_ofInt, BitVec.toInt_ofInt, Int.bmod_def, Int.bmod_def]
  split <;> split <;> omega

/-- A number's lowest 32 bits. -/
def lo32 (x : Int) : Nat := (x % 4294967296).toNat
theorem lo32_is (x : Int) : (BitVec.ofInt 32 x).toNat = lo32 x := by unfold lo32; rw [BitVec.toNat_ofInt]; rfl

theorem and_32 {x y : Int} (h1 : -2147483648 ≤ x) (h2 : x ≤ 2147483647) (h3 : -2147483648 ≤ y) (h4 : y ≤ 2147483647) : bits .and .i64 x y = wrapv ((lo32 x &&& lo32 y : Nat) : Int) := by
  show IntKind.i64.wrap ((BitVec.ofInt 64 x &&& BitVec.ofInt 64 y).toNat : Nat) = _
  rw [wrap_toInt, ofInt_ext h1 h2, ofInt_ext h3 h4, ← BitVec.signExtend_and, BitVec.toInt_signExtend_of_le (by decide), toInt_wrapv, BitVec.toNat_and, lo32_is, lo32_is]
theorem or_32 {x y : Int} (h1 : -2147483648 ≤ x) (h2 : x ≤ 2147483647) (h3 : -2147483648 ≤ y) (h4 : y ≤ 2147483647) : bits .or .i64 x y = wrapv ((lo32 x ||| lo32 y : Nat) : Int) := by
  show IntKind.i64.wrap ((BitVec.ofInt 64 x ||| BitVec.ofInt 64 y).toNat : Nat) = _
  rw [wrap_toInt, ofInt_ext h1 h2, ofInt_ext h3 h4, ← BitVec.signExtend_or, BitVec.toInt_signExtend_of_le (by decide), toInt_wrapv, BitVec.toNat_or, lo32_is, lo32_is]
theorem xor_32 {x y : Int} (h1 : -2147483648 ≤ x) (h2 : x ≤ 2147483647) (h3 : -2147483648 ≤ y) (h4 : y ≤ 2147483647) : bits .xor .i64 x y = wrapv ((lo32 x ^^^ lo32 y : Nat) : Int) := by
  show IntKind.i64.wrap ((BitVec.ofInt 64 x ^^^ BitVec.ofInt 64 y).toNat : Nat) = _
  rw [wrap_toInt, ofInt_ext h1 h2, ofInt_ext h3 h4, ← BitVec.signExtend_xor, BitVec.toInt_signExtend_of_le (by decide), toInt_wrapv, BitVec.toNat_xor, lo32_is, lo32_is]

/-- Bit k of a number. -/
def bitI (x : Int) (k : Nat) : Int := x / 2 ^ k % 2

theorem bitI_lo (x : Int) {k : Nat} (hk : k < 32) : bitI x k = ((lo32 x / 2 ^ k % 2 : Nat) : Int) := by
  unfold bitI lo32
  have e : (((x % 4294967296).toNat / 2 ^ k % 2 : Nat) : Int) = (x % 4294967296) / 2 ^ k % 2 := by
    rw [Int.natCast_emod, Int.natCast_ediv, Int.toNat_of_nonneg (Int.emod_nonneg _ (by decide)), Int.natCast_pow]; rfl
  rw [e]
  have h2 : (4294967296 : Int) = 2 ^ k * (2 * 2 ^ (31 - k)) := by
    have : (4294967296 : Int) = 2 ^ 32 := by decide
    rw [this, show 32 = k + (1 + (31 - k)) by omega, Int.pow_add, Int.pow_add]
    simp
  have hp : (2 : Int) ^ k ≠ 0 := by have := pow_pos2 k; omega
  have h3 : x = x % 4294967296 + 2 ^ k * (2 * (2 ^ (31 - k) * (x / 4294967296))) := by
    have h4 := Int.emod_add_mul_ediv x 4294967296
    have h5 : (4294967296 : Int) * (x / 4294967296) = 2 ^ k * (2 * (2 ^ (31 - k) * (x / 4294967296))) := by
      rw [h2, ← h2]
      conv => lhs; rw [h2]
      rw [Int.mul_assoc, Int.mul_assoc, ← h2]
    omega
  conv => lhs; rw [h3, Int.add_mul_ediv_left _ _ hp]
  omega

theorem bit_ways (n k : Nat) : n / 2 ^ k % 2 = (n.testBit k).toNat := by
  rw [Nat.testBit_eq_decide_div_mod_eq]
  have : n / 2 ^ k % 2 < 2 := Nat.mod_lt _ (by decide)
  by_cases h : n / 2 ^ k % 2 = 1
  · simp [h]
  · have h0 : n / 2 ^ k % 2 = 0 := by omega
    simp [h0]

/-- The number of the first n bits, from the highest of 32 on. -/
def hor (g : Int → Int → Int) (x y : Int) : Nat → Int
  | 0 => 0
  | n + 1 => hor g x y n * 2 + g (bitI x (31 - n)) (bitI y (31 - n))

theorem hor_is (g : Int → Int → Int) (x y : Int) (m : Nat) (hm : m < 4294967296) (h : ∀ k, k < 32 → g (bitI x k) (bitI y k) = ((m / 2 ^ k % 2 : Nat) : Int)) : ∀ n, n ≤ 32 → hor g x y n = ((m / 2 ^ (32 - n) : Nat) : Int)
  | 0, _ => by
    have : m / 2 ^ (32 - 0) = 0 := Nat.div_eq_of_lt (by simpa using hm)
    rw [this]; rfl
  | n + 1, hn => by
    rw [hor, hor_is g x y m hm h n (by omega), h (31 - n) (by omega)]
    have e1 : 32 - n = (31 - n) + 1 := by omega
    have e2 : 32 - (n + 1) = 31 - n := by omega
    rw [e1, e2, Nat.pow_succ, ← Nat.div_div_eq_div_mul]
    omega

theorem lo32_lt (x : Int) : lo32 x < 4294967296 := by unfold lo32; omega

def gAnd (a b : Int) : Int := a * b
def gOr (a b : Int) : Int := max a b
def gXor (a b : Int) : Int := (a + b) % 2

theorem hor_and (x y : Int) : hor gAnd x y 32 = ((lo32 x &&& lo32 y : Nat) : Int) := by
  have h := hor_is gAnd x y (lo32 x &&& lo32 y) (Nat.lt_of_le_of_lt Nat.and_le_left (lo32_lt x)) (fun k hk => by
    rw [bitI_lo x hk, bitI_lo y hk, bit_ways, bit_ways, bit_ways, Nat.testBit_and]
    cases (lo32 x).testBit k <;> cases (lo32 y).testBit k <;> rfl) 32 (Nat.le_refl _)
  rw [h, Nat.sub_self, Nat.pow_zero, Nat.div_one]
theorem hor_or (x y : Int) : hor gOr x y 32 = ((lo32 x ||| lo32 y : Nat) : Int) := by
  have h := hor_is gOr x y (lo32 x ||| lo32 y) (by have e : 4294967296 = 2 ^ 32 := by decide
                                                   have h1 := lo32_lt x
                                                   have h2 := lo32_lt y
                                                   rw [e] at h1 h2 ⊢; exact Nat.or_lt_two_pow h1 h2) (fun k hk => by
    rw [bitI_lo x hk, bitI_lo y hk, bit_ways, bit_ways, bit_ways, Nat.testBit_or]
    cases (lo32 x).testBit k <;> cases (lo32 y).testBit k <;> rfl) 32 (Nat.le_refl _)
  rw [h, Nat.sub_self, Nat.pow_zero, Nat.div_one]
theorem hor_xor (x y : Int) : hor gXor x y 32 = ((lo32 x ^^^ lo32 y : Nat) : Int) := by
  have h := hor_is gXor x y (lo32 x ^^^ lo32 y) (by have e : 4294967296 = 2 ^ 32 := by decide
                                                    have h1 := lo32_lt x
                                                    have h2 := lo32_lt y
                                                    rw [e] at h1 h2 ⊢; exact Nat.xor_lt_two_pow h1 h2) (fun k hk => by
    rw [bitI_lo x hk, bitI_lo y hk, bit_ways, bit_ways, bit_ways, Nat.testBit_xor]
    cases (lo32 x).testBit k <;> cases (lo32 y).testBit k <;> rfl) 32 (Nat.le_refl _)
  rw [h, Nat.sub_self, Nat.pow_zero, Nat.div_one]

theorem bitI_01 (x : Int) (k : Nat) : bitI x k = 0 ∨ bitI x k = 1 := by unfold bitI; omega
theorem hor_rng {g : Int → Int → Int} (hg : ∀ a b, (a = 0 ∨ a = 1) → (b = 0 ∨ b = 1) → 0 ≤ g a b ∧ g a b ≤ 1) (x y : Int) : ∀ n : Nat, 0 ≤ hor g x y n ∧ hor g x y n < 2 ^ n
  | 0 => ⟨Int.le_refl _, by show (0 : Int) < 1; decide⟩
  | n + 1 => by
    have h := hor_rng hg x y n
    have h2 := hg _ _ (bitI_01 x (31 - n)) (bitI_01 y (31 - n))
    rw [hor, pow_s]
    omega

end Go.Proofs.YtnhnbblplnhmlaaGreatDoor
