/- Stencil values, in plain numbers. -/
import Derived.Test.YtigjamfnekaeeaaMath
import Derived.Test.YtigjamfnekaeeaaCalls
namespace Go.Proofs.Ytigjamfnekaeeaa
set_option linter.unusedSimpArgs false
open Go.RowKit

theorem and_small (x m : Int) (h0 : 0 ≤ m) (h1 : m ≤ 255) : bits .and .i64 x m = (((x % 256).toNat &&& m.toNat : Nat) : Int) := by
  have hm : (BitVec.ofInt 64 m).toNat = m.toNat := by rw [BitVec.toNat_ofInt]; omega
  have hx : (BitVec.ofInt 64 x).toNat % 2 ^ 8 = (x % 256).toNat := by rw [BitVec.toNat_ofInt]; omega
  have key : (BitVec.ofInt 64 x &&& BitVec.ofInt 64 m).toNat = (x % 256).toNat &&& m.toNat := by
    rw [BitVec.toNat_and, hm]
    have h2 : ((BitVec.ofInt 64 x).toNat &&& m.toNat) < 2 ^ 8 := Nat.lt_of_le_of_lt Nat.and_le_right (by omega)
    rw [← Nat.mod_eq_of_lt h2, Nat.and_mod_two_pow, hx, Nat.mod_eq_of_lt (show m.toNat < 2 ^ 8 by omega)]
  have hlt : ((x % 256).toNat &&& m.toNat) ≤ 255 := Nat.le_trans Nat.and_le_right (by omega)
  show IntKind.i64.wrap ((BitVec.ofInt 64 x &&& BitVec.ofInt 64 m).toNat : Nat) = _
  rw [key, IntKind.wrap_i64]
  omega

theorem and_low255 (x : Int) : bits .and .i64 x 255 = x % 256 := by
  rw [and_small x 255 (by omega) (by omega)]
  have h : ((x % 256).toNat &&& (255 : Int).toNat) = (x % 256).toNat := by
    rw [show (255 : Int).toNat = 2 ^ 8 - 1 from rfl, Nat.and_two_pow_sub_one_eq_mod]
    omega
  rw [h]
  omega

theorem and_mod (x m : Int) (h0 : 0 ≤ m) (h1 : m ≤ 255) : bits .and .i64 (x % 256) m = bits .and .i64 x m := by
  rw [and_small _ m h0 h1, and_small x m h0 h1, show x % 256 % 256 = x % 256 by omega]

theorem and_bd (x m : Int) (h0 : 0 ≤ m) (h1 : m ≤ 255) : 0 ≤ bits .and .i64 x m ∧ bits .and .i64 x m ≤ 255 := by
  rw [and_small x m h0 h1]
  have : ((x % 256).toNat &&& m.toNat) ≤ m.toNat := Nat.and_le_right
  omega

theorem or_small (x y : Int) (h0 : 0 ≤ x ∧ x ≤ 255) (h1 : 0 ≤ y ∧ y ≤ 255) : bits .or .i64 x y = ((x.toNat ||| y.toNat : Nat) : Int) := by
  have hx : (BitVec.ofInt 64 x).toNat = x.toNat := by rw [BitVec.toNat_ofInt]; omega
  have hy : (BitVec.ofInt 64 y).toNat = y.toNat := by rw [BitVec.toNat_ofInt]; omega
  have hlt : (x.toNat ||| y.toNat) < 2 ^ 8 := Nat.or_lt_two_pow (by omega) (by omega)
  show IntKind.i64.wrap ((BitVec.ofInt 64 x ||| BitVec.ofInt 64 y).toNat : Nat) = _
  rw [BitVec.toNat_or, hx, hy, IntKind.wrap_i64]
  omega

theorem mask_cut : ∀ m : Nat, m < 256 → m &&& (255 - m) = 0 := by decide +kernel

/-- What Apply returns. -/
def aply (op v r : Int) : Int :=
  if op = 2 then 0 else if op = 3 then r % 256 else if op = 4 then min (v % 256 + 1) 255 else if op = 5 then max (v % 256 - 1) 0 else if op = 6 then 255 - v % 256
  else if op = 7 then (v % 256 + 1) % 256 else if op = 8 then (v % 256 - 1) % 256 else v % 256

theorem aply_bd (op v r : Int) : 0 ≤ aply op v r ∧ aply op v r ≤ 255 := by
  unfold aply
  repeat' split
  all_goals omega

/-- The bits of a under m, those of v elsewhere. -/
def mix (a v m : Int) : Int := bits .or .i64 (bits .and .i64 a m) (bits .and .i64 v (255 - m))

def updv (t : Bool) (op v r wm : Int) : Int := if t = true then mix (aply op (v % 256) r) (v % 256) (wm % 256) else v % 256

theorem mix_bd (a v m : Int) (h0 : 0 ≤ m) (h1 : m ≤ 255) : 0 ≤ mix a v m ∧ mix a v m ≤ 255 := by
  unfold mix
  have h2 := and_bd a m h0 h1
  have h3 := and_bd v (255 - m) (by omega) (by omega)
  rw [or_small _ _ h2 h3]
  have : ((bits .and .i64 a m).toNat ||| (bits .and .i64 v (255 - m)).toNat) < 2 ^ 8 := Nat.or_lt_two_pow (by omega) (by omega)
  omega

theorem mix_keep (a v m : Int) (h0 : 0 ≤ m) (h1 : m ≤ 255) : bits .and .i64 (mix a v m) (255 - m) = bits .and .i64 v (255 - m) := by
  have hb := mix_bd a v m h0 h1
  have h2 := and_bd a m h0 h1
  have h3 := and_bd v (255 - m) (by omega) (by omega)
  rw [and_small _ (255 - m) (by omega) (by omega), Int.emod_eq_of_lt hb.1 (by omega)]
  unfold mix
  rw [or_small _ _ h2 h3, and_small a m h0 h1, and_small v (255 - m) (by omega) (by omega)]
  simp only [Int.toNat_natCast]
  have hc : (255 - m).toNat = 255 - m.toNat := by omega
  rw [hc, Nat.and_or_distrib_right, Nat.and_assoc, mask_cut _ (by omega), Nat.and_zero, Nat.zero_or, Nat.and_assoc, Nat.and_self]

theorem updv_bd (t : Bool) (op v r wm : Int) : 0 ≤ updv t op v r wm ∧ updv t op v r wm ≤ 255 := by
  unfold updv
  split
  · exact mix_bd _ _ _ (by omega) (by omega)
  · omega

theorem updv_keep (t : Bool) (op v r wm : Int) : bits .and .i64 (updv t op v r wm) (255 - wm % 256) = bits .and .i64 (v % 256) (255 - wm % 256) := by
  unfold updv
  split
  · exact mix_keep _ _ _ (by omega) (by omega)
  · rfl

theorem tmod256 (x : Int) : (x.tmod 256 + 256).tmod 256 = x % 256 ∧ -256 < x.tmod 256 ∧ x.tmod 256 < 256 := by
  have h : x.tmod 256 = if 0 ≤ x then x % 256 else -((-x) % 256) := tm_if x 256
  have h2 : -256 < x.tmod 256 ∧ x.tmod 256 < 256 := by rw [h]; split <;> omega
  refine ⟨?_, h2⟩
  rw [Int.tmod_eq_emod_of_nonneg (by omega), h]
  split <;> omega

theorem op_cases (c : Int) : c = 2 ∨ c = 3 ∨ c = 4 ∨ c = 5 ∨ c = 6 ∨ c = 7 ∨ c = 8 ∨ (c ≠ 2 ∧ c ≠ 3 ∧ c ≠ 4 ∧ c ≠ 5 ∧ c ≠ 6 ∧ c ≠ 7 ∧ c ≠ 8) := by omega

def vop (c : Int) : Bool := decide (1 ≤ c ∧ c ≤ 8)

def oct (x : Int) : Bool := decide (0 ≤ x ∧ x ≤ 255)

/-- The operation that is applied. -/
def pick (fr sp dp : Bool) (f1 f2 f3 g1 g2 g3 : Int) : Int := if fr = true then (if sp = true then (if dp = true then f3 else f2) else f1) else (if sp = true then (if dp = true then g3 else g2) else g1)

end Go.Proofs.Ytigjamfnekaeeaa
