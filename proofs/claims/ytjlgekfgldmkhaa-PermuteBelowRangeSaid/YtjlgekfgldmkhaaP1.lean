/- What Next returns, of both. -/
import Derived.Test.YtjlgekfgldmkhaaPMath
import Derived.Test.YtjlgekfgldmkhaaBelow
import Derived.WalkKit
import Derived.Lib.Hide
import Derived.Outline
import Derived.Test.YtjlgekfgldmkhaaChecked
namespace Go.Proofs.Ytjlgekfgldmkhaa
open Go.RowKit Go.Sort

def nxI (s : Int) : Int := IntKind.u64.wrap (s + 11400714819323198485)
def xI (d z : Int) : Int := bits .xor .u64 z (z / d)
def m1I (z : Int) : Int := IntKind.u64.wrap (xI 1073741824 z * 13787848793156543929)
def m2I (z : Int) : Int := IntKind.u64.wrap (xI 134217728 z * 10723151780598845931)
def mixI (s : Int) : Int := xI 2147483648 (m2I (m1I s))

theorem xor_nat (x y : Nat) (hx : x < 18446744073709551616) (hy : y < 18446744073709551616) : bits .xor .u64 (x : Int) (y : Int) = ((x ^^^ y : Nat) : Int) := by
  have h1 : (BitVec.ofInt 64 (x : Int)).toNat = x := by rw [BitVec.toNat_ofInt]; omega
  have h2 : (BitVec.ofInt 64 (y : Int)).toNat = y := by rw [BitVec.toNat_ofInt]; omega
  have key : (BitVec.ofInt 64 (x : Int) ^^^ BitVec.ofInt 64 (y : Int)).toNat = x ^^^ y := by rw [BitVec.toNat_xor, h1, h2]
  have hb : x ^^^ y < 18446744073709551616 := by
    have e : (18446744073709551616 : Nat) = 2 ^ 64 := by decide
    rw [e] at hx hy ⊢
    exact Nat.xor_lt_two_pow hx hy
  show IntKind.u64.wrap ((BitVec.ofInt 64 (x : Int) ^^^ BitVec.ofInt 64 (y : Int)).toNat : Nat) = ((x ^^^ y : Nat) : Int)
  rw [key, IntKind.wrap_u64]
  omega

theorem wrap_nat (x : Nat) : IntKind.u64.wrap (x : Int) = ((x % 18446744073709551616 : Nat) : Int) := by
  rw [IntKind.wrap_u64]
  omega

theorem xI_eq (k z : Nat) (d : Int) (hd : d = ((2 ^ k : Nat) : Int)) (hz : z < 18446744073709551616) : xI d (z : Int) = (xsh k z : Int) := by
  unfold xI xsh
  rw [hd, ← Int.natCast_ediv, xor_nat _ _ hz (Nat.lt_of_le_of_lt (Nat.div_le_self _ _) hz)]

theorem nxI_eq (s : Nat) : nxI (s : Int) = (nxt s : Int) := by
  unfold nxI
  rw [nxt_def, ← wrap_nat]
  congr 1

theorem m1I_eq (z : Nat) (hz : z < 18446744073709551616) : m1I (z : Int) = (mix1 z : Int) := by
  unfold m1I mix1
  rw [xI_eq 30 z _ (by decide) hz, ← wrap_nat]
  congr 1

theorem m2I_eq (z : Nat) (hz : z < 18446744073709551616) : m2I (z : Int) = (mix2 z : Int) := by
  unfold m2I mix2
  rw [xI_eq 27 z _ (by decide) hz, ← wrap_nat]
  congr 1

theorem mixI_eq (z : Nat) (hz : z < 18446744073709551616) : mixI (z : Int) = (mixN z : Int) := by
  unfold mixI mixN
  rw [m1I_eq z hz, m2I_eq _ (mix1_lt z), xI_eq 31 _ _ (by decide) (mix2_lt _)]

/-- Next's two numbers. -/
def NextGives (s : Nat) (w : World) (e : Ending) (w' : World) : Prop := e = .returned (.tuple #[.int .u64 (mixN (nxt s)), .int .u64 (nxt s)]) ∧ w = w'

theorem wrap_div (a d : Nat) (h : a < 18446744073709551616) : IntKind.u64.wrap ((a : Int) / (d : Int)) = (a : Int) / (d : Int) := by
  rw [← Int.natCast_ediv, wrap_nat, Nat.mod_eq_of_lt (Nat.lt_of_le_of_lt (Nat.div_le_self _ _) h)]

/-- The steps of Next, as the walk meets them. -/
theorem next_steps (s : Nat) : ∃ a x1 b x2 c x3 : Nat, nxt s = a ∧ mixN (nxt s) = x3 ∧ IntKind.u64.wrap ((s : Int) + 11400714819323198485) = (a : Int) ∧ bits .xor .u64 (a : Int) ((a : Int) / 1073741824) = (x1 : Int) ∧
    IntKind.u64.wrap ((x1 : Int) * 13787848793156543929) = (b : Int) ∧ bits .xor .u64 (b : Int) ((b : Int) / 134217728) = (x2 : Int) ∧ IntKind.u64.wrap ((x2 : Int) * 10723151780598845931) = (c : Int) ∧ bits .xor .u64 (c : Int) ((c : Int) / 2147483648) = (x3 : Int) ∧
    IntKind.u64.wrap ((a : Int) / 1073741824) = (a : Int) / 1073741824 ∧ IntKind.u64.wrap ((b : Int) / 134217728) = (b : Int) / 134217728 ∧ IntKind.u64.wrap ((c : Int) / 2147483648) = (c : Int) / 2147483648 := by
  refine ⟨nxt s, xsh 30 (nxt s), mix1 (nxt s), xsh 27 (mix1 (nxt s)), mix2 (mix1 (nxt s)), xsh 31 (mix2 (mix1 (nxt s))), rfl, by rw [mixN], nxI_eq s, xI_eq 30 _ _ (by decide) (nxt_lt s), ?_, xI_eq 27 _ _ (by decide) (mix1_lt _), ?_, xI_eq 31 _ _ (by decide) (mix2_lt _), wrap_div _ _ (nxt_lt s), wrap_div _ _ (mix1_lt _), wrap_div _ _ (mix2_lt _)⟩
  · have h := m1I_eq (nxt s) (nxt_lt s)
    unfold m1I at h
    rwa [xI_eq 30 _ _ (by decide) (nxt_lt s)] at h
  · have h := m2I_eq (mix1 (nxt s)) (mix1_lt _)
    unfold m2I at h
    rwa [xI_eq 27 _ _ (by decide) (mix1_lt _)] at h

set_option maxRecDepth 100000 in
theorem rnext_q (s : Nat) (w : World) : Calls Try.prog 11 #[.int .u64 s] w (NextGives s w) := by
  obtain ⟨a, x1, b, x2, c, x3, ha, hx, h1, h2, h3, h4, h5, h6, q1, q2, q3⟩ := next_steps s
  have HA := Lib.hid ha
  have HX := Lib.hid hx
  clear ha hx
  go_enter Try.func11, Try.ntmps11
  go_wp2
  go_ret2
  exact ⟨by rw [HX.out, HA.out]; rfl, rfl⟩

set_option maxRecDepth 100000 in
theorem next_q (s : Nat) (w : World) : Calls Try.prog 10 #[.int .u64 s] w (NextGives s w) := by
  obtain ⟨a, x1, b, x2, c, x3, ha, hx, h1, h2, h3, h4, h5, h6, q1, q2, q3⟩ := next_steps s
  have HA := Lib.hid ha
  have HX := Lib.hid hx
  clear ha hx
  go_enter Try.func10, Try.ntmps10
  go_wp2
  go_ret2
  exact ⟨by rw [HX.out, HA.out]; rfl, rfl⟩

end Go.Proofs.Ytjlgekfgldmkhaa
