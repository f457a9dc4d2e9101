/- What fold, unfold, putInt and AppendInt return, and whether an index is one. -/
import Derived.Test.YtfakmeimideoaaaC1
import Derived.Test.YtfakmeimideoaaaCMath
import Derived.IntWalk
namespace Go.Proofs.Ytfakmeimideoaaa
open Go.RowKit Go.Sort

theorem ret_u64 {a b : Int} (h : a = b) : Ending.returned (.int .u64 a) = .returned (.int .u64 b) := by rw [h]
theorem ret_i64 {a b : Int} (h : a = b) : Ending.returned (.int .i64 a) = .returned (.int .i64 b) := by rw [h]

/-- '^n' of an int. -/
theorem not_i64 (n : Int) (h0 : -9223372036854775808 ≤ n) (h1 : n ≤ 9223372036854775807) : bits .xor .i64 (-1) n = -1 - n := by
  show IntKind.i64.wrap ((BitVec.ofInt 64 (-1) ^^^ BitVec.ofInt 64 n).toNat : Int) = _
  have e : BitVec.ofInt 64 (-1) = BitVec.allOnes 64 := by decide
  rw [e, BitVec.allOnes_xor, BitVec.toNat_not, BitVec.toNat_ofInt, IntKind.wrap_i64]
  omega

theorem u64_in (n : Int) (h0 : 0 ≤ n) (h1 : n < 18446744073709551616) : IntKind.u64.wrap n = n := by
  simp [IntKind.wrap, IntKind.bits, IntKind.signed]
  omega

theorem or128 (x : Int) (h0 : 0 ≤ x) (h1 : x < 256) : bits .or .u8 x 128 = x % 128 + 128 := by
  have h : ∀ n : Fin 256, bits .or .u8 ((n.val : Nat) : Int) 128 = ((n.val : Nat) : Int) % 128 + 128 := by decide +kernel
  have e : ((x.toNat : Nat) : Int) = x := by omega
  have := h ⟨x.toNat, by omega⟩
  rwa [e] at this

theorem put_room {l' l e : List Int} {v n M : Nat} (hl : Hid (l' ++ vari v = l ++ e)) (hn : l'.length = n) (hb : Hid (l.length + e.length ≤ M)) : n + 1 ≤ M := by
  have h1 := congrArg List.length hl.out
  have h2 := vari_pos v
  have h3 := hb.out
  simp only [List.length_append] at h1
  omega

theorem put_end {l' l e : List Int} {v : Nat} (hl : Hid (l' ++ vari v = l ++ e)) (hv : v < 128) : l' ++ [(v : Int)] = l ++ e := by
  rw [← hl.out, vari_lt hv]

theorem put_on {l' l e : List Int} {v : Nat} (hl : Hid (l' ++ vari v = l ++ e)) (hv : 128 ≤ v) (x : Int) (hx : x = ((v % 128 + 128 : Nat) : Int)) : l' ++ [x] ++ vari (v / 128) = l ++ e := by
  rw [← hl.out, vari_ge hv, hx, List.append_assoc]
  rfl

end Go.Proofs.Ytfakmeimideoaaa
