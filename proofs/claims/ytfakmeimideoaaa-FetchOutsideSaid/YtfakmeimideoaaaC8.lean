/- What Little and PutLittle return, of both. -/
import Derived.Test.YtfakmeimideoaaaC7
import Derived.Test.YtfakmeimideoaaaC3
import Derived.Outline
namespace Go.Proofs.Ytfakmeimideoaaa
open Go.RowKit Go.Sort

/-- The number of some bytes, the least significant one first. -/
def litv : List Int → Int
  | [] => 0
  | x :: r => x + 256 * litv r

theorem pow256_succ (i : Nat) : (256 : Int) ^ (i + 1) = 256 * 256 ^ i := by rw [Int.pow_succ, Int.mul_comm]
theorem pow256_pos (i : Nat) : (1 : Int) ≤ 256 ^ i := by
  have := Nat.one_le_pow i 256 (by omega)
  have e : (256 : Int) ^ i = ((256 ^ i : Nat) : Int) := by simp
  omega
theorem pow256_le {i j : Nat} (h : i ≤ j) : (256 : Int) ^ i ≤ 256 ^ j := by
  have := Nat.pow_le_pow_right (n := 256) (by omega) h
  have e : ∀ i, (256 : Int) ^ i = ((256 ^ i : Nat) : Int) := by intro i; simp
  rw [e, e]; omega
theorem pow_8 (k : Nat) : (2 : Int) ^ (8 * k) = 256 ^ k := by rw [Int.pow_mul]; rfl

theorem litv_append (l : List Int) (x : Int) : litv (l ++ [x]) = litv l + x * 256 ^ l.length := by
  induction l with
  | nil => simp [litv]
  | cons y r ih => simp only [List.cons_append, litv, ih, List.length_cons, pow256_succ, Int.mul_add]; rw [← Int.mul_assoc, ← Int.mul_assoc, Int.mul_comm x 256]; omega

theorem litv_rng (l : List Int) (h : ∀ x ∈ l, (0 : Int) ≤ x ∧ x ≤ 255) : 0 ≤ litv l ∧ litv l < 256 ^ l.length := by
  induction l with
  | nil => simp [litv]
  | cons x r ih =>
    have h1 := h x (by simp)
    have h2 := ih fun y hy => h y (by simp [hy])
    simp only [litv, List.length_cons, pow256_succ]
    omega

theorem or_i64 (m : Nat) (acc y : Int) (h0 : 0 ≤ acc) (h1 : acc < 2 ^ m) (h2 : 0 ≤ y) (h3 : acc + y * 2 ^ m < 9223372036854775808) : bits .or .i64 acc (y * 2 ^ m) = acc + y * 2 ^ m := by
  have e : (2 : Int) ^ m = ((2 ^ m : Nat) : Int) := by simp
  have hy : y * 2 ^ m = ((2 ^ m * y.toNat : Nat) : Int) := by
    rw [e, Int.natCast_mul, Int.toNat_of_nonneg h2, Int.mul_comm]
  have hp : 0 ≤ y * 2 ^ m := by rw [hy]; exact Int.natCast_nonneg _
  have a1 : (BitVec.ofInt 64 acc).toNat = acc.toNat := by rw [BitVec.toNat_ofInt]; omega
  have a2 : (BitVec.ofInt 64 (y * 2 ^ m)).toNat = 2 ^ m * y.toNat := by rw [BitVec.toNat_ofInt, hy]; omega
  have key : (BitVec.ofInt 64 acc ||| BitVec.ofInt 64 (y * 2 ^ m)).toNat = 2 ^ m * y.toNat + acc.toNat := by
    rw [BitVec.toNat_or, a1, a2, Nat.or_comm]
    exact (Nat.two_pow_add_eq_or_of_lt (i := m) (b := acc.toNat) (by omega) y.toNat).symm
  show IntKind.i64.wrap ((BitVec.ofInt 64 acc ||| BitVec.ofInt 64 (y * 2 ^ m)).toNat : Nat) = acc + y * 2 ^ m
  rw [key, IntKind.wrap_i64]
  omega

theorem byte_on (k : Nat) (x acc : Int) (hk : k < 4) (h0 : 0 ≤ acc) (h1 : acc < 256 ^ k) (x0 : 0 ≤ x) (x1 : x < 256) :
    wrap64 (x * 2 ^ (8 * k)) = x * 256 ^ k ∧ bits .or .i64 acc (x * 256 ^ k) = acc + x * 256 ^ k ∧ 0 ≤ acc + x * 256 ^ k ∧ acc + x * 256 ^ k < 256 ^ (k + 1) := by
  have hp := pow256_pos k
  have hs := pow256_succ k
  have hm := Int.mul_le_mul_of_nonneg_right (show x ≤ 255 by omega) (show (0 : Int) ≤ 256 ^ k by omega)
  have hm0 := Int.mul_nonneg x0 (show (0 : Int) ≤ 256 ^ k by omega)
  have h3 := pow256_le (show k ≤ 3 by omega)
  have e : (256 : Int) ^ 3 = 16777216 := by decide
  refine ⟨?_, ?_, by omega, by omega⟩
  · rw [pow_8]; exact IntWalk.wrap64_in _ (by omega)
  · rw [← pow_8] at h1 hm hm0 h3 ⊢
    exact or_i64 (8 * k) acc x h0 h1 x0 (by omega)

/-- m bytes from p on. -/
def part (l : List Int) (p m : Nat) : List Int := (l.drop p).take m

theorem part_at {l : List Int} {p k : Nat} {x : Int} (hx : Hid (l[p + k]? = some x)) : part l p (k + 1) = part l p k ++ [x] := by
  have h := hx.out
  have h2 : (l.drop p)[k]? = some x := by rw [List.getElem?_drop]; exact h
  have hl : k < (l.drop p).length := by
    rcases Nat.lt_or_ge k (l.drop p).length with h' | h'
    · exact h'
    · rw [List.getElem?_eq_none h'] at h2; cases h2
  rw [List.getElem?_eq_getElem hl] at h2
  injection h2 with h2
  unfold part
  rw [List.take_succ_eq_append_getElem hl, h2]

theorem part_len {l : List Int} {p m : Nat} (h : p + m ≤ l.length) : (part l p m).length = m := by
  unfold part; rw [List.length_take, List.length_drop]; omega

theorem part_rng {l : List Int} {p m : Nat} (h : ∀ x ∈ l, (0 : Int) ≤ x ∧ x ≤ 255) : ∀ x ∈ part l p m, (0 : Int) ≤ x ∧ x ≤ 255 :=
  fun x hx => h x (List.mem_of_mem_drop (List.mem_of_mem_take hx))

theorem lit_on {l : List Int} {p k n : Nat} {x : Int} (hl : l.length = n) (hp : p + k ≤ n) (hx : Hid (l[p + k]? = some x)) : litv (part l p (k + 1)) = litv (part l p k) + x * 256 ^ k := by
  rw [part_at hx, litv_append, part_len (by omega)]

theorem part_drop {l : List Int} {p m q : Nat} {x : Int} (hq : q < m) (hx : Hid (l[p + q]? = some x)) : (part l p m).drop q = x :: (part l p m).drop (q + 1) := by
  refine list_step (Lib.hid ?_)
  unfold part
  rw [List.getElem?_take, if_pos hq, List.getElem?_drop]
  exact hx.out

theorem rd_rng255 {w : World} {B n : Nat} {A : Option Addr} {l : List Int} (R : Rd w B .u8 A n l) : ∀ x ∈ l, (0 : Int) ≤ x ∧ x ≤ 255 := by
  intro x hx
  have := R.rng x hx
  rw [u8_min, u8_max] at this
  exact this

set_option maxRecDepth 100000 in
theorem little_yes (A : Option Addr) (n c p m : Nat) (l : List Int) (w : World) (R : Rd w w.heap.size .u8 A n l) (hn : n ≤ 9223372036854775807) (m1 : 1 ≤ m) (m4 : m ≤ 4) (hp : p + m ≤ n) :
    Calls Try.prog 25 #[.slice A n c, .int .i64 p, .int .i64 m] w fun e w' => e = .returned (.int .i64 (litv (part l p m))) ∧ Below w.heap.size w w' := by
  have HL := Lib.hid R.len
  have HR := Lib.hid (rd_rng255 R)
  have HF : Hid (fits n p m) := Lib.hid ⟨by omega, by omega, by omega, by omega⟩
  go_enter Try.func25, Try.ntmps25
  go_wp2_with (go_at_call 36; refine (hasNumber_yes _ _ _ _ _ _ hn HF.out).mono ?_; rintro _ W1 ⟨rfl, B1⟩)
  replace R := R.below B1
  go_loop [7, 15] (fun u i => ∃ (k : Nat) (acc : Int), k ≤ m ∧ i = .int .i64 k ∧ u = .int .i64 acc ∧ litv (part l p k) = acc) (fun _ i => m - (intOf i).toNat)
  case atStart => exact ⟨0, 0, by omega, rfl, rfl, by simp [part, litv]⟩
  case round =>
    obtain ⟨k, acc, hk, rfl, rfl, hh⟩ := hrel
    have HH := Lib.hid hh
    clear hh
    by_cases hlt : k < m
    · obtain ⟨b, off, x, rfl, cx, x0, x1, hx⟩ := R.byte (j := p + k) (by omega)
      have hr := litv_rng (part l p k) (part_rng HR.out)
      rw [HH.out, part_len (by rw [HL.out]; omega)] at hr
      obtain ⟨g1, g2, _, _⟩ := byte_on k x acc (by omega) hr.1 hr.2 x0 x1
      have ho := lit_on HL.out (by omega) hx
      rw [HH.out] at ho
      obtain ⟨y, hy⟩ : ∃ y, y = x * 256 ^ k := ⟨_, rfl⟩
      rw [← hy] at g1 g2 ho
      have HO := Lib.hid ho
      have G1 := Lib.hid g1
      have G2 := Lib.hid g2
      clear hy ho hr R g1 g2
      have hpi : (p : Int) + k < (n : Int) := by omega
      go_wp2
      go_round
      case rel => exact ⟨k + 1, _, by omega, by go_num, rfl, by rw [HO.out, G1.out, G2.out]⟩
      case measure => simp [intOf]; omega
    · obtain rfl : k = m := by omega
      clear R
      go_wp2
      go_ret
      exact ⟨ret_i64 HH.out.symm, B1⟩

theorem little_no (A : Option Addr) (n c : Nat) (a s : Int) (w : World) (hn : n ≤ 9223372036854775807) (h : ¬ fits n a s) :
    Calls Try.prog 25 #[.slice A n c, .int .i64 a, .int .i64 s] w fun e w' => e = .returned (.int .i64 0) ∧ Below w.heap.size w w' := by
  have HF := Lib.hid h
  clear h
  go_enter Try.func25, Try.ntmps25
  go_wp2_with (go_at_call 36; refine (hasNumber_no _ _ _ _ _ _ hn HF.out).mono ?_; rintro _ W1 ⟨rfl, B1⟩)
  go_ret
  exact ⟨rfl, B1⟩

set_option maxRecDepth 100000 in
theorem rlittle_yes (A : Option Addr) (n c p m : Nat) (l : List Int) (w : World) (R : Rd w w.heap.size .u8 A n l) (hn : n ≤ 9223372036854775807) (m1 : 1 ≤ m) (m4 : m ≤ 4) (hp : p + m ≤ n) :
    Calls Try.prog 26 #[.slice A n c, .int .i64 p, .int .i64 m] w fun e w' => e = .returned (.int .i64 (litv (part l p m))) ∧ Below w.heap.size w w' := by
  have HL := Lib.hid R.len
  have HR := Lib.hid (rd_rng255 R)
  have HF : Hid (fits n p m) := Lib.hid ⟨by omega, by omega, by omega, by omega⟩
  have HPL : Hid ((part l p m).length = m) := Lib.hid (part_len (by rw [R.len]; omega))
  go_enter Try.func26, Try.ntmps26
  go_wp2_with (go_at_call 37; refine (inside_yes _ _ _ _ _ _ hn HF.out).mono ?_; rintro _ W1 ⟨rfl, B1⟩)
  replace R := R.below B1
  go_loop [7, 8] (fun u i => (∃ q : Nat, q < m ∧ i = .int .i64 q ∧ u = .int .i64 (litv ((part l p m).drop (q + 1)))) ∨ (i = .int .i64 (-1) ∧ u = .int .i64 (litv (part l p m)))) (fun _ i => (intOf i + 1).toNat)
  case atStart => exact .inl ⟨m - 1, by omega, by go_num, by rw [show m - 1 + 1 = m by omega, List.drop_eq_nil_of_le (by rw [HPL.out]; omega)]; rfl⟩
  case round =>
    rcases hrel with ⟨q, hq, rfl, rfl⟩ | ⟨rfl, rfl⟩
    · obtain ⟨b, off, x, rfl, cx, x0, x1, hx⟩ := R.byte (j := p + q) (by omega)
      have hr := litv_rng ((part l p m).drop (q + 1)) (fun x hx => part_rng HR.out x (List.mem_of_mem_drop hx))
      have h4 := pow256_le (show ((part l p m).drop (q + 1)).length ≤ 4 by rw [List.length_drop, HPL.out]; omega)
      have e4 : (256 : Int) ^ 4 = 4294967296 := by decide
      have hs := part_drop hq hx
      have hv : litv ((part l p m).drop q) = litv ((part l p m).drop (q + 1)) * 256 + x := by rw [hs]; simp only [litv]; omega
      obtain ⟨z, hz⟩ : ∃ z, z = litv ((part l p m).drop (q + 1)) := ⟨_, rfl⟩
      rw [← hz] at hr hv ⊢
      obtain ⟨z0, z1⟩ : 0 ≤ z ∧ z < 4294967296 := by omega
      have HV := Lib.hid hv
      clear hr h4 e4 hs hv hz R
      have hpi : (p : Int) + q < (n : Int) := by omega
      by_cases q0 : q = 0
      · subst q0
        simp only [Nat.add_zero] at cx
        go_wp2
        go_round
        case rel => exact .inr ⟨rfl, by rw [← HV.out]; simp⟩
        case measure => simp [intOf]
      · go_wp2
        go_round
        case rel => exact .inl ⟨q - 1, by omega, by go_num, by rw [show q - 1 + 1 = q by omega, HV.out]⟩
        case measure => simp [intOf] <;> omega
    · clear R
      go_wp2
      go_ret
      exact ⟨rfl, B1⟩

theorem rlittle_no (A : Option Addr) (n c : Nat) (a s : Int) (w : World) (hn : n ≤ 9223372036854775807) (h : ¬ fits n a s) :
    Calls Try.prog 26 #[.slice A n c, .int .i64 a, .int .i64 s] w fun e w' => e = .returned (.int .i64 0) ∧ Below w.heap.size w w' := by
  have HF := Lib.hid h
  clear h
  go_enter Try.func26, Try.ntmps26
  go_wp2_with (go_at_call 37; refine (inside_no _ _ _ _ _ _ hn HF.out).mono ?_; rintro _ W1 ⟨rfl, B1⟩)
  go_ret
  exact ⟨rfl, B1⟩

/-! ### PutLittle -/

/-- j bytes of v are put from p on. -/
def putL (l : List Int) (p : Nat) (v : Int) : Nat → List Int
  | 0 => l
  | j + 1 => (putL l p v j).set (p + j) (v / 256 ^ j % 256)

theorem putL_len (l : List Int) (p : Nat) (v : Int) (j : Nat) : (putL l p v j).length = l.length := by
  induction j with
  | zero => rfl
  | succ j ih => rw [putL, List.length_set, ih]

end Go.Proofs.Ytfakmeimideoaaa
