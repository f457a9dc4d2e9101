/- Masks: numbers below 65536 as sets of lanes. No function of a program is named here. -/
import Derived.Test.YtegmagjlkflecaaDoorBelow
namespace Go.Proofs.YtegmagjlkflecaaDoor
open Go.RowKit

/-- The number of the lanes below k that are in f. -/
def msk (f : Nat → Bool) : Nat → Nat
  | 0 => 0
  | k + 1 => msk f k + if f k = true then 2 ^ k else 0

theorem msk_zero (f : Nat → Bool) : msk f 0 = 0 := rfl
theorem msk_succ (f : Nat → Bool) (k : Nat) : msk f (k + 1) = msk f k + if f k = true then 2 ^ k else 0 := rfl

theorem msk_lt (f : Nat → Bool) : ∀ k, msk f k < 2 ^ k
  | 0 => by simp [msk]
  | k + 1 => by
    have := msk_lt f k
    rw [msk_succ, Nat.pow_succ]
    split <;> omega

theorem msk_bit (f : Nat → Bool) (i : Nat) : ∀ k, (msk f k).testBit i = (decide (i < k) && f i)
  | 0 => by simp [msk]
  | k + 1 => by
    have h1 := msk_lt f k
    have ih := msk_bit f i k
    rw [msk_succ]
    by_cases hf : f k = true
    · rw [if_pos hf, Nat.add_comm]
      by_cases hi : i < k
      · rw [Nat.testBit_two_pow_add_gt hi, ih]
        simp [hi, show i < k + 1 by omega]
      · by_cases he : i = k
        · subst he
          rw [Nat.testBit_two_pow_add_eq, Nat.testBit_lt_two_pow h1]
          simp [hf]
        · have h2 : 2 ^ k + msk f k < 2 ^ i := Nat.lt_of_lt_of_le (by rw [Nat.pow_succ]; omega : 2 ^ k + msk f k < 2 ^ (k + 1)) (Nat.pow_le_pow_right (by omega) (by omega))
          rw [Nat.testBit_lt_two_pow h2]
          simp [show ¬ i < k + 1 by omega]
    · rw [if_neg hf, Nat.add_zero, ih]
      by_cases hi : i < k
      · simp [hi, show i < k + 1 by omega]
      · by_cases he : i = k
        · subst he
          simp at hf
          simp [hf]
        · simp [hi, show ¬ i < k + 1 by omega]

theorem msk_congr {f g : Nat → Bool} : ∀ {k : Nat}, (∀ i < k, f i = g i) → msk f k = msk g k
  | 0, _ => rfl
  | k + 1, h => by rw [msk_succ, msk_succ, msk_congr (fun i hi => h i (by omega)), h k (by omega)]

/-- A number is told by its lanes. -/
theorem eq_msk {m : Nat} {f : Nat → Bool} (h : m < 65536) (hb : ∀ i < 16, m.testBit i = f i) : m = msk f 16 := by
  apply Nat.eq_of_testBit_eq
  intro i
  rw [msk_bit]
  by_cases hi : i < 16
  · rw [hb i hi]; simp [hi]
  · have h1 : m < 2 ^ i := Nat.lt_of_lt_of_le h (Nat.pow_le_pow_right (by omega : 0 < 2) (by omega : 16 ≤ i))
    rw [Nat.testBit_lt_two_pow h1]
    simp [hi]

theorem msk_self {m : Nat} (h : m < 65536) : msk (fun i => m.testBit i) 16 = m := (eq_msk h fun _ _ => rfl).symm
theorem msk16_lt (f : Nat → Bool) : msk f 16 < 65536 := msk_lt f 16

/-- Is the lane in the mask? -/
def hasB (m : Nat) (lane : Int) : Bool := decide (0 ≤ lane ∧ lane < 16) && m.testBit lane.toNat
theorem hasB_in {m i : Nat} (h : i < 16) : hasB m (i : Int) = m.testBit i := by
  unfold hasB
  rw [Int.toNat_natCast, decide_eq_true (by omega), Bool.true_and]
theorem hasB_out {m : Nat} {lane : Int} (h : ¬ (0 ≤ lane ∧ lane < 16)) : hasB m lane = false := by
  unfold hasB
  rw [decide_eq_false h, Bool.false_and]

theorem bit_div (m i : Nat) : m.testBit i = decide (m / 2 ^ i % 2 = 1) := Nat.testBit_eq_decide_div_mod_eq ..

/-- The lanes of a mask below k, in order. -/
def lnsK (f : Nat → Bool) (k : Nat) : List Int := ((List.range k).filter f).map fun i : Nat => (i : Int)
theorem lnsK_zero (f : Nat → Bool) : lnsK f 0 = [] := rfl
theorem lnsK_succ (f : Nat → Bool) (k : Nat) : lnsK f (k + 1) = lnsK f k ++ if f k = true then [(k : Int)] else [] := by
  unfold lnsK
  rw [List.range_succ, List.filter_append, List.map_append]
  by_cases h : f k = true <;> simp [h]
theorem lnsK_len (f : Nat → Bool) (k : Nat) : (lnsK f k).length ≤ k := by
  unfold lnsK
  rw [List.length_map]
  exact Nat.le_trans (List.length_filter_le _ _) (by simp)
theorem lnsK_mem {f : Nat → Bool} {k : Nat} {x : Int} : x ∈ lnsK f k ↔ ∃ i : Nat, x = i ∧ i < k ∧ f i = true := by
  unfold lnsK
  simp only [List.mem_map, List.mem_filter, List.mem_range]
  constructor
  · rintro ⟨i, ⟨h1, h2⟩, rfl⟩; exact ⟨i, rfl, h1, h2⟩
  · rintro ⟨i, rfl, h1, h2⟩; exact ⟨i, ⟨h1, h2⟩, rfl⟩
/-- The lanes of a mask. -/
def lns (m : Nat) : List Int := lnsK (fun i => m.testBit i) 16

/-- The mask of a list. -/
def ofL (l : List Int) : Nat := msk (fun i => decide ((i : Int) ∈ l)) 16
theorem ofL_lt (l : List Int) : ofL l < 65536 := msk16_lt _
theorem ofL_bit {l : List Int} {i : Nat} (h : i < 16) : (ofL l).testBit i = decide ((i : Int) ∈ l) := by
  unfold ofL
  rw [msk_bit, decide_eq_true h, Bool.true_and]
theorem ofL_lns {f : Nat → Bool} : ofL (lnsK f 16) = msk f 16 := by
  unfold ofL
  refine msk_congr fun i hi => ?_
  by_cases h : f i = true
  · rw [h, decide_eq_true_eq]
    exact lnsK_mem.2 ⟨i, rfl, hi, h⟩
  · simp only [Bool.not_eq_true] at h
    rw [h, decide_eq_false_iff_not]
    intro hm
    obtain ⟨j, e, _, hj⟩ := lnsK_mem.1 hm
    obtain rfl : i = j := by omega
    rw [h] at hj
    cases hj
/-- A mask is restored from its lanes. -/
theorem of_lns {m : Nat} (h : m < 65536) : ofL (lns m) = m := ofL_lns.trans (msk_self h)

end Go.Proofs.YtegmagjlkflecaaDoor
