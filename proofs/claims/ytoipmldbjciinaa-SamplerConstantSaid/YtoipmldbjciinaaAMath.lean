/- The numbers of addressing. No function of a program is named here. -/
import Derived.Test.YtoipmldbjciinaaBelow
import Derived.Lib.Hide
namespace Go.Proofs.Ytoipmldbjciinaa
open Go.RowKit

/-- The remainder; the modes; the index; the period. -/
def modv (i n : Int) : Int := if n < 1 then 0 else i % n
def avalid (m : Int) : Bool := decide (1 ≤ m ∧ m ≤ 4)
def idxv (m i s : Int) : Int :=
  if 1 ≤ s ∧ s ≤ 64 then
    if m = 1 then i % s
    else if m = 2 then (if i % (2 * s) < s then i % (2 * s) else 2 * s - 1 - i % (2 * s))
    else if m = 3 then (if i < 0 then 0 else if s ≤ i then s - 1 else i)
    else if m = 4 then (if 0 ≤ i ∧ i < s then i else -1)
    else -1
  else -1
def perv (m s : Int) : Int := if 1 ≤ s ∧ s ≤ 64 then (if m = 1 then s else if m = 2 then 2 * s else 0) else 0
def succv (i : Int) : Int := if i < 9223372036854775807 then i + 1 else i
def atext (m : Int) : ByteArray :=
  if m = 1 then ⟨#[114, 101, 112, 101, 97, 116]⟩ else if m = 2 then ⟨#[109, 105, 114, 114, 111, 114]⟩ else if m = 3 then ⟨#[101, 100, 103, 101]⟩
  else if m = 4 then ⟨#[98, 111, 114, 100, 101, 114]⟩ else ⟨#[63]⟩

theorem tmod_steps (i n : Int) (h : 1 ≤ n) : ∃ t, i.tmod n = t ∧ -n < t ∧ t < n ∧ (t < 0 → i % n = t + n) ∧ (0 ≤ t → i % n = t) := by
  have h1 := Int.tmod_eq_emod (a := i) (b := n)
  have h2 := Int.emod_nonneg i (show n ≠ 0 by omega)
  have h3 := Int.emod_lt_of_pos i (show 0 < n by omega)
  refine ⟨_, rfl, ?_⟩
  rw [h1]
  split
  · refine ⟨by omega, by omega, fun h => by omega, fun _ => by omega⟩
  · rename_i hd
    have h4 : 0 < i % n := by
      rcases Int.lt_or_eq_of_le h2 with h' | h'
      · exact h'
      · exact absurd (Int.dvd_of_emod_eq_zero h'.symm) (fun hh => hd (.inr hh))
    have h5 : (n.natAbs : Int) = n := by omega
    rw [h5]
    exact ⟨by omega, by omega, fun _ => by omega, fun h => by omega⟩

theorem modv_rng (i n : Int) (h : 1 ≤ n) : 0 ≤ i % n ∧ i % n < n := ⟨Int.emod_nonneg i (by omega), Int.emod_lt_of_pos i (by omega)⟩

theorem idxv_rng (m i s : Int) (h : 1 ≤ s ∧ s ≤ 64) : -1 ≤ idxv m i s ∧ idxv m i s < s := by
  have h1 := modv_rng i s h.1
  have h2 := modv_rng i (2 * s) (by omega)
  unfold idxv
  rw [if_pos h]
  repeat' split
  all_goals omega

theorem idxv_one {i s : Int} (h : 1 ≤ s ∧ s ≤ 64) : idxv 1 i s = i % s := by unfold idxv; rw [if_pos h, if_pos rfl]
theorem idxv_two {i s : Int} (h : 1 ≤ s ∧ s ≤ 64) : idxv 2 i s = if i % (2 * s) < s then i % (2 * s) else 2 * s - 1 - i % (2 * s) := by unfold idxv; rw [if_pos h, if_neg (by omega), if_pos rfl]
theorem idxv_three {i s : Int} (h : 1 ≤ s ∧ s ≤ 64) : idxv 3 i s = if i < 0 then 0 else if s ≤ i then s - 1 else i := by unfold idxv; rw [if_pos h, if_neg (by omega), if_neg (by omega), if_pos rfl]
theorem idxv_four {i s : Int} (h : 1 ≤ s ∧ s ≤ 64) : idxv 4 i s = if 0 ≤ i ∧ i < s then i else -1 := by unfold idxv; rw [if_pos h, if_neg (by omega), if_neg (by omega), if_neg (by omega), if_pos rfl]
theorem idxv_none {m i s : Int} (h : m ≠ 1 ∧ m ≠ 2 ∧ m ≠ 3 ∧ m ≠ 4) : idxv m i s = -1 := by unfold idxv; rw [if_neg h.1, if_neg h.2.1, if_neg h.2.2.1, if_neg h.2.2.2]; simp
theorem idxv_size {m i s : Int} (h : ¬ (1 ≤ s ∧ s ≤ 64)) : idxv m i s = -1 := by unfold idxv; rw [if_neg h]

/-- The consequences. -/
theorem inside_in {m i s : Int} (h : 1 ≤ s ∧ s ≤ 64) (hm : 1 ≤ m ∧ m ≤ 4) (hi : 0 ≤ i ∧ i < s) : idxv m i s = i := by
  have h1 : i % s = i := Int.emod_eq_of_lt hi.1 hi.2
  have h2 : i % (2 * s) = i := Int.emod_eq_of_lt hi.1 (by omega)
  rcases (show m = 1 ∨ m = 2 ∨ m = 3 ∨ m = 4 by omega) with rfl | rfl | rfl | rfl
  · rw [idxv_one h, h1]
  · rw [idxv_two h, h2, if_pos hi.2]
  · rw [idxv_three h, if_neg (by omega), if_neg (by omega)]
  · rw [idxv_four h, if_pos hi]
theorem inside_border {i s : Int} (h : 1 ≤ s ∧ s ≤ 64) (hi : ¬ (0 ≤ i ∧ i < s)) : idxv 4 i s = -1 := by rw [idxv_four h, if_neg hi]
theorem inside_out {m i s : Int} (h : 1 ≤ s ∧ s ≤ 64) (hm : 1 ≤ m ∧ m ≤ 3) : 0 ≤ idxv m i s ∧ idxv m i s < s := by
  have h1 := modv_rng i s h.1
  have h2 := modv_rng i (2 * s) (by omega)
  rcases (show m = 1 ∨ m = 2 ∨ m = 3 by omega) with rfl | rfl | rfl
  · rw [idxv_one h]; exact h1
  · rw [idxv_two h]; split <;> omega
  · rw [idxv_three h]; split
    · omega
    · split <;> omega

theorem idxv_period (m i s : Int) : idxv m i s = idxv m (i + perv m s) s := by
  by_cases h : 1 ≤ s ∧ s ≤ 64
  · unfold perv
    rw [if_pos h]
    by_cases h1 : m = 1
    · subst h1
      rw [if_pos rfl, idxv_one h, idxv_one h, Int.add_emod_right]
    · rw [if_neg h1]
      by_cases h2 : m = 2
      · subst h2
        rw [if_pos rfl, idxv_two h, idxv_two h, Int.add_emod_right]
      · rw [if_neg h2, Int.add_zero]
  · rw [idxv_size h, idxv_size h]

theorem mirror_sym {i s : Int} (h : 1 ≤ s ∧ s ≤ 64) : idxv 2 i s = idxv 2 (-1 - i) s := by
  have h2 := modv_rng i (2 * s) (by omega)
  have e : (-1 - i) % (2 * s) = 2 * s - 1 - i % (2 * s) := by
    rw [Int.emod_eq_iff (by omega)]
    refine ⟨by omega, by omega, ?_⟩
    obtain ⟨q, hq⟩ : ∃ q, i / (2 * s) = q := ⟨_, rfl⟩
    have h3 := Int.emod_add_mul_ediv i (2 * s)
    rw [hq] at h3
    exact ⟨q + 1, by rw [Int.mul_add]; omega⟩
  rw [idxv_two h, idxv_two h, e]
  split <;> split <;> omega

theorem mirror_near {i s : Int} (h : 1 ≤ s ∧ s ≤ 64) : idxv 2 i s - idxv 2 (i + 1) s ≤ 1 ∧ idxv 2 (i + 1) s - idxv 2 i s ≤ 1 := by
  have h2 := modv_rng i (2 * s) (by omega)
  have e : (i + 1) % (2 * s) = if i % (2 * s) = 2 * s - 1 then 0 else i % (2 * s) + 1 := by
    rw [Int.add_emod, Int.emod_eq_of_lt (a := 1) (by omega) (by omega)]
    split
    · rename_i h3
      rw [h3, show 2 * s - 1 + 1 = 2 * s by omega, Int.emod_self]
    · exact Int.emod_eq_of_lt (by omega) (by omega)
  rw [idxv_two h, idxv_two h, e]
  repeat' split
  all_goals omega

end Go.Proofs.Ytoipmldbjciinaa
