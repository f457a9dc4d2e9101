/- Strings as lists of integers; slices of strings that read as lists, and such slices of the call's own. No function of a program is named here. -/
import Derived.Test.YtnhnbblplnhmlaaGreatDoorBytes
import Derived.Laws.BytesArg
import Derived.SliceStrings
namespace Go.Proofs.YtnhnbblplnhmlaaGreatDoor
set_option linter.unusedSimpArgs false
open Go.ChangeShapes Go.WideShapes Go.RowKit

/-- A string's bytes. -/
def strL (s : ByteArray) : List Int := s.data.toList.map fun b => (b.toNat : Int)

theorem strL_len (s : ByteArray) : (strL s).length = s.size := by
  rw [strL, List.length_map, Array.length_toList]; rfl

theorem strL_drop (s : ByteArray) (k : Nat) (h : k < s.size) : (strL s).drop k = ((s[k]).toNat : Int) :: (strL s).drop (k + 1) := by
  have hl : k < (strL s).length := by rw [strL_len]; exact h
  rw [List.drop_eq_getElem_cons hl]
  congr 1
  simp [strL]
  rfl

theorem strL_at (s : ByteArray) (k : Nat) (h : k < s.size) : (strL s)[k]? = some ((s[k]).toNat : Int) := by
  have hl : k < (strL s).length := by rw [strL_len]; exact h
  have h1 := strL_drop s k h
  rw [List.drop_eq_getElem_cons hl] at h1
  rw [List.getElem?_eq_getElem hl]
  injection h1 with h1
  rw [h1]

theorem strL_rng (s : ByteArray) : ∀ x ∈ strL s, (0 : Int) ≤ x ∧ x ≤ 255 := by
  intro x hx
  obtain ⟨b, _, rfl⟩ := List.mem_map.1 hx
  have := b.toNat_lt
  omega

theorem strL_append (a b : ByteArray) : strL (a ++ b) = strL a ++ strL b := by
  unfold strL
  rw [ByteArray.data_append, Array.toList_append, List.map_append]

theorem strL_of {x : List Int} (h : ∀ y ∈ x, (0 : Int) ≤ y ∧ y ≤ 255) : strL (strOfNums x) = x := by
  unfold strL
  rw [strOfNums_data, List.map_map]
  have : ∀ y ∈ x, ((fun b : UInt8 => (b.toNat : Int)) ∘ fun n : Int => UInt8.ofNat n.toNat) y = y := by
    intro y hy
    have := h y hy
    simp only [Function.comp, UInt8.toNat_ofNat']
    omega
  rw [List.map_congr_left this, List.map_id']

theorem strOf_strL (s : ByteArray) : strOfNums (strL s) = s := by
  obtain ⟨d⟩ := s
  unfold strOfNums strL
  congr 1
  apply Array.ext'
  simp only [List.map_map]
  have : ∀ y ∈ d.toList, ((fun n : Int => UInt8.ofNat n.toNat) ∘ fun b : UInt8 => (b.toNat : Int)) y = y := by
    intro y _
    simp only [Function.comp, Int.toNat_natCast, UInt8.ofNat_toNat]
  rw [List.map_congr_left this, List.map_id']

/-- Two strings of the same bytes. -/
theorem str_ext {a b : ByteArray} (h : strL a = strL b) : a = b := by rw [← strOf_strL a, h, strOf_strL]

theorem strL_empty : strL ⟨#[]⟩ = [] := rfl

theorem strL_extract (s : ByteArray) (i j : Nat) : strL (s.extract i j) = ((strL s).drop i).take (j - i) := by
  unfold strL
  rw [ByteArray.data_extract, Array.toList_extract, List.extract_eq_take_drop, List.map_take, List.map_drop]

end Go.Proofs.YtnhnbblplnhmlaaGreatDoor
