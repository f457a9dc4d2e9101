/- What power, point, letter, IsName and FormatHash of the reference return. -/
import Derived.Test.YthancgnmbmempaaDoorF2
namespace Go.Proofs.YthancgnmbmempaaDoor
open Go.RowKit Go.Sort

/-- 10^k. -/
def p10 (k : Nat) : Int := 10 ^ k
theorem p10_succ (k : Nat) : p10 (k + 1) = p10 k * 10 := Int.pow_succ 10 k
theorem p10_nat (k : Nat) : p10 k = ((10 ^ k : Nat) : Int) := by unfold p10; simp
theorem p10_pos (k : Nat) : 1 ≤ p10 k := by
  rw [p10_nat]; have := Nat.one_le_pow k 10 (by omega); omega
theorem p10_le {i j : Nat} (h : i ≤ j) : p10 i ≤ p10 j := by
  rw [p10_nat, p10_nat]; have := Nat.pow_le_pow_right (n := 10) (by omega) h; omega

theorem rpower_b (k : Nat) (w : World) (hk : k ≤ 18) :
    Calls Tryd.prog 47 #[.int .i64 k] w fun e w' => e = .returned (.int .i64 (p10 k)) ∧ Below w.heap.size w w' := by
  go_enter Tryd.func47, Tryd.ntmps47
  go_wp2
  go_loop [3, 4] (fun n i => ∃ j : Nat, j ≤ k ∧ i = .int .i64 j ∧ n = .int .i64 (p10 j)) (fun _ i => k - (intOf i).toNat)
  case atStart => exact ⟨0, by omega, rfl, rfl⟩
  case round =>
    obtain ⟨j, hj, rfl, rfl⟩ := hrel
    by_cases hlt : j < k
    · have h1 := p10_pos j
      have h2 := p10_le (show j ≤ 17 by omega)
      rw [show p10 17 = 100000000000000000 by decide] at h2
      have HS := Lib.hid (p10_succ j)
      go_wp2
      go_round
      case rel => exact ⟨j + 1, by omega, by go_num, by rw [HS.out]⟩
      case measure => simp [intOf]; omega
    · obtain rfl : j = k := by omega
      go_wp2
      go_ret
      exact ⟨rfl, Below.refl _ _⟩

/-- The index of the first point, or the length. -/
def pnt (l : List Int) : Nat := (l.takeWhile (· ≠ 46)).length

theorem pnt_le (l : List Int) : pnt l ≤ l.length := (List.takeWhile_sublist _).length_le

theorem pnt_on {l : List Int} {k : Nat} {x : Int} (h : pnt l = k + pnt (l.drop k)) (hx : l[k]? = some x) (hn : x ≠ 46) : pnt l = (k + 1) + pnt (l.drop (k + 1)) := by
  rw [h, list_cut hx]
  unfold pnt
  rw [List.takeWhile_cons_of_pos (by simpa using hn), List.length_cons]
  omega
where
  list_cut {l : List Int} {k : Nat} {x : Int} (hx : l[k]? = some x) : l.drop k = x :: l.drop (k + 1) := by
    have hl : k < l.length := by
      rcases Nat.lt_or_ge k l.length with h' | h'
      · exact h'
      · rw [List.getElem?_eq_none h'] at hx; cases hx
    rw [List.drop_eq_getElem_cons hl]
    rw [List.getElem?_eq_getElem hl] at hx
    injection hx with hx
    rw [hx]

theorem pnt_here {l : List Int} {k : Nat} (h : pnt l = k + pnt (l.drop k)) (hx : l[k]? = some 46) : pnt l = k := by
  rw [h, pnt_on.list_cut hx]
  unfold pnt
  rw [List.takeWhile_cons_of_neg (by simp)]
  rfl

set_option maxRecDepth 100000 in
theorem rpoint_b (s : ByteArray) (w : World) (hs : s.size ≤ 9223372036854775807) :
    Calls Tryd.prog 44 #[.string s] w fun e w' => e = .returned (.int .i64 (pnt (strL s))) ∧ Below w.heap.size w w' := by
  go_enter Tryd.func44, Tryd.ntmps44
  go_wp2
  go_loop [3] (fun i => ∃ k : Nat, k ≤ s.size ∧ i = .int .i64 k ∧ pnt (strL s) = k + pnt ((strL s).drop k)) (fun i => s.size - (intOf i).toNat)
  case atStart => exact ⟨0, by omega, rfl, by simp⟩
  case round =>
    obtain ⟨k, hk, rfl, hp⟩ := hrel
    have HP := Lib.hid hp
    clear hp
    by_cases hlt : k < s.size
    · have hx := Lib.hid (strL_at s k hlt)
      by_cases h46 : ((s[k]).toNat : Int) = 46
      · have he : (((s[k]).toNat : Int) != 46) = false := by simp [h46]
        have HE := Lib.hid h46
        clear h46
        go_wp2
        go_ret
        exact ⟨congrArg (fun n : Nat => Ending.returned (.int .i64 n)) (pnt_here HP.out (by rw [hx.out, HE.out])).symm, Below.refl _ _⟩
      · have he : (((s[k]).toNat : Int) != 46) = true := by simp [h46]
        have HE := Lib.hid h46
        clear h46
        go_wp2
        go_round
        case rel => exact ⟨k + 1, by omega, by go_num, pnt_on HP.out hx.out HE.out⟩
        case measure => simp [intOf]; omega
    · obtain rfl : k = s.size := by omega
      have h1 : Hid (pnt (strL s) = s.size) := Lib.hid (by
        have := HP.out
        rw [List.drop_eq_nil_of_le (by rw [strL_len]; exact Nat.le_refl _)] at this
        simpa [pnt] using this)
      go_wp2
      go_ret
      exact ⟨congrArg (fun n : Nat => Ending.returned (.int .i64 n)) h1.out.symm, Below.refl _ _⟩

/-- Is it a letter or an underscore? -/
def letB (x : Int) : Bool := decide (97 ≤ x ∧ x ≤ 122) || decide (65 ≤ x ∧ x ≤ 90) || decide (x = 95)

theorem ret_bool' {a b : Bool} (h : a = b) : Ending.returned (.bool a) = .returned (.bool b) := by rw [h]

theorem rletter_b (x : Int) (w : World) (h0 : 0 ≤ x) (h1 : x < 256) :
    Calls Tryd.prog 54 #[.int .u8 x] w fun e w' => e = .returned (.bool (letB x)) ∧ Below w.heap.size w w' := by
  have hc : x < 65 ∨ (65 ≤ x ∧ x ≤ 90) ∨ (90 < x ∧ x < 97) ∨ (97 ≤ x ∧ x ≤ 122) ∨ 122 < x := by omega
  have HB : Hid (letB x = (decide (97 ≤ x ∧ x ≤ 122) || decide (65 ≤ x ∧ x ≤ 90) || decide (x = 95))) := Lib.hid rfl
  rcases hc with hc | ⟨hc, hd⟩ | ⟨hc, hd⟩ | ⟨hc, hd⟩ | hc
  all_goals
    go_enter Tryd.func54, Tryd.ntmps54
    go_wp2
    go_ret
    refine ⟨ret_bool' ?_, Below.refl _ _⟩
    rw [HB.out, Bool.eq_iff_iff]
    simp
    try omega

end Go.Proofs.YthancgnmbmempaaDoor
