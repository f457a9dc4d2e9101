/- What Has, Of of the reference return. -/
import Derived.Test.YtegmagjlkflecaaKMath
import Derived.Test.YtegmagjlkflecaaBytes
import Derived.WalkKit
import Derived.Lib.Hide
import Derived.Outline
import Derived.Deep.QuietTactic
import Derived.BigQuiet
import Derived.WalkSpells
import Derived.Test.YtegmagjlkflecaaChecked
namespace Go.Proofs.Ytegmagjlkflecaa
open Go.RowKit Go.Sort

theorem half_step (m i : Nat) (h : m < 65536) : ∃ y : Nat, m / 2 ^ i = y ∧ y < 65536 ∧ (y : Int).tdiv 2 = ((m / 2 ^ (i + 1) : Nat) : Int) ∧ (y : Int) / 2 = ((m / 2 ^ (i + 1) : Nat) : Int) := by
  have e : m / 2 ^ (i + 1) = m / 2 ^ i / 2 := by rw [Nat.pow_succ, Nat.div_div_eq_div_mul]
  have h1 : m / 2 ^ i < 65536 := Nat.lt_of_le_of_lt (Nat.div_le_self _ _) h
  refine ⟨_, rfl, h1, ?_, ?_⟩
  · have q : ∀ a : Nat, (a : Int).tdiv 2 = ((a / 2 : Nat) : Int) := fun a => by rw [Int.tdiv_eq_ediv_of_nonneg (by omega)]; omega
    rw [e]
    exact q _
  · rw [e, Int.natCast_ediv]; rfl

set_option maxRecDepth 100000 in
theorem rhas_q (m : Nat) (lane : Int) (w : World) (hm : m < 65536) :
    Calls Try.prog 11 #[.int .u16 m, .int .i64 lane] w fun e w' => e = .returned (.bool (hasB m lane)) ∧ w = w' := by
  by_cases hr : 0 ≤ lane ∧ lane < 16
  · obtain ⟨i, rfl⟩ : ∃ i : Nat, lane = i := ⟨lane.toNat, by omega⟩
    have hi : i < 16 := by omega
    rw [hasB_in hi, bit_div]
    have HM := Lib.hid hm
    obtain ⟨r, hrr⟩ : ∃ r, decide (m / 2 ^ i % 2 = 1) = r := ⟨_, rfl⟩
    rw [hrr]
    have HR := Lib.hid hrr
    clear hr hrr
    go_enter Try.func11, Try.ntmps11
    go_wp2
    go_loop [5, 6] (fun x j => ∃ k : Nat, k ≤ i ∧ j = .int .i64 k ∧ x = .int .i64 ((m / 2 ^ k : Nat) : Int)) (fun _ j => i - (intOf j).toNat)
    case atStart => exact ⟨0, by omega, rfl, by simp⟩
    case round =>
      obtain ⟨k, hk, rfl, rfl⟩ := hrel
      obtain ⟨y, hy, hy1, hy2, hy3⟩ := half_step m k HM.out
      obtain ⟨z, hz⟩ : ∃ z, m / 2 ^ (k + 1) = z := ⟨_, rfl⟩
      rw [hz] at hy2 hy3
      have hz1 : (z : Int) ≤ 65535 := by omega
      have HZ := Lib.hid hz
      by_cases hlt : k < i
      · rw [hy]
        clear hy
        go_wp2
        go_round
        case rel => exact ⟨k + 1, by omega, by go_num, by rw [HZ.out]⟩
        case measure => simp [intOf]; omega
      · obtain rfl : k = i := by omega
        rw [hy]
        have q : (y : Int).tmod 2 = ((y % 2 : Nat) : Int) := by rw [Int.tmod_eq_emod_of_nonneg (by omega)]; omega
        have hh := HR.out
        rw [hy] at hh
        clear hy hy2 hy3 hz
        by_cases ho : y % 2 = 1
        · rw [ho] at q hh
          obtain rfl : r = true := by rw [← hh]; simp
          clear hh ho
          go_wp2
          go_ret
          exact ⟨rfl, rfl⟩
        · have ho2 : y % 2 = 0 := by omega
          rw [ho2] at q hh
          obtain rfl : r = false := by rw [← hh]; simp
          clear hh ho ho2
          go_wp2
          go_ret
          exact ⟨rfl, rfl⟩
  · rw [hasB_out hr]
    by_cases h0 : lane < 0
    · go_enter Try.func11, Try.ntmps11
      go_wp2
      go_ret
      exact ⟨rfl, rfl⟩
    · have h1 : 15 < lane := by omega
      have h2 : 0 ≤ lane := by omega
      go_enter Try.func11, Try.ntmps11
      go_wp2
      go_ret
      exact ⟨rfl, rfl⟩

theorem bit_step (k : Nat) (h : k < 16) : ∃ b : Nat, 2 ^ k = b ∧ b ≤ 32768 ∧ 2 ^ (k + 1) = b * 2 := ⟨_, rfl, Nat.pow_le_pow_right (by omega : 0 < 2) (by omega : k ≤ 15), by rw [Nat.pow_succ]⟩

theorem not_take_succ {l : List Int} {j : Nat} {x y : Int} (h : ¬ x ∈ l.take j) (hy : l[j]? = some y) (hne : y ≠ x) : ¬ x ∈ l.take (j + 1) := by
  obtain ⟨hj, rfl⟩ := List.getElem?_eq_some_iff.1 hy
  rw [List.take_succ_eq_append_getElem hj]
  intro hm
  rcases List.mem_append.1 hm with hm | hm
  · exact h hm
  · simp at hm; exact hne hm.symm

set_option maxRecDepth 100000 in
theorem rof_q (A : Option Addr) (n c : Nat) (l : List Int) (w : World) (R : Rd w w.heap.size .i64 A n l) (hn : n ≤ 9223372036854775807) :
    Calls Try.prog 27 #[.slice A n c] w fun e w' => e = .returned (.int .u16 (ofL l : Nat)) ∧ w = w' := by
  have HL := Lib.hid R.len
  obtain ⟨f, hf⟩ : ∃ f : Nat → Bool, (fun i : Nat => decide ((i : Int) ∈ l)) = f := ⟨_, rfl⟩
  have HF : Hid (∀ i : Nat, f i = decide ((i : Int) ∈ l)) := Lib.hid (fun i => by rw [← hf])
  have e : ofL l = msk f 16 := by unfold ofL; rw [hf]
  rw [e]
  clear e hf
  go_enter Try.func27, Try.ntmps27
  go_wp2
  go_loop [3, 4, 5] (fun m b k => ∃ j : Nat, j ≤ 16 ∧ k = .int .i64 j ∧ m = .int .i64 (msk f j : Nat) ∧ b = .int .i64 ((2 ^ j : Nat) : Int)) (fun _ _ k => 16 - (intOf k).toNat)
  case atStart => exact ⟨0, by omega, rfl, rfl, rfl⟩
  case round =>
    obtain ⟨j, hj, rfl, rfl, rfl⟩ := hrel
    by_cases hlt : j < 16
    · obtain ⟨b, hb, hb1, hb2⟩ := bit_step j hlt
      obtain ⟨m, hm⟩ : ∃ m, msk f j = m := ⟨_, rfl⟩
      have hm1 : m < 65536 := by rw [← hm]; exact Nat.lt_of_lt_of_le (msk_lt f j) (by rw [hb]; omega)
      have hs := msk_succ f j
      rw [hm, hb] at hs
      have HS := Lib.hid hs
      have HB := Lib.hid hb2
      rw [hm, hb]
      clear hm hb hs hb2
      go_wp2
      go_loop [3, 6] (fun x i => ∃ q : Nat, q ≤ n ∧ i = .int .i64 q ∧ x = .int .i64 (m : Nat) ∧ ¬ ((j : Int) ∈ l.take q)) (fun _ i => n - (intOf i).toNat)
      case atStart => exact ⟨0, by omega, rfl, rfl, by simp⟩
      case round =>
        obtain ⟨q, hq, rfl, rfl, hno⟩ := hrel
        by_cases hlq : q < n
        · obtain ⟨b1, o1, y, rfl, cy, y0, y1, hy⟩ := R.int hlq
          by_cases hyj : y = (j : Int)
          · have hfj : f j = true := by rw [HF.out, decide_eq_true_eq, ← hyj]; exact List.mem_of_getElem? hy.out
            have hs := HS.out
            rw [if_pos hfj] at hs
            have HS2 := Lib.hid hs
            subst hyj
            clear hs hfj hy hno R
            go_wp2
            go_round
            case rel => exact ⟨j + 1, by omega, by go_num, by rw [HS2.out]; go_num, by rw [HB.out]; go_num⟩
            case measure => simp [intOf]; omega
          · have hno2 := Lib.hid (not_take_succ hno hy.out hyj)
            clear hy hno R
            go_wp2
            go_round
            case rel => exact ⟨q + 1, by omega, by go_num, rfl, hno2.out⟩
            case measure => simp [intOf]; omega
        · obtain rfl : q = n := by omega
          rw [List.take_of_length_le (by rw [HL.out]; exact Nat.le_refl _)] at hno
          have hfj : ¬ f j = true := by rw [HF.out, decide_eq_true_eq]; exact hno
          have hs := HS.out
          rw [if_neg hfj] at hs
          have HS2 := Lib.hid hs
          clear hs hfj hno R
          go_wp2
          go_round
          case rel => exact ⟨j + 1, by omega, by go_num, by rw [HS2.out]; go_num, by rw [HB.out]; go_num⟩
          case measure => simp [intOf]; omega
    · obtain rfl : j = 16 := by omega
      obtain ⟨m, hm⟩ : ∃ m, msk f 16 = m := ⟨_, rfl⟩
      have hm1 : m < 65536 := by rw [← hm]; exact msk16_lt f
      have hm2 : IntKind.u16.wrap (m : Int) = m := by rw [IntKind.wrap_u16]; omega
      rw [hm]
      have HM := Lib.hid hm
      clear hm
      go_wp2
      go_ret
      exact ⟨by rw [HM.out]; rfl, rfl⟩

end Go.Proofs.Ytegmagjlkflecaa
