/- What All, With, Count, First, Text of the reference return. -/
import Derived.Test.YtegmagjlkflecaaDoorK2
import Derived.Test.YtegmagjlkflecaaDoorStr
namespace Go.Proofs.YtegmagjlkflecaaDoor
open Go.RowKit Go.Sort

theorem lnsK_stop {f : Nat → Bool} {j : Nat} : ∀ {k : Nat}, j ≤ k → (∀ i, j ≤ i → i < k → f i = false) → lnsK f k = lnsK f j
  | 0, h, _ => by rw [show j = 0 by omega]
  | k + 1, h, hf => by
    rcases Nat.lt_or_ge j (k + 1) with hj | hj
    · rw [lnsK_no (hf k (by omega) (by omega)), lnsK_stop (by omega) (fun i h1 h2 => hf i h1 (by omega))]
    · rw [show j = k + 1 by omega]

theorem lns_len (m : Nat) : (lns m).length ≤ 16 := lnsK_len _ 16

theorem ofL_with (m : Nat) (lane : Int) : ofL (lns m ++ [lane]) = msk (fun i : Nat => m.testBit i || decide ((i : Int) = lane)) 16 := by
  unfold ofL
  refine msk_congr fun i hi => ?_
  have h1 : ((i : Int) ∈ lns m) ↔ m.testBit i = true := by
    unfold lns
    rw [lnsK_mem]
    constructor
    · rintro ⟨k, e, _, hk⟩
      obtain rfl : i = k := by omega
      exact hk
    · exact fun h => ⟨i, rfl, hi, h⟩
  by_cases hb : m.testBit i = true
  · simp [List.mem_append, h1, hb]
  · simp [List.mem_append, h1, hb]

set_option maxRecDepth 100000 in
theorem rcount_b (m : Nat) (w : World) (hm : m < 65536) :
    Calls Tryd.prog 5 #[.int .u16 m] w fun e w' => e = .returned (.int .i64 ((lns m).length : Nat)) ∧ Below w.heap.size w w' := by
  have BB : Below w.heap.size w w := Below.refl _ _
  have c1 := fun W => rlanes_b m W hm
  obtain ⟨L, hL⟩ : ∃ L, lns m = L := ⟨_, rfl⟩
  rw [hL] at c1 ⊢
  have C1 := Lib.hid c1
  clear c1 hL
  go_enter Tryd.func5, Tryd.ntmps5
  go_wp2_with (go_at_call 10; refine (C1.out _).mono ?_; rintro _ W1 ⟨A1, n1, d1, rfl, own1, B⟩; have hn1 := own1.len; clear own1; replace BB := bon BB B)
  go_ret
  exact ⟨by rw [hn1]; rfl, BB⟩

/-- The first number of a list, or -1. -/
def fst1 (l : List Int) : Int := l.headD (-1)

set_option maxRecDepth 100000 in
theorem rfirst_b (m : Nat) (w : World) (hm : m < 65536) :
    Calls Tryd.prog 7 #[.int .u16 m] w fun e w' => e = .returned (.int .i64 (fst1 (lns m))) ∧ Below w.heap.size w w' := by
  have BB : Below w.heap.size w w := Below.refl _ _
  have c1 := fun W => rlanes_b m W hm
  obtain ⟨L, hL⟩ : ∃ L, lns m = L := ⟨_, rfl⟩
  rw [hL] at c1 ⊢
  have C1 := Lib.hid c1
  clear c1 hL
  match L, C1 with
  | [], C1 =>
    go_enter Tryd.func7, Tryd.ntmps7
    go_wp2_with (go_at_call 10; refine (C1.out _).mono ?_; rintro _ W1 ⟨A1, n1, d1, rfl, own1, B⟩; obtain rfl : n1 = 0 := own1.len.symm; clear own1; replace BB := bon BB B)
    go_ret
    exact ⟨rfl, BB⟩
  | x :: r, C1 =>
    go_enter Tryd.func7, Tryd.ntmps7
    go_wp2_with (go_at_call 10; refine (C1.out _).mono ?_; rintro _ W1 ⟨A1, n1, d1, rfl, own1, B⟩; have hn1 : r.length + 1 = n1 := own1.len; obtain ⟨b1, o1, y, rfl, cy, _, _, hy⟩ := own1.rd.int (show 0 < n1 by omega); obtain rfl : y = x := (by have h := hy.out; simp at h; exact h.symm); rw [Nat.add_zero] at cy; clear own1 hy; replace BB := bon BB B)
    go_ret
    exact ⟨rfl, BB⟩

/-- The text of a mask's first k lanes. -/
def txtK (f : Nat → Bool) (k : Nat) : ByteArray := strOfNums ((List.range k).map fun i => if f i = true then (49 : Int) else 46)
theorem txtK_L (f : Nat → Bool) (k : Nat) : strL (txtK f k) = (List.range k).map fun i => if f i = true then (49 : Int) else 46 := strL_of (by
  intro y hy
  obtain ⟨i, _, rfl⟩ := List.mem_map.1 hy
  split <;> omega)
theorem txtK_size (f : Nat → Bool) (k : Nat) : (txtK f k).size = k := by rw [← strL_len, txtK_L]; simp
theorem txtK_yes {f : Nat → Bool} {k : Nat} (h : f k = true) : txtK f k ++ ⟨#[49]⟩ = txtK f (k + 1) := by
  apply str_ext
  rw [strL_append, txtK_L, txtK_L, List.range_succ, List.map_append]
  simp [h, strL]
theorem txtK_no {f : Nat → Bool} {k : Nat} (h : f k = false) : txtK f k ++ ⟨#[46]⟩ = txtK f (k + 1) := by
  apply str_ext
  rw [strL_append, txtK_L, txtK_L, List.range_succ, List.map_append]
  simp [h, strL]

set_option maxRecDepth 100000 in
theorem rtext_b (m : Nat) (w : World) (hm : m < 65536) :
    Calls Tryd.prog 12 #[.int .u16 m] w fun e w' => e = .returned (.string (txtK (fun i => m.testBit i) 16)) ∧ w = w' := by
  obtain ⟨f, hf⟩ : ∃ f : Nat → Bool, (fun i : Nat => m.testBit i) = f := ⟨_, rfl⟩
  have HF : Hid (∀ i : Nat, f i = m.testBit i) := Lib.hid (fun i => by rw [← hf])
  rw [hf]
  clear hf
  go_enter Tryd.func12, Tryd.ntmps12
  go_wp2
  go_loop [3, 4] (fun s i => ∃ j : Nat, j ≤ 16 ∧ i = .int .i64 j ∧ s = .string (txtK f j)) (fun _ i => 16 - (intOf i).toNat)
  case atStart => exact ⟨0, by omega, rfl, rfl⟩
  case round =>
    obtain ⟨j, hj, rfl, rfl⟩ := hrel
    by_cases hlt : j < 16
    · have c1 := fun W => rhas_q m (j : Int) W hm
      rw [hasB_in hlt] at c1
      have hsz := txtK_size f j
      cases hb : Nat.testBit m j
      · rw [hb] at c1
        have C1 := Lib.hid c1
        have H := Lib.hid (txtK_no (f := f) (k := j) (by rw [HF.out]; exact hb))
        clear c1 hb
        go_wp2_with (go_at_call 19; with_reducible refine (C1.out _).mono ?_; rintro _ _ ⟨rfl, rfl⟩)
        go_round
        case rel => exact ⟨j + 1, by omega, by go_num, by rw [← H.out]⟩
        case measure => simp [intOf]; omega
      · rw [hb] at c1
        have C1 := Lib.hid c1
        have H := Lib.hid (txtK_yes (f := f) (k := j) (by rw [HF.out]; exact hb))
        clear c1 hb
        go_wp2_with (go_at_call 19; with_reducible refine (C1.out _).mono ?_; rintro _ _ ⟨rfl, rfl⟩)
        go_round
        case rel => exact ⟨j + 1, by omega, by go_num, by rw [← H.out]⟩
        case measure => simp [intOf]; omega
    · obtain rfl : j = 16 := by omega
      go_wp2
      go_ret
      exact ⟨rfl, rfl⟩

end Go.Proofs.YtegmagjlkflecaaDoor
