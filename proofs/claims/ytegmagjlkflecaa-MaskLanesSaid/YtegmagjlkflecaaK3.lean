/- What All, With, Count, First, Text of the reference return. -/
import Derived.Test.YtegmagjlkflecaaK2
import Derived.Test.YtegmagjlkflecaaStr
namespace Go.Proofs.Ytegmagjlkflecaa
open Go.RowKit Go.Sort

theorem lnsK_stop {f : Nat → Bool} {j : Nat} : ∀ {k : Nat}, j ≤ k → (∀ i, j ≤ i → i < k → f i = false) → lnsK f k = lnsK f j
  | 0, h, _ => by rw [show j = 0 by omega]
  | k + 1, h, hf => by
    rcases Nat.lt_or_ge j (k + 1) with hj | hj
    · rw [lnsK_no (hf k (by omega) (by omega)), lnsK_stop (by omega) (fun i h1 h2 => hf i h1 (by omega))]
    · rw [show j = k + 1 by omega]

set_option maxRecDepth 100000 in
theorem rall_b (n : Int) (w : World) :
    Calls Try.prog 9 #[.int .i64 n] w fun e w' => e = .returned (.int .u16 (msk (fun i : Nat => decide ((i : Int) < n)) 16 : Nat)) ∧ Below w.heap.size w w' := by
  have own0 := Own.made w 3 .i64
  have B0 : Below w.heap.size w (w.alloc (.cells #[] 3)) := (Below.refl _ _).alloc (Nat.le_refl _) _
  have OWN0 := Lib.hid own0
  obtain ⟨f, hf⟩ : ∃ f : Nat → Bool, (fun i : Nat => decide ((i : Int) < n)) = f := ⟨_, rfl⟩
  have HF : Hid (∀ i : Nat, f i = decide ((i : Int) < n)) := Lib.hid (fun i => by rw [← hf])
  rw [hf]
  clear hf own0
  go_enter Try.func9, Try.ntmps9
  go_wp2
  go_loopw [3, 4] (fun t i wr => ∃ (j m cap : Nat) (A : Option Addr), j ≤ 16 ∧ i = .int .i64 j ∧ t = .slice A m cap ∧ Own wr w.heap.size 3 .i64 A m cap (lnsK f j) ∧ Below w.heap.size w wr) (fun _ i _ => 16 - (intOf i).toNat)
  case atStart => exact ⟨0, 0, 0, _, by omega, rfl, rfl, OWN0.out, B0⟩
  case round =>
    clear OWN0 B0
    obtain ⟨j, m, cap, A, hj, rfl, rfl, own, BB⟩ := hrel
    have hnj : m ≤ j := by rw [← own.len]; exact lnsK_len f j
    have OWN := Lib.hid own
    clear own
    by_cases hgo : j < 16 ∧ (j : Int) < n
    · obtain ⟨hlt, hjn⟩ := hgo
      have hfj : f j = true := by rw [HF.out]; simpa using hjn
      have OWN1 : Hid (∀ W A n c, Own W w.heap.size 3 .i64 A n c (lnsK f j ++ [(j : Int)]) → Own W w.heap.size 3 .i64 A n c (lnsK f (j + 1))) := Lib.hid (fun W A n c h => by rw [lnsK_yes hfj]; exact h)
      clear hfj
      go_wp2_with (at_builtin; refine wpList_app1 _ rfl _ _ _ rfl eI OWN.out rfl (by rw [i64_min, i64_max]; omega) rfl (by simp only [maxLen]; omega) (by omega) ?_; intro A1 m1 d1 W1 own1 B1; obtain rfl : m1 = m + 1 := app_len OWN.out own1)
      go_roundw
      case rel => exact ⟨j + 1, _, d1, A1, by omega, by go_num, rfl, OWN1.out _ _ _ _ own1, BB.trans B1⟩
      case measure => simp [intOf]; omega
    · have hst : lnsK f 16 = lnsK f j := lnsK_stop hj (fun i h1 h2 => by rw [HF.out]; simp; omega)
      have hof := fun W R => rof_q A m cap (lnsK f j) W R (by omega)
      rw [← hst, ofL_lns] at hof
      rw [hst] at hof
      have HO := Lib.hid hof
      clear hof hst
      by_cases h16 : j < 16
      · have hjn : n ≤ (j : Int) := by omega
        clear hgo
        go_wp2_with (go_at_call 27; refine (HO.out _ OWN.out.rd).mono ?_; rintro _ _ ⟨rfl, rfl⟩)
        go_ret
        exact ⟨rfl, BB⟩
      · obtain rfl : j = 16 := by omega
        clear hgo
        go_wp2_with (go_at_call 27; refine (HO.out _ OWN.out.rd).mono ?_; rintro _ _ ⟨rfl, rfl⟩)
        go_ret
        exact ⟨rfl, BB⟩

theorem lns_len (m : Nat) : (lns m).length ≤ 16 := lnsK_len _ 16

theorem ofL_with (m : Nat) (lane : Int) : ofL (lns m ++ [lane]) = msk (fun i : Nat => m.testBit i || decide ((i : Int) = lane)) 16 := by
  unfold ofL
  refine msk_congr fun i hi => ?_
  have h1 : ((i : Int) ∈ lns m) ↔ m.testBit i = true := by
    unfold lns
    rw [lnsK_mem]
    constructor
    · rintro ⟨k, e, _, hk⟩
      obtain rfl : i = k := by omega
      exact hk
    · exact fun h => ⟨i, rfl, hi, h⟩
  by_cases hb : m.testBit i = true
  · simp [List.mem_append, h1, hb]
  · simp [List.mem_append, h1, hb]

set_option maxRecDepth 100000 in
theorem rwith_b (m : Nat) (lane : Int) (w : World) (hm : m < 65536) (h1 : -9223372036854775808 ≤ lane) (h2 : lane ≤ 9223372036854775807) :
    Calls Try.prog 13 #[.int .u16 m, .int .i64 lane] w fun e w' => e = .returned (.int .u16 (msk (fun i : Nat => m.testBit i || decide ((i : Int) = lane)) 16 : Nat)) ∧ Below w.heap.size w w' := by
  have BB : Below w.heap.size w w := Below.refl _ _
  have c1 := fun W => rlanes_b m W hm
  have hl := lns_len m
  have c2 := fun A n c W R hn => rof_q A n c (lns m ++ [lane]) W R hn
  rw [ofL_with] at c2
  obtain ⟨r, hr⟩ : ∃ r, msk (fun i : Nat => m.testBit i || decide ((i : Int) = lane)) 16 = r := ⟨_, rfl⟩
  rw [hr] at c2 ⊢
  obtain ⟨L, hL⟩ : ∃ L, lns m = L := ⟨_, rfl⟩
  rw [hL] at c1 c2 hl
  have C1 := Lib.hid c1
  have C2 := Lib.hid c2
  clear c1 c2 hr hL
  go_enter Try.func13, Try.ntmps13
  go_wp2_with (first
    | (go_at_call 29; refine (C1.out _).mono ?_; rintro _ W1 ⟨A1, n1, d1, rfl, own1, B⟩; have hn1 := own1.len; have OWN := Lib.hid own1; clear own1; replace BB := bon BB B)
    | (at_builtin; refine wpList_app1 _ rfl _ _ _ rfl eI OWN.out rfl (by rw [i64_min, i64_max]; omega) rfl (by simp only [maxLen]; omega) (by omega) ?_; intro A2 n2 d2 W2 own2 B2; obtain rfl : n2 = n1 + 1 := app_len OWN.out own2; replace BB := BB.trans B2)
    | (go_at_call 27; refine (C2.out _ _ _ _ own2.rd (by omega)).mono ?_; rintro _ _ ⟨rfl, rfl⟩))
  go_ret
  exact ⟨rfl, BB⟩

/-- The first number of a list, or -1. -/
def fst1 (l : List Int) : Int := l.headD (-1)

/-- The text of a mask's first k lanes. -/
def txtK (f : Nat → Bool) (k : Nat) : ByteArray := strOfNums ((List.range k).map fun i => if f i = true then (49 : Int) else 46)
theorem txtK_L (f : Nat → Bool) (k : Nat) : strL (txtK f k) = (List.range k).map fun i => if f i = true then (49 : Int) else 46 := strL_of (by
  intro y hy
  obtain ⟨i, _, rfl⟩ := List.mem_map.1 hy
  split <;> omega)
theorem txtK_size (f : Nat → Bool) (k : Nat) : (txtK f k).size = k := by rw [← strL_len, txtK_L]; simp
theorem txtK_yes {f : Nat → Bool} {k : Nat} (h : f k = true) : txtK f k ++ ⟨#[49]⟩ = txtK f (k + 1) := by
  apply str_ext
  rw [strL_append, txtK_L, txtK_L, List.range_succ, List.map_append]
  simp [h, strL]
theorem txtK_no {f : Nat → Bool} {k : Nat} (h : f k = false) : txtK f k ++ ⟨#[46]⟩ = txtK f (k + 1) := by
  apply str_ext
  rw [strL_append, txtK_L, txtK_L, List.range_succ, List.map_append]
  simp [h, strL]

end Go.Proofs.Ytegmagjlkflecaa
