/- The walks of MaskLists, MaskTexts, MaskCounts. -/
import Derived.Test.YtegmagjlkflecaaK7
namespace Go.Proofs.Ytegmagjlkflecaa
open Go.RowKit Go.Sort

theorem hid_some {l : List Int} {j : Nat} {x y : Int} (hx : Hid (l[j]? = some x)) (hy : Hid (l[j]? = some y)) : y = x := by
  have h := hx.out.symm.trans hy.out
  injection h with h
  exact h.symm

theorem txtK_at (f : Nat → Bool) (k : Nat) (h : k < 16) : ∃ hk : k < (txtK f 16).size, (((txtK f 16)[k]'hk).toNat : Int) = if f k = true then 49 else 46 := by
  have hk : k < (txtK f 16).size := by rw [txtK_size]; exact h
  refine ⟨hk, ?_⟩
  have h1 := strL_at (txtK f 16) k hk
  rw [txtK_L, List.getElem?_map, List.getElem?_range h] at h1
  simp only [Option.map_some, Option.some.injEq] at h1
  exact h1.symm

set_option maxRecDepth 100000 in
theorem texts_walk (m : Nat) (lane : Int) (w : World) (hm : m < 65536) :
    Calls Try.prog 7 #[.int .u16 m, .int .i64 lane] w fun e w' => e = .returned (.bool true) ∧ Below w.heap.size w w' := by
  have BB : Below w.heap.size w w := Below.refl _ _
  have c1 := fun W => text_b m W hm
  have c2 := fun W => has_b m lane W hm
  have hs : (txtK (fun i => m.testBit i) 16).size = 16 := txtK_size _ _
  by_cases hr : 0 ≤ lane ∧ lane < 16
  · obtain ⟨i, rfl⟩ : ∃ i : Nat, lane = i := ⟨lane.toNat, by omega⟩
    have hi : i < 16 := by omega
    obtain ⟨hk, hv⟩ := txtK_at (fun i => m.testBit i) i hi
    rw [hasB_in hi] at c2
    obtain ⟨T, hT⟩ : ∃ T, txtK (fun i => m.testBit i) 16 = T := ⟨_, rfl⟩
    simp only [hT] at c1 hs hk hv
    cases hb : Nat.testBit m i
    · rw [hb] at c2 hv
      have hv2 : ((T[i]'hk).toNat : Int) = 46 := by simpa using hv
      have C1 := Lib.hid c1
      have C2 := Lib.hid c2
      clear c1 c2 hT hb hv hr
      go_enter Try.func7, Try.ntmps7
      go_wp2_with (go_at_call 26; refine (C1.out _).mono ?_; rintro _ W1 ⟨rfl, B⟩; replace BB := bon BB B; clear B)
      refine wp_region_quiet_below (by kernel_rfl) (by kernel_rfl) ?_
      repeat (first | go_big_quiet_step ((first | (go_at_call 10; exact Calls.regrown_of (C2.out _)) | (go_at_call 16; exact Calls.regrown_of (example_b _)))) | quiet_step ((first | (go_at_call 10; exact Calls.regrown_of (C2.out _)) | (go_at_call 16; exact Calls.regrown_of (example_b _)))))
      refine wpQuiet_nil ?_
      intro W hw'
      have B := below_regrown' hw'
      clear hw'
      replace BB := bon BB B
      go_wp2
      go_ret
      exact ⟨rfl, BB⟩
    · rw [hb] at c2 hv
      have hv2 : ((T[i]'hk).toNat : Int) = 49 := by simpa using hv
      have C1 := Lib.hid c1
      have C2 := Lib.hid c2
      clear c1 c2 hT hb hv hr
      go_enter Try.func7, Try.ntmps7
      go_wp2_with (go_at_call 26; refine (C1.out _).mono ?_; rintro _ W1 ⟨rfl, B⟩; replace BB := bon BB B; clear B)
      refine wp_region_quiet_below (by kernel_rfl) (by kernel_rfl) ?_
      repeat (first | go_big_quiet_step ((first | (go_at_call 10; exact Calls.regrown_of (C2.out _)) | (go_at_call 16; exact Calls.regrown_of (example_b _)))) | quiet_step ((first | (go_at_call 10; exact Calls.regrown_of (C2.out _)) | (go_at_call 16; exact Calls.regrown_of (example_b _)))))
      refine wpQuiet_nil ?_
      intro W hw'
      have B := below_regrown' hw'
      clear hw'
      replace BB := bon BB B
      go_wp2
      go_ret
      exact ⟨rfl, BB⟩
  · rw [hasB_out hr] at c2
    obtain ⟨T, hT⟩ : ∃ T, txtK (fun i => m.testBit i) 16 = T := ⟨_, rfl⟩
    simp only [hT] at c1 hs
    have C1 := Lib.hid c1
    have C2 := Lib.hid c2
    clear c1 c2 hT
    by_cases h0 : lane < 0
    · clear hr
      go_enter Try.func7, Try.ntmps7
      go_wp2_with (first
        | (go_at_call 26; refine (C1.out _).mono ?_; rintro _ W1 ⟨rfl, B⟩; replace BB := bon BB B; clear B)
        | (go_at_call 10; refine (C2.out _).mono ?_; rintro _ W1 ⟨rfl, B⟩; replace BB := bon BB B; clear B)
        | (go_at_call 16; refine (example_b _).mono ?_; rintro _ W1 ⟨rfl, B⟩; replace BB := bon BB B; clear B))
      go_ret
      exact ⟨rfl, BB⟩
    · have h1 : 0 ≤ lane := by omega
      have h2 : 16 ≤ lane := by omega
      clear hr h0
      go_enter Try.func7, Try.ntmps7
      go_wp2_with (first
        | (go_at_call 26; refine (C1.out _).mono ?_; rintro _ W1 ⟨rfl, B⟩; replace BB := bon BB B; clear B)
        | (go_at_call 10; refine (C2.out _).mono ?_; rintro _ W1 ⟨rfl, B⟩; replace BB := bon BB B; clear B)
        | (go_at_call 16; refine (example_b _).mono ?_; rintro _ W1 ⟨rfl, B⟩; replace BB := bon BB B; clear B))
      go_ret
      exact ⟨rfl, BB⟩

/-! ### the numbers of lanes -/
theorem lnsK_congr {f g : Nat → Bool} : ∀ {k : Nat}, (∀ i < k, f i = g i) → lnsK f k = lnsK g k
  | 0, _ => rfl
  | k + 1, h => by rw [lnsK_succ, lnsK_succ, lnsK_congr (fun i hi => h i (by omega)), h k (by omega)]
theorem lns_msk (f : Nat → Bool) : lns (msk f 16) = lnsK f 16 := lnsK_congr fun i hi => by rw [msk_bit, decide_eq_true hi, Bool.true_and]
theorem cnt_succ (f : Nat → Bool) (k : Nat) : (lnsK f (k + 1)).length = (lnsK f k).length + if f k = true then 1 else 0 := by
  rw [lnsK_succ, List.length_append]
  split <;> rfl
theorem cnt_or (f g : Nat → Bool) : ∀ k, (lnsK (fun i => f i || g i) k).length + (lnsK (fun i => f i && g i) k).length = (lnsK f k).length + (lnsK g k).length
  | 0 => rfl
  | k + 1 => by
    have ih := cnt_or f g k
    rw [cnt_succ, cnt_succ, cnt_succ, cnt_succ]
    cases f k <;> cases g k <;> simp <;> omega
theorem cnt_not (f g : Nat → Bool) : ∀ k, (lnsK (fun i => f i && !g i) k).length + (lnsK (fun i => f i && g i) k).length = (lnsK f k).length
  | 0 => rfl
  | k + 1 => by
    have ih := cnt_not f g k
    rw [cnt_succ, cnt_succ, cnt_succ]
    cases f k <;> cases g k <;> simp <;> omega
theorem cnt_all (n : Int) : ∀ k : Nat, ((lnsK (fun i : Nat => decide ((i : Int) < n)) k).length : Int) = min (max n 0) k
  | 0 => by simp [lnsK]; omega
  | k + 1 => by
    have ih := cnt_all n k
    rw [cnt_succ]
    by_cases h : (k : Int) < n
    · simp only [h, decide_true, if_true]; omega
    · simp only [h, decide_false]; simp; omega

end Go.Proofs.Ytegmagjlkflecaa
