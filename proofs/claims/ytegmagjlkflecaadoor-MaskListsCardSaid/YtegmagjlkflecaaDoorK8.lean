/- The walks of MaskLists, MaskTexts, MaskCounts. -/
import Derived.Test.YtegmagjlkflecaaDoorK7
namespace Go.Proofs.YtegmagjlkflecaaDoor
open Go.RowKit Go.Sort

theorem hid_some {l : List Int} {j : Nat} {x y : Int} (hx : Hid (l[j]? = some x)) (hy : Hid (l[j]? = some y)) : y = x := by
  have h := hx.out.symm.trans hy.out
  injection h with h
  exact h.symm

theorem sameInts_b (A A2 : Option Addr) (n n2 c c2 B1 B2 : Nat) (l : List Int) (w : World) (R1 : Rd w B1 .i64 A n l) (R2 : Rd w B2 .i64 A2 n2 l) (h1 : B1 ≤ w.heap.size) (h2 : B2 ≤ w.heap.size) (hn : n ≤ 9223372036854775807) :
    Calls Tryd.prog 8 #[.slice A n c, .slice A2 n2 c2] w fun e w' => e = .returned (.bool true) ∧ Below w.heap.size w w' := by
  obtain rfl : n2 = n := by rw [← R1.len, ← R2.len]
  go_enter Tryd.func8, Tryd.ntmps8
  go_wp2
  go_loopw [5] (fun i wr => ∃ k : Nat, k ≤ n2 ∧ i = .int .i64 k ∧ Below w.heap.size w wr) (fun i _ => n2 - (intOf i).toNat)
  case atStart => exact ⟨0, Nat.zero_le _, rfl, Below.refl _ _⟩
  case round =>
    obtain ⟨k, hk, rfl, BB⟩ := hrel
    by_cases hlt : k < n2
    · obtain ⟨b1, o1, x, rfl, c1, x0, x1, hx⟩ := (R1.below (BB.mono h1)).int hlt
      obtain ⟨b2, o2, y, rfl, c2, _, _, hy⟩ := (R2.below (BB.mono h2)).int hlt
      obtain rfl : y = x := hid_some hx hy
      clear R1 R2
      go_wp2_with fail
      have k_c1 := cell_regrown c1
      have k_c2 := cell_regrown c2
      refine wp_region_quiet_below (by kernel_rfl) (by kernel_rfl) ?_
      repeat (first | go_big_quiet_step ((first | fail)) | quiet_step ((first | fail)))
      refine wpQuiet_nil ?_
      intro W hw'
      have B := below_regrown' hw'
      clear hw' k_c1 k_c2
      replace BB := bon BB B
      replace c1 := cell_below B c1
      replace c2 := cell_below B c2
      go_wp2
      go_roundw
      case rel => exact ⟨k + 1, by omega, by go_num, BB⟩
      case measure => simp [intOf]; omega
    · obtain rfl : k = n2 := by omega
      clear R1 R2
      go_wp2
      go_ret
      exact ⟨rfl, BB⟩

set_option maxRecDepth 100000 in
theorem lists_walk (m : Nat) (A : Option Addr) (n c : Nat) (l : List Int) (w : World) (hm : m < 65536) (R : Rd w w.heap.size .i64 A n l) (hn : n ≤ 9223372036854775807) (hB : BruAt w) :
    Calls Tryd.prog 3 #[.int .u16 m, .slice A n c] w fun e w' => e = .returned (.bool true) ∧ Below w.heap.size w w' := by
  have BB : Below w.heap.size w w := Below.refl _ _
  have c1 := fun W => count_b m W hm
  have c2 := fun W => rcount_b m W hm
  have c3 := fun W h => first_b m W hm h
  have HB := Lib.hid hB
  have c4 := fun W => rfirst_b m W hm
  have c5 := fun W => lanes_b m W hm
  have c6 := fun W => rlanes_b m W hm
  have c7 := fun W => text_b m W hm
  have c8 := fun W => of_same (rtext_b m W hm)
  have c9 := fun W R => of_b A n c l W R hn
  have c10 := fun W R => of_same (rof_q A n c l W R hn)
  have hL := lns_len m
  obtain ⟨L, e1⟩ : ∃ L, lns m = L := ⟨_, rfl⟩
  obtain ⟨T, e2⟩ : ∃ T, txtK (fun i => m.testBit i) 16 = T := ⟨_, rfl⟩
  obtain ⟨x, e3⟩ : ∃ x, ofL l = x := ⟨_, rfl⟩
  rw [e1] at c1 c2 c3 c4 c5 c6 hL
  rw [e2] at c7 c8
  rw [e3] at c9 c10
  obtain ⟨y, e4⟩ : ∃ y, fst1 L = y := ⟨_, rfl⟩
  obtain ⟨k, e5⟩ : ∃ k, L.length = k := ⟨_, rfl⟩
  rw [e4] at c3 c4
  rw [e5] at c1 c2 hL
  have C1 := Lib.hid c1
  have C2 := Lib.hid c2
  have C3 := Lib.hid c3
  have C4 := Lib.hid c4
  have C5 := Lib.hid c5
  have C6 := Lib.hid c6
  have C7 := Lib.hid c7
  have C8 := Lib.hid c8
  have C9 := Lib.hid c9
  have C10 := Lib.hid c10
  have HK := Lib.hid e5
  have RR := Lib.hid R
  clear c1 c2 c3 c4 c5 c6 c7 c8 c9 c10 e1 e2 e3 e4 e5 R hB
  go_enter Tryd.func3, Tryd.ntmps3
  go_wp2_with (first
    | (go_at_call 4; refine (C1.out _).mono ?_; rintro _ W1 ⟨rfl, B⟩; replace BB := bon BB B; clear B)
    | (go_at_call 5; refine (C2.out _).mono ?_; rintro _ W1 ⟨rfl, B⟩; replace BB := bon BB B; clear B)
    | (go_at_call 6; refine (C3.out _ (HB.out.on BB)).mono ?_; rintro _ W1 ⟨rfl, B⟩; replace BB := bon BB B; clear B)
    | (go_at_call 7; refine (C4.out _).mono ?_; rintro _ W1 ⟨rfl, B⟩; replace BB := bon BB B; clear B)
    | (go_at_call 9; refine (C5.out _).mono ?_; rintro _ W1 ⟨A1, n1, d1, rfl, own1, B⟩; have R1 := own1.rd; clear own1; replace BB := bon BB B; clear B)
    | (go_at_call 10; refine (C6.out _).mono ?_; rintro _ W2 ⟨A2, n2, d2, rfl, own2, B⟩; have R2 := own2.rd; clear own2; replace R1 := R1.on B; replace BB := bon BB B; clear B)
    | (go_at_call 8; refine (sameInts_b _ _ _ _ _ _ _ _ _ _ R1 R2 (Nat.le_refl _) (Nat.le_refl _) (by have := R1.len; have := HK.out; omega)).mono ?_; rintro _ W3 ⟨rfl, B⟩; replace BB := bon BB B; clear B R1 R2)
    | (go_at_call 11; refine (C7.out _).mono ?_; rintro _ W1 ⟨rfl, B⟩; replace BB := bon BB B; clear B)
    | (go_at_call 12; refine (C8.out _).mono ?_; rintro _ W1 ⟨rfl, B⟩; replace BB := bon BB B; clear B)
    | (go_at_call 13; refine (C9.out _ (RR.out.on BB)).mono ?_; rintro _ W1 ⟨rfl, B⟩; replace BB := bon BB B; clear B)
    | (go_at_call 14; refine (C10.out _ (RR.out.on BB)).mono ?_; rintro _ W1 ⟨rfl, B⟩; replace BB := bon BB B; clear B)
    | (go_at_call 15; refine (example_b _).mono ?_; rintro _ W1 ⟨rfl, B⟩; replace BB := bon BB B; clear B))
  go_ret
  exact ⟨rfl, BB⟩

theorem txtK_at (f : Nat → Bool) (k : Nat) (h : k < 16) : ∃ hk : k < (txtK f 16).size, (((txtK f 16)[k]'hk).toNat : Int) = if f k = true then 49 else 46 := by
  have hk : k < (txtK f 16).size := by rw [txtK_size]; exact h
  refine ⟨hk, ?_⟩
  have h1 := strL_at (txtK f 16) k hk
  rw [txtK_L, List.getElem?_map, List.getElem?_range h] at h1
  simp only [Option.map_some, Option.some.injEq] at h1
  exact h1.symm

/-! ### the numbers of lanes -/
theorem lnsK_congr {f g : Nat → Bool} : ∀ {k : Nat}, (∀ i < k, f i = g i) → lnsK f k = lnsK g k
  | 0, _ => rfl
  | k + 1, h => by rw [lnsK_succ, lnsK_succ, lnsK_congr (fun i hi => h i (by omega)), h k (by omega)]
theorem lns_msk (f : Nat → Bool) : lns (msk f 16) = lnsK f 16 := lnsK_congr fun i hi => by rw [msk_bit, decide_eq_true hi, Bool.true_and]
theorem cnt_succ (f : Nat → Bool) (k : Nat) : (lnsK f (k + 1)).length = (lnsK f k).length + if f k = true then 1 else 0 := by
  rw [lnsK_succ, List.length_append]
  split <;> rfl
theorem cnt_or (f g : Nat → Bool) : ∀ k, (lnsK (fun i => f i || g i) k).length + (lnsK (fun i => f i && g i) k).length = (lnsK f k).length + (lnsK g k).length
  | 0 => rfl
  | k + 1 => by
    have ih := cnt_or f g k
    rw [cnt_succ, cnt_succ, cnt_succ, cnt_succ]
    cases f k <;> cases g k <;> simp <;> omega
theorem cnt_not (f g : Nat → Bool) : ∀ k, (lnsK (fun i => f i && !g i) k).length + (lnsK (fun i => f i && g i) k).length = (lnsK f k).length
  | 0 => rfl
  | k + 1 => by
    have ih := cnt_not f g k
    rw [cnt_succ, cnt_succ, cnt_succ]
    cases f k <;> cases g k <;> simp <;> omega
theorem cnt_all (n : Int) : ∀ k : Nat, ((lnsK (fun i : Nat => decide ((i : Int) < n)) k).length : Int) = min (max n 0) k
  | 0 => by simp [lnsK]; omega
  | k + 1 => by
    have ih := cnt_all n k
    rw [cnt_succ]
    by_cases h : (k : Int) < n
    · simp only [h, decide_true, if_true]; omega
    · simp only [h, decide_false]; simp; omega

end Go.Proofs.YtegmagjlkflecaaDoor
