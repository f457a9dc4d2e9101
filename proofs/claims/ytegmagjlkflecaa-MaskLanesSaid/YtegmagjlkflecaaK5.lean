/- What Count (math/bits.OnesCount16), First (math/bits.TrailingZeros16), Lanes, Of of package mask return. -/
import Derived.Test.YtegmagjlkflecaaK4
import Derived.Lib.BitFns
import Derived.Lib.TrailingZeros
import Derived.BigQuiet
import Derived.WalkSpells
namespace Go.Proofs.Ytegmagjlkflecaa
open Go.RowKit Go.Sort

theorem lnsK_len_add (f : Nat → Bool) : ∀ a b, (lnsK f (a + b)).length = (lnsK f a).length + (lnsK (fun i => f (a + i)) b).length
  | a, 0 => by simp [lnsK_zero]
  | a, b + 1 => by
    have ih := lnsK_len_add f a b
    rw [← Nat.add_assoc, lnsK_succ, lnsK_succ, List.length_append, List.length_append, ih]
    by_cases h : f (a + b) = true <;> simp [h] <;> omega
theorem lnsK_len_congr {f g : Nat → Bool} : ∀ {k : Nat}, (∀ i < k, f i = g i) → (lnsK f k).length = (lnsK g k).length
  | 0, _ => rfl
  | k + 1, h => by
    rw [lnsK_succ, lnsK_succ, List.length_append, List.length_append, lnsK_len_congr (fun i hi => h i (by omega)), h k (by omega)]

set_option maxRecDepth 100000 in
theorem count8 : ∀ n : Fin 256, (lnsK (fun i => n.val.testBit i) 8).length = Lib.onesCount n.val := by decide +kernel

theorem count16 {m : Nat} (hm : m < 65536) : (lns m).length = Lib.onesCount (m / 256) + Lib.onesCount (m % 256) := by
  unfold lns
  rw [show (16 : Nat) = 8 + 8 from rfl, lnsK_len_add]
  have h1 := count8 ⟨m % 256, by omega⟩
  have h2 := count8 ⟨m / 256, by omega⟩
  simp only at h1 h2
  rw [← h1, ← h2, Nat.add_comm]
  congr 1
  · refine lnsK_len_congr fun i hi => ?_
    rw [show (256 : Nat) = 2 ^ 8 from rfl, Nat.testBit_div_two_pow, Nat.add_comm]
  · refine lnsK_len_congr fun i hi => ?_
    rw [show (256 : Nat) = 2 ^ 8 from rfl, Nat.testBit_mod_two_pow, decide_eq_true hi, Bool.true_and]

/-- The steps of OnesCount16. -/
theorem ones_steps {m : Nat} (hm : m < 65536) : ∃ a b c d : Nat, (m : Int) / 256 = (a : Int) ∧ a ≤ 255 ∧ bits .and .u16 (m : Int) 255 = (b : Int) ∧ b ≤ 255 ∧ Lib.pop8 (a : Int) = (c : Int) ∧ Lib.pop8 (b : Int) = (d : Int) ∧ c ≤ 8 ∧ d ≤ 8 ∧ (lns m).length = c + d := by
  have h1 := Lib.pop8_eq ⟨m / 256, by omega⟩
  have h2 := Lib.pop8_eq ⟨m % 256, by omega⟩
  have h3 := Lib.onesCount_le8 ⟨m / 256, by omega⟩
  have h4 := Lib.onesCount_le8 ⟨m % 256, by omega⟩
  simp only at h1 h2 h3 h4
  refine ⟨m / 256, m % 256, Lib.onesCount (m / 256), Lib.onesCount (m % 256), by omega, by omega, ?_, by omega, h1, h2, h3, h4, count16 hm⟩
  rw [show (255 : Int) = ((255 : Nat) : Int) from rfl, and_nat m 255 hm (by omega), show (255 : Nat) = 2 ^ 8 - 1 from rfl, Nat.and_two_pow_sub_one_eq_mod]

set_option maxRecDepth 100000 in
theorem ones_b (m : Nat) (w : World) (hm : m < 65536) :
    Calls Try.prog 30 #[.int .u16 m] w fun e w' => e = .returned (.int .i64 ((lns m).length : Nat)) ∧ Below w.heap.size w w' := by
  have BB : Below w.heap.size w w := Below.refl _ _
  obtain ⟨a, b, c, d, e1, h1, e2, h2, e3, e4, h3, h4, e5⟩ := ones_steps hm
  have e6 : IntKind.u16.wrap (a : Int) = (a : Int) := w16 a (by omega)
  have e7 : IntKind.u8.wrap ((c : Int) + (d : Int)) = (c : Int) + (d : Int) := by rw [IntKind.wrap_u8]; omega
  have i1 : ∀ W, (Instr.index 9 (.string Lib.pop8tab) (.int .u16 (a : Int))).run Try.prog W = .ok (.int .u8 (c : Int)) W := fun W => by rw [Lib.run_index_pop8tab W _ _ _ Try.underlying9 (by omega) (by omega), e3]
  have i2 : ∀ W, (Instr.index 9 (.string Lib.pop8tab) (.int .u16 (b : Int))).run Try.prog W = .ok (.int .u8 (d : Int)) W := fun W => by rw [Lib.run_index_pop8tab W _ _ _ Try.underlying9 (by omega) (by omega), e4]
  have E5 := Lib.hid e5
  clear e5
  go_enter Try.func30, Try.ntmps30
  go_wp2_with fail
  simp only [List.append_eq, List.cons_append, List.nil_append, Lib.fold_pop8tab]
  refine wp_region_quiet_below (by kernel_rfl) (by kernel_rfl) ?_
  repeat (first | go_big_quiet_step ((first | fail)) | quiet_step ((first | fail)))
  refine wpQuiet_nil ?_
  intro W hw'
  have B := below_regrown' hw'
  clear hw'
  replace BB := bon BB B
  go_wp2
  go_ret
  exact ⟨by rw [E5.out]; rfl, BB⟩

set_option maxRecDepth 100000 in
theorem count_b (m : Nat) (w : World) (hm : m < 65536) :
    Calls Try.prog 25 #[.int .u16 m] w fun e w' => e = .returned (.int .i64 ((lns m).length : Nat)) ∧ Below w.heap.size w w' := by
  have BB : Below w.heap.size w w := Below.refl _ _
  have c1 := fun W => ones_b m W hm
  obtain ⟨n, hn⟩ : ∃ n, (lns m).length = n := ⟨_, rfl⟩
  rw [hn] at c1 ⊢
  have C1 := Lib.hid c1
  clear c1 hn
  go_enter Try.func25, Try.ntmps25
  go_wp2_with (go_at_call 30; with_reducible refine (C1.out _).mono ?_; rintro _ W1 ⟨rfl, B⟩; replace BB := bon BB B; clear B)
  go_ret
  exact ⟨rfl, BB⟩

theorem fst_found {f : Nat → Bool} {j : Nat} (h0 : lnsK f j = []) (hf : f j = true) : ∀ k, j < k → fst1 (lnsK f k) = j
  | 0, h => by omega
  | k + 1, h => by
    rcases Nat.lt_or_ge j k with h1 | h1
    · have ih := fst_found h0 hf k h1
      have hne : lnsK f k ≠ [] := by
        intro e
        rw [e] at ih
        have : (-1 : Int) = j := ih
        omega
      rw [lnsK_succ]
      unfold fst1 at ih ⊢
      cases hl : lnsK f k with
      | nil => exact absurd hl hne
      | cons x r => rw [hl] at ih; exact ih
    · obtain rfl : j = k := by omega
      rw [lnsK_yes hf, h0]
      rfl

theorem lnsK_none {f : Nat → Bool} : ∀ {k : Nat}, (∀ i < k, f i = false) → lnsK f k = []
  | 0, _ => rfl
  | k + 1, h => by rw [lnsK_no (h k (by omega)), lnsK_none fun i hi => h i (by omega)]

/-- The steps of TrailingZeros16, and the first lane. -/
theorem first_steps {m : Nat} (h0 : m ≠ 0) (hm : m < 65536) : ∃ k : Nat, k < 16 ∧ m &&& (65536 - m) = 2 ^ k ∧ fst1 (lns m) = k := by
  obtain ⟨h1, h2⟩ := Lib.lowest_bit 16 m h0 hm
  obtain ⟨r, hr, _⟩ := Lib.ctzFrom_spec 16 m (by omega) hm
  have e : Lib.ctz 16 m = Lib.ctzFrom 16 m := by simp [Lib.ctz, h0]
  rw [← e] at hr
  obtain ⟨k, hk⟩ : ∃ k, Lib.ctz 16 m = k := ⟨_, rfl⟩
  rw [hk] at h1 h2 hr
  refine ⟨k, h2, h1, fst_found (lnsK_none fun i hi => ?_) ?_ 16 h2⟩
  · show m.testBit i = false
    rw [hr, Nat.mul_comm, Nat.testBit_mul_two_pow, decide_eq_false (by omega), Bool.false_and]
  · show m.testBit k = true
    rw [hr, Nat.mul_comm, Nat.testBit_mul_two_pow, decide_eq_true (Nat.le_refl _), Bool.true_and, Nat.sub_self, Nat.testBit_zero]
    simp

set_option maxRecDepth 100000 in
theorem lanes_b (m : Nat) (w : World) (hm : m < 65536) :
    Calls Try.prog 24 #[.int .u16 m] w (GivesL w (lns m)) := by
  have BB : Below w.heap.size w w := Below.refl _ _
  have OWN0 := Lib.hid (Own.nil w 3 .i64)
  obtain ⟨f, hf⟩ : ∃ f : Nat → Bool, (fun i : Nat => m.testBit i) = f := ⟨_, rfl⟩
  have HF : Hid (∀ i : Nat, f i = m.testBit i) := Lib.hid (fun i => by rw [← hf])
  unfold lns
  rw [hf]
  clear hf
  go_enter Try.func24, Try.ntmps24
  go_wp2
  go_loopw [3, 5] (fun t i wr => ∃ (j n cap : Nat) (A : Option Addr), j ≤ 16 ∧ i = .int .i64 j ∧ t = .slice A n cap ∧ Own wr w.heap.size 3 .i64 A n cap (lnsK f j) ∧ Below w.heap.size w wr) (fun _ i _ => 16 - (intOf i).toNat)
  case atStart => exact ⟨0, 0, 0, _, by omega, rfl, rfl, OWN0.out, BB⟩
  case round =>
    clear OWN0 BB
    obtain ⟨j, n, cap, A, hj, rfl, rfl, own, BB⟩ := hrel
    have hnj : n ≤ j := by rw [← own.len]; exact lnsK_len f j
    have OWN := Lib.hid own
    clear own
    by_cases hlt : j < 16
    · have c1 := fun W => has_q m (j : Int) W hm
      rw [hasB_in hlt] at c1
      cases hb : Nat.testBit m j
      · rw [hb] at c1
        have C1 := Lib.hid c1
        have OWN1 : Hid (Own wr w.heap.size 3 .i64 A n cap (lnsK f (j + 1))) := Lib.hid (by rw [lnsK_no (by rw [HF.out]; exact hb)]; exact OWN.out)
        clear c1 hb
        go_wp2_with (go_at_call 10; with_reducible refine (C1.out _).mono ?_; rintro _ _ ⟨rfl, rfl⟩)
        go_roundw
        case rel => exact ⟨j + 1, n, cap, A, by omega, by go_num, rfl, OWN1.out, BB⟩
        case measure => simp [intOf]; omega
      · rw [hb] at c1
        have C1 := Lib.hid c1
        have OWN1 : Hid (∀ W A n c, Own W w.heap.size 3 .i64 A n c (lnsK f j ++ [(j : Int)]) → Own W w.heap.size 3 .i64 A n c (lnsK f (j + 1))) := Lib.hid (fun W A n c h => by rw [lnsK_yes (by rw [HF.out]; exact hb)]; exact h)
        clear c1 hb
        go_wp2_with (first
          | (go_at_call 10; with_reducible refine (C1.out _).mono ?_; rintro _ _ ⟨rfl, rfl⟩)
          | (at_builtin; refine wpList_app1 _ rfl _ _ _ rfl eI OWN.out rfl (by rw [i64_min, i64_max]; omega) rfl (by simp only [maxLen]; omega) (by omega) ?_; intro A1 m1 d1 W1 own1 B1; obtain rfl : m1 = n + 1 := app_len OWN.out own1))
        go_roundw
        case rel => exact ⟨j + 1, _, d1, A1, by omega, by go_num, rfl, OWN1.out _ _ _ _ own1, BB.trans B1⟩
        case measure => simp [intOf]; omega
    · obtain rfl : j = 16 := by omega
      go_wp2
      go_ret
      exact ⟨A, n, cap, rfl, OWN.out, BB⟩

theorem ofL_snoc (l : List Int) (x : Int) : ofL (l ++ [x]) = withF (ofL l) x := by
  unfold withF
  refine eq_msk (ofL_lt _) fun i hi => ?_
  rw [ofL_bit hi, ofL_bit hi]
  by_cases h1 : (i : Int) ∈ l
  · simp [h1]
  · simp [h1]
theorem ofL_nil : ofL [] = 0 := (eq_msk (by omega) fun i _ => by simp).symm

set_option maxRecDepth 100000 in
theorem of_q (A : Option Addr) (n c : Nat) (l : List Int) (w : World) (R : Rd w w.heap.size .i64 A n l) (hn : n ≤ 9223372036854775807) :
    Calls Try.prog 23 #[.slice A n c] w fun e w' => e = .returned (.int .u16 (ofL l : Nat)) ∧ w = w' := by
  have HL := Lib.hid R.len
  obtain ⟨T, hT⟩ : ∃ T, ofL l = T := ⟨_, rfl⟩
  have HT := Lib.hid hT
  rw [hT]
  clear hT
  go_enter Try.func23, Try.ntmps23
  go_wp2
  go_loop [3, 8] (fun s i => ∃ (k m : Nat), k ≤ n ∧ i = .int .i64 k ∧ s = .int .u16 m ∧ m < 65536 ∧ ofL (l.take k) = m) (fun _ i => n - (intOf i).toNat)
  case atStart => exact ⟨0, 0, by omega, rfl, rfl, by omega, by rw [List.take_zero]; exact ofL_nil⟩
  case round =>
    obtain ⟨k, m, hk, rfl, rfl, hm, hh⟩ := hrel
    by_cases hlt : k < n
    · obtain ⟨b1, o1, y, rfl, cy, y0, y1, hy⟩ := R.int hlt
      have c1 := fun W => with_q m y W hm
      have e1 : ofL (l.take (k + 1)) = withF m y := by
        obtain ⟨hkl, hx⟩ := List.getElem?_eq_some_iff.1 hy.out
        rw [List.take_succ_eq_append_getElem hkl, hx, ofL_snoc, hh]
      have e2 : withF m y < 65536 := msk16_lt _
      obtain ⟨z, hz⟩ : ∃ z, withF m y = z := ⟨_, rfl⟩
      rw [hz] at c1 e1 e2
      have C1 := Lib.hid c1
      have E1 := Lib.hid e1
      clear c1 e1 hz hh hy R
      go_wp2_with (go_at_call 12; with_reducible refine (C1.out _).mono ?_; rintro _ _ ⟨rfl, rfl⟩)
      go_round
      case rel => exact ⟨k + 1, z, by omega, by go_num, rfl, e2, E1.out⟩
      case measure => simp [intOf]; omega
    · obtain rfl : k = n := by omega
      have H : Hid (T = m) := Lib.hid (by rw [← HT.out, ← hh, List.take_of_length_le (by rw [HL.out]; exact Nat.le_refl _)])
      clear hh R
      go_wp2
      go_ret
      exact ⟨by rw [H.out]; rfl, rfl⟩

end Go.Proofs.Ytegmagjlkflecaa
