/- What Lanes, Without, And, Or, AndNot, All of the reference return. Written by tools/gen/genK2.py. -/
import Derived.Test.YtegmagjlkflecaaK1
namespace Go.Proofs.Ytegmagjlkflecaa
open Go.RowKit Go.Sort

theorem eI : Elem Try.prog 30 3 .i64 8 := elem_of Try.underlying30 (by kernel_rfl)

theorem lnsK_yes {f : Nat → Bool} {j : Nat} (h : f j = true) : lnsK f (j + 1) = lnsK f j ++ [(j : Int)] := by rw [lnsK_succ, if_pos h]
theorem lnsK_no {f : Nat → Bool} {j : Nat} (h : f j = false) : lnsK f (j + 1) = lnsK f j := by rw [lnsK_succ, if_neg (by simp [h]), List.append_nil]

theorem app_len {w w' : World} {b b' n n' c c' : Nat} {e e' : TypeId} {k k' : IntKind} {A A' : Option Addr} {l : List Int} {x : Int} (h : Own w b e k A n c l) (h' : Own w' b' e' k' A' n' c' (l ++ [x])) : n' = n + 1 := by
  rw [← h.len, ← h'.len, List.length_append, List.length_singleton]

/-- What a call of Lanes gives. -/
def GivesL (W : World) (l : List Int) (x : Ending) (w' : World) : Prop :=
  ∃ A n c, x = .returned (.slice A n c) ∧ Own w' W.heap.size 3 .i64 A n c l ∧ Below W.heap.size W w'

set_option maxRecDepth 100000 in
theorem rlanes_b (m : Nat) (w : World) (hm : m < 65536) :
    Calls Try.prog 29 #[.int .u16 m] w (GivesL w (lns m)) := by
  have BB : Below w.heap.size w w := Below.refl _ _
  have own0 := Own.made w 3 .i64
  have B0 : Below w.heap.size w (w.alloc (.cells #[] 3)) := (Below.refl _ _).alloc (Nat.le_refl _) _
  have OWN0 := Lib.hid own0
  obtain ⟨f, hf⟩ : ∃ f : Nat → Bool, (fun i : Nat => m.testBit i) = f := ⟨_, rfl⟩
  have HF : Hid (∀ i : Nat, f i = (m.testBit i)) := Lib.hid (fun i => by rw [← hf])
  unfold lns; rw [hf]
  clear hf own0
  go_enter Try.func29, Try.ntmps29
  go_wp2
  go_loopw [3, 4] (fun t i wr => ∃ (j n cap : Nat) (A : Option Addr), j ≤ 16 ∧ i = .int .i64 j ∧ t = .slice A n cap ∧ Own wr w.heap.size 3 .i64 A n cap (lnsK f j) ∧ Below w.heap.size w wr) (fun _ i _ => 16 - (intOf i).toNat)
  case atStart => exact ⟨0, 0, 0, _, by omega, rfl, rfl, OWN0.out, B0⟩
  case round =>
    clear OWN0 B0 BB
    obtain ⟨j, n, cap, A, hj, rfl, rfl, own, BB⟩ := hrel
    have hnj : n ≤ j := by rw [← own.len]; exact lnsK_len f j
    have OWN := Lib.hid own
    clear own
    by_cases hlt : j < 16
    · cases hbm : Nat.testBit m j
      · have c1 := fun W => rhas_q m (j : Int) W hm
        rw [hasB_in hlt, hbm] at c1
        have C1 := Lib.hid c1
        clear c1
        have hfj : f j = false := by rw [HF.out]; exact hbm
        have OWN1 : Hid (Own wr w.heap.size 3 .i64 A n cap (lnsK f (j + 1))) := Lib.hid (by rw [lnsK_no hfj]; exact OWN.out)
        clear hfj
        go_wp2_with (first
            | (go_at_call 11; with_reducible refine (C1.out _).mono ?_; rintro _ _ ⟨rfl, rfl⟩))
        go_roundw
        case rel => exact ⟨j + 1, n, cap, A, by omega, by go_num, rfl, OWN1.out, BB⟩
        case measure => simp [intOf]; omega
      · have c1 := fun W => rhas_q m (j : Int) W hm
        rw [hasB_in hlt, hbm] at c1
        have C1 := Lib.hid c1
        clear c1
        have hfj : f j = true := by rw [HF.out]; exact hbm
        have OWN1 : Hid (∀ W A n c, Own W w.heap.size 3 .i64 A n c (lnsK f j ++ [(j : Int)]) → Own W w.heap.size 3 .i64 A n c (lnsK f (j + 1))) := Lib.hid (fun W A n c h => by rw [lnsK_yes hfj]; exact h)
        clear hfj
        go_wp2_with (first
            | (go_at_call 11; with_reducible refine (C1.out _).mono ?_; rintro _ _ ⟨rfl, rfl⟩)
            | (at_builtin; refine wpList_app1 _ rfl _ _ _ rfl eI OWN.out rfl (by rw [i64_min, i64_max]; omega) rfl (by simp only [maxLen]; omega) (by omega) ?_; intro A1 m1 d1 W1 own1 B1; obtain rfl : m1 = n + 1 := app_len OWN.out own1))
        go_roundw
        case rel => exact ⟨j + 1, _, d1, A1, by omega, by go_num, rfl, OWN1.out _ _ _ _ own1, BB.trans B1⟩
        case measure => simp [intOf]; omega
    · obtain rfl : j = 16 := by omega
      go_wp2
      go_ret
      exact ⟨A, n, cap, rfl, OWN.out, BB⟩

set_option maxRecDepth 100000 in
theorem rwithout_b (m : Nat) (lane : Int) (w : World) (hm : m < 65536) :
    Calls Try.prog 15 #[.int .u16 m, .int .i64 lane] w fun e w' => e = .returned (.int .u16 (msk (fun i : Nat => decide ((i : Int) ≠ lane) && m.testBit i) 16 : Nat)) ∧ Below w.heap.size w w' := by
  have BB : Below w.heap.size w w := Below.refl _ _
  have own0 := Own.made w 3 .i64
  have B0 : Below w.heap.size w (w.alloc (.cells #[] 3)) := (Below.refl _ _).alloc (Nat.le_refl _) _
  have OWN0 := Lib.hid own0
  obtain ⟨f, hf⟩ : ∃ f : Nat → Bool, (fun i : Nat => decide ((i : Int) ≠ lane) && m.testBit i) = f := ⟨_, rfl⟩
  have HF : Hid (∀ i : Nat, f i = (decide ((i : Int) ≠ lane) && m.testBit i)) := Lib.hid (fun i => by rw [← hf])
  rw [hf]
  clear hf own0
  go_enter Try.func15, Try.ntmps15
  go_wp2
  go_loopw [5, 6] (fun t i wr => ∃ (j n cap : Nat) (A : Option Addr), j ≤ 16 ∧ i = .int .i64 j ∧ t = .slice A n cap ∧ Own wr w.heap.size 3 .i64 A n cap (lnsK f j) ∧ Below w.heap.size w wr) (fun _ i _ => 16 - (intOf i).toNat)
  case atStart => exact ⟨0, 0, 0, _, by omega, rfl, rfl, OWN0.out, B0⟩
  case round =>
    clear OWN0 B0 BB
    obtain ⟨j, n, cap, A, hj, rfl, rfl, own, BB⟩ := hrel
    have hnj : n ≤ j := by rw [← own.len]; exact lnsK_len f j
    have OWN := Lib.hid own
    clear own
    by_cases hlt : j < 16
    · by_cases he : (j : Int) = lane
      · have hfj : f j = false := by rw [HF.out]; simp [he]
        have OWN1 : Hid (Own wr w.heap.size 3 .i64 A n cap (lnsK f (j + 1))) := Lib.hid (by rw [lnsK_no hfj]; exact OWN.out)
        clear hfj
        go_wp2
        go_roundw
        case rel => exact ⟨j + 1, n, cap, A, by omega, by go_num, rfl, OWN1.out, BB⟩
        case measure => simp [intOf]; omega
      · cases hbm : Nat.testBit m j
        · have c1 := fun W => rhas_q m (j : Int) W hm
          rw [hasB_in hlt, hbm] at c1
          have C1 := Lib.hid c1
          clear c1
          have hfj : f j = false := by rw [HF.out]; simp [hbm]
          have OWN1 : Hid (Own wr w.heap.size 3 .i64 A n cap (lnsK f (j + 1))) := Lib.hid (by rw [lnsK_no hfj]; exact OWN.out)
          clear hfj
          go_wp2_with (first
              | (go_at_call 11; with_reducible refine (C1.out _).mono ?_; rintro _ _ ⟨rfl, rfl⟩))
          go_roundw
          case rel => exact ⟨j + 1, n, cap, A, by omega, by go_num, rfl, OWN1.out, BB⟩
          case measure => simp [intOf]; omega
        · have c1 := fun W => rhas_q m (j : Int) W hm
          rw [hasB_in hlt, hbm] at c1
          have C1 := Lib.hid c1
          clear c1
          have hfj : f j = true := by rw [HF.out]; simp [hbm, he]
          have OWN1 : Hid (∀ W A n c, Own W w.heap.size 3 .i64 A n c (lnsK f j ++ [(j : Int)]) → Own W w.heap.size 3 .i64 A n c (lnsK f (j + 1))) := Lib.hid (fun W A n c h => by rw [lnsK_yes hfj]; exact h)
          clear hfj
          go_wp2_with (first
              | (go_at_call 11; with_reducible refine (C1.out _).mono ?_; rintro _ _ ⟨rfl, rfl⟩)
              | (at_builtin; refine wpList_app1 _ rfl _ _ _ rfl eI OWN.out rfl (by rw [i64_min, i64_max]; omega) rfl (by simp only [maxLen]; omega) (by omega) ?_; intro A1 m1 d1 W1 own1 B1; obtain rfl : m1 = n + 1 := app_len OWN.out own1))
          go_roundw
          case rel => exact ⟨j + 1, _, d1, A1, by omega, by go_num, rfl, OWN1.out _ _ _ _ own1, BB.trans B1⟩
          case measure => simp [intOf]; omega
    · obtain rfl : j = 16 := by omega
      have hof := fun W R => rof_q A n cap (lnsK f 16) W R (by omega)
      rw [ofL_lns] at hof
      have HO := Lib.hid hof
      clear hof
      go_wp2_with (go_at_call 27; refine (HO.out _ OWN.out.rd).mono ?_; rintro _ _ ⟨rfl, rfl⟩)
      go_ret
      exact ⟨rfl, BB⟩

set_option maxRecDepth 100000 in
theorem rand_b (a b : Nat) (w : World) (ha : a < 65536) (hb : b < 65536) :
    Calls Try.prog 18 #[.int .u16 a, .int .u16 b] w fun e w' => e = .returned (.int .u16 (msk (fun i : Nat => a.testBit i && b.testBit i) 16 : Nat)) ∧ Below w.heap.size w w' := by
  have BB : Below w.heap.size w w := Below.refl _ _
  have own0 := Own.made w 3 .i64
  have B0 : Below w.heap.size w (w.alloc (.cells #[] 3)) := (Below.refl _ _).alloc (Nat.le_refl _) _
  have OWN0 := Lib.hid own0
  obtain ⟨f, hf⟩ : ∃ f : Nat → Bool, (fun i : Nat => a.testBit i && b.testBit i) = f := ⟨_, rfl⟩
  have HF : Hid (∀ i : Nat, f i = (a.testBit i && b.testBit i)) := Lib.hid (fun i => by rw [← hf])
  rw [hf]
  clear hf own0
  go_enter Try.func18, Try.ntmps18
  go_wp2
  go_loopw [5, 6] (fun t i wr => ∃ (j n cap : Nat) (A : Option Addr), j ≤ 16 ∧ i = .int .i64 j ∧ t = .slice A n cap ∧ Own wr w.heap.size 3 .i64 A n cap (lnsK f j) ∧ Below w.heap.size w wr) (fun _ i _ => 16 - (intOf i).toNat)
  case atStart => exact ⟨0, 0, 0, _, by omega, rfl, rfl, OWN0.out, B0⟩
  case round =>
    clear OWN0 B0 BB
    obtain ⟨j, n, cap, A, hj, rfl, rfl, own, BB⟩ := hrel
    have hnj : n ≤ j := by rw [← own.len]; exact lnsK_len f j
    have OWN := Lib.hid own
    clear own
    by_cases hlt : j < 16
    · cases hba : Nat.testBit a j
      · have c1 := fun W => rhas_q a (j : Int) W ha
        rw [hasB_in hlt, hba] at c1
        have C1 := Lib.hid c1
        clear c1
        cases hbb : Nat.testBit b j
        · have c2 := fun W => rhas_q b (j : Int) W hb
          rw [hasB_in hlt, hbb] at c2
          have C2 := Lib.hid c2
          clear c2
          have hfj : f j = false := by rw [HF.out]; rw [hba, hbb]; rfl
          have OWN1 : Hid (Own wr w.heap.size 3 .i64 A n cap (lnsK f (j + 1))) := Lib.hid (by rw [lnsK_no hfj]; exact OWN.out)
          clear hfj
          go_wp2_with (first
              | (go_at_call 11; with_reducible refine (C1.out _).mono ?_; rintro _ _ ⟨rfl, rfl⟩)
              | (go_at_call 11; with_reducible refine (C2.out _).mono ?_; rintro _ _ ⟨rfl, rfl⟩))
          go_roundw
          case rel => exact ⟨j + 1, n, cap, A, by omega, by go_num, rfl, OWN1.out, BB⟩
          case measure => simp [intOf]; omega
        · have c2 := fun W => rhas_q b (j : Int) W hb
          rw [hasB_in hlt, hbb] at c2
          have C2 := Lib.hid c2
          clear c2
          have hfj : f j = false := by rw [HF.out]; rw [hba, hbb]; rfl
          have OWN1 : Hid (Own wr w.heap.size 3 .i64 A n cap (lnsK f (j + 1))) := Lib.hid (by rw [lnsK_no hfj]; exact OWN.out)
          clear hfj
          go_wp2_with (first
              | (go_at_call 11; with_reducible refine (C1.out _).mono ?_; rintro _ _ ⟨rfl, rfl⟩)
              | (go_at_call 11; with_reducible refine (C2.out _).mono ?_; rintro _ _ ⟨rfl, rfl⟩))
          go_roundw
          case rel => exact ⟨j + 1, n, cap, A, by omega, by go_num, rfl, OWN1.out, BB⟩
          case measure => simp [intOf]; omega
      · have c1 := fun W => rhas_q a (j : Int) W ha
        rw [hasB_in hlt, hba] at c1
        have C1 := Lib.hid c1
        clear c1
        cases hbb : Nat.testBit b j
        · have c2 := fun W => rhas_q b (j : Int) W hb
          rw [hasB_in hlt, hbb] at c2
          have C2 := Lib.hid c2
          clear c2
          have hfj : f j = false := by rw [HF.out]; rw [hba, hbb]; rfl
          have OWN1 : Hid (Own wr w.heap.size 3 .i64 A n cap (lnsK f (j + 1))) := Lib.hid (by rw [lnsK_no hfj]; exact OWN.out)
          clear hfj
          go_wp2_with (first
              | (go_at_call 11; with_reducible refine (C1.out _).mono ?_; rintro _ _ ⟨rfl, rfl⟩)
              | (go_at_call 11; with_reducible refine (C2.out _).mono ?_; rintro _ _ ⟨rfl, rfl⟩))
          go_roundw
          case rel => exact ⟨j + 1, n, cap, A, by omega, by go_num, rfl, OWN1.out, BB⟩
          case measure => simp [intOf]; omega
        · have c2 := fun W => rhas_q b (j : Int) W hb
          rw [hasB_in hlt, hbb] at c2
          have C2 := Lib.hid c2
          clear c2
          have hfj : f j = true := by rw [HF.out]; rw [hba, hbb]; rfl
          have OWN1 : Hid (∀ W A n c, Own W w.heap.size 3 .i64 A n c (lnsK f j ++ [(j : Int)]) → Own W w.heap.size 3 .i64 A n c (lnsK f (j + 1))) := Lib.hid (fun W A n c h => by rw [lnsK_yes hfj]; exact h)
          clear hfj
          go_wp2_with (first
              | (go_at_call 11; with_reducible refine (C1.out _).mono ?_; rintro _ _ ⟨rfl, rfl⟩)
              | (go_at_call 11; with_reducible refine (C2.out _).mono ?_; rintro _ _ ⟨rfl, rfl⟩)
              | (at_builtin; refine wpList_app1 _ rfl _ _ _ rfl eI OWN.out rfl (by rw [i64_min, i64_max]; omega) rfl (by simp only [maxLen]; omega) (by omega) ?_; intro A1 m1 d1 W1 own1 B1; obtain rfl : m1 = n + 1 := app_len OWN.out own1))
          go_roundw
          case rel => exact ⟨j + 1, _, d1, A1, by omega, by go_num, rfl, OWN1.out _ _ _ _ own1, BB.trans B1⟩
          case measure => simp [intOf]; omega
    · obtain rfl : j = 16 := by omega
      have hof := fun W R => rof_q A n cap (lnsK f 16) W R (by omega)
      rw [ofL_lns] at hof
      have HO := Lib.hid hof
      clear hof
      go_wp2_with (go_at_call 27; refine (HO.out _ OWN.out.rd).mono ?_; rintro _ _ ⟨rfl, rfl⟩)
      go_ret
      exact ⟨rfl, BB⟩

set_option maxRecDepth 100000 in
theorem ror_b (a b : Nat) (w : World) (ha : a < 65536) (hb : b < 65536) :
    Calls Try.prog 20 #[.int .u16 a, .int .u16 b] w fun e w' => e = .returned (.int .u16 (msk (fun i : Nat => a.testBit i || b.testBit i) 16 : Nat)) ∧ Below w.heap.size w w' := by
  have BB : Below w.heap.size w w := Below.refl _ _
  have own0 := Own.made w 3 .i64
  have B0 : Below w.heap.size w (w.alloc (.cells #[] 3)) := (Below.refl _ _).alloc (Nat.le_refl _) _
  have OWN0 := Lib.hid own0
  obtain ⟨f, hf⟩ : ∃ f : Nat → Bool, (fun i : Nat => a.testBit i || b.testBit i) = f := ⟨_, rfl⟩
  have HF : Hid (∀ i : Nat, f i = (a.testBit i || b.testBit i)) := Lib.hid (fun i => by rw [← hf])
  rw [hf]
  clear hf own0
  go_enter Try.func20, Try.ntmps20
  go_wp2
  go_loopw [5, 6] (fun t i wr => ∃ (j n cap : Nat) (A : Option Addr), j ≤ 16 ∧ i = .int .i64 j ∧ t = .slice A n cap ∧ Own wr w.heap.size 3 .i64 A n cap (lnsK f j) ∧ Below w.heap.size w wr) (fun _ i _ => 16 - (intOf i).toNat)
  case atStart => exact ⟨0, 0, 0, _, by omega, rfl, rfl, OWN0.out, B0⟩
  case round =>
    clear OWN0 B0 BB
    obtain ⟨j, n, cap, A, hj, rfl, rfl, own, BB⟩ := hrel
    have hnj : n ≤ j := by rw [← own.len]; exact lnsK_len f j
    have OWN := Lib.hid own
    clear own
    by_cases hlt : j < 16
    · cases hba : Nat.testBit a j
      · have c1 := fun W => rhas_q a (j : Int) W ha
        rw [hasB_in hlt, hba] at c1
        have C1 := Lib.hid c1
        clear c1
        cases hbb : Nat.testBit b j
        · have c2 := fun W => rhas_q b (j : Int) W hb
          rw [hasB_in hlt, hbb] at c2
          have C2 := Lib.hid c2
          clear c2
          have hfj : f j = false := by rw [HF.out]; rw [hba, hbb]; rfl
          have OWN1 : Hid (Own wr w.heap.size 3 .i64 A n cap (lnsK f (j + 1))) := Lib.hid (by rw [lnsK_no hfj]; exact OWN.out)
          clear hfj
          go_wp2_with (first
              | (go_at_call 11; with_reducible refine (C1.out _).mono ?_; rintro _ _ ⟨rfl, rfl⟩)
              | (go_at_call 11; with_reducible refine (C2.out _).mono ?_; rintro _ _ ⟨rfl, rfl⟩))
          go_roundw
          case rel => exact ⟨j + 1, n, cap, A, by omega, by go_num, rfl, OWN1.out, BB⟩
          case measure => simp [intOf]; omega
        · have c2 := fun W => rhas_q b (j : Int) W hb
          rw [hasB_in hlt, hbb] at c2
          have C2 := Lib.hid c2
          clear c2
          have hfj : f j = true := by rw [HF.out]; rw [hba, hbb]; rfl
          have OWN1 : Hid (∀ W A n c, Own W w.heap.size 3 .i64 A n c (lnsK f j ++ [(j : Int)]) → Own W w.heap.size 3 .i64 A n c (lnsK f (j + 1))) := Lib.hid (fun W A n c h => by rw [lnsK_yes hfj]; exact h)
          clear hfj
          go_wp2_with (first
              | (go_at_call 11; with_reducible refine (C1.out _).mono ?_; rintro _ _ ⟨rfl, rfl⟩)
              | (go_at_call 11; with_reducible refine (C2.out _).mono ?_; rintro _ _ ⟨rfl, rfl⟩)
              | (at_builtin; refine wpList_app1 _ rfl _ _ _ rfl eI OWN.out rfl (by rw [i64_min, i64_max]; omega) rfl (by simp only [maxLen]; omega) (by omega) ?_; intro A1 m1 d1 W1 own1 B1; obtain rfl : m1 = n + 1 := app_len OWN.out own1))
          go_roundw
          case rel => exact ⟨j + 1, _, d1, A1, by omega, by go_num, rfl, OWN1.out _ _ _ _ own1, BB.trans B1⟩
          case measure => simp [intOf]; omega
      · have c1 := fun W => rhas_q a (j : Int) W ha
        rw [hasB_in hlt, hba] at c1
        have C1 := Lib.hid c1
        clear c1
        cases hbb : Nat.testBit b j
        · have c2 := fun W => rhas_q b (j : Int) W hb
          rw [hasB_in hlt, hbb] at c2
          have C2 := Lib.hid c2
          clear c2
          have hfj : f j = true := by rw [HF.out]; rw [hba, hbb]; rfl
          have OWN1 : Hid (∀ W A n c, Own W w.heap.size 3 .i64 A n c (lnsK f j ++ [(j : Int)]) → Own W w.heap.size 3 .i64 A n c (lnsK f (j + 1))) := Lib.hid (fun W A n c h => by rw [lnsK_yes hfj]; exact h)
          clear hfj
          go_wp2_with (first
              | (go_at_call 11; with_reducible refine (C1.out _).mono ?_; rintro _ _ ⟨rfl, rfl⟩)
              | (go_at_call 11; with_reducible refine (C2.out _).mono ?_; rintro _ _ ⟨rfl, rfl⟩)
              | (at_builtin; refine wpList_app1 _ rfl _ _ _ rfl eI OWN.out rfl (by rw [i64_min, i64_max]; omega) rfl (by simp only [maxLen]; omega) (by omega) ?_; intro A1 m1 d1 W1 own1 B1; obtain rfl : m1 = n + 1 := app_len OWN.out own1))
          go_roundw
          case rel => exact ⟨j + 1, _, d1, A1, by omega, by go_num, rfl, OWN1.out _ _ _ _ own1, BB.trans B1⟩
          case measure => simp [intOf]; omega
        · have c2 := fun W => rhas_q b (j : Int) W hb
          rw [hasB_in hlt, hbb] at c2
          have C2 := Lib.hid c2
          clear c2
          have hfj : f j = true := by rw [HF.out]; rw [hba, hbb]; rfl
          have OWN1 : Hid (∀ W A n c, Own W w.heap.size 3 .i64 A n c (lnsK f j ++ [(j : Int)]) → Own W w.heap.size 3 .i64 A n c (lnsK f (j + 1))) := Lib.hid (fun W A n c h => by rw [lnsK_yes hfj]; exact h)
          clear hfj
          go_wp2_with (first
              | (go_at_call 11; with_reducible refine (C1.out _).mono ?_; rintro _ _ ⟨rfl, rfl⟩)
              | (go_at_call 11; with_reducible refine (C2.out _).mono ?_; rintro _ _ ⟨rfl, rfl⟩)
              | (at_builtin; refine wpList_app1 _ rfl _ _ _ rfl eI OWN.out rfl (by rw [i64_min, i64_max]; omega) rfl (by simp only [maxLen]; omega) (by omega) ?_; intro A1 m1 d1 W1 own1 B1; obtain rfl : m1 = n + 1 := app_len OWN.out own1))
          go_roundw
          case rel => exact ⟨j + 1, _, d1, A1, by omega, by go_num, rfl, OWN1.out _ _ _ _ own1, BB.trans B1⟩
          case measure => simp [intOf]; omega
    · obtain rfl : j = 16 := by omega
      have hof := fun W R => rof_q A n cap (lnsK f 16) W R (by omega)
      rw [ofL_lns] at hof
      have HO := Lib.hid hof
      clear hof
      go_wp2_with (go_at_call 27; refine (HO.out _ OWN.out.rd).mono ?_; rintro _ _ ⟨rfl, rfl⟩)
      go_ret
      exact ⟨rfl, BB⟩

set_option maxRecDepth 100000 in
theorem randNot_b (a b : Nat) (w : World) (ha : a < 65536) (hb : b < 65536) :
    Calls Try.prog 22 #[.int .u16 a, .int .u16 b] w fun e w' => e = .returned (.int .u16 (msk (fun i : Nat => a.testBit i && !b.testBit i) 16 : Nat)) ∧ Below w.heap.size w w' := by
  have BB : Below w.heap.size w w := Below.refl _ _
  have own0 := Own.made w 3 .i64
  have B0 : Below w.heap.size w (w.alloc (.cells #[] 3)) := (Below.refl _ _).alloc (Nat.le_refl _) _
  have OWN0 := Lib.hid own0
  obtain ⟨f, hf⟩ : ∃ f : Nat → Bool, (fun i : Nat => a.testBit i && !b.testBit i) = f := ⟨_, rfl⟩
  have HF : Hid (∀ i : Nat, f i = (a.testBit i && !b.testBit i)) := Lib.hid (fun i => by rw [← hf])
  rw [hf]
  clear hf own0
  go_enter Try.func22, Try.ntmps22
  go_wp2
  go_loopw [5, 6] (fun t i wr => ∃ (j n cap : Nat) (A : Option Addr), j ≤ 16 ∧ i = .int .i64 j ∧ t = .slice A n cap ∧ Own wr w.heap.size 3 .i64 A n cap (lnsK f j) ∧ Below w.heap.size w wr) (fun _ i _ => 16 - (intOf i).toNat)
  case atStart => exact ⟨0, 0, 0, _, by omega, rfl, rfl, OWN0.out, B0⟩
  case round =>
    clear OWN0 B0 BB
    obtain ⟨j, n, cap, A, hj, rfl, rfl, own, BB⟩ := hrel
    have hnj : n ≤ j := by rw [← own.len]; exact lnsK_len f j
    have OWN := Lib.hid own
    clear own
    by_cases hlt : j < 16
    · cases hba : Nat.testBit a j
      · have c1 := fun W => rhas_q a (j : Int) W ha
        rw [hasB_in hlt, hba] at c1
        have C1 := Lib.hid c1
        clear c1
        cases hbb : Nat.testBit b j
        · have c2 := fun W => rhas_q b (j : Int) W hb
          rw [hasB_in hlt, hbb] at c2
          have C2 := Lib.hid c2
          clear c2
          have hfj : f j = false := by rw [HF.out]; rw [hba, hbb]; rfl
          have OWN1 : Hid (Own wr w.heap.size 3 .i64 A n cap (lnsK f (j + 1))) := Lib.hid (by rw [lnsK_no hfj]; exact OWN.out)
          clear hfj
          go_wp2_with (first
              | (go_at_call 11; with_reducible refine (C1.out _).mono ?_; rintro _ _ ⟨rfl, rfl⟩)
              | (go_at_call 11; with_reducible refine (C2.out _).mono ?_; rintro _ _ ⟨rfl, rfl⟩))
          go_roundw
          case rel => exact ⟨j + 1, n, cap, A, by omega, by go_num, rfl, OWN1.out, BB⟩
          case measure => simp [intOf]; omega
        · have c2 := fun W => rhas_q b (j : Int) W hb
          rw [hasB_in hlt, hbb] at c2
          have C2 := Lib.hid c2
          clear c2
          have hfj : f j = false := by rw [HF.out]; rw [hba, hbb]; rfl
          have OWN1 : Hid (Own wr w.heap.size 3 .i64 A n cap (lnsK f (j + 1))) := Lib.hid (by rw [lnsK_no hfj]; exact OWN.out)
          clear hfj
          go_wp2_with (first
              | (go_at_call 11; with_reducible refine (C1.out _).mono ?_; rintro _ _ ⟨rfl, rfl⟩)
              | (go_at_call 11; with_reducible refine (C2.out _).mono ?_; rintro _ _ ⟨rfl, rfl⟩))
          go_roundw
          case rel => exact ⟨j + 1, n, cap, A, by omega, by go_num, rfl, OWN1.out, BB⟩
          case measure => simp [intOf]; omega
      · have c1 := fun W => rhas_q a (j : Int) W ha
        rw [hasB_in hlt, hba] at c1
        have C1 := Lib.hid c1
        clear c1
        cases hbb : Nat.testBit b j
        · have c2 := fun W => rhas_q b (j : Int) W hb
          rw [hasB_in hlt, hbb] at c2
          have C2 := Lib.hid c2
          clear c2
          have hfj : f j = true := by rw [HF.out]; rw [hba, hbb]; rfl
          have OWN1 : Hid (∀ W A n c, Own W w.heap.size 3 .i64 A n c (lnsK f j ++ [(j : Int)]) → Own W w.heap.size 3 .i64 A n c (lnsK f (j + 1))) := Lib.hid (fun W A n c h => by rw [lnsK_yes hfj]; exact h)
          clear hfj
          go_wp2_with (first
              | (go_at_call 11; with_reducible refine (C1.out _).mono ?_; rintro _ _ ⟨rfl, rfl⟩)
              | (go_at_call 11; with_reducible refine (C2.out _).mono ?_; rintro _ _ ⟨rfl, rfl⟩)
              | (at_builtin; refine wpList_app1 _ rfl _ _ _ rfl eI OWN.out rfl (by rw [i64_min, i64_max]; omega) rfl (by simp only [maxLen]; omega) (by omega) ?_; intro A1 m1 d1 W1 own1 B1; obtain rfl : m1 = n + 1 := app_len OWN.out own1))
          go_roundw
          case rel => exact ⟨j + 1, _, d1, A1, by omega, by go_num, rfl, OWN1.out _ _ _ _ own1, BB.trans B1⟩
          case measure => simp [intOf]; omega
        · have c2 := fun W => rhas_q b (j : Int) W hb
          rw [hasB_in hlt, hbb] at c2
          have C2 := Lib.hid c2
          clear c2
          have hfj : f j = false := by rw [HF.out]; rw [hba, hbb]; rfl
          have OWN1 : Hid (Own wr w.heap.size 3 .i64 A n cap (lnsK f (j + 1))) := Lib.hid (by rw [lnsK_no hfj]; exact OWN.out)
          clear hfj
          go_wp2_with (first
              | (go_at_call 11; with_reducible refine (C1.out _).mono ?_; rintro _ _ ⟨rfl, rfl⟩)
              | (go_at_call 11; with_reducible refine (C2.out _).mono ?_; rintro _ _ ⟨rfl, rfl⟩))
          go_roundw
          case rel => exact ⟨j + 1, n, cap, A, by omega, by go_num, rfl, OWN1.out, BB⟩
          case measure => simp [intOf]; omega
    · obtain rfl : j = 16 := by omega
      have hof := fun W R => rof_q A n cap (lnsK f 16) W R (by omega)
      rw [ofL_lns] at hof
      have HO := Lib.hid hof
      clear hof
      go_wp2_with (go_at_call 27; refine (HO.out _ OWN.out.rd).mono ?_; rintro _ _ ⟨rfl, rfl⟩)
      go_ret
      exact ⟨rfl, BB⟩

end Go.Proofs.Ytegmagjlkflecaa
